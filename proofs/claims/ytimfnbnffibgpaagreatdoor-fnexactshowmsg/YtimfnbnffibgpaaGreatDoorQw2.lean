/- MgRes PtLaw WkTo WkEq StrAid MgLaw PtArg OpAid WkArgD MgArg -/
import Derived.Test.YtimfnbnffibgpaaGreatDoorQw1
import Derived.WalkKit
import Derived.ProofKit
import Derived.Below
import Derived.Test.YtimfnbnffibgpaaGreatDoorRows
import Derived.OpenShut
import Derived.WalkSmall
import Derived.WalkLawsBesides
import Derived.Outline
import Derived.BigQuiet
import Derived.Deep.QuietTactic
import Derived.Deep.RegionWith
import Derived.Test.YtimfnbnffibgpaaGreatDoorQw0
import Derived.Laws.OwnMore
import Derived.OwnWalk
import Derived.Deep.Cut
import Derived.Deep.Slices
import Derived.ChangeArms
import Derived.Handy
namespace Go.Proofs.YtimfnbnffibgpaaGreatDoor
open Go.ChangeShapes Go.WideShapes Go.ChangeAt Go.RowKit Go.PlainAid
set_option linter.unusedVariables false
theorem resC10 {w : World} {g : Nat} {a0 a1 a2 a3 a4 a5 a6 a7 a8 a9 x0 x1 x2 x3 x4 x5 x6 x7 x8 x9 : Value} {t : TypeId} (h : Blk w g #[a0, a1, a2, a3, a4, a5, a6, a7, a8, a9] t) :
  (w.cell? ⟨g, 0, none⟩ = some a0 ∧ w.frozen? ⟨g, 0, none⟩ = false) ∧ ((w.setCell ⟨g, 0, none⟩ x0).cell? ⟨g, 1, none⟩ = some a1 ∧ (w.setCell ⟨g, 0, none⟩ x0).frozen? ⟨g, 1, none⟩ = false) ∧ (((w.setCell ⟨g, 0, none⟩ x0).setCell ⟨g, 1, none⟩ x1).cell? ⟨g, 2, none⟩ = some a2 ∧ ((w.setCell ⟨g, 0, none⟩ x0).setCell ⟨g, 1, none⟩ x1).frozen? ⟨g, 2, none⟩ = false) ∧ ((((w.setCell ⟨g, 0, none⟩ x0).setCell ⟨g, 1, none⟩ x1).setCell ⟨g, 2, none⟩ x2).cell? ⟨g, 3, none⟩ = some a3 ∧ (((w.setCell ⟨g, 0, none⟩ x0).setCell ⟨g, 1, none⟩ x1).setCell ⟨g, 2, none⟩ x2).frozen? ⟨g, 3, none⟩ = false) ∧ (((((w.setCell ⟨g, 0, none⟩ x0).setCell ⟨g, 1, none⟩ x1).setCell ⟨g, 2, none⟩ x2).setCell ⟨g, 3, none⟩ x3).cell? ⟨g, 4, none⟩ = some a4 ∧ ((((w.setCell ⟨g, 0, none⟩ x0).setCell ⟨g, 1, none⟩ x1).setCell ⟨g, 2, none⟩ x2).setCell ⟨g, 3, none⟩ x3).frozen? ⟨g, 4, none⟩ = false) ∧ ((((((w.setCell ⟨g, 0, none⟩ x0).setCell ⟨g, 1, none⟩ x1).setCell ⟨g, 2, none⟩ x2).setCell ⟨g, 3, none⟩ x3).setCell ⟨g, 4, none⟩ x4).cell? ⟨g, 5, none⟩ = some a5 ∧ (((((w.setCell ⟨g, 0, none⟩ x0).setCell ⟨g, 1, none⟩ x1).setCell ⟨g, 2, none⟩ x2).setCell ⟨g, 3, none⟩ x3).setCell ⟨g, 4, none⟩ x4).frozen? ⟨g, 5, none⟩ = false) ∧ (((((((w.setCell ⟨g, 0, none⟩ x0).setCell ⟨g, 1, none⟩ x1).setCell ⟨g, 2, none⟩ x2).setCell ⟨g, 3, none⟩ x3).setCell ⟨g, 4, none⟩ x4).setCell ⟨g, 5, none⟩ x5).cell? ⟨g, 6, none⟩ = some a6 ∧ ((((((w.setCell ⟨g, 0, none⟩ x0).setCell ⟨g, 1, none⟩ x1).setCell ⟨g, 2, none⟩ x2).setCell ⟨g, 3, none⟩ x3).setCell ⟨g, 4, none⟩ x4).setCell ⟨g, 5, none⟩ x5).frozen? ⟨g, 6, none⟩ = false) ∧ ((((((((w.setCell ⟨g, 0, none⟩ x0).setCell ⟨g, 1, none⟩ x1).setCell ⟨g, 2, none⟩ x2).setCell ⟨g, 3, none⟩ x3).setCell ⟨g, 4, none⟩ x4).setCell ⟨g, 5, none⟩ x5).setCell ⟨g, 6, none⟩ x6).cell? ⟨g, 7, none⟩ = some a7 ∧ (((((((w.setCell ⟨g, 0, none⟩ x0).setCell ⟨g, 1, none⟩ x1).setCell ⟨g, 2, none⟩ x2).setCell ⟨g, 3, none⟩ x3).setCell ⟨g, 4, none⟩ x4).setCell ⟨g, 5, none⟩ x5).setCell ⟨g, 6, none⟩ x6).frozen? ⟨g, 7, none⟩ = false) ∧ (((((((((w.setCell ⟨g, 0, none⟩ x0).setCell ⟨g, 1, none⟩ x1).setCell ⟨g, 2, none⟩ x2).setCell ⟨g, 3, none⟩ x3).setCell ⟨g, 4, none⟩ x4).setCell ⟨g, 5, none⟩ x5).setCell ⟨g, 6, none⟩ x6).setCell ⟨g, 7, none⟩ x7).cell? ⟨g, 8, none⟩ = some a8 ∧ ((((((((w.setCell ⟨g, 0, none⟩ x0).setCell ⟨g, 1, none⟩ x1).setCell ⟨g, 2, none⟩ x2).setCell ⟨g, 3, none⟩ x3).setCell ⟨g, 4, none⟩ x4).setCell ⟨g, 5, none⟩ x5).setCell ⟨g, 6, none⟩ x6).setCell ⟨g, 7, none⟩ x7).frozen? ⟨g, 8, none⟩ = false) ∧ ((((((((((w.setCell ⟨g, 0, none⟩ x0).setCell ⟨g, 1, none⟩ x1).setCell ⟨g, 2, none⟩ x2).setCell ⟨g, 3, none⟩ x3).setCell ⟨g, 4, none⟩ x4).setCell ⟨g, 5, none⟩ x5).setCell ⟨g, 6, none⟩ x6).setCell ⟨g, 7, none⟩ x7).setCell ⟨g, 8, none⟩ x8).cell? ⟨g, 9, none⟩ = some a9 ∧ (((((((((w.setCell ⟨g, 0, none⟩ x0).setCell ⟨g, 1, none⟩ x1).setCell ⟨g, 2, none⟩ x2).setCell ⟨g, 3, none⟩ x3).setCell ⟨g, 4, none⟩ x4).setCell ⟨g, 5, none⟩ x5).setCell ⟨g, 6, none⟩ x6).setCell ⟨g, 7, none⟩ x7).setCell ⟨g, 8, none⟩ x8).frozen? ⟨g, 9, none⟩ = false) ∧
  ((((((((((w.setCell ⟨g, 0, none⟩ x0).setCell ⟨g, 1, none⟩ x1).setCell ⟨g, 2, none⟩ x2).setCell ⟨g, 3, none⟩ x3).setCell ⟨g, 4, none⟩ x4).setCell ⟨g, 5, none⟩ x5).setCell ⟨g, 6, none⟩ x6).setCell ⟨g, 7, none⟩ x7).setCell ⟨g, 8, none⟩ x8).setCell ⟨g, 9, none⟩ x9).cell? ⟨g, 0, none⟩ = some x0 ∧ ((((((((((w.setCell ⟨g, 0, none⟩ x0).setCell ⟨g, 1, none⟩ x1).setCell ⟨g, 2, none⟩ x2).setCell ⟨g, 3, none⟩ x3).setCell ⟨g, 4, none⟩ x4).setCell ⟨g, 5, none⟩ x5).setCell ⟨g, 6, none⟩ x6).setCell ⟨g, 7, none⟩ x7).setCell ⟨g, 8, none⟩ x8).setCell ⟨g, 9, none⟩ x9).cell? ⟨g, 1, none⟩ = some x1 ∧ ((((((((((w.setCell ⟨g, 0, none⟩ x0).setCell ⟨g, 1, none⟩ x1).setCell ⟨g, 2, none⟩ x2).setCell ⟨g, 3, none⟩ x3).setCell ⟨g, 4, none⟩ x4).setCell ⟨g, 5, none⟩ x5).setCell ⟨g, 6, none⟩ x6).setCell ⟨g, 7, none⟩ x7).setCell ⟨g, 8, none⟩ x8).setCell ⟨g, 9, none⟩ x9).cell? ⟨g, 2, none⟩ = some x2 ∧ ((((((((((w.setCell ⟨g, 0, none⟩ x0).setCell ⟨g, 1, none⟩ x1).setCell ⟨g, 2, none⟩ x2).setCell ⟨g, 3, none⟩ x3).setCell ⟨g, 4, none⟩ x4).setCell ⟨g, 5, none⟩ x5).setCell ⟨g, 6, none⟩ x6).setCell ⟨g, 7, none⟩ x7).setCell ⟨g, 8, none⟩ x8).setCell ⟨g, 9, none⟩ x9).cell? ⟨g, 3, none⟩ = some x3 ∧ ((((((((((w.setCell ⟨g, 0, none⟩ x0).setCell ⟨g, 1, none⟩ x1).setCell ⟨g, 2, none⟩ x2).setCell ⟨g, 3, none⟩ x3).setCell ⟨g, 4, none⟩ x4).setCell ⟨g, 5, none⟩ x5).setCell ⟨g, 6, none⟩ x6).setCell ⟨g, 7, none⟩ x7).setCell ⟨g, 8, none⟩ x8).setCell ⟨g, 9, none⟩ x9).cell? ⟨g, 4, none⟩ = some x4 ∧ ((((((((((w.setCell ⟨g, 0, none⟩ x0).setCell ⟨g, 1, none⟩ x1).setCell ⟨g, 2, none⟩ x2).setCell ⟨g, 3, none⟩ x3).setCell ⟨g, 4, none⟩ x4).setCell ⟨g, 5, none⟩ x5).setCell ⟨g, 6, none⟩ x6).setCell ⟨g, 7, none⟩ x7).setCell ⟨g, 8, none⟩ x8).setCell ⟨g, 9, none⟩ x9).cell? ⟨g, 5, none⟩ = some x5 ∧ ((((((((((w.setCell ⟨g, 0, none⟩ x0).setCell ⟨g, 1, none⟩ x1).setCell ⟨g, 2, none⟩ x2).setCell ⟨g, 3, none⟩ x3).setCell ⟨g, 4, none⟩ x4).setCell ⟨g, 5, none⟩ x5).setCell ⟨g, 6, none⟩ x6).setCell ⟨g, 7, none⟩ x7).setCell ⟨g, 8, none⟩ x8).setCell ⟨g, 9, none⟩ x9).cell? ⟨g, 6, none⟩ = some x6 ∧ ((((((((((w.setCell ⟨g, 0, none⟩ x0).setCell ⟨g, 1, none⟩ x1).setCell ⟨g, 2, none⟩ x2).setCell ⟨g, 3, none⟩ x3).setCell ⟨g, 4, none⟩ x4).setCell ⟨g, 5, none⟩ x5).setCell ⟨g, 6, none⟩ x6).setCell ⟨g, 7, none⟩ x7).setCell ⟨g, 8, none⟩ x8).setCell ⟨g, 9, none⟩ x9).cell? ⟨g, 7, none⟩ = some x7 ∧ ((((((((((w.setCell ⟨g, 0, none⟩ x0).setCell ⟨g, 1, none⟩ x1).setCell ⟨g, 2, none⟩ x2).setCell ⟨g, 3, none⟩ x3).setCell ⟨g, 4, none⟩ x4).setCell ⟨g, 5, none⟩ x5).setCell ⟨g, 6, none⟩ x6).setCell ⟨g, 7, none⟩ x7).setCell ⟨g, 8, none⟩ x8).setCell ⟨g, 9, none⟩ x9).cell? ⟨g, 8, none⟩ = some x8 ∧ ((((((((((w.setCell ⟨g, 0, none⟩ x0).setCell ⟨g, 1, none⟩ x1).setCell ⟨g, 2, none⟩ x2).setCell ⟨g, 3, none⟩ x3).setCell ⟨g, 4, none⟩ x4).setCell ⟨g, 5, none⟩ x5).setCell ⟨g, 6, none⟩ x6).setCell ⟨g, 7, none⟩ x7).setCell ⟨g, 8, none⟩ x8).setCell ⟨g, 9, none⟩ x9).cell? ⟨g, 9, none⟩ = some x9 := by
 have h1 : Blk (w.setCell ⟨g, 0, none⟩ x0) g #[x0, a1, a2, a3, a4, a5, a6, a7, a8, a9] t := h.set 0 x0
 have h2 : Blk ((w.setCell ⟨g, 0, none⟩ x0).setCell ⟨g, 1, none⟩ x1) g #[x0, x1, a2, a3, a4, a5, a6, a7, a8, a9] t := h1.set 1 x1
 have h3 : Blk (((w.setCell ⟨g, 0, none⟩ x0).setCell ⟨g, 1, none⟩ x1).setCell ⟨g, 2, none⟩ x2) g #[x0, x1, x2, a3, a4, a5, a6, a7, a8, a9] t := h2.set 2 x2
 have h4 : Blk ((((w.setCell ⟨g, 0, none⟩ x0).setCell ⟨g, 1, none⟩ x1).setCell ⟨g, 2, none⟩ x2).setCell ⟨g, 3, none⟩ x3) g #[x0, x1, x2, x3, a4, a5, a6, a7, a8, a9] t := h3.set 3 x3
 have h5 : Blk (((((w.setCell ⟨g, 0, none⟩ x0).setCell ⟨g, 1, none⟩ x1).setCell ⟨g, 2, none⟩ x2).setCell ⟨g, 3, none⟩ x3).setCell ⟨g, 4, none⟩ x4) g #[x0, x1, x2, x3, x4, a5, a6, a7, a8, a9] t := h4.set 4 x4
 have h6 : Blk ((((((w.setCell ⟨g, 0, none⟩ x0).setCell ⟨g, 1, none⟩ x1).setCell ⟨g, 2, none⟩ x2).setCell ⟨g, 3, none⟩ x3).setCell ⟨g, 4, none⟩ x4).setCell ⟨g, 5, none⟩ x5) g #[x0, x1, x2, x3, x4, x5, a6, a7, a8, a9] t := h5.set 5 x5
 have h7 : Blk (((((((w.setCell ⟨g, 0, none⟩ x0).setCell ⟨g, 1, none⟩ x1).setCell ⟨g, 2, none⟩ x2).setCell ⟨g, 3, none⟩ x3).setCell ⟨g, 4, none⟩ x4).setCell ⟨g, 5, none⟩ x5).setCell ⟨g, 6, none⟩ x6) g #[x0, x1, x2, x3, x4, x5, x6, a7, a8, a9] t := h6.set 6 x6
 have h8 : Blk ((((((((w.setCell ⟨g, 0, none⟩ x0).setCell ⟨g, 1, none⟩ x1).setCell ⟨g, 2, none⟩ x2).setCell ⟨g, 3, none⟩ x3).setCell ⟨g, 4, none⟩ x4).setCell ⟨g, 5, none⟩ x5).setCell ⟨g, 6, none⟩ x6).setCell ⟨g, 7, none⟩ x7) g #[x0, x1, x2, x3, x4, x5, x6, x7, a8, a9] t := h7.set 7 x7
 have h9 : Blk (((((((((w.setCell ⟨g, 0, none⟩ x0).setCell ⟨g, 1, none⟩ x1).setCell ⟨g, 2, none⟩ x2).setCell ⟨g, 3, none⟩ x3).setCell ⟨g, 4, none⟩ x4).setCell ⟨g, 5, none⟩ x5).setCell ⟨g, 6, none⟩ x6).setCell ⟨g, 7, none⟩ x7).setCell ⟨g, 8, none⟩ x8) g #[x0, x1, x2, x3, x4, x5, x6, x7, x8, a9] t := h8.set 8 x8
 have h10 : Blk ((((((((((w.setCell ⟨g, 0, none⟩ x0).setCell ⟨g, 1, none⟩ x1).setCell ⟨g, 2, none⟩ x2).setCell ⟨g, 3, none⟩ x3).setCell ⟨g, 4, none⟩ x4).setCell ⟨g, 5, none⟩ x5).setCell ⟨g, 6, none⟩ x6).setCell ⟨g, 7, none⟩ x7).setCell ⟨g, 8, none⟩ x8).setCell ⟨g, 9, none⟩ x9) g #[x0, x1, x2, x3, x4, x5, x6, x7, x8, x9] t := h9.set 9 x9
 exact ⟨⟨h.cell 0 _ rfl, h.free 0⟩, ⟨h1.cell 1 _ rfl, h1.free 1⟩, ⟨h2.cell 2 _ rfl, h2.free 2⟩, ⟨h3.cell 3 _ rfl, h3.free 3⟩, ⟨h4.cell 4 _ rfl, h4.free 4⟩, ⟨h5.cell 5 _ rfl, h5.free 5⟩, ⟨h6.cell 6 _ rfl, h6.free 6⟩, ⟨h7.cell 7 _ rfl, h7.free 7⟩, ⟨h8.cell 8 _ rfl, h8.free 8⟩, ⟨h9.cell 9 _ rfl, h9.free 9⟩, h10.cell 0 _ rfl, h10.cell 1 _ rfl, h10.cell 2 _ rfl, h10.cell 3 _ rfl, h10.cell 4 _ rfl, h10.cell 5 _ rfl, h10.cell 6 _ rfl, h10.cell 7 _ rfl, h10.cell 8 _ rfl, h10.cell 9 _ rfl⟩
theorem belowC10 {w w' : World} {B g : Nat} (h : Below B w w') (hg : B ≤ g) (x0 x1 x2 x3 x4 x5 x6 x7 x8 x9 : Value) : Below B w ((((((((((w'.setCell ⟨g, 0, none⟩ x0).setCell ⟨g, 1, none⟩ x1).setCell ⟨g, 2, none⟩ x2).setCell ⟨g, 3, none⟩ x3).setCell ⟨g, 4, none⟩ x4).setCell ⟨g, 5, none⟩ x5).setCell ⟨g, 6, none⟩ x6).setCell ⟨g, 7, none⟩ x7).setCell ⟨g, 8, none⟩ x8).setCell ⟨g, 9, none⟩ x9) := ((((((((((h.setCell hg _).setCell hg _).setCell hg _).setCell hg _).setCell hg _).setCell hg _).setCell hg _).setCell hg _).setCell hg _).setCell hg _)
theorem Owns.lowM {X : World} {bs g j sz : Nat} {e : TypeId} {v u : Value} {r : List (List Value)} (h : Owns X bs e sz u r) (hl : g < bs) : Owns (X.setCell ⟨g, j, none⟩ v) bs e sz u r := h.other (h.below hl) j v
theorem ownsC10 {w : World} {bs g sz : Nat} {e : TypeId} {u : Value} {r : List (List Value)} (h : Owns w bs e sz u r) (hl : g < bs) (x0 x1 x2 x3 x4 x5 x6 x7 x8 x9 : Value) : Owns ((((((((((w.setCell ⟨g, 0, none⟩ x0).setCell ⟨g, 1, none⟩ x1).setCell ⟨g, 2, none⟩ x2).setCell ⟨g, 3, none⟩ x3).setCell ⟨g, 4, none⟩ x4).setCell ⟨g, 5, none⟩ x5).setCell ⟨g, 6, none⟩ x6).setCell ⟨g, 7, none⟩ x7).setCell ⟨g, 8, none⟩ x8).setCell ⟨g, 9, none⟩ x9) bs e sz u r := ((((((((((h.lowM hl).lowM hl).lowM hl).lowM hl).lowM hl).lowM hl).lowM hl).lowM hl).lowM hl).lowM hl)
end Go.Proofs.YtimfnbnffibgpaaGreatDoor
namespace Go.Proofs.YtimfnbnffibgpaaGreatDoor
open Go.ChangeShapes Go.WideShapes Go.ChangeAt Go.RowKit Go.PlainAid
set_option linter.unusedVariables false
theorem below_alloc3 (w : World) (a b c : Obj) : Below w.heap.size w (((w.alloc a).alloc b).alloc c) := (((Below.refl _ w).alloc (Nat.le_refl _) a).alloc (by simp) b).alloc (by simp; omega) c
theorem Tryz.infoPt : (Tryz.prog.info? 127).map (fun i => (i.zero, i.size, i.bytes)) = some (some (.agg #[.int .i64 0, .int .i64 0]), 2, 16) := by kernel_rfl
theorem below_alloc2 (w : World) (a b : Obj) : Below w.heap.size w ((w.alloc a).alloc b) := ((Below.refl _ w).alloc (Nat.le_refl _) a).alloc (by simp) b
end Go.Proofs.YtimfnbnffibgpaaGreatDoor
namespace Go.Proofs.YtimfnbnffibgpaaGreatDoor
open Go.ChangeShapes Go.WideShapes Go.ChangeAt Go.RowKit Go.PlainAid
set_option linter.unusedVariables false
set_option maxHeartbeats 400000 in
theorem toEntry (x : Ent) (w : World) : Calls Tryz.prog 51 #[vEnt x] w fun e w' => e = .returned (vEnt x) ∧ Below w.heap.size w w' := by
 unfold vEnt
 go_enter Tryz.func51, Tryz.ntmps51
 go_wp2
 exact bodyPost_ret (v := .agg #[.int .i64 x.term, .string x.data]) (by simp [results, go_sem]) rfl ⟨rfl, below_alloc3 _ _ _ _⟩
theorem Tryz.infoEnt : (Tryz.prog.info? 57).map (fun i => (i.zero, i.size, i.bytes)) = some (some (.agg #[.int .i64 0, .string ⟨#[]⟩]), 2, 24) := by kernel_rfl
def entZ : List Value := [.int .i64 0, .string ⟨#[]⟩]
theorem ent_made (n : Nat) : madeCells #[.int .i64 0, .string ⟨#[]⟩] (n * 2) = (List.replicate n entZ).flatten.toArray := by
 apply Array.ext'
 rw [List.toList_toArray]
 apply List.ext_getElem?
 intro k
 have hz : ∀ r ∈ List.replicate n entZ, r.length = 2 := fun r hr => by rw [List.eq_of_mem_replicate hr]; rfl
 by_cases hk : k < n * 2
 ·have e : k = k / 2 * 2 + k % 2 := by omega
  have hf : k % 2 < 2 := Nat.mod_lt _ (by omega)
  have hj : k / 2 < n := Nat.div_lt_of_lt_mul (by omega)
  have := flat_at 2 (List.replicate n entZ) hz (k / 2) (k % 2) (by simpa using hj) hf
  rw [← e] at this
  have hr : (List.replicate n entZ)[k / 2]'(by simpa using hj) = entZ := by simp
  rw [this, hr]
  have hs : (madeCells #[.int .i64 0, .string ⟨#[]⟩] (n * 2)).toList[k]? = some (#[.int .i64 0, .string ⟨#[]⟩].getD (k % 2) default) := by simp [madeCells, hk]
  rw [hs]
  have : k % 2 = 0 ∨ k % 2 = 1 := by omega
  rcases this with h | h <;> rw [h] <;> rfl
 ·have hl : (List.replicate n entZ).flatten.length = n * 2 := by rw [flat_length 2 _ hz]; simp
  have hr : (List.replicate n entZ).flatten[k]? = none := List.getElem?_eq_none (by omega)
  rw [hr]
  apply List.getElem?_eq_none
  rw [Array.length_toList, size_madeCells]
  omega
set_option maxHeartbeats 1000000 in
theorem toEntryS (l : List Ent) (v : Value) (w : World) (B : Nat) (hv : Lies w B 2 v (entR l)) (hn : l.length ≤ 1048576) (hB : B ≤ w.heap.size) :
  Calls Tryz.prog 26 #[v] w fun e w' => ∃ u, e = .returned u ∧ Owns w' w.heap.size 57 2 u (entR l) ∧ Below w.heap.size w w' := by
 obtain ⟨A, cap, rfl, hl⟩ := ent_look hv
 have HL : Hid (∀ j, j < l.length → ∃ g off, A = some ⟨g, off, none⟩ ∧ g < B ∧ _) := hl
 have HB : Hid (B ≤ w.heap.size) := hB
 clear hl hB hv
 have q1 : (l.length : Int) ≤ 1048576 := by omega
 generalize hN : l.length = n at *
 obtain ⟨i0, hi, hz0, hz1, hz2⟩ := info_parts Tryz.infoEnt
 have hmk : ∀ wx : World, (Instr.makeSlice 27 (.int .i64 (n : Int)) (.int .i64 (n : Int))).run Tryz.prog wx = .ok (.slice (some ⟨wx.heap.size, 0, none⟩) n n) (wx.alloc (.cells (List.replicate n entZ).flatten.toArray 57)) := fun wx => by
  have h := run_make (P := Tryz.prog) wx 27 57 i0 _ Tryz.underlying27 hi hz0 .i64 .i64 (n : Int) (n : Int) (by omega) (by omega) (by rw [hz2]; omega) (by omega)
  rw [hz1] at h
  have e : (Value.agg #[.int .i64 0, .string ⟨#[]⟩]).cells = #[.int .i64 0, .string ⟨#[]⟩] := rfl
  rw [e, Int.toNat_natCast, ent_made] at h
  exact h
 clear hi hz0 hz1 hz2
 go_enter Tryz.func26, Tryz.ntmps26
 go_wp2_with fail
 go_loopw [4] (fun v4 wr => ∃ k : Nat, k ≤ n ∧ v4 = .int .i64 (k : Int) ∧ Owns wr w.heap.size 57 2 (.slice (some ⟨w.heap.size, 0, none⟩) n n) (entR (l.take k) ++ List.replicate (n - k) entZ) ∧ Below w.heap.size w wr) (fun i _ => n - (intOf i).toNat)
 case atStart =>
  refine ⟨0, by omega, rfl, ?_, (Below.refl _ _).alloc (Nat.le_refl _) _⟩
  rw [List.take_zero, Nat.sub_zero, show entR [] = [] from rfl, List.nil_append]
  refine ⟨fun r hr => by rw [List.eq_of_mem_replicate hr]; rfl, ?_⟩
  have hz : ∀ r ∈ List.replicate n entZ, r.length = 2 := fun r hr => by rw [List.eq_of_mem_replicate hr]; rfl
  have hl := flat_length 2 (List.replicate n entZ) hz
  rw [List.length_replicate] at hl ⊢
  exact World.ownsRow_lit w (List.replicate n entZ).flatten.toArray n (Nat.le_refl _) (by unfold maxLen; omega) (by simpa using hl)
 case round =>
  obtain ⟨k, hk, rfl, hO, hb⟩ := hrel
  have HO : Hid (Owns wr w.heap.size 57 2 (.slice (some ⟨w.heap.size, 0, none⟩) n n) (entR (l.take k) ++ List.replicate (n - k) entZ)) := hO
  have HB1 : Hid (Below w.heap.size w wr) := hb
  clear hO hb
  by_cases hlt : k < n
  ·have q4 : (k : Int) < (n : Int) := by omega
   obtain ⟨g, off, rfl, hg, hc0, hc1⟩ := HL.out k (by omega)
   have hgw : g < w.heap.size := Nat.lt_of_lt_of_le hg HB.out
   rw [← HB1.out.cell (p := ⟨_, _, none⟩) hgw] at hc0
   rw [← HB1.out.cell (p := ⟨_, _, none⟩) hgw] at hc1
   have c1 := fun wx => toEntry (l.getD k default) wx
   unfold vEnt at c1
   generalize hx : l.getD k default = x at *
   have HX : Hid (l.getD k default = x) := hx
   clear hx
   go_wp2_with fail
   refine (c1 _).mono ?_
   rintro e w2 ⟨rfl, hb2⟩
   have hlen : (entR (l.take k) ++ List.replicate (n - k) entZ).length = n := by rw [List.length_append, List.length_replicate]; simp [entR]; omega
   have hdl : (entR (l.take k)).length = k := by simp [entR]; omega
   have hO2 := HO.out.on hb2
   have hO3 := hO2
   rw [show (Value.slice (some ⟨w.heap.size, 0, none⟩) n n) = .slice (some ⟨w.heap.size, 0, none⟩) (entR (l.take k) ++ List.replicate (n - k) entZ).length n by rw [hlen]] at hO2
   obtain ⟨y0, d0⟩ := hO2.cellX k 0 (by rw [hlen]; exact hlt) (by omega)
   have f0 := hO2.free (k * 2)
   obtain ⟨y1, d1⟩ := hO2.cellX k 1 (by rw [hlen]; exact hlt) (by omega)
   have f1 := hO2.free (k * 2 + 1)
   rw [Nat.add_zero] at d0
   have hP := hO2.put2 k (by rw [hlen]; exact hlt) (.int .i64 x.term) (.string x.data)
   rw [hlen, fill_step _ _ _ n k hdl hlt, show entR (l.take k) ++ [[.int .i64 x.term, .string x.data]] = entR (l.take (k + 1)) by rw [entR_snoc l k (by omega), HX.out]; rfl] at hP
   have HP : Hid (Owns (((w2).setCell ⟨w.heap.size, k * 2, none⟩ (.int .i64 x.term)).setCell ⟨w.heap.size, k * 2 + 1, none⟩ (.string x.data)) w.heap.size 57 2 (.slice (some ⟨w.heap.size, 0, none⟩) n n) (entR (l.take (k + 1)) ++ List.replicate (n - (k + 1)) entZ)) := hP
   have HB2 : Hid (Below w.heap.size w w2) := HB1.out.trans (hb2.mono HB1.out.size)
   clear hO2 hO3 hP hb2 hlen hdl
   go_wp2_with fail
   go_roundw
   case rel => exact ⟨k + 1, by omega, by go_num, HP.out, ((HB2.out).setCell (Nat.le_refl _) _).setCell (Nat.le_refl _) _⟩
   case measure => simp [intOf]; omega
  ·obtain rfl : k = n := by omega
   go_wp2_with fail
   go_ret
   refine ⟨_, rfl, ?_, HB1.out⟩
   have := HO.out
   rw [← hN, List.take_length, Nat.sub_self, List.replicate_zero, List.append_nil] at this
   rw [← hN]
   exact this
end Go.Proofs.YtimfnbnffibgpaaGreatDoor
namespace Go.Proofs.YtimfnbnffibgpaaGreatDoor
open Go.ChangeShapes Go.WideShapes Go.ChangeAt Go.RowKit Go.PlainAid
set_option linter.unusedVariables false
set_option maxHeartbeats 400000 in
theorem eqEntry (x : Ent) (w : World) : Calls Tryz.prog 58 #[vEnt x, vEnt x] w fun e w' => e = .returned (.bool true) ∧ Below w.heap.size w w' := by
 unfold vEnt
 go_enter Tryz.func58, Tryz.ntmps58
 go_wp2
 go_ret
 exact ⟨rfl, below_alloc2 _ _ _⟩
set_option maxHeartbeats 1000000 in
theorem eqEntryS (l : List Ent) (va vb : Value) (w : World) (B : Nat) (ha : Lies w B 2 va (entR l)) (hb : Lies w B 2 vb (entR l)) (hn : l.length ≤ 1048576) (hB : B ≤ w.heap.size) :
  Calls Tryz.prog 31 #[va, vb] w fun e w' => e = .returned (.bool true) ∧ Below w.heap.size w w' := by
 obtain ⟨A, cap, rfl, hl⟩ := ent_look ha
 obtain ⟨A', cap', rfl, hl'⟩ := ent_look hb
 have HL : Hid (∀ j, j < l.length → ∃ g off, A = some ⟨g, off, none⟩ ∧ g < B ∧ _) := hl
 have HL' : Hid (∀ j, j < l.length → ∃ g off, A' = some ⟨g, off, none⟩ ∧ g < B ∧ _) := hl'
 have HB : Hid (B ≤ w.heap.size) := hB
 clear hl hl' hB ha hb
 have q1 : (l.length : Int) ≤ 1048576 := by omega
 generalize hN : l.length = n at *
 go_enter Tryz.func31, Tryz.ntmps31
 go_wp2_with fail
 go_loopw [5] (fun v5 wr => ∃ k : Nat, k ≤ n ∧ v5 = .int .i64 (k : Int) ∧ Below w.heap.size w wr) (fun i _ => n - (intOf i).toNat)
 case atStart => exact ⟨0, by omega, rfl, Below.refl _ _⟩
 case round =>
  obtain ⟨k, hk, rfl, hb⟩ := hrel
  have HB1 : Hid (Below w.heap.size w wr) := hb
  clear hb
  by_cases hlt : k < n
  ·have q4 : (k : Int) < (n : Int) := by omega
   obtain ⟨g, off, rfl, hg, ha0, ha1⟩ := HL.out k hlt
   obtain ⟨g', off', rfl, hg', hb0, hb1⟩ := HL'.out k hlt
   have hgw : g < w.heap.size := Nat.lt_of_lt_of_le hg HB.out
   have hgw' : g' < w.heap.size := Nat.lt_of_lt_of_le hg' HB.out
   rw [← HB1.out.cell (p := ⟨_, _, none⟩) hgw] at ha0
   rw [← HB1.out.cell (p := ⟨_, _, none⟩) hgw'] at hb0
   rw [← HB1.out.cell (p := ⟨_, _, none⟩) hgw] at ha1
   rw [← HB1.out.cell (p := ⟨_, _, none⟩) hgw'] at hb1
   have c1 := fun wx => eqEntry (l.getD k default) wx
   unfold vEnt at c1
   generalize l.getD k default = x at *
   have hsz := HB1.out.size
   go_wp2_with fail
   go_region_with (go_at_call 58; refine (c1 _).mono ?_; rintro e w1 ⟨rfl, hb1⟩)
   all_goals go_wp2_with fail
   all_goals exact ⟨⟨k + 1, by omega, by go_num, HB1.out.trans (((Below.refl _ wr).drew.trans hb1).mono hsz)⟩, by simp [intOf]; omega⟩
  ·obtain rfl : k = n := by omega
   go_wp2_with fail
   go_ret
   exact ⟨rfl, HB1.out⟩
end Go.Proofs.YtimfnbnffibgpaaGreatDoor
namespace Go.Proofs.YtimfnbnffibgpaaGreatDoor
open Go.RowKit Go.PlainAid
def strCells (l : List ByteArray) : List Value := l.map Value.string
def Strs (w : World) (base : Nat) (v : Value) (l : List ByteArray) : Prop := w.ownsRow base 9 1 v l.length (strCells l)
theorem Strs.nil (w : World) (base : Nat) : Strs w base (.slice none 0 0) [] := World.ownsRow_nil w base 9 1
theorem Strs.empty (w : World) (base : Nat) (hb : base ≤ w.heap.size) : Strs (w.alloc (.cells #[] 9)) base (.slice (some ⟨w.heap.size, 0, none⟩) 0 0) [] :=
 World.ownsRow_lit w #[] 0 hb (by unfold maxLen; omega) rfl
theorem Strs.mono {w : World} {base base' : Nat} {v : Value} {l : List ByteArray} (h : Strs w base v l) (hb : base' ≤ base) : Strs w base' v l :=
 ⟨h.1, h.2.imp id fun ⟨g, cap, cur, e, hg, r⟩ => ⟨g, cap, cur, e, Nat.le_trans hb hg, r⟩⟩
theorem Strs.kept {w w' : World} {base : Nat} {v : Value} {l : List ByteArray} (h : Strs w base v l) (hk : ∀ g, g < w.heap.size → v.ownBlock = some g → w'.heap[g]? = w.heap[g]?) : Strs w' base v l := by
 have hl := World.ownsRow.lt h
 refine ⟨h.1, h.2.imp id ?_⟩
 rintro ⟨g, cap, cur, rfl, hg, hh, r⟩
 refine ⟨g, cap, cur, rfl, hg, ?_, r⟩
 rw [hk g (hl g rfl).2 rfl]
 exact hh
theorem Strs.on {w w' : World} {base : Nat} {v : Value} {l : List ByteArray} (h : Strs w base v l) (hb : Below w.heap.size w w') : Strs w' base v l := h.kept fun g hg _ => hb.block g hg
theorem Strs.under {w w' : World} {base B : Nat} {v : Value} {l : List ByteArray} (h : Strs w base v l) (hB : w.heap.size ≤ B) (hb : Below B w w') : Strs w' base v l := h.kept fun g hg _ => hb.block g (Nat.lt_of_lt_of_le hg hB)
theorem Strs.alloc {w : World} {base : Nat} {v : Value} {l : List ByteArray} (h : Strs w base v l) (o : Obj) : Strs (w.alloc o) base v l := World.ownsRow.alloc h o
theorem Strs.form {w : World} {base : Nat} {v : Value} {l : List ByteArray} (h : Strs w base v l) : (v = .slice none 0 0 ∧ l = []) ∨ ∃ g cap, v = .slice (some ⟨g, 0, none⟩) l.length cap ∧ base ≤ g ∧ g < w.heap.size := by
 have hl := World.ownsRow.lt h
 rcases h.2 with ⟨rfl, h0⟩ | ⟨g, cap, cur, rfl, hg, _⟩
 ·exact .inl ⟨rfl, List.eq_nil_of_length_eq_zero h0⟩
 ·exact .inr ⟨g, cap, rfl, hg, (hl g rfl).2⟩
theorem Strs.cell {w : World} {base g cap : Nat} {l : List ByteArray} (h : Strs w base (.slice (some ⟨g, 0, none⟩) l.length cap) l) (j : Nat) (hj : j < l.length) : w.cell? ⟨g, j, none⟩ = some (.string l[j]) := by
 rw [World.ownsRow.cellAt h j (by omega)]
 simp [strCells, hj]
theorem Strs.frozen {w : World} {base g cap : Nat} {l : List ByteArray} (h : Strs w base (.slice (some ⟨g, 0, none⟩) l.length cap) l) (j : Nat) : w.frozen? ⟨g, j, none⟩ = false := World.ownsRow.frozenAt h j
theorem Strs.stored {w : World} {base g cap : Nat} {l : List ByteArray} (h : Strs w base (.slice (some ⟨g, 0, none⟩) l.length cap) l) (j : Nat) (x : ByteArray) :
  Strs (w.setCell ⟨g, j, none⟩ (.string x)) base (.slice (some ⟨g, 0, none⟩) l.length cap) (l.set j x) := by
 have hs := (World.ownsRow.stored h j (.string x)).1
 unfold Strs
 rw [List.length_set, strCells, List.map_set]
 exact hs
def dg : Nat → Nat → List UInt8
 | 0, _ => []
 | f + 1, n => if n = 0 then [] else dg f (n / 10) ++ [byt (48 + n % 10)]
def mark (k : Nat) : ByteArray := txt (109 :: dg 20 k)
def marks (k : Nat) : Nat → List ByteArray
 | 0 => []
 | n + 1 => marks k n ++ [mark (k + n)]
end Go.Proofs.YtimfnbnffibgpaaGreatDoor
namespace Go.Proofs.YtimfnbnffibgpaaGreatDoor
open Go.ChangeShapes Go.WideShapes Go.ChangeAt Go.RowKit Go.PlainAid
set_option linter.unusedVariables false
set_option maxHeartbeats 2000000 in
theorem szMsg (x : Mg) (v : Value) (w : World) (B : Nat) (left : Int) (h0 : 0 ≤ left) (h1 : left ≤ 1048576) (hv : MgV w B v x) (hf : FitsM x) (hB : B ≤ w.heap.size) :
  Calls Tryz.prog 6 #[v, .int .i64 left] w fun e w' => ∃ r : Int, e = .returned (.int .i64 r) ∧ (r = -1 ∨ 0 ≤ r ∧ r + (wtM x : Int) = left) ∧ Below w.heap.size w w' := by
 obtain ⟨u, rfl, hl⟩ := hv
 unfold vMg
 have HF : Hid (FitsM x) := hf
 have HB : Hid (B ≤ w.heap.size) := hB
 have HL : Hid (Lies w B 2 u (entR x.ents)) := hl
 have HW : Hid (wtM x = x.ents.length + wtE x.ents + x.data.size) := rfl
 have qd : (x.data.size : Int) ≤ 9223372036854775807 := by have := hf.t; unfold maxLen at this; omega
 have K0 := Hid.mkM (Blk.new w #[.int .i64 x.kind, .int .i64 x.frm, .int .i64 x.dst, .int .i64 x.term, .int .i64 x.index, .int .i64 x.iterm, .int .i64 x.commit, .bool x.yes, u, .string x.data] 24)
 have B1 : Hid (Below w.heap.size w (w.alloc (.cells #[.int .i64 x.kind, .int .i64 x.frm, .int .i64 x.dst, .int .i64 x.term, .int .i64 x.index, .int .i64 x.iterm, .int .i64 x.commit, .bool x.yes, u, .string x.data] 24))) := (Below.refl _ _).alloc (Nat.le_refl _) _
 clear hl hf hB
 go_enter Tryz.func6, Tryz.ntmps6
 go_wp2_with fail
 generalize hw1 : w.alloc (.cells #[.int .i64 x.kind, .int .i64 x.frm, .int .i64 x.dst, .int .i64 x.term, .int .i64 x.index, .int .i64 x.iterm, .int .i64 x.commit, .bool x.yes, u, .string x.data] 24) = w1 at *
 have c1 := szEntryS x.ents u left w1 B (HL.out.on (B1.out.mono HB.out)) HF.out.d HF.out.n h0 h1 (Nat.le_trans HB.out B1.out.size)
 refine c1.mono ?_
 rintro e w2 ⟨r1, rfl, hr1, hb2⟩
 have R1 : Hid (r1 = -1 ∨ 0 ≤ r1 ∧ r1 + ((x.ents.length + wtE x.ents : Nat) : Int) = left) := hr1
 have B2 : Hid (Below w.heap.size w w2) := B1.out.trans (hb2.mono B1.out.size)
 have K2 := Hid.mkM (K0.out.on hb2 K0.out.lt)
 clear hr1 hb2 hw1 K0
 rcases R1.out with rfl | ⟨hp1, hq1⟩
 ·go_wp2_with fail
  go_ret
  exact ⟨-1, rfl, .inl rfl, B2.out⟩
 have q1 : decide (r1 < 0) = false := decide_eq_false (by omega)
 have HQ1 : Hid (r1 + ((x.ents.length + wtE x.ents : Nat) : Int) = left) := hq1
 have q9 := K2.out.cell 9 _ rfl
 have qr : r1 ≤ 1048576 := by omega
 clear hq1
 by_cases h2 : r1 - (x.data.size : Int) < 0
 ·have e2 : decide (r1 - (x.data.size : Int) < 0) = true := decide_eq_true h2
  go_wp2_with fail
  go_ret
  exact ⟨-1, rfl, .inl rfl, B2.out⟩
 have e2 : decide (r1 - (x.data.size : Int) < 0) = false := decide_eq_false h2
 go_wp2_with fail
 go_ret
 refine ⟨r1 - (x.data.size : Int), rfl, .inr ⟨by omega, ?_⟩, B2.out⟩
 have := HQ1.out
 rw [HW.out]
 omega
set_option maxHeartbeats 8000000 in
theorem toMsg (x : Mg) (v : Value) (w : World) (B : Nat) (hv : MgV w B v x) (hw : wtM x ≤ 1048576) (hB : B ≤ w.heap.size) :
  Calls Tryz.prog 8 #[v] w fun e w' => ∃ u, e = .returned u ∧ MgO w' w.heap.size u x ∧ Below w.heap.size w w' := by
 obtain ⟨u, rfl, hl⟩ := hv
 unfold wtM at hw
 unfold vMg
 have HB : Hid (B ≤ w.heap.size) := hB
 have HL : Hid (Lies w B 2 u (entR x.ents)) := hl
 have L1 : Hid (x.ents.length ≤ 1048576) := by unfold Hid; omega
 clear hl hw hB
 go_enter Tryz.func8, Tryz.ntmps8
 go_wp2_with fail
 have hb0 := below_alloc3 w (.cells #[.int .i64 x.kind, .int .i64 x.frm, .int .i64 x.dst, .int .i64 x.term, .int .i64 x.index, .int .i64 x.iterm, .int .i64 x.commit, .bool x.yes, u, .string x.data] 24) (.cells #[.int .i64 0, .int .i64 0, .int .i64 0, .int .i64 0, .int .i64 0, .int .i64 0, .int .i64 0, .bool false, .slice none 0 0, .string ⟨#[]⟩] 29) (.cells #[.int .i64 x.kind, .int .i64 x.frm, .int .i64 x.dst, .int .i64 x.term, .int .i64 x.index, .int .i64 x.iterm, .int .i64 x.commit, .bool x.yes, .slice none 0 0, .string ⟨#[]⟩] 29)
 have bI := ((Blk.new w #[.int .i64 x.kind, .int .i64 x.frm, .int .i64 x.dst, .int .i64 x.term, .int .i64 x.index, .int .i64 x.iterm, .int .i64 x.commit, .bool x.yes, u, .string x.data] 24).alloc (.cells #[.int .i64 0, .int .i64 0, .int .i64 0, .int .i64 0, .int .i64 0, .int .i64 0, .int .i64 0, .bool false, .slice none 0 0, .string ⟨#[]⟩] 29)).alloc (.cells #[.int .i64 x.kind, .int .i64 x.frm, .int .i64 x.dst, .int .i64 x.term, .int .i64 x.index, .int .i64 x.iterm, .int .i64 x.commit, .bool x.yes, .slice none 0 0, .string ⟨#[]⟩] 29)
 have bR := (Blk.new (w.alloc (.cells #[.int .i64 x.kind, .int .i64 x.frm, .int .i64 x.dst, .int .i64 x.term, .int .i64 x.index, .int .i64 x.iterm, .int .i64 x.commit, .bool x.yes, u, .string x.data] 24)) #[.int .i64 0, .int .i64 0, .int .i64 0, .int .i64 0, .int .i64 0, .int .i64 0, .int .i64 0, .bool false, .slice none 0 0, .string ⟨#[]⟩] 29).alloc (.cells #[.int .i64 x.kind, .int .i64 x.frm, .int .i64 x.dst, .int .i64 x.term, .int .i64 x.index, .int .i64 x.iterm, .int .i64 x.commit, .bool x.yes, .slice none 0 0, .string ⟨#[]⟩] 29)
 have bO := Blk.new ((w.alloc (.cells #[.int .i64 x.kind, .int .i64 x.frm, .int .i64 x.dst, .int .i64 x.term, .int .i64 x.index, .int .i64 x.iterm, .int .i64 x.commit, .bool x.yes, u, .string x.data] 24)).alloc (.cells #[.int .i64 0, .int .i64 0, .int .i64 0, .int .i64 0, .int .i64 0, .int .i64 0, .int .i64 0, .bool false, .slice none 0 0, .string ⟨#[]⟩] 29)) #[.int .i64 x.kind, .int .i64 x.frm, .int .i64 x.dst, .int .i64 x.term, .int .i64 x.index, .int .i64 x.iterm, .int .i64 x.commit, .bool x.yes, .slice none 0 0, .string ⟨#[]⟩] 29
 simp only [World.size_alloc] at bI bR bO
 generalize ((w.alloc (.cells #[.int .i64 x.kind, .int .i64 x.frm, .int .i64 x.dst, .int .i64 x.term, .int .i64 x.index, .int .i64 x.iterm, .int .i64 x.commit, .bool x.yes, u, .string x.data] 24)).alloc (.cells #[.int .i64 0, .int .i64 0, .int .i64 0, .int .i64 0, .int .i64 0, .int .i64 0, .int .i64 0, .bool false, .slice none 0 0, .string ⟨#[]⟩] 29)).alloc (.cells #[.int .i64 x.kind, .int .i64 x.frm, .int .i64 x.dst, .int .i64 x.term, .int .i64 x.index, .int .i64 x.iterm, .int .i64 x.commit, .bool x.yes, .slice none 0 0, .string ⟨#[]⟩] 29) = W at *
 have B0 : Hid (Below w.heap.size w W) := hb0
 have hlt := bO.lt
 clear hb0
 refine (toEntryS x.ents u W B (HL.out.on (B0.out.mono HB.out)) L1.out (Nat.le_trans HB.out B0.out.size)).mono ?_
 rintro e w2 ⟨u1, rfl, hO1, hb2⟩
 obtain ⟨A1, m1, k1, hu1⟩ := hO1.shape
 have B2 : Hid (Below w.heap.size w w2) := B0.out.trans (hb2.mono B0.out.size)
 have hI2 : Hid (Blk w2 w.heap.size #[.int .i64 x.kind, .int .i64 x.frm, .int .i64 x.dst, .int .i64 x.term, .int .i64 x.index, .int .i64 x.iterm, .int .i64 x.commit, .bool x.yes, u, .string x.data] 24) := bI.on hb2 bI.lt
 have hR2 : Hid (Blk w2 (w.heap.size + 1) #[.int .i64 0, .int .i64 0, .int .i64 0, .int .i64 0, .int .i64 0, .int .i64 0, .int .i64 0, .bool false, .slice none 0 0, .string ⟨#[]⟩] 29) := bR.on hb2 (by omega)
 have hO2 : Hid (Blk w2 (w.heap.size + 1 + 1) #[.int .i64 x.kind, .int .i64 x.frm, .int .i64 x.dst, .int .i64 x.term, .int .i64 x.index, .int .i64 x.iterm, .int .i64 x.commit, .bool x.yes, .slice none 0 0, .string ⟨#[]⟩] 29) := bO.on hb2 hlt
 have O1 : Hid (Owns w2 (w.heap.size + 1 + 1 + 1) 57 2 u1 (entR x.ents)) := hO1.mono hlt
 clear bI bR bO hb2 hO1 hlt
 have i9 := hI2.out.cell 9 _ rfl
 have c8 := hO2.out.cell 8 _ rfl
 have c9 := hO2.out.cell 9 _ rfl
 have f8 := hO2.out.free 8
 have f9 := (hO2.out.set 8 (.slice A1 m1 k1)).free 9
 subst hu1
 have KY : Hid (Blk ((w2.setCell ⟨w.heap.size + 1 + 1, 8, none⟩ (.slice A1 m1 k1)).setCell ⟨w.heap.size + 1 + 1, 9, none⟩ (.string x.data)) (w.heap.size + 1 + 1) #[.int .i64 x.kind, .int .i64 x.frm, .int .i64 x.dst, .int .i64 x.term, .int .i64 x.index, .int .i64 x.iterm, .int .i64 x.commit, .bool x.yes, .slice A1 m1 k1, .string x.data] 29) := (hO2.out.set 8 (.slice A1 m1 k1)).set 9 (.string x.data)
 have RY : Hid (Blk ((w2.setCell ⟨w.heap.size + 1 + 1, 8, none⟩ (.slice A1 m1 k1)).setCell ⟨w.heap.size + 1 + 1, 9, none⟩ (.string x.data)) (w.heap.size + 1) #[.int .i64 0, .int .i64 0, .int .i64 0, .int .i64 0, .int .i64 0, .int .i64 0, .int .i64 0, .bool false, .slice none 0 0, .string ⟨#[]⟩] 29) := (hR2.out.other (show w.heap.size + 1 ≠ w.heap.size + 1 + 1 by omega) 8 _).other (show w.heap.size + 1 ≠ w.heap.size + 1 + 1 by omega) 9 _
 have OY : Hid (Owns ((w2.setCell ⟨w.heap.size + 1 + 1, 8, none⟩ (.slice A1 m1 k1)).setCell ⟨w.heap.size + 1 + 1, 9, none⟩ (.string x.data)) (w.heap.size + 1 + 1 + 1) 57 2 (.slice A1 m1 k1) (entR x.ents)) := (O1.out.lowM (show w.heap.size + 1 + 1 < _ by omega)).lowM (show w.heap.size + 1 + 1 < _ by omega)
 have BY : Hid (Below w.heap.size w ((w2.setCell ⟨w.heap.size + 1 + 1, 8, none⟩ (.slice A1 m1 k1)).setCell ⟨w.heap.size + 1 + 1, 9, none⟩ (.string x.data))) := (B2.out.setCell (show w.heap.size ≤ w.heap.size + 1 + 1 by omega) _ (p := ⟨_, 8, none⟩)).setCell (show w.heap.size ≤ w.heap.size + 1 + 1 by omega) _ (p := ⟨_, 9, none⟩)
 clear hI2 hR2 hO2 O1 B2
 go_upto_region 12 with fail
 generalize (w2.setCell ⟨w.heap.size + 1 + 1, 8, none⟩ (.slice A1 m1 k1)).setCell ⟨w.heap.size + 1 + 1, 9, none⟩ (.string x.data) = Y at *
 clear c8 c9 f8 f9 i9
 generalize hgo : w.heap.size + 1 + 1 = go at *
 have hgr : w.heap.size + 1 < go + 1 := by omega
 generalize hgr2 : w.heap.size + 1 = gr at *
 have HW0 : Hid (w.heap.size ≤ gr) := by unfold Hid; omega
 have HW1 : Hid (w.heap.size ≤ go + 1) := by unfold Hid; omega
 clear hgo hgr2
 have HV : Hid (vMg x (.slice A1 m1 k1) = .agg #[.int .i64 x.kind, .int .i64 x.frm, .int .i64 x.dst, .int .i64 x.term, .int .i64 x.index, .int .i64 x.iterm, .int .i64 x.commit, .bool x.yes, .slice A1 m1 k1, .string x.data]) := rfl
 generalize x.kind = x0 at *
 generalize x.frm = x1 at *
 generalize x.dst = x2 at *
 generalize x.term = x3 at *
 generalize x.index = x4 at *
 generalize x.iterm = x5 at *
 generalize x.commit = x6 at *
 generalize x.yes = x7 at *
 generalize x.data = x9 at *
 have c0 := KY.out.cell 0 _ rfl
 have c1 := KY.out.cell 1 _ rfl
 have c2 := KY.out.cell 2 _ rfl
 have c3 := KY.out.cell 3 _ rfl
 have c4 := KY.out.cell 4 _ rfl
 have c5 := KY.out.cell 5 _ rfl
 have c6 := KY.out.cell 6 _ rfl
 have c7 := KY.out.cell 7 _ rfl
 have c8 := KY.out.cell 8 _ rfl
 have c9 := KY.out.cell 9 _ rfl
 obtain ⟨⟨r0, g0⟩, ⟨r1, g1⟩, ⟨r2, g2⟩, ⟨r3, g3⟩, ⟨r4, g4⟩, ⟨r5, g5⟩, ⟨r6, g6⟩, ⟨r7, g7⟩, ⟨r8, g8⟩, ⟨r9, g9⟩, z0, z1, z2, z3, z4, z5, z6, z7, z8, z9⟩ := resC10 (x0 := .int .i64 x0) (x1 := .int .i64 x1) (x2 := .int .i64 x2) (x3 := .int .i64 x3) (x4 := .int .i64 x4) (x5 := .int .i64 x5) (x6 := .int .i64 x6) (x7 := .bool x7) (x8 := .slice A1 m1 k1) (x9 := .string x9) RY.out
 have FO := Hid.mkM (ownsC10 OY.out hgr (.int .i64 x0) (.int .i64 x1) (.int .i64 x2) (.int .i64 x3) (.int .i64 x4) (.int .i64 x5) (.int .i64 x6) (.bool x7) (.slice A1 m1 k1) (.string x9))
 have FB := Hid.mkM (belowC10 BY.out HW0.out (.int .i64 x0) (.int .i64 x1) (.int .i64 x2) (.int .i64 x3) (.int .i64 x4) (.int .i64 x5) (.int .i64 x6) (.bool x7) (.slice A1 m1 k1) (.string x9))
 clear KY RY OY BY
 go_wp2_with fail
 exact bodyPost_ret (v := .agg #[.int .i64 x0, .int .i64 x1, .int .i64 x2, .int .i64 x3, .int .i64 x4, .int .i64 x5, .int .i64 x6, .bool x7, .slice A1 m1 k1, .string x9]) (by simp [results, go_sem, z0, z1, z2, z3, z4, z5, z6, z7, z8, z9]) rfl ⟨_, rfl, ⟨_, HV.out.symm, FO.out.mono HW1.out⟩, FB.out⟩
set_option maxHeartbeats 4000000 in
theorem eqMsg (x : Mg) (va vb : Value) (w : World) (B : Nat) (ha : MgV w B va x) (hb : MgV w B vb x) (hn : x.ents.length ≤ 1048576) (hB : B ≤ w.heap.size) :
  Calls Tryz.prog 10 #[va, vb] w fun e w' => e = .returned (.bool true) ∧ Below w.heap.size w w' := by
 obtain ⟨ua, rfl, al⟩ := ha
 obtain ⟨ub, rfl, bl⟩ := hb
 unfold vMg
 have HB : Hid (B ≤ w.heap.size) := hB
 have AL : Hid (Lies w B 2 ua (entR x.ents)) := al
 have BL : Hid (Lies w B 2 ub (entR x.ents)) := bl
 have L1 : Hid (x.ents.length ≤ 1048576) := hn
 have ny : (x.yes != x.yes) = false := by cases x.yes <;> rfl
 clear al bl hn hB
 have hb0 := below_alloc2 w (.cells #[.int .i64 x.kind, .int .i64 x.frm, .int .i64 x.dst, .int .i64 x.term, .int .i64 x.index, .int .i64 x.iterm, .int .i64 x.commit, .bool x.yes, ua, .string x.data] 29) (.cells #[.int .i64 x.kind, .int .i64 x.frm, .int .i64 x.dst, .int .i64 x.term, .int .i64 x.index, .int .i64 x.iterm, .int .i64 x.commit, .bool x.yes, ub, .string x.data] 29)
 have bA := (Blk.new w #[.int .i64 x.kind, .int .i64 x.frm, .int .i64 x.dst, .int .i64 x.term, .int .i64 x.index, .int .i64 x.iterm, .int .i64 x.commit, .bool x.yes, ua, .string x.data] 29).alloc (.cells #[.int .i64 x.kind, .int .i64 x.frm, .int .i64 x.dst, .int .i64 x.term, .int .i64 x.index, .int .i64 x.iterm, .int .i64 x.commit, .bool x.yes, ub, .string x.data] 29)
 have bB := Blk.new (w.alloc (.cells #[.int .i64 x.kind, .int .i64 x.frm, .int .i64 x.dst, .int .i64 x.term, .int .i64 x.index, .int .i64 x.iterm, .int .i64 x.commit, .bool x.yes, ua, .string x.data] 29)) #[.int .i64 x.kind, .int .i64 x.frm, .int .i64 x.dst, .int .i64 x.term, .int .i64 x.index, .int .i64 x.iterm, .int .i64 x.commit, .bool x.yes, ub, .string x.data] 29
 simp only [World.size_alloc] at bA bB
 obtain ⟨W, hW⟩ : ∃ W, W = (w.alloc (.cells #[.int .i64 x.kind, .int .i64 x.frm, .int .i64 x.dst, .int .i64 x.term, .int .i64 x.index, .int .i64 x.iterm, .int .i64 x.commit, .bool x.yes, ua, .string x.data] 29)).alloc (.cells #[.int .i64 x.kind, .int .i64 x.frm, .int .i64 x.dst, .int .i64 x.term, .int .i64 x.index, .int .i64 x.iterm, .int .i64 x.commit, .bool x.yes, ub, .string x.data] 29) := ⟨_, rfl⟩
 rw [← hW] at hb0 bA bB
 have B0 : Hid (Below w.heap.size w W) := hb0
 have BA := Hid.mkM bA
 have BB := Hid.mkM bB
 go_enter Tryz.func10, Tryz.ntmps10
 clear hb0 bA bB
 go_wp2_with fail
 rw [← hW]
 clear hW
 refine (eqEntryS x.ents ua ub W B (AL.out.on (B0.out.mono HB.out)) (BL.out.on (B0.out.mono HB.out)) L1.out (Nat.le_trans HB.out B0.out.size)).mono ?_
 rintro e w2 ⟨rfl, hb2⟩
 have B2 : Hid (Below w.heap.size w w2) := B0.out.trans (hb2.mono B0.out.size)
 have p9 := (BA.out.on hb2 BA.out.lt).cell 9 _ rfl
 have q9 := (BB.out.on hb2 BB.out.lt).cell 9 _ rfl
 clear hb2
 go_wp2_with fail
 go_ret
 exact ⟨rfl, B2.out⟩
end Go.Proofs.YtimfnbnffibgpaaGreatDoor
namespace Go.Proofs.YtimfnbnffibgpaaGreatDoor
open Go.ChangeShapes Go.WideShapes Go.ChangeAt Go.RowKit Go.PlainAid
set_option linter.unusedVariables false
def Apart (u v : Value) : Prop := ∀ g, u.ownBlock = some g → v.ownBlock ≠ some g
theorem Apart.symm {u v : Value} (h : Apart u v) : Apart v u := fun g h1 h2 => h g h2 h1
theorem Apart.of {w w' : World} {b : Nat} {e : TypeId} {sz : Nat} {u v : Value} {r r' : List (List Value)} (h : Owns w b e sz u r) (h' : Owns w' w.heap.size e sz v r') : Apart u v := fun g h1 h2 => by
 have := (h.lt g h1).2
 have := (h'.lt g h2).1
 omega
section
variable {H : Type} {enc : TypeId × Value → H} {P : Program} {w : World} {base : Nat} {spare : Nat → Bool} {held : Bool}
theorem open_rows {α : Type} [Inhabited α] {t e : TypeId} {fuel : Nat} {v : Value} {x : DataW H × List MemPlace} (ht : P.underlying t = some (.slice e)) (sz : Nat) (hsz : P.cellsOf e = sz) (hpos : 0 < sz) (C : α → List Value) (hC : ∀ y, (C y).length = sz) (G : α → Prop)
  (hel : ∀ n cs y, DataW.trod enc P w base spare held n e cs = some y → ∃ z, cs = C z ∧ G z)
  (h : DataW.trod enc P w base spare held fuel t [v] = some x) : ∃ l : List α, Lies w w.heap.size sz v (l.map C) ∧ l.length ≤ maxLen ∧ ∀ z ∈ l, G z := by
 rcases Go.Deep.open_slice ht h with ⟨hv, _⟩ | ⟨a, len, cap, m, n, D, Pl, hv, hb, hl, hm, hmm, _, hx⟩
 ·obtain rfl : v = .slice none 0 0 := by simpa using hv
  exact ⟨[], ⟨none, 0, rfl, ⟨fun _ => rfl, Nat.le_refl _⟩, fun r hr => (by cases hr), .inl rfl⟩, Nat.zero_le _, fun z hz => (by cases hz)⟩
 ·obtain rfl : v = .slice (some a) len cap := by simpa using hv
  have hlm : len ≤ m := by rw [hmm]; split <;> omega
  have hp : ∀ i, i < len → ∃ z, (∀ f, f < sz → w.cell? (a.add (i * sz + f)) = (C z)[f]?) ∧ G z := fun i hi => by
   obtain ⟨cs', h1, h2⟩ := hx i (by omega)
   obtain ⟨_, hlen, hc⟩ := World.cells?_some h1
   obtain ⟨z, rfl, hg⟩ := hel n cs' _ h2
   refine ⟨z, fun f hf => ?_, hg⟩
   have := hc f (by rw [hsz]; exact hf)
   rw [hsz, Go.Deep.add_add] at this
   exact this
  obtain ⟨X, hX⟩ := Go.Deep.choose_lt (α := α) (p := fun i z => (∀ f, f < sz → w.cell? (a.add (i * sz + f)) = (C z)[f]?) ∧ G z) hp
  have hll : ((List.range len).map X).length = len := by simp
  refine ⟨(List.range len).map X, ⟨some a, cap, by simp, ⟨fun e => (by cases e), by simpa using hl⟩, fun r hr => ?_, ?_⟩, by rw [hll]; omega, fun z hz => ?_⟩
  ·obtain ⟨y, _, rfl⟩ := List.mem_map.1 hr
   exact hC y
  ·by_cases h0 : len = 0
   ·exact .inl (by simp [h0])
   ·right
    obtain ⟨b, off, spot⟩ := a
    have hc0 := (hX 0 (by omega)).1 0 hpos
    have hlt0 : 0 < (C (X 0)).length := by rw [hC]; exact hpos
    rw [List.getElem?_eq_getElem hlt0] at hc0
    have hspot : spot = none := by simpa [Addr.add] using World.cell?_spot hc0
    subst hspot
    have hadd : ∀ j, (⟨b, off, none⟩ : Addr).add j = ⟨b, off + j, none⟩ := by intro j; cases j <;> simp [Addr.add]
    refine ⟨b, off, rfl, ?_, fun k x hk => ?_⟩
    ·rw [hadd] at hc0
     rcases Nat.lt_or_ge b w.heap.size with h | h
     ·exact h
     ·simp [World.cell?, Array.getElem?_eq_none h] at hc0
    ·have hkl : k < (((List.range len).map X).map C).flatten.length := (List.getElem?_eq_some_iff.1 hk).1
     have hrow : ∀ r ∈ ((List.range len).map X).map C, r.length = sz := fun r hr => by
      obtain ⟨y, _, rfl⟩ := List.mem_map.1 hr
      exact hC y
     rw [flat_length sz _ hrow, List.length_map, hll] at hkl
     have hdiv : k / sz < len := (Nat.div_lt_iff_lt_mul hpos).2 hkl
     have hmod : k % sz < sz := Nat.mod_lt _ hpos
     have hke : k / sz * sz + k % sz = k := by rw [Nat.mul_comm]; exact Nat.div_add_mod k sz
     have hfa := flat_at sz (((List.range len).map X).map C) hrow (k / sz) (k % sz) (by rw [List.length_map, hll]; exact hdiv) hmod
     rw [hke, hk] at hfa
     have hcx := (hX (k / sz) hdiv).1 (k % sz) hmod
     rw [hke, hadd] at hcx
     rw [hcx, hfa]
     simp
  ·obtain ⟨i, hi, rfl⟩ := List.mem_map.1 hz
   exact (hX i (by simpa using hi)).2
end
theorem list2 {α : Type} {l : List α} (h : l.length = 2) : ∃ a b, l = [a, b] := by
 match l, h with
 | [a, b], _ => exact ⟨a, b, rfl⟩
def IntOk (x : Int) : Prop := -9223372036854775808 ≤ x ∧ x ≤ 9223372036854775807
section
variable {H : Type} {enc : TypeId × Value → H} {w : World} {base : Nat} {spare : Nat → Bool} {held : Bool}
end
end Go.Proofs.YtimfnbnffibgpaaGreatDoor
namespace Go.Proofs.YtimfnbnffibgpaaGreatDoor
open Go.ChangeShapes Go.WideShapes Go.ChangeAt Go.RowKit Go.PlainAid
set_option linter.unusedVariables false
structure Opx where
 kind : Int
 key : ByteArray
 frm : Int
 til : Int
 data : ByteArray
def vOp (x : Opx) : Value := .agg #[.int .i64 x.kind, .string x.key, .int .i64 x.frm, .int .i64 x.til, .string x.data]
def CellO (w : World) (g : Nat) (x : Opx) : Prop := (w.cell? ⟨g, 0, none⟩ = some (.int .i64 x.kind) ∧ w.cell? ⟨g, 1, none⟩ = some (.string x.key) ∧ w.cell? ⟨g, 2, none⟩ = some (.int .i64 x.frm) ∧ w.cell? ⟨g, 3, none⟩ = some (.int .i64 x.til) ∧ w.cell? ⟨g, 4, none⟩ = some (.string x.data)) ∧ g < w.heap.size
theorem CellO.on {w w' : World} {B g : Nat} {x : Opx} (h : CellO w g x) (hb : Below B w w') (hg : g < B) : CellO w' g x := by
 obtain ⟨⟨a, b, c, d, e⟩, f⟩ := h
 refine ⟨⟨?_, ?_, ?_, ?_, ?_⟩, Nat.lt_of_lt_of_le f hb.size⟩
 ·rw [hb.cell (p := ⟨_, _, none⟩) hg]; exact a
 ·rw [hb.cell (p := ⟨_, _, none⟩) hg]; exact b
 ·rw [hb.cell (p := ⟨_, _, none⟩) hg]; exact c
 ·rw [hb.cell (p := ⟨_, _, none⟩) hg]; exact d
 ·rw [hb.cell (p := ⟨_, _, none⟩) hg]; exact e
theorem CellO.new (w : World) (x : Opx) (t : TypeId) : CellO (w.alloc (.cells #[.int .i64 x.kind, .string x.key, .int .i64 x.frm, .int .i64 x.til, .string x.data] t)) w.heap.size x := by
 have h : (w.alloc (.cells #[.int .i64 x.kind, .string x.key, .int .i64 x.frm, .int .i64 x.til, .string x.data] t)).heap[w.heap.size]? = some (.cells #[.int .i64 x.kind, .string x.key, .int .i64 x.frm, .int .i64 x.til, .string x.data] t (0, 0)) := heap_alloc_new w _
 refine ⟨⟨?_, ?_, ?_, ?_, ?_⟩, by simp⟩
 ·rw [cell_of_row _ _ 0 _ t (0, 0) h]; rfl
 ·rw [cell_of_row _ _ 1 _ t (0, 0) h]; rfl
 ·rw [cell_of_row _ _ 2 _ t (0, 0) h]; rfl
 ·rw [cell_of_row _ _ 3 _ t (0, 0) h]; rfl
 ·rw [cell_of_row _ _ 4 _ t (0, 0) h]; rfl
section
variable {H : Type} {enc : TypeId × Value → H} {w : World} {base : Nat} {spare : Nat → Bool} {held : Bool}
end
end Go.Proofs.YtimfnbnffibgpaaGreatDoor
namespace Go.Proofs.YtimfnbnffibgpaaGreatDoor
open Go.ChangeShapes Go.WideShapes Go.ChangeAt Go.RowKit Go.PlainAid
set_option linter.unusedVariables false
section
variable {H : Type} {enc : TypeId × Value → H} {P : Program} {w : World} {base : Nat} {spare : Nat → Bool} {held : Bool}
end
theorem cEnt : Tryz.prog.cellsOf 82 = 2 := by kernel_rfl
section
variable {H : Type} {enc : TypeId × Value → H} {w : World} {base : Nat} {spare : Nat → Bool} {held : Bool}
set_option maxRecDepth 100000 in
theorem open_ent (n : Nat) (cs : List Value) (y : DataW H × List MemPlace) (h : DataW.trod enc Tryz.prog w base spare held n 82 cs = some y) : ∃ z : Ent, cs = entC z ∧ (z.data.size ≤ maxLen ∧ IntOk z.term) := by
 obtain ⟨xs, m, _, _, hl, hlen, hf⟩ := DataW.trod_struct Tryz.underlying82 h
 rw [cEnt] at hl
 obtain ⟨a, b, rfl⟩ := list2 hl
 obtain ⟨x0, x1, rfl⟩ := list2 (show xs.length = 2 from hlen)
 have f0 := hf 0 _ rfl
 have f1 := hf 1 _ rfl
 simp only [List.getElem?_cons_zero, List.getElem?_cons_succ] at f0 f1
 obtain ⟨i0, e0, _, hw⟩ := DataW.trod_int Tryz.underlying3 f0
 obtain ⟨s1, e1, _, hs⟩ := DataW.trod_string Tryz.underlying9 f1
 cases e0
 cases e1
 exact ⟨⟨i0, s1⟩, rfl, hs, bounds_i64 hw⟩
end
end Go.Proofs.YtimfnbnffibgpaaGreatDoor
namespace Go.Proofs.YtimfnbnffibgpaaGreatDoor
open Go.ChangeShapes Go.WideShapes Go.ChangeAt Go.RowKit Go.PlainAid
set_option linter.unusedVariables false
theorem cMsg : Tryz.prog.cellsOf 24 = 10 := by kernel_rfl
theorem list10 {α : Type} {l : List α} (h : l.length = 10) : ∃ a0 a1 a2 a3 a4 a5 a6 a7 a8 a9, l = [a0, a1, a2, a3, a4, a5, a6, a7, a8, a9] := by
 match l, h with
 | [a0, a1, a2, a3, a4, a5, a6, a7, a8, a9], _ => exact ⟨a0, a1, a2, a3, a4, a5, a6, a7, a8, a9, rfl⟩
structure IntsM (x : Mg) : Prop where
 kind : IntOk x.kind
 frm : IntOk x.frm
 dst : IntOk x.dst
 term : IntOk x.term
 index : IntOk x.index
 iterm : IntOk x.iterm
 commit : IntOk x.commit
 e : ∀ y ∈ x.ents, IntOk y.term
section
variable {H : Type} {enc : TypeId × Value → H} {w : World} {base : Nat} {spare : Nat → Bool} {held : Bool}
set_option maxRecDepth 100000 in
theorem open_msg {r : Reach} {b0 : Nat} {v : Value} {dd : DataW H} {ps : List MemPlace} (hval : Value.okWide Tryz.prog w r b0 24 v) (hd : DataW.Trod enc Tryz.prog w base spare held 24 v dd ps) : ∃ x : Mg, MgV w w.heap.size v x ∧ FitsM x ∧ IntsM x := by
 obtain ⟨cs, rfl, hsz⟩ := okWide_struct Tryz.underlying24 hval
 rw [cMsg] at hsz
 obtain ⟨fuel, hf0⟩ := hd
 obtain ⟨xs, m, _, _, _, hlen, hf⟩ := DataW.trod_struct Tryz.underlying24 hf0
 obtain ⟨l⟩ := cs
 obtain ⟨a0, a1, a2, a3, a4, a5, a6, a7, a8, a9, rfl⟩ := list10 (show l.length = 10 from hsz)
 obtain ⟨x0, x1, x2, x3, x4, x5, x6, x7, x8, x9, rfl⟩ := list10 (show xs.length = 10 from hlen)
 have f0 := hf 0 _ rfl
 have f1 := hf 1 _ rfl
 have f2 := hf 2 _ rfl
 have f3 := hf 3 _ rfl
 have f4 := hf 4 _ rfl
 have f5 := hf 5 _ rfl
 have f6 := hf 6 _ rfl
 have f7 := hf 7 _ rfl
 have f8 := hf 8 _ rfl
 have f9 := hf 9 _ rfl
 simp only [Value.cells, List.getElem?_cons_zero, List.getElem?_cons_succ] at f0 f1 f2 f3 f4 f5 f6 f7 f8 f9
 obtain ⟨i0, e0, _, w0⟩ := DataW.trod_int Tryz.underlying3 f0
 obtain ⟨i1, e1, _, w1⟩ := DataW.trod_int Tryz.underlying3 f1
 obtain ⟨i2, e2, _, w2⟩ := DataW.trod_int Tryz.underlying3 f2
 obtain ⟨i3, e3, _, w3⟩ := DataW.trod_int Tryz.underlying3 f3
 obtain ⟨i4, e4, _, w4⟩ := DataW.trod_int Tryz.underlying3 f4
 obtain ⟨i5, e5, _, w5⟩ := DataW.trod_int Tryz.underlying3 f5
 obtain ⟨i6, e6, _, w6⟩ := DataW.trod_int Tryz.underlying3 f6
 obtain ⟨b7, e7, _⟩ := DataW.trod_bool Tryz.underlying4 f7
 obtain ⟨s9, e9, _, hs9⟩ := DataW.trod_string Tryz.underlying9 f9
 cases e0
 cases e1
 cases e2
 cases e3
 cases e4
 cases e5
 cases e6
 cases e7
 cases e9
 obtain ⟨ls, l1, l2, l3⟩ := open_rows Tryz.underlying22 2 cEnt (by omega) entC (fun _ => rfl) _ open_ent f8
 exact ⟨⟨i0, i1, i2, i3, i4, i5, i6, b7, ls, s9⟩, ⟨a8, rfl, l1⟩, ⟨l2, fun x hx => (l3 x hx).1, hs9⟩, ⟨bounds_i64 w0, bounds_i64 w1, bounds_i64 w2, bounds_i64 w3, bounds_i64 w4, bounds_i64 w5, bounds_i64 w6, fun x hx => (l3 x hx).2⟩⟩
end
end Go.Proofs.YtimfnbnffibgpaaGreatDoor
