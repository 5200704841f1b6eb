/- Cursor CurNew CurOnce Fix CurTx CurDk KdBox KdName KdBx KdCut KeApp -/
import Derived.Test.YtgjilgecklhglaaGreatRows
import Derived.WalkKit
import Derived.ProofKit
import Derived.OpenShut
import Derived.Below
import Derived.Handy
import Derived.WalkLawsBesides
import Derived.Outline
import Derived.BigQuiet
import Derived.Deep.QuietTactic
import Derived.Deep.OwnRows
import Derived.Deep.RegionHeld3
import Derived.Test.YtgjilgecklhglaaGreatQn9
import Derived.Deep.RegionWith
import Derived.Test.YtgjilgecklhglaaGreatQn4
import Derived.Lib.OwnKind
import Derived.Deep.Cut
import Derived.Deep.CutRange
import Derived.Deep.CutBlock
import Derived.Test.YtgjilgecklhglaaGreatQt0
import Derived.Test.YtgjilgecklhglaaGreatQt1
import Derived.Test.YtgjilgecklhglaaGreatQt2
import Derived.Test.YtgjilgecklhglaaGreatQt3
import Derived.Test.YtgjilgecklhglaaGreatQt4
import Derived.Test.YtgjilgecklhglaaGreatQt5
import Derived.Test.YtgjilgecklhglaaGreatQt6
import Derived.Test.YtgjilgecklhglaaGreatQt7
import Derived.Test.YtgjilgecklhglaaGreatQt8
import Derived.Test.YtgjilgecklhglaaGreatQt9
import Derived.Test.YtgjilgecklhglaaGreatQt10
import Derived.Test.YtgjilgecklhglaaGreatQt11
import Derived.Test.YtgjilgecklhglaaGreatQt12
import Derived.Test.YtgjilgecklhglaaGreatQt13
import Derived.Test.YtgjilgecklhglaaGreatQt14
import Derived.Test.YtgjilgecklhglaaGreatQt15
namespace Go.Proofs.YtgjilgecklhglaaGreat
open Go.ChangeShapes Go.WideShapes Go.ChangeAt Go.RowKit Go.PlainAid
set_option linter.unusedVariables false
end Go.Proofs.YtgjilgecklhglaaGreat
namespace Go.Proofs.YtgjilgecklhglaaGreat
open Go.ChangeShapes Go.WideShapes Go.ChangeAt Go.RowKit Go.PlainAid
set_option linter.unusedVariables false
end Go.Proofs.YtgjilgecklhglaaGreat
namespace Go.Proofs.YtgjilgecklhglaaGreat
open Go.ChangeShapes Go.WideShapes Go.ChangeAt Go.RowKit Go.PlainAid
set_option linter.unusedVariables false
end Go.Proofs.YtgjilgecklhglaaGreat
namespace Go.Proofs.YtgjilgecklhglaaGreat
open Go.ChangeShapes Go.WideShapes Go.ChangeAt Go.RowKit Go.PlainAid
set_option linter.unusedVariables false
end Go.Proofs.YtgjilgecklhglaaGreat
namespace Go.Proofs.YtgjilgecklhglaaGreat
open Go.ChangeShapes Go.WideShapes Go.ChangeAt Go.RowKit Go.PlainAid
set_option linter.unusedVariables false
end Go.Proofs.YtgjilgecklhglaaGreat
namespace Go.Proofs.YtgjilgecklhglaaGreat
open Go.ChangeShapes Go.WideShapes Go.ChangeAt Go.RowKit Go.PlainAid
set_option linter.unusedVariables false
end Go.Proofs.YtgjilgecklhglaaGreat
namespace Go.Proofs.YtgjilgecklhglaaGreat
open Go.ChangeShapes Go.WideShapes Go.ChangeAt Go.RowKit Go.PlainAid
set_option linter.unusedVariables false
section
variable {w wc w' : World} {p g r : Nat} {T : TypeId} {Z cs : Array Value}
end
section
variable {w wc w' : World} {p r : Nat} {T : TypeId} {Z : Array Value}
end
end Go.Proofs.YtgjilgecklhglaaGreat
namespace Go.Proofs.YtgjilgecklhglaaGreat
open Go.ChangeShapes Go.WideShapes Go.ChangeAt Go.RowKit Go.PlainAid
set_option linter.unusedVariables false
section
variable {w wc w' : World} {p g r : Nat} {d : Dsk} {A1 : Option Addr} {n1 c1 : Nat} {A2 : Option Addr} {n2 c2 : Nat} {A3 : Option Addr} {n3 c3 : Nat}
end
end Go.Proofs.YtgjilgecklhglaaGreat
namespace Go.Proofs.YtgjilgecklhglaaGreat
open Go.ChangeShapes Go.WideShapes Go.ChangeAt Go.RowKit Go.PlainAid
set_option linter.unusedVariables false
structure DkX (w : World) (g : Nat) (wc : World) (d : Dsk) (A1 : Option Addr) (n1 c1 : Nat) (A2 : Option Addr) (n2 c2 : Nat) (A3 : Option Addr) (n3 c3 : Nat) : Prop where
 box : Blk wc g #[.int .i64 d.room, .int .i64 d.next, .slice A1 n1 c1, .slice A2 n2 c2, .slice A3 n3 c3] 28
 o1 : Owns wc w.heap.size 47 3 (.slice A1 n1 c1) (nodR d.nods)
 o2 : Owns wc w.heap.size 49 2 (.slice A2 n2 c2) (lnkR d.dir)
 o3 : Owns wc w.heap.size 51 4 (.slice A3 n3 c3) (movR d.movs)
 b : Below w.heap.size w wc
 hg : w.heap.size ≤ g
section
variable {w wc w' : World} {g : Nat} {d : Dsk} {A1 : Option Addr} {n1 c1 : Nat} {A2 : Option Addr} {n2 c2 : Nat} {A3 : Option Addr} {n3 c3 : Nat}
theorem DkX.new {C : Nat} (h : DiskO wc C (.agg #[.int .i64 d.room, .int .i64 d.next, .slice A1 n1 c1, .slice A2 n2 c2, .slice A3 n3 c3]) d) (hC : w.heap.size ≤ C) (b : Below w.heap.size w wc) : DkX w wc.heap.size (wc.alloc (.cells #[.int .i64 d.room, .int .i64 d.next, .slice A1 n1 c1, .slice A2 n2 c2, .slice A3 n3 c3] 28)) d A1 n1 c1 A2 n2 c2 A3 n3 c3 := by
 have hal : Below wc.heap.size wc (wc.alloc (.cells #[.int .i64 d.room, .int .i64 d.next, .slice A1 n1 c1, .slice A2 n2 c2, .slice A3 n3 c3] 28)) := (Below.refl _ _).alloc (Nat.le_refl _) _
 obtain ⟨v1, v2, v3, e, h1, h2, h3⟩ := h
 cases e
 exact ⟨Blk.new wc _ _, (h1.mono hC).on hal, (h2.mono hC).on hal, (h3.mono hC).on hal, b.trans (hal.mono b.size), b.size⟩
theorem DkX.below (S : DkX w g wc d A1 n1 c1 A2 n2 c2 A3 n3 c3) (hb : Below wc.heap.size wc w') : DkX w g w' d A1 n1 c1 A2 n2 c2 A3 n3 c3 :=
 ⟨S.box.on hb S.box.lt, S.o1.on hb, S.o2.on hb, S.o3.on hb, S.b.trans (hb.mono S.b.size), S.hg⟩
theorem DkX.v (S : DkX w g wc d A1 n1 c1 A2 n2 c2 A3 n3 c3) : DiskV wc wc.heap.size (.agg #[.int .i64 d.room, .int .i64 d.next, .slice A1 n1 c1, .slice A2 n2 c2, .slice A3 n3 c3]) d := ⟨_, _, _, rfl, S.o1.lies, S.o2.lies, S.o3.lies⟩
theorem DkX.o (S : DkX w g wc d A1 n1 c1 A2 n2 c2 A3 n3 c3) : DiskO wc w.heap.size (.agg #[.int .i64 d.room, .int .i64 d.next, .slice A1 n1 c1, .slice A2 n2 c2, .slice A3 n3 c3]) d := ⟨_, _, _, rfl, S.o1, S.o2, S.o3⟩
theorem DkX.swap (S : DkX w g wc d A1 n1 c1 A2 n2 c2 A3 n3 c3) {C : Nat} (hC : w.heap.size ≤ C) {d2 : Dsk} {B1 : Option Addr} {m1 k1 : Nat} {B2 : Option Addr} {m2 k2 : Nat} {B3 : Option Addr} {m3 k3 : Nat} (h1 : Owns wc C 47 3 (.slice B1 m1 k1) (nodR d2.nods)) (h2 : Owns wc C 49 2 (.slice B2 m2 k2) (lnkR d2.dir)) (h3 : Owns wc C 51 4 (.slice B3 m3 k3) (movR d2.movs)) :
  DkX w g (((((wc.setCell ⟨g, 0, none⟩ (.int .i64 d2.room)).setCell ⟨g, 1, none⟩ (.int .i64 d2.next)).setCell ⟨g, 2, none⟩ (.slice B1 m1 k1)).setCell ⟨g, 3, none⟩ (.slice B2 m2 k2)).setCell ⟨g, 4, none⟩ (.slice B3 m3 k3)) d2 B1 m1 k1 B2 m2 k2 B3 m3 k3 := by
 have g1 := h1.mono hC
 have g2 := h2.mono hC
 have g3 := h3.mono hC
 exact ⟨blkC5 S.box, ownsC5n g1 (g1.notBlk S.box (by decide)) _ _ _ _ _, ownsC5n g2 (g2.notBlk S.box (by decide)) _ _ _ _ _, ownsC5n g3 (g3.notBlk S.box (by decide)) _ _ _ _ _, belowC5 S.b S.hg _ _ _ _ _, S.hg⟩
theorem DkX.poke (S : DkX w g wc d A1 n1 c1 A2 n2 c2 A3 n3 c3) {gy : Nat} {cs : Array Value} (hK : Blk wc gy cs 28) (hne : g ≠ gy) (hgy : w.heap.size ≤ gy) (k : Nat) (v : Value) : DkX w g (wc.setCell ⟨gy, k, none⟩ v) d A1 n1 c1 A2 n2 c2 A3 n3 c3 :=
 ⟨S.box.other hne k v, S.o1.other (S.o1.notBlk hK (by decide)) k v, S.o2.other (S.o2.notBlk hK (by decide)) k v, S.o3.other (S.o3.notBlk hK (by decide)) k v, S.b.setCell hgy v, S.hg⟩
end
set_option maxHeartbeats 1000000 in
theorem begins_yes (a s : ByteArray) (w : World) (h1 : a.size ≤ s.size) (h2 : s.extract 0 a.size = a) (hs : s.size ≤ maxLen) : Calls Tryz.prog 18 #[.string a, .string s] w fun e w' => e = .returned (.bool true) ∧ w' = w := by
 have q1 : (a.size : Int) ≤ (s.size : Int) := by omega
 unfold maxLen at hs
 go_enter Tryz.func18, Tryz.ntmps18
 go_wp2_with fail
 go_ret
 exact ⟨rfl, rfl⟩
theorem zero_fits : Fits zeroD ∧ IntsOk zeroD ∧ wtD zeroD ≤ 1048576 :=
 ⟨⟨Nat.zero_le _, Nat.zero_le _, Nat.zero_le _, fun x hx => (by cases hx), fun x hx => (by cases hx), fun x hx => (by cases hx)⟩, ⟨fun x hx => (by cases hx), fun x hx => (by cases hx)⟩, Nat.zero_le _⟩
def MidZ (d : Dsk) : Prop := (RD d ∧ bytesOf d.nods ≤ 300000) ∨ d = zeroD
theorem MidZ.fits {d : Dsk} (h : MidZ d) : Fits d ∧ IntsOk d ∧ wtD d ≤ 1048576 := by
 rcases h with ⟨h, hb⟩ | rfl
 ·exact h.mid hb
 ·exact zero_fits
theorem MidZ.not {d : Dsk} (h : MidZ d) (hk : diskOk d ≠ true) : d = zeroD := by
 rcases h with ⟨h, _⟩ | h
 ·exact absurd (RD.iff.2 h) hk
 ·exact h
end Go.Proofs.YtgjilgecklhglaaGreat
namespace Go.Proofs.YtgjilgecklhglaaGreat
open Go.RowKit Go.PlainAid
set_option linter.unusedVariables false
end Go.Proofs.YtgjilgecklhglaaGreat
namespace Go.Proofs.YtgjilgecklhglaaGreat
open Go.ChangeShapes Go.WideShapes Go.ChangeAt Go.RowKit Go.PlainAid
set_option linter.unusedVariables false
theorem run_append_all {P : Program} (w : World) (t ty e : TypeId) (z : Value) (sz bytes : Nat)
  (ht : P.underlying t = some (.slice e)) (hinfo : (P.info? e).map (fun i => (i.zero, i.size, i.bytes)) = some (some z, sz, bytes)) (hzs : z.cells.size = sz) (hsz : 0 < sz)
  (base : Nat) (v u : Value) (rows more : List (List Value)) (B : Nat) (hown : Owns w base e sz v rows) (hu : Lies w B sz u more) (h1 : ∀ r ∈ more, ∀ y ∈ r, y.oneCell' = true)
  (hlen : rows.length + more.length ≤ 2097152) (hby : bytes ≤ 1000) (hbase : base ≤ w.heap.size) :
  ∃ A m c w', (Builtin.append_ #[t, t] ty #[v, u]).run P w = .ok (.slice A m c) w' ∧ Owns w' base e sz (.slice A m c) (rows ++ more) ∧ Below base w w' ∧ (∀ g, g < w.heap.size → v.ownBlock ≠ some g → w'.heap[g]? = w.heap[g]?) := by
 obtain ⟨i0, hi, hz0, hz1, hz2⟩ := info_parts hinfo
 have hb1 : (rows.length + more.length) * bytes ≤ 140737488355328 := Nat.le_trans (Nat.mul_le_mul hlen hby) (by omega)
 obtain ⟨A, cap, rfl, hz, hms, hm⟩ := hu
 match A, hz, hm with
 | none, hz, hm =>
  have h0 : more.length = 0 := by
   rcases hm with h0 | ⟨g, off, e, _⟩
   ·exact h0
   ·cases e
  have hc0 := hz.1 rfl
  subst hc0
  have hnil : more = [] := List.eq_nil_of_length_eq_zero h0
  subst hnil
  have hr := run_append_owned_none (P := P) w base t ty e i0 sz ht hi v rows.length rows.flatten hown.2
  obtain ⟨A, m, c, rfl⟩ := hown.shape
  exact ⟨A, m, c, w, hr, by simpa using hown, Below.refl _ _, fun _ _ _ => rfl⟩
 | some ad, hz, hm =>
  have hnews : ∀ j y, more.flatten[j]? = some y → w.cell? (ad.add j) = some y := by
   intro j y hj
   rcases hm with h0 | ⟨g, off, e, hg, hc⟩
   ·rw [List.eq_nil_of_length_eq_zero h0] at hj
    simp at hj
   ·cases e
    have e1 : (⟨g, off, none⟩ : Addr).add j = ⟨g, off + j, none⟩ := by cases j <;> simp [Addr.add]
    rw [e1]
    exact hc j y hj
  have h1' : ∀ y ∈ more.flatten, y.oneCell' = true := by
   intro y hy
   obtain ⟨r, hr, hyr⟩ := List.mem_flatten.1 hy
   exact h1 r hr y hyr
  obtain ⟨v', w', hrun, h2, h3, _⟩ := run_append_own (P := P) w base t ty e i0 z sz bytes ht hi hz0 hz1 hz2 hzs hsz v rows.length rows.flatten hown.2 ad more.length cap more.flatten (flat_length sz more hms) hnews h1' (by unfold maxLen; omega) hb1 hbase
  have hb0 : ∀ k, v.ownBlock = some k → base ≤ k := fun k hk => (hown.lt k hk).1
  have hO : Owns w' base e sz v' (rows ++ more) := by
   refine ⟨?_, ?_⟩
   ·intro y hy
    rcases List.mem_append.1 hy with hy | hy
    ·exact hown.1 y hy
    ·exact hms y hy
   ·rw [List.length_append, List.flatten_append]
    exact h2
  obtain ⟨A, m, c, rfl⟩ := hO.shape
  exact ⟨A, m, c, w', hrun, hO, (Below.refl base w).grown h3 hbase hb0, fun g hg hne => h3.block g hg (fun e => hne e.symm)⟩
theorem lies_one {w : World} {g B : Nat} {a b c : Value} {t : TypeId} (h : Blk w g #[a, b, c] t) (hg : g < B) : Lies w B 3 (.slice (some ⟨g, 0, none⟩) 1 1) [[a, b, c]] := by
 refine ⟨some ⟨g, 0, none⟩, 1, rfl, ⟨by simp, Nat.le_refl _⟩, ?_, Or.inr ⟨g, 0, rfl, hg, ?_⟩⟩
 ·intro r hr
  rw [List.mem_singleton.1 hr]; rfl
 ·intro j x hx
  rw [Nat.zero_add]
  refine h.cell j x ?_
  simpa using hx
theorem lies_none {w : World} {B sz : Nat} {g : Nat} : Lies w B sz (.slice (some ⟨g, 0, none⟩) 0 0) [] :=
 ⟨some ⟨g, 0, none⟩, 0, rfl, ⟨by simp, Nat.le_refl _⟩, fun r hr => (by cases hr), Or.inl rfl⟩
theorem strs_look {w : World} {base : Nat} {v : Value} {l : List ByteArray} (h : Strs w base v l) : ∃ A ca, v = .slice A l.length ca ∧ ∀ j (hj : j < l.length), ∃ g, A = some ⟨g, 0, none⟩ ∧ g < w.heap.size ∧ w.cell? ⟨g, j, none⟩ = some (.string l[j]) := by
 rcases h.form with ⟨rfl, rfl⟩ | ⟨g, cap, rfl, _, hg⟩
 ·exact ⟨none, 0, rfl, fun j hj => (by simp at hj)⟩
 ·exact ⟨some ⟨g, 0, none⟩, cap, rfl, fun j hj => ⟨g, rfl, hg, h.cell j hj⟩⟩
end Go.Proofs.YtgjilgecklhglaaGreat
