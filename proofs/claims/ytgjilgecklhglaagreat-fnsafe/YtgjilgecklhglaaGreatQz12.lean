/- Cursor CurNew CurOnce Fix CurTx CurDk KdBox KdName KdBx KdCut -/
import Derived.Test.YtgjilgecklhglaaGreatRows
import Derived.WalkKit
import Derived.ProofKit
import Derived.OpenShut
import Derived.Below
import Derived.Handy
import Derived.WalkLawsBesides
import Derived.Outline
import Derived.BigQuiet
import Derived.Deep.QuietTactic
import Derived.Deep.OwnRows
import Derived.Deep.RegionHeld3
import Derived.Test.YtgjilgecklhglaaGreatQz10
import Derived.Deep.RegionWith
import Derived.Lib.OwnKind
import Derived.Deep.Cut
import Derived.Deep.CutRange
import Derived.Deep.CutBlock
import Derived.Test.YtgjilgecklhglaaGreatQz11
import Derived.Test.YtgjilgecklhglaaGreatQt0
import Derived.Test.YtgjilgecklhglaaGreatQt1
import Derived.Test.YtgjilgecklhglaaGreatQt2
import Derived.Test.YtgjilgecklhglaaGreatQt3
import Derived.Test.YtgjilgecklhglaaGreatQt4
import Derived.Test.YtgjilgecklhglaaGreatQt5
import Derived.Test.YtgjilgecklhglaaGreatQt6
import Derived.Test.YtgjilgecklhglaaGreatQt7
import Derived.Test.YtgjilgecklhglaaGreatQt8
import Derived.Test.YtgjilgecklhglaaGreatQt9
import Derived.Test.YtgjilgecklhglaaGreatQt10
import Derived.Test.YtgjilgecklhglaaGreatQt11
import Derived.Test.YtgjilgecklhglaaGreatQt12
import Derived.Test.YtgjilgecklhglaaGreatQt13
import Derived.Test.YtgjilgecklhglaaGreatQt14
import Derived.Test.YtgjilgecklhglaaGreatQt15
namespace Go.Proofs.YtgjilgecklhglaaGreat
open Go.ChangeShapes Go.WideShapes Go.ChangeAt Go.RowKit Go.PlainAid
set_option linter.unusedVariables false
end Go.Proofs.YtgjilgecklhglaaGreat
namespace Go.Proofs.YtgjilgecklhglaaGreat
open Go.ChangeShapes Go.WideShapes Go.ChangeAt Go.RowKit Go.PlainAid
set_option linter.unusedVariables false
end Go.Proofs.YtgjilgecklhglaaGreat
namespace Go.Proofs.YtgjilgecklhglaaGreat
open Go.ChangeShapes Go.WideShapes Go.ChangeAt Go.RowKit Go.PlainAid
set_option linter.unusedVariables false
end Go.Proofs.YtgjilgecklhglaaGreat
namespace Go.Proofs.YtgjilgecklhglaaGreat
open Go.ChangeShapes Go.WideShapes Go.ChangeAt Go.RowKit Go.PlainAid
set_option linter.unusedVariables false
end Go.Proofs.YtgjilgecklhglaaGreat
namespace Go.Proofs.YtgjilgecklhglaaGreat
open Go.ChangeShapes Go.WideShapes Go.ChangeAt Go.RowKit Go.PlainAid
set_option linter.unusedVariables false
end Go.Proofs.YtgjilgecklhglaaGreat
namespace Go.Proofs.YtgjilgecklhglaaGreat
open Go.ChangeShapes Go.WideShapes Go.ChangeAt Go.RowKit Go.PlainAid
set_option linter.unusedVariables false
end Go.Proofs.YtgjilgecklhglaaGreat
namespace Go.Proofs.YtgjilgecklhglaaGreat
open Go.ChangeShapes Go.WideShapes Go.ChangeAt Go.RowKit Go.PlainAid
set_option linter.unusedVariables false
section
variable {w wc w' : World} {p g r : Nat} {T : TypeId} {Z cs : Array Value}
end
section
variable {w wc w' : World} {p r : Nat} {T : TypeId} {Z : Array Value}
end
end Go.Proofs.YtgjilgecklhglaaGreat
namespace Go.Proofs.YtgjilgecklhglaaGreat
open Go.ChangeShapes Go.WideShapes Go.ChangeAt Go.RowKit Go.PlainAid
set_option linter.unusedVariables false
section
variable {w wc w' : World} {p g r : Nat} {d : Dsk} {A1 : Option Addr} {n1 c1 : Nat} {A2 : Option Addr} {n2 c2 : Nat} {A3 : Option Addr} {n3 c3 : Nat}
end
end Go.Proofs.YtgjilgecklhglaaGreat
namespace Go.Proofs.YtgjilgecklhglaaGreat
open Go.ChangeShapes Go.WideShapes Go.ChangeAt Go.RowKit Go.PlainAid
set_option linter.unusedVariables false
theorem blkO5 {w : World} {g r : Nat} {cs : Array Value} {t : TypeId} (h : Blk w r cs t) (hn : r ≠ g) (x0 x1 x2 x3 x4 : Value) : Blk (((((w.setCell ⟨g, 0, none⟩ x0).setCell ⟨g, 1, none⟩ x1).setCell ⟨g, 2, none⟩ x2).setCell ⟨g, 3, none⟩ x3).setCell ⟨g, 4, none⟩ x4) r cs t :=
 ((((h.other hn 0 x0).other hn 1 x1).other hn 2 x2).other hn 3 x3).other hn 4 x4
structure DkX (w : World) (g : Nat) (wc : World) (d : Dsk) (A1 : Option Addr) (n1 c1 : Nat) (A2 : Option Addr) (n2 c2 : Nat) (A3 : Option Addr) (n3 c3 : Nat) : Prop where
 box : Blk wc g #[.int .i64 d.room, .int .i64 d.next, .slice A1 n1 c1, .slice A2 n2 c2, .slice A3 n3 c3] 28
 o1 : Owns wc w.heap.size 47 3 (.slice A1 n1 c1) (nodR d.nods)
 o2 : Owns wc w.heap.size 49 2 (.slice A2 n2 c2) (lnkR d.dir)
 o3 : Owns wc w.heap.size 51 4 (.slice A3 n3 c3) (movR d.movs)
 b : Below w.heap.size w wc
 hg : w.heap.size ≤ g
section
variable {w wc w' : World} {g : Nat} {d : Dsk} {A1 : Option Addr} {n1 c1 : Nat} {A2 : Option Addr} {n2 c2 : Nat} {A3 : Option Addr} {n3 c3 : Nat}
theorem DkX.new {C : Nat} (h : DiskO wc C (.agg #[.int .i64 d.room, .int .i64 d.next, .slice A1 n1 c1, .slice A2 n2 c2, .slice A3 n3 c3]) d) (hC : w.heap.size ≤ C) (b : Below w.heap.size w wc) : DkX w wc.heap.size (wc.alloc (.cells #[.int .i64 d.room, .int .i64 d.next, .slice A1 n1 c1, .slice A2 n2 c2, .slice A3 n3 c3] 28)) d A1 n1 c1 A2 n2 c2 A3 n3 c3 := by
 have hal : Below wc.heap.size wc (wc.alloc (.cells #[.int .i64 d.room, .int .i64 d.next, .slice A1 n1 c1, .slice A2 n2 c2, .slice A3 n3 c3] 28)) := (Below.refl _ _).alloc (Nat.le_refl _) _
 obtain ⟨v1, v2, v3, e, h1, h2, h3⟩ := h
 cases e
 exact ⟨Blk.new wc _ _, (h1.mono hC).on hal, (h2.mono hC).on hal, (h3.mono hC).on hal, b.trans (hal.mono b.size), b.size⟩
theorem DkX.below (S : DkX w g wc d A1 n1 c1 A2 n2 c2 A3 n3 c3) (hb : Below wc.heap.size wc w') : DkX w g w' d A1 n1 c1 A2 n2 c2 A3 n3 c3 :=
 ⟨S.box.on hb S.box.lt, S.o1.on hb, S.o2.on hb, S.o3.on hb, S.b.trans (hb.mono S.b.size), S.hg⟩
theorem DkX.v (S : DkX w g wc d A1 n1 c1 A2 n2 c2 A3 n3 c3) : DiskV wc wc.heap.size (.agg #[.int .i64 d.room, .int .i64 d.next, .slice A1 n1 c1, .slice A2 n2 c2, .slice A3 n3 c3]) d := ⟨_, _, _, rfl, S.o1.lies, S.o2.lies, S.o3.lies⟩
theorem DkX.o (S : DkX w g wc d A1 n1 c1 A2 n2 c2 A3 n3 c3) : DiskO wc w.heap.size (.agg #[.int .i64 d.room, .int .i64 d.next, .slice A1 n1 c1, .slice A2 n2 c2, .slice A3 n3 c3]) d := ⟨_, _, _, rfl, S.o1, S.o2, S.o3⟩
theorem DkX.swap (S : DkX w g wc d A1 n1 c1 A2 n2 c2 A3 n3 c3) {C : Nat} (hC : w.heap.size ≤ C) {d2 : Dsk} {B1 : Option Addr} {m1 k1 : Nat} {B2 : Option Addr} {m2 k2 : Nat} {B3 : Option Addr} {m3 k3 : Nat} (h1 : Owns wc C 47 3 (.slice B1 m1 k1) (nodR d2.nods)) (h2 : Owns wc C 49 2 (.slice B2 m2 k2) (lnkR d2.dir)) (h3 : Owns wc C 51 4 (.slice B3 m3 k3) (movR d2.movs)) :
  DkX w g (((((wc.setCell ⟨g, 0, none⟩ (.int .i64 d2.room)).setCell ⟨g, 1, none⟩ (.int .i64 d2.next)).setCell ⟨g, 2, none⟩ (.slice B1 m1 k1)).setCell ⟨g, 3, none⟩ (.slice B2 m2 k2)).setCell ⟨g, 4, none⟩ (.slice B3 m3 k3)) d2 B1 m1 k1 B2 m2 k2 B3 m3 k3 := by
 have g1 := h1.mono hC
 have g2 := h2.mono hC
 have g3 := h3.mono hC
 exact ⟨blkC5 S.box, ownsC5n g1 (g1.notBlk S.box (by decide)) _ _ _ _ _, ownsC5n g2 (g2.notBlk S.box (by decide)) _ _ _ _ _, ownsC5n g3 (g3.notBlk S.box (by decide)) _ _ _ _ _, belowC5 S.b S.hg _ _ _ _ _, S.hg⟩
end
set_option maxHeartbeats 1000000 in
theorem begins_yes (a s : ByteArray) (w : World) (h1 : a.size ≤ s.size) (h2 : s.extract 0 a.size = a) (hs : s.size ≤ maxLen) : Calls Tryz.prog 18 #[.string a, .string s] w fun e w' => e = .returned (.bool true) ∧ w' = w := by
 have q1 : (a.size : Int) ≤ (s.size : Int) := by omega
 unfold maxLen at hs
 go_enter Tryz.func18, Tryz.ntmps18
 go_wp2_with fail
 go_ret
 exact ⟨rfl, rfl⟩
theorem zero_fits : Fits zeroD ∧ IntsOk zeroD ∧ wtD zeroD ≤ 1048576 :=
 ⟨⟨Nat.zero_le _, Nat.zero_le _, Nat.zero_le _, fun x hx => (by cases hx), fun x hx => (by cases hx), fun x hx => (by cases hx)⟩, ⟨fun x hx => (by cases hx), fun x hx => (by cases hx)⟩, Nat.zero_le _⟩
def MidZ (d : Dsk) : Prop := (RD d ∧ bytesOf d.nods ≤ 300000) ∨ d = zeroD
theorem MidZ.fits {d : Dsk} (h : MidZ d) : Fits d ∧ IntsOk d ∧ wtD d ≤ 1048576 := by
 rcases h with ⟨h, hb⟩ | rfl
 ·exact h.mid hb
 ·exact zero_fits
theorem MidZ.not {d : Dsk} (h : MidZ d) (hk : diskOk d ≠ true) : d = zeroD := by
 rcases h with ⟨h, _⟩ | h
 ·exact absurd (RD.iff.2 h) hk
 ·exact h
theorem syncDir_bytes (d : Dsk) : bytesOf (syncDirD d).nods ≤ bytesOf d.nods := by
 have := bytes_filter (fun x => linked (now d) x.id) d.nods
 show bytesOf (keptN (now d) d.nods) ≤ _
 unfold keptN
 omega
theorem sync_midz {d : Dsk} (h : Small d) (nm : ByteArray) : MidZ (syncR d nm).1 := by
 unfold syncR
 by_cases hk : diskOk d = true
 ·rw [if_pos hk]
  have := sync_bytes d nm
  have := h.b
  exact .inl ⟨(RD.iff.1 hk).sync nm, by show bytesOf (syncD d nm).nods ≤ _; omega⟩
 ·rw [if_neg hk]; exact .inr rfl
theorem syncDir_midz {d : Dsk} (h : MidZ d) : MidZ (syncDirR d).1 := by
 unfold syncDirR
 by_cases hk : diskOk d = true
 ·rw [if_pos hk]
  rcases h with ⟨h, hb⟩ | h
  ·have := syncDir_bytes d
   exact .inl ⟨h.syncDir, by show bytesOf (syncDirD d).nods ≤ _; omega⟩
  ·subst h; exact absurd hk (by rw [zero_not]; decide)
 ·rw [if_neg hk]; exact .inr rfl
theorem two_kept {d : Dsk} (h : Small d) {nm : ByteArray} (hc : (syncR d nm).2 = 0) : (syncDirR (syncR d nm).1).2 = 0 ∧ Kept (syncDirR (syncR d nm).1).1 nm (loadR (syncDirR (syncR d nm).1).1 nm).1 ⟨#[]⟩ ∧ (loadR (syncDirR (syncR d nm).1).1 nm).2 = true ∧ bytesOf (syncDirR (syncR d nm).1).1.nods ≤ 200000 ∧ nameOk nm = true := by
 by_cases hk : diskOk d = true
 ·have e1 : syncR d nm = (syncD d nm, named d nm) := by unfold syncR; rw [if_pos hk]
  rw [e1] at hc ⊢
  have hR := (RD.iff.1 hk).sync nm
  have hk1 : diskOk (syncD d nm) = true := RD.iff.2 hR
  have e2 : syncDirR (syncD d nm) = (syncDirD (syncD d nm), 0) := by unfold syncDirR; rw [if_pos hk1]
  show (syncDirR (syncD d nm)).2 = 0 ∧ _
  rw [show (syncD d nm, named d nm).1 = syncD d nm from rfl, e2]
  obtain ⟨data, hK, hl⟩ := synced_kept (RD.iff.1 hk) (show named d nm = 0 from hc)
  have h1 := syncDir_bytes (syncD d nm)
  have h2 := sync_bytes d nm
  have h3 := h.b
  rw [show (syncDirD (syncD d nm), (0 : Int)).1 = syncDirD (syncD d nm) from rfl, hl]
  exact ⟨rfl, hK, rfl, by omega, (named_zero hc).1⟩
 ·have e1 : syncR d nm = (zeroD, 1) := by unfold syncR; rw [if_neg hk]
  rw [e1] at hc
  exact absurd hc (by decide)
theorem Kept.data_size {d : Dsk} {name data rest : ByteArray} (h : Kept d name data rest) : data.size + rest.size ≤ bytesOf d.nods := by
 obtain ⟨y, ⟨x, _, _, hy, _⟩, hd, _⟩ := h.le
 have := bytes_mem _ y hy
 rw [hd, ByteArray.size_append] at this
 exact this
end Go.Proofs.YtgjilgecklhglaaGreat
namespace Go.Proofs.YtgjilgecklhglaaGreat
open Go.RowKit Go.PlainAid
set_option linter.unusedVariables false
end Go.Proofs.YtgjilgecklhglaaGreat
