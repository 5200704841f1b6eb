/- ImOpen ImChange ImFind ImMoveO DkMakeA ImSyncA DkOk -/
import Derived.Test.YtgjilgecklhglaaGreatRows
import Derived.Deep.RegionWith
import Derived.Deep.RegionHeld3
import Derived.Deep.QuietTactic
import Derived.BigQuiet
import Derived.Test.YtgjilgecklhglaaGreatQt0
import Derived.Test.YtgjilgecklhglaaGreatQt1
import Derived.Test.YtgjilgecklhglaaGreatQt2
import Derived.Test.YtgjilgecklhglaaGreatQt3
import Derived.Test.YtgjilgecklhglaaGreatQt4
import Derived.Test.YtgjilgecklhglaaGreatQt5
import Derived.Test.YtgjilgecklhglaaGreatQt6
import Derived.Test.YtgjilgecklhglaaGreatQt7
import Derived.Test.YtgjilgecklhglaaGreatQt8
import Derived.Test.YtgjilgecklhglaaGreatQt9
import Derived.Test.YtgjilgecklhglaaGreatQt10
import Derived.Test.YtgjilgecklhglaaGreatQt11
import Derived.Test.YtgjilgecklhglaaGreatQt12
open List (setIfInBounds_toArray set_cons_zero set_cons_succ)
namespace Go.Proofs.YtgjilgecklhglaaGreat
open Go.ChangeShapes Go.WideShapes Go.ChangeAt Go.RowKit Go.PlainAid Go.Maps
set_option linter.unusedVariables false
end Go.Proofs.YtgjilgecklhglaaGreat
namespace Go.Proofs.YtgjilgecklhglaaGreat
open Go.ChangeShapes Go.WideShapes Go.ChangeAt Go.RowKit Go.PlainAid
set_option linter.unusedVariables false
end Go.Proofs.YtgjilgecklhglaaGreat
namespace Go.Proofs.YtgjilgecklhglaaGreat
open Go.ChangeShapes Go.WideShapes Go.ChangeAt Go.RowKit Go.PlainAid Go.Maps
set_option linter.unusedVariables false
theorem find_bad {d : Dsk} (hd : Whole d) {name : ByteArray} (h : nameOk name = false) : find d name = none := by
 unfold find
 rcases hat : linkAt (now d) name with _ | i
 ·rfl
 ·have := (now_linked hd).ok.at hat
  rw [h] at this
  cases this
end Go.Proofs.YtgjilgecklhglaaGreat
namespace Go.Proofs.YtgjilgecklhglaaGreat
open Go.ChangeShapes Go.WideShapes Go.ChangeAt Go.RowKit Go.PlainAid
set_option linter.unusedVariables false
end Go.Proofs.YtgjilgecklhglaaGreat
namespace Go.Proofs.YtgjilgecklhglaaGreat
open Go.ChangeShapes Go.WideShapes Go.ChangeAt Go.RowKit Go.PlainAid
set_option linter.unusedVariables false
set_option maxHeartbeats 1000000 in
theorem make1V (w : World) (base p : Nat) (d : Dsk) (bi bd bw : Nat) (gs : List Nat) (u : Value) (name : ByteArray) (b0 : Nat) (h : OpenD w base p d bi bd bw gs u) (hd : Whole d) (hw : wtD d ≤ 1048576) (hs0 : name.size ≤ maxLen) (hB : base ≤ w.heap.size) (hc0 : w.cell? ⟨b0, 0, none⟩ = some (.string name)) :
  Calls Tryz.prog 41 #[.pointer (some ⟨p, 0, none⟩), .pointer (some ⟨b0, 0, none⟩)] w fun e w' => e = .returned (.int .i64 (makeC d name)) ∧ Tellable w' p (makeD d name) ∧ Below base w w' := by
 have cF := makeFileV w base p d bi bd bw gs u name h hd hw hs0 hB
 clear h hd hw hB hs0
 go_enter Tryz.func41, Tryz.ntmps41
 go_wp2_with fail
 refine cF.mono ?_
 rintro e w1 ⟨rfl, hT, hb⟩
 have HT : Hid (Tellable w1 p (makeD d name)) := hT
 clear hT
 go_wp2_with fail
 go_ret
 exact ⟨rfl, HT.out, hb⟩
set_option maxRecDepth 20000 in
set_option maxHeartbeats 2000000 in
theorem implMakeV (d : Dsk) (v : Value) (name : ByteArray) (w : World) (B : Nat) (hv : DiskV w B v d) (hf : Fits d) (hi : IntsOk d) (hw : wtD d ≤ 1048576) (hB : B ≤ w.heap.size) (hs0 : name.size ≤ maxLen) :
  Calls Tryz.prog 14 #[v, .string name] w fun e w' => ∃ x, e = .returned (.tuple #[x, .int .i64 (makeR d name).2]) ∧ DiskO w' w.heap.size x (makeR d name).1 ∧ Below w.heap.size w w' := by
 have HV : Hid (DiskV w B v d) := hv
 have HB : Hid (B ≤ w.heap.size) := hB
 have HF : Hid (Fits d) := hf
 have HI : Hid (IntsOk d) := hi
 have HW : Hid (wtD d ≤ 1048576) := hw
 have HS0 : Hid (name.size ≤ maxLen) := hs0
 obtain ⟨v1, v2, v3, rfl, h1, h2, h3⟩ := hv
 clear h1 h2 h3 hB hf hi hw hs0
 go_enter Tryz.func14, Tryz.ntmps14
 go_wp2_with fail
 have hsz : (((w.alloc (.cells #[.int .i64 d.room, .int .i64 d.next, v1, v2, v3] 28)).alloc (.cells #[.string name] 9)).alloc (.cells #[.int .i64 0, .int .i64 0, .slice none 0 0, .slice none 0 0, .slice none 0 0] 28)).heap.size = w.heap.size + 1 + 1 + 1 := by simp
 have hb0 : Below w.heap.size w ((w.alloc (.cells #[.int .i64 d.room, .int .i64 d.next, v1, v2, v3] 28)).alloc (.cells #[.string name] 9)) := (((Below.refl _ w).alloc (Nat.le_refl _) _).alloc (by simp only [World.size_alloc]; omega) _)
 have bR := Blk.new ((w.alloc (.cells #[.int .i64 d.room, .int .i64 d.next, v1, v2, v3] 28)).alloc (.cells #[.string name] 9)) #[.int .i64 0, .int .i64 0, .slice none 0 0, .slice none 0 0, .slice none 0 0] 28
 have bn0 := Blk.new (w.alloc (.cells #[.int .i64 d.room, .int .i64 d.next, v1, v2, v3] 28)) #[.string name] 9
 simp only [World.size_alloc] at bR bn0
 have cn0 := (bn0.alloc (.cells #[.int .i64 0, .int .i64 0, .slice none 0 0, .slice none 0 0, .slice none 0 0] 28))
 have hb1 := hb0.alloc (by simp only [World.size_alloc]; omega) (.cells #[.int .i64 0, .int .i64 0, .slice none 0 0, .slice none 0 0, .slice none 0 0] 28)
 clear hb0 bn0
 generalize ((w.alloc (.cells #[.int .i64 d.room, .int .i64 d.next, v1, v2, v3] 28)).alloc (.cells #[.string name] 9)).alloc (.cells #[.int .i64 0, .int .i64 0, .slice none 0 0, .slice none 0 0, .slice none 0 0] 28) = W at *
 have B0 : Hid (Below w.heap.size w W) := hb1
 have R0 : Hid (Blk W (w.heap.size + 1 + 1) #[.int .i64 0, .int .i64 0, .slice none 0 0, .slice none 0 0, .slice none 0 0] 28) := bR
 have N0 : Hid (Blk W (w.heap.size + 1) #[.string name] 9) := cn0
 have SZ : Hid (W.heap.size = w.heap.size + 1 + 1 + 1) := hsz
 clear hb1 bR hsz cn0
 have cC := changedV d (.agg #[.int .i64 d.room, .int .i64 d.next, v1, v2, v3]) W B (HV.out.on (B0.out.mono HB.out)) HF.out HI.out HW.out (Nat.le_trans HB.out B0.out.size) 41 #[.pointer (some ⟨w.heap.size + 1, 0, none⟩)] (makeD d name) (makeC d name) (enters_of Tryz.func41 (by kernel_rfl) rfl)
  (fun w1 base p bi bd bw gs u hd hb hl hl2 hO => make1V w1 base p d bi bd bw gs u name (w.heap.size + 1) hO hd HW.out HS0.out hl2 ((N0.out.on hb N0.out.lt).cell 0 _ rfl))
 have hmf : ∀ (fn : Fn) (first cap : Array Value) (w : World), (Instr.makeFunc fn first cap).run Tryz.prog w = .ok (.func fn first cap) w := fun _ _ _ _ => rfl
 try go_wp2_with fail
 refine cC.mono ?_
 rintro e w3 ⟨x, y, rfl, hx, hb3⟩
 have B3 : Hid (Below w.heap.size w w3) := B0.out.trans (hb3.mono B0.out.size)
 have R3 : Hid (Blk w3 (w.heap.size + 1 + 1) #[.int .i64 0, .int .i64 0, .slice none 0 0, .slice none 0 0, .slice none 0 0] 28) := R0.out.on hb3 R0.out.lt
 have HX : Hid (y = (makeR d name).2 ∧ DiskO w3 w.heap.size x (makeR d name).1) := by
  rcases hx with ⟨hk, rfl, ho⟩ | ⟨hk, rfl, ho⟩
  ·rw [makeR_yes hk]
   exact ⟨rfl, ho.mono B0.out.size⟩
  ·rw [makeR_no hk]
   exact ⟨rfl, ho.mono B0.out.size⟩
 clear cC hx hb3
 generalize hRR : makeR d name = RR at HX
 obtain ⟨rfl, hO3⟩ := HX.out
 obtain ⟨x1, x2, x3, rfl, o1, o2, o3⟩ := hO3
 obtain ⟨A1, m1, k1, rfl⟩ := o1.shape
 obtain ⟨A2, m2, k2, rfl⟩ := o2.shape
 obtain ⟨A3, m3, k3, rfl⟩ := o3.shape
 have O1 : Hid (Owns w3 w.heap.size 47 3 (.slice A1 m1 k1) (nodR RR.1.nods)) := o1
 have O2 : Hid (Owns w3 w.heap.size 49 2 (.slice A2 m2 k2) (lnkR RR.1.dir)) := o2
 have O3 : Hid (Owns w3 w.heap.size 51 4 (.slice A3 m3 k3) (movR RR.1.movs)) := o3
 clear HX o1 o2 o3
 have g0 := R3.out.cell 0 _ rfl
 have f0 := R3.out.free 0
 have g1 := R3.out.cell 1 _ rfl
 have f1 := R3.out.free 1
 have g2 := R3.out.cell 2 _ rfl
 have f2 := R3.out.free 2
 have g3 := R3.out.cell 3 _ rfl
 have f3 := R3.out.free 3
 have g4 := R3.out.cell 4 _ rfl
 have f4 := R3.out.free 4
 go_wp2_with fail
 have hg : w.heap.size ≤ w.heap.size + 1 + 1 := by omega
 have hB := B3.out
 have FB := (((((hB.setCell hg (.int .i64 RR.1.room) (p := ⟨_, 0, none⟩)).setCell hg (.int .i64 RR.1.next) (p := ⟨_, 1, none⟩)).setCell hg (.slice A1 m1 k1) (p := ⟨_, 2, none⟩)).setCell hg (.slice A2 m2 k2) (p := ⟨_, 3, none⟩)).setCell hg (.slice A3 m3 k3) (p := ⟨_, 4, none⟩))
 have hF := (((((R3.out.set 0 (.int .i64 RR.1.room)).set 1 (.int .i64 RR.1.next)).set 2 (.slice A1 m1 k1)).set 3 (.slice A2 m2 k2)).set 4 (.slice A3 m3 k3))
 have mm0 := O1.out.notBlk R3.out (by decide)
 have F0 := (((((O1.out.other mm0 0 (.int .i64 RR.1.room)).other mm0 1 (.int .i64 RR.1.next)).other mm0 2 (.slice A1 m1 k1)).other mm0 3 (.slice A2 m2 k2)).other mm0 4 (.slice A3 m3 k3))
 have mm1 := O2.out.notBlk R3.out (by decide)
 have F1 := (((((O2.out.other mm1 0 (.int .i64 RR.1.room)).other mm1 1 (.int .i64 RR.1.next)).other mm1 2 (.slice A1 m1 k1)).other mm1 3 (.slice A2 m2 k2)).other mm1 4 (.slice A3 m3 k3))
 have mm2 := O3.out.notBlk R3.out (by decide)
 have F2 := (((((O3.out.other mm2 0 (.int .i64 RR.1.room)).other mm2 1 (.int .i64 RR.1.next)).other mm2 2 (.slice A1 m1 k1)).other mm2 3 (.slice A2 m2 k2)).other mm2 4 (.slice A3 m3 k3))
 clear g0 f0 g1 f1 g2 f2 g3 f3 g4 f4
 generalize (((((w3.setCell ⟨w.heap.size + 1 + 1, 0, none⟩ (.int .i64 RR.1.room)).setCell ⟨w.heap.size + 1 + 1, 1, none⟩ (.int .i64 RR.1.next)).setCell ⟨w.heap.size + 1 + 1, 2, none⟩ (.slice A1 m1 k1)).setCell ⟨w.heap.size + 1 + 1, 3, none⟩ (.slice A2 m2 k2)).setCell ⟨w.heap.size + 1 + 1, 4, none⟩ (.slice A3 m3 k3)) = WF at *
 have hG : Blk WF (w.heap.size + 1 + 1) #[.int .i64 RR.1.room, .int .i64 RR.1.next, .slice A1 m1 k1, .slice A2 m2 k2, .slice A3 m3 k3] 28 := hF
 have l0 := hG.cell 0 (.int .i64 RR.1.room) rfl
 have l1 := hG.cell 1 (.int .i64 RR.1.next) rfl
 have l2 := hG.cell 2 (.slice A1 m1 k1) rfl
 have l3 := hG.cell 3 (.slice A2 m2 k2) rfl
 have l4 := hG.cell 4 (.slice A3 m3 k3) rfl
 exact bodyPost_ret (v := .tuple #[.agg #[.int .i64 RR.1.room, .int .i64 RR.1.next, .slice A1 m1 k1, .slice A2 m2 k2, .slice A3 m3 k3], .int .i64 RR.2]) (by simp [results, go_sem, l0, l1, l2, l3, l4]) rfl (by rw [hRR]; exact ⟨_, rfl, ⟨_, _, _, rfl, F0, F1, F2⟩, FB⟩)
end Go.Proofs.YtgjilgecklhglaaGreat
namespace Go.Proofs.YtgjilgecklhglaaGreat
open Go.ChangeShapes Go.WideShapes Go.ChangeAt Go.RowKit Go.PlainAid
set_option linter.unusedVariables false
end Go.Proofs.YtgjilgecklhglaaGreat
namespace Go.Proofs.YtgjilgecklhglaaGreat
open Go.ChangeShapes Go.WideShapes Go.ChangeAt Go.RowKit Go.PlainAid
set_option linter.unusedVariables false
end Go.Proofs.YtgjilgecklhglaaGreat
