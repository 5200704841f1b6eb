/-
  The walk of FnExactReadFile.
-/
import Derived.Test.YthgiekeiljflaaaGreatDoorFlReadS
import Derived.Test.YthgiekeiljflaaaGreatDoorSrMk
import Derived.WalkKit
import Derived.ProofKit
import Derived.OpenShut
import Derived.Below
import Derived.WalkSmall
import Derived.BigQuiet
import Derived.Deep.QuietTactic
import Derived.Deep.RegionWith
import Derived.Handy
namespace Go.Proofs.YthgiekeiljflaaaGreatDoor
open Go.ChangeShapes Go.WideShapes Go.ChangeAt Go.RowKit Go.PlainAid
set_option linter.unusedVariables false

theorem SerO.short {s : ByteArray} {L : List (Ser × Value)} {ok : Bool} (h : RfAns s (L.map Prod.fst) ok) : L.length ≤ 5 ∧ ∀ q ∈ L, q.1.pts.length ≤ 60 := by
  refine ⟨by have := h.len; rw [List.length_map] at this; exact this, fun q hq => h.short _ (List.mem_map.2 ⟨q, hq, rfl⟩)⟩
theorem RfAns.sshort {s : ByteArray} {l : List Ser} {ok : Bool} (h : RfAns s l ok) : SShort l := ⟨by have := h.len; omega, fun x hx => by have := h.short x hx; omega⟩
set_option maxHeartbeats 4000000 in
theorem law_fnExactReadFile (s : ByteArray) (w : World) (hs : s.size ≤ maxLen) (hst : SumTab w) (a0 a1 a2 : Addr) (he : Errs w a0 a1 a2) : Calls Tryz.prog 3 #[.string s] w fun e w' => e = .returned (.bool true) ∧ Below w.heap.size w w' := by
  have ST : Hid (SumTab w) := hst
  have ER : Hid (Errs w a0 a1 a2) := he
  have q0 : (s.size : Int) ≤ 9223372036854775807 := by unfold maxLen at hs; omega
  clear hst he hs
  by_cases hbig : (1048576 : Int) < (s.size : Int)
  · go_enter Tryz.func3, Tryz.ntmps3
    go_wp2_with fail
    go_ret
    exact ⟨rfl, Below.refl _ _⟩
  have HS : Hid (s.size ≤ 1048576) := by unfold Hid; omega
  have q1 : (s.size : Int) ≤ 1048576 := by omega
  clear hbig
  go_enter Tryz.func3, Tryz.ntmps3
  go_wp2_with fail
  refine (specReadFile s w HS.out).mono ?_
  rintro e w1 ⟨⟨u1, L1, ok1, hR1, rfl, hO1⟩, hb1⟩
  have B1 : Hid (Below w.heap.size w w1) := hb1
  have O1 : Hid (SerO w1 w.heap.size u1 L1) := hO1
  have R1 : Hid (RfAns s (L1.map Prod.fst) ok1) := hR1
  clear hb1 hO1 hR1
  go_wp2_with fail
  refine (implReadFile s w1 HS.out (ST.out.on B1.out) a0 a1 a2 (ER.out.on B1.out)).mono ?_
  rintro e w2 ⟨⟨u2, L2, ok2, hR2, rfl, hO2⟩, hb2⟩
  obtain ⟨eL, rfl⟩ := hR2.one R1.out
  have EL : Hid (L2.map Prod.fst = L1.map Prod.fst) := eL
  have SH : Hid (L2.length ≤ 5 ∧ ∀ q ∈ L2, q.1.pts.length ≤ 60) := SerO.short hR2
  have SS : Hid (SShort (L1.map Prod.fst)) := R1.out.sshort
  have C2 : Hid (Below w1.heap.size w1 w2) := hb2
  have B2 : Hid (Below w.heap.size w w2) := B1.out.trans (hb2.mono B1.out.size)
  have O2 : Hid (SerO w2 w1.heap.size u2 L2) := hO2
  clear eL hb2 hO2 hR2
  have hok : (ok2 != ok2) = false := by cases ok2 <;> rfl
  have V2 : Hid (SerV w2 w2.heap.size u2 (L1.map Prod.fst)) := ⟨L2, EL.out, O2.out.lies⟩
  have V1 : Hid (SerV w2 w2.heap.size u1 (L1.map Prod.fst)) := (O1.out.on C2.out).view
  go_wp2_with fail
  refine (eqSeriesS (L1.map Prod.fst) u2 u1 w2 w2.heap.size V2.out V1.out SS.out (Nat.le_refl _)).mono ?_
  rintro e w3 ⟨rfl, hb3⟩
  have C3 : Hid (Below w1.heap.size w1 w3) := C2.out.trans (hb3.mono C2.out.size)
  have B3 : Hid (Below w.heap.size w w3) := B2.out.trans (hb3.mono B2.out.size)
  have O3 : Hid (SerO w3 w1.heap.size u2 L2) := O2.out.on hb3
  clear hb3 V2 V1
  have cm := markSeriesS 1 w1.heap.size u2 L2 w3 O3.out SH.out.1 SH.out.2 (by omega) (by omega) C3.out.size
  go_wp2_with fail
  refine cm.mono ?_
  rintro e w4 ⟨rfl, hM, hb4⟩
  have C4 : Hid (Below w1.heap.size w1 w4) := C3.out.trans hb4
  have B4 : Hid (Below w.heap.size w w4) := B3.out.trans (hb4.mono B1.out.size)
  have M4 : Hid (SMk w4 w1.heap.size 1 u2 L2) := hM
  have hk1 := (kAt_le (k := 1) SH.out.2 L2.length (Nat.le_refl _)).1
  have c5 := fun wx (h : SMk wx w1.heap.size 1 u2 L2) => heldSeriesS 1 w1.heap.size u2 L2 wx h SH.out.1 SH.out.2 (by omega) (by omega)
  generalize kAt 1 L2 L2.length = kk at *
  have dk : decide ((kk : Int) < 0) = false := decide_eq_false (by omega)
  clear hM hb4 cm
  go_wp2_with fail
  refine (c5 _ M4.out).mono ?_
  rintro e w5 ⟨rfl, hb5⟩
  have C5 : Hid (Below w1.heap.size w1 w5) := C4.out.trans (hb5.mono C4.out.size)
  have B5 : Hid (Below w.heap.size w w5) := B4.out.trans (hb5.mono B4.out.size)
  have M5 : Hid (SMk w5 w1.heap.size 1 u2 L2) := M4.out.on hb5
  clear hb5
  go_wp2_with fail
  refine (implReadFile s w5 HS.out (ST.out.on B5.out) a0 a1 a2 (ER.out.on B5.out)).mono ?_
  rintro e w6 ⟨⟨u3, L3, ok3, hR3, rfl, hO3⟩, hb6⟩
  obtain ⟨eL3, rfl⟩ := hR3.one R1.out
  have C6 : Hid (Below w1.heap.size w1 w6) := C5.out.trans (hb6.mono C5.out.size)
  have B6 : Hid (Below w.heap.size w w6) := B5.out.trans (hb6.mono B5.out.size)
  have M6 : Hid (SMk w6 w1.heap.size 1 u2 L2) := M5.out.on hb6
  have V3 : Hid (SerV w6 w6.heap.size u3 (L1.map Prod.fst)) := ⟨L3, eL3, hO3.lies⟩
  have V1 : Hid (SerV w6 w6.heap.size u1 (L1.map Prod.fst)) := (O1.out.on C6.out).view
  clear hb6 hO3 hR3 eL3
  go_wp2_with fail
  refine (eqSeriesS (L1.map Prod.fst) u3 u1 w6 w6.heap.size V3.out V1.out SS.out (Nat.le_refl _)).mono ?_
  rintro e w7 ⟨rfl, hb7⟩
  have B7 : Hid (Below w.heap.size w w7) := B6.out.trans (hb7.mono B6.out.size)
  have M7 : Hid (SMk w7 w1.heap.size 1 u2 L2) := M6.out.on hb7
  clear hb7
  go_wp2_with fail
  refine (c5 _ M7.out).mono ?_
  rintro e w8 ⟨rfl, hb8⟩
  have B8 : Hid (Below w.heap.size w w8) := B7.out.trans (hb8.mono B7.out.size)
  clear hb8
  go_wp2_with fail
  go_ret
  exact ⟨rfl, B8.out⟩
end Go.Proofs.YthgiekeiljflaaaGreatDoor
