/- SrAid OpDef PtOk BtOk BtRise BldLay BtDif BtTim -/
import Derived.Test.YtgbepickfhbknaaGreatDoorQr3
import Derived.Test.YtgbepickfhbknaaGreatDoorRows
import Derived.Test.YtgbepickfhbknaaGreatDoorQr1
import Derived.Test.YtgbepickfhbknaaGreatDoorQr2
import Derived.Shelf.Strings.BuilderK
import Derived.WalkKit
import Derived.Below
open List (setIfInBounds_toArray set_cons_zero set_cons_succ)
namespace Go.Proofs.YtgbepickfhbknaaGreatDoor
open Go.RowKit Go.PlainAid
def KOk (s : ByteArray) : Prop := 1 ≤ s.size ∧ s.size ≤ 8 ∧ ∀ j, j < s.size → 97 ≤ bn s j ∧ bn s j ≤ 122
def ahd (a b : ByteArray) : Bool := Op.bytesLess a.toList b.toList
theorem toList_inj {a b : ByteArray} (h : a.toList = b.toList) : a = b := by
 rw [Lib.toList_data, Lib.toList_data] at h
 rw [← txt_toList a, ← txt_toList b, h]
def sAt (l : List Ser) (j : Nat) : Ser := l.getD j default
def SOk (l : List Ser) : Prop := l.length ≤ 5 ∧ ∀ j, j < l.length → (KOk (sAt l j).key ∧ (0 < j → ahd (sAt l (j - 1)).key (sAt l j).key = true)) ∧ 1 ≤ (sAt l j).pts.length ∧ POk (sAt l j).pts
instance (s : ByteArray) : Decidable (KOk s) := by unfold KOk; infer_instance
instance (l : List Ser) : Decidable (SOk l) := by unfold SOk; infer_instance
theorem SOk.nil : SOk [] := ⟨by simp, fun j hj => by simp at hj⟩
end Go.Proofs.YtgbepickfhbknaaGreatDoor
namespace Go.Proofs.YtgbepickfhbknaaGreatDoor
open Go.ChangeShapes Go.WideShapes Go.ChangeAt Go.RowKit Go.PlainAid
set_option linter.unusedVariables false
def emB (s : ByteArray) : Bool := s.toList.isEmpty
theorem em_facts {s : ByteArray} (h : ¬ s = ⟨#[]⟩) : (s.toList == []) = false ∧ (([] : List UInt8) == s.toList) = false ∧ s.toList.isEmpty = false ∧ emB s = false := by
 have h0 : ¬ s.toList = [] := fun e => by
  rw [Lib.toList_data] at e
  exact h (ByteArray.ext (Array.toList_inj.1 e))
 have h1 : s.toList.isEmpty = false := by simpa using h0
 exact ⟨by simpa using h0, by simpa using h0, h1, h1⟩
theorem em_nil : emB ⟨#[]⟩ = true := by unfold emB; rw [Lib.toList_data]; rfl
def zB (i : Int) : Bool := decide (i = 0)
theorem z_facts {i : Int} (h : ¬ i = 0) : (i == 0) = false ∧ ((0 : Int) == i) = false ∧ zB i = false := ⟨by simpa using h, by simpa using fun e => h e.symm, decide_eq_false h⟩
theorem z_nil : zB 0 = true := rfl
def spanB (f t : Int) : Bool := decide (0 ≤ f) && decide (f < t) && decide (t ≤ 1099511627776)
open Classical in
noncomputable def rdB (s : ByteArray) : Bool := decide (∃ l, RbAns s l true)
open Classical in
theorem rdB_is {s : ByteArray} {l : List Pnt} {ok : Bool} (h : RbAns s l ok) : rdB s = ok := by
 unfold rdB
 cases ok
 ·exact decide_eq_false fun ⟨m, hm⟩ => by have := (h.one hm).2; cases this
 ·exact decide_eq_true ⟨l, h⟩
open Classical in
noncomputable def keyB (s : ByteArray) : Bool := decide (KOk s)
noncomputable def opOk (x : Opx) : Bool :=
 if x.kind = 1 then spanB x.frm x.til && emB x.key && emB x.data
 else if x.kind = 2 ∨ x.kind = 6 then inRg x.frm 0 1099511627776 && emB x.key && zB x.til && emB x.data
 else if x.kind = 3 then inRg x.frm 0 100000 && emB x.key && zB x.til && emB x.data
 else if x.kind = 4 then keyB x.key && rdB x.data && zB x.frm && zB x.til
 else if x.kind = 5 then keyB x.key && spanB x.frm x.til && emB x.data
 else if x.kind = 7 then emB x.key && zB x.frm && zB x.til && emB x.data
 else false
set_option maxHeartbeats 400000 in
theorem implSpanOk (f t : Int) (w : World) : Calls Tryz.prog 35 #[.int .i64 f, .int .i64 t] w fun e w' => e = .returned (.bool (spanB f t)) ∧ w = w' := by
 unfold spanB
 by_cases h1 : 0 ≤ f
 ·rw [decide_eq_true h1]
  by_cases h2 : f < t
  ·rw [decide_eq_true h2]
   by_cases h3 : t ≤ 1099511627776
   ·rw [decide_eq_true h3]
    go_enter Tryz.func35, Tryz.ntmps35
    go_wp2
    go_ret
    exact ⟨rfl, rfl⟩
   ·have d : decide (t ≤ 1099511627776) = false := decide_eq_false h3
    rw [d]
    go_enter Tryz.func35, Tryz.ntmps35
    go_wp2
    go_ret
    exact ⟨rfl, rfl⟩
  ·have d : decide (f < t) = false := decide_eq_false h2
   rw [d]
   go_enter Tryz.func35, Tryz.ntmps35
   go_wp2
   go_ret
   exact ⟨rfl, rfl⟩
 ·have d : decide (0 ≤ f) = false := decide_eq_false h1
  rw [d]
  go_enter Tryz.func35, Tryz.ntmps35
  go_wp2
  go_ret
  exact ⟨rfl, rfl⟩
end Go.Proofs.YtgbepickfhbknaaGreatDoor
namespace Go.Proofs.YtgbepickfhbknaaGreatDoor
open Go.ChangeShapes Go.WideShapes Go.ChangeAt Go.RowKit Go.PlainAid
set_option linter.unusedVariables false
theorem dec_of {p : Prop} [Decidable p] (b : Bool) (h : b = true ↔ p) : decide p = b := by
 cases b
 ·exact decide_eq_false fun hp => by simp [hp] at h
 ·exact decide_eq_true (h.1 rfl)
set_option maxHeartbeats 1000000 in
theorem implPointsOk (l : List Pnt) (v : Value) (w : World) (B : Nat) (hv : Lies w B 2 v (ptR l)) (hn : l.length ≤ 1048576) (hB : B ≤ w.heap.size) : Calls Tryz.prog 64 #[v] w fun e w' => e = .returned (.bool (decide (POk l))) ∧ Below w.heap.size w w' := by
 obtain ⟨A, cap, rfl, hl⟩ := pt_look hv
 have HL : Hid (∀ j, j < l.length → ∃ g off, A = some ⟨g, off, none⟩ ∧ g < B ∧ w.cell? ⟨g, off + j * 2, none⟩ = some (.int .i64 (tAt l j)) ∧ w.cell? ⟨g, off + j * 2 + 1, none⟩ = some (.int .i64 (vAt l j))) := hl
 have HB : Hid (B ≤ w.heap.size) := hB
 have HD : Hid (∀ b, (b = true ↔ POk l) → decide (POk l) = b) := fun b hb => dec_of b hb
 have HV : Hid (POk l ↔ l.length ≤ 60 ∧ ∀ j, j < l.length → ((0 ≤ tAt l j ∧ tAt l j ≤ 1099511627776) ∧ (-1099511627776 ≤ vAt l j ∧ vAt l j ≤ 1099511627776)) ∧ (0 < j → tAt l (j - 1) < tAt l j)) := Iff.rfl
 have q0 : (l.length : Int) ≤ 1048576 := by omega
 clear hl hn hv hB
 generalize hN : l.length = n at *
 clear hN
 by_cases h2 : (60 : Int) < (n : Int)
 ·go_enter Tryz.func64, Tryz.ntmps64
  go_wp2
  go_ret
  refine ⟨?_, Below.refl _ _⟩
  rw [HD.out false]
  ·rfl
  rw [HV.out]
  exact ⟨fun h => (by cases h), fun h => by omega⟩
 have q1 : (n : Int) ≤ 60 := by omega
 clear h2
 go_enter Tryz.func64, Tryz.ntmps64
 go_wp2
 go_loopw [3, 11] (fun v3 v11 wr => ∃ (k : Nat) (m : Int), k ≤ n ∧ v11 = .int .i64 (k : Int) ∧ v3 = .int .i64 m ∧ 0 ≤ m ∧ m ≤ 1099511627777 ∧ Hid ((k = 0 → m = 0) ∧ (0 < k → m = tAt l (k - 1) + 1)) ∧ Below w.heap.size w wr ∧ Hid (∀ j, j < k → ((0 ≤ tAt l j ∧ tAt l j ≤ 1099511627776) ∧ (-1099511627776 ≤ vAt l j ∧ vAt l j ≤ 1099511627776)) ∧ (0 < j → tAt l (j - 1) < tAt l j))) (fun _ i _ => n - (intOf i).toNat)
 case atStart => exact ⟨0, 0, by omega, rfl, rfl, by omega, by omega, ⟨fun _ => rfl, fun h => by omega⟩, Below.refl _ _, fun j hj => by omega⟩
 case round =>
  obtain ⟨k, m, hk, rfl, rfl, hm0, hm1, HM, hb, HJ⟩ := hrel
  have HB1 : Hid (Below w.heap.size w wr) := hb
  clear hb
  by_cases hlt : k < n
  ·have q2 : (k : Int) < (n : Int) := by omega
   obtain ⟨g, off, rfl, hg, e1, e2⟩ := HL.out k hlt
   have hgw : g < w.heap.size := Nat.lt_of_lt_of_le hg HB.out
   rw [← HB1.out.cell (p := ⟨_, _, none⟩) hgw] at e1
   rw [← HB1.out.cell (p := ⟨_, _, none⟩) hgw] at e2
   have HBa : Hid (∀ cs cs' : Array Value, Below w.heap.size w ((wr.alloc (.cells cs 63)))) := fun cs _ => HB1.out.alloc HB1.out.size _
   generalize hx : tAt l k = x at *
   have HX : Hid (tAt l k = x) := hx
   clear hx
   generalize hy : vAt l k = y at *
   have HY : Hid (vAt l k = y) := hy
   clear hy hgw hg
   have HNo : Hid ((x < m ∨ 1099511627776 < x ∨ y < -1099511627776 ∨ 1099511627776 < y) → decide (POk l) = false) := fun h => by
    apply HD.out
    rw [HV.out]
    refine ⟨fun h => (by cases h), fun h2 => ?_⟩
    have h3 := h2.2 k hlt
    rw [HX.out, HY.out] at h3
    have h4 := HM.out
    by_cases h0 : k = 0
    ·have := h4.1 h0; omega
    ·have := h4.2 (by omega); have := h3.2 (by omega); omega
   by_cases c1 : x < m
   ·skip
    go_wp2
    go_ret
    exact ⟨by rw [HNo.out (.inl c1)]; rfl, HBa.out _ #[]⟩
   by_cases c2 : 1099511627776 < x
   ·skip
    go_wp2
    go_ret
    exact ⟨by rw [HNo.out (.inr (.inl c2))]; rfl, HBa.out _ #[]⟩
   by_cases c3 : y < -1099511627776
   ·skip
    go_wp2
    go_ret
    exact ⟨by rw [HNo.out (.inr (.inr (.inl c3)))]; rfl, HBa.out _ #[]⟩
   by_cases c4 : 1099511627776 < y
   ·skip
    go_wp2
    go_ret
    exact ⟨by rw [HNo.out (.inr (.inr (.inr c4)))]; rfl, HBa.out _ #[]⟩
   go_wp2
   go_roundw
   case rel =>
    refine ⟨k + 1, x + 1, by omega, by go_num, by go_num, by omega, by omega, ⟨fun h => by omega, fun _ => by rw [Nat.add_sub_cancel, HX.out]⟩, HBa.out _ #[], fun j hj => ?_⟩
    by_cases e : j = k
    ·subst e
     rw [HX.out, HY.out]
     have h4 := HM.out
     refine ⟨⟨⟨by omega, by omega⟩, by omega, by omega⟩, fun h => ?_⟩
     have := h4.2 h
     omega
    ·exact HJ.out j (by omega)
   case measure => simp [intOf]; omega
  ·have hkk : k = n := by omega
   subst hkk
   go_wp2
   go_ret
   refine ⟨?_, HB1.out⟩
   rw [HD.out true]
   ·rfl
   rw [HV.out]
   exact ⟨fun _ => ⟨by omega, HJ.out⟩, fun _ => rfl⟩
end Go.Proofs.YtgbepickfhbknaaGreatDoor
namespace Go.Proofs.YtgbepickfhbknaaGreatDoor
open Go.ChangeShapes Go.WideShapes Go.ChangeAt Go.RowKit Go.PlainAid
set_option linter.unusedVariables false
set_option maxHeartbeats 1000000 in
theorem implValuesOk (l : List Int) (v : Value) (w : World) (B : Nat) (hv : NumsV w B v l) (hn : l.length ≤ 1048576) : Calls Tryz.prog 79 #[v] w fun e w' => e = .returned (.bool (decide (VOk l))) ∧ w = w' := by
 obtain ⟨A, cap, rfl, _, _, hl⟩ := hv
 have HL : Hid (∀ j, j < l.length → ∃ g off, A = some ⟨g, off, none⟩ ∧ g < B ∧ _) := hl
 have HD : Hid (∀ b, (b = true ↔ VOk l) → decide (VOk l) = b) := by
  intro b hb
  cases b
  ·exact decide_eq_false fun h => by simp [h] at hb
  ·exact decide_eq_true (hb.1 rfl)
 have HV : Hid (VOk l ↔ 1 ≤ l.length ∧ l.length ≤ 60 ∧ ∀ j, j < l.length → -1099511627776 ≤ l.getD j 0 ∧ l.getD j 0 ≤ 1099511627776) := Iff.rfl
 have q0 : (l.length : Int) ≤ 1048576 := by omega
 clear hl hn
 generalize hN : l.length = n at *
 clear hN
 by_cases h1 : (n : Int) < 1
 ·go_enter Tryz.func79, Tryz.ntmps79
  go_wp2
  go_ret
  refine ⟨?_, rfl⟩
  rw [HD.out false]
  ·rfl
  rw [HV.out]
  constructor
  ·intro h; cases h
  ·intro h; omega
 by_cases h2 : (60 : Int) < (n : Int)
 ·go_enter Tryz.func79, Tryz.ntmps79
  go_wp2
  go_ret
  refine ⟨?_, rfl⟩
  rw [HD.out false]
  ·rfl
  rw [HV.out]
  constructor
  ·intro h; cases h
  ·intro h; omega
 go_enter Tryz.func79, Tryz.ntmps79
 go_wp2
 go_loop [15] (fun v15 => ∃ k : Nat, k ≤ n ∧ v15 = .int .i64 (k : Int) ∧ Hid (∀ j, j < k → -1099511627776 ≤ l.getD j 0 ∧ l.getD j 0 ≤ 1099511627776)) (fun i => n - (intOf i).toNat)
 case atStart => exact ⟨0, by omega, rfl, fun j hj => by omega⟩
 case round =>
  obtain ⟨k, hk, rfl, HJ⟩ := hrel
  by_cases hlt : k < n
  ·have q2 : (k : Int) < (n : Int) := by omega
   obtain ⟨g, off, rfl, _, e1⟩ := HL.out k hlt
   have HX : Hid (l.getD k 0 = l.getD k 0) := rfl
   generalize hx : l.getD k 0 = x at *
   have HXX : Hid (l.getD k 0 = x) := hx
   clear hx HX
   by_cases c1 : x < -1099511627776
   ·go_wp2
    go_ret
    refine ⟨?_, rfl⟩
    rw [HD.out false]
    ·rfl
    rw [HV.out]
    constructor
    ·intro h; cases h
    ·intro h; have := h.2.2 k hlt; rw [HXX.out] at this; omega
   by_cases c2 : 1099511627776 < x
   ·go_wp2
    go_ret
    refine ⟨?_, rfl⟩
    rw [HD.out false]
    ·rfl
    rw [HV.out]
    constructor
    ·intro h; cases h
    ·intro h; have := h.2.2 k hlt; rw [HXX.out] at this; omega
   go_wp2
   go_round
   case rel =>
    refine ⟨k + 1, by omega, by go_num, fun j hj => ?_⟩
    by_cases e : j = k
    ·subst e; rw [HXX.out]; omega
    ·exact HJ.out j (by omega)
   case measure => simp [intOf]; omega
  ·have hkk : k = n := by omega
   subst hkk
   go_wp2
   go_ret
   refine ⟨?_, rfl⟩
   rw [HD.out true]
   ·rfl
   rw [HV.out]
   exact ⟨fun _ => ⟨by omega, by omega, HJ.out⟩, fun _ => rfl⟩
set_option maxHeartbeats 1000000 in
theorem implTimesOk (l : List Int) (v : Value) (w : World) (B : Nat) (hv : NumsV w B v l) (hn : l.length ≤ 1048576) : Calls Tryz.prog 72 #[v] w fun e w' => e = .returned (.bool (decide (TOk l))) ∧ w = w' := by
 obtain ⟨A, cap, rfl, _, _, hl⟩ := hv
 have HL : Hid (∀ j, j < l.length → ∃ g off, A = some ⟨g, off, none⟩ ∧ g < B ∧ _) := hl
 have HD : Hid (∀ b, (b = true ↔ TOk l) → decide (TOk l) = b) := by
  intro b hb
  cases b
  ·exact decide_eq_false fun h => by simp [h] at hb
  ·exact decide_eq_true (hb.1 rfl)
 have HV : Hid (TOk l ↔ 1 ≤ l.length ∧ l.length ≤ 60 ∧ ∀ j, j < l.length → (0 ≤ l.getD j 0 ∧ l.getD j 0 ≤ 1099511627776) ∧ (0 < j → l.getD (j - 1) 0 < l.getD j 0)) := Iff.rfl
 have q0 : (l.length : Int) ≤ 1048576 := by omega
 clear hl hn
 generalize hN : l.length = n at *
 clear hN
 by_cases h1 : (n : Int) < 1
 ·go_enter Tryz.func72, Tryz.ntmps72
  go_wp2
  go_ret
  refine ⟨?_, rfl⟩
  rw [HD.out false]
  ·rfl
  rw [HV.out]
  constructor
  ·intro h; cases h
  ·intro h; omega
 by_cases h2 : (60 : Int) < (n : Int)
 ·go_enter Tryz.func72, Tryz.ntmps72
  go_wp2
  go_ret
  refine ⟨?_, rfl⟩
  rw [HD.out false]
  ·rfl
  rw [HV.out]
  constructor
  ·intro h; cases h
  ·intro h; omega
 go_enter Tryz.func72, Tryz.ntmps72
 go_wp2
 go_loop [3, 16] (fun v3 v16 => ∃ (k : Nat) (m : Int), k ≤ n ∧ v16 = .int .i64 (k : Int) ∧ v3 = .int .i64 m ∧ 0 ≤ m ∧ m ≤ 1099511627777 ∧ Hid ((k = 0 → m = 0) ∧ (0 < k → m = l.getD (k - 1) 0 + 1)) ∧ Hid (∀ j, j < k → (0 ≤ l.getD j 0 ∧ l.getD j 0 ≤ 1099511627776) ∧ (0 < j → l.getD (j - 1) 0 < l.getD j 0))) (fun _ i => n - (intOf i).toNat)
 case atStart => exact ⟨0, 0, by omega, rfl, rfl, by omega, by omega, ⟨fun _ => rfl, fun h => by omega⟩, fun j hj => by omega⟩
 case round =>
  obtain ⟨k, m, hk, rfl, rfl, hm0, hm1, HM, HJ⟩ := hrel
  by_cases hlt : k < n
  ·have q2 : (k : Int) < (n : Int) := by omega
   obtain ⟨g, off, rfl, _, e1⟩ := HL.out k hlt
   generalize hx : l.getD k 0 = x at *
   have HXX : Hid (l.getD k 0 = x) := hx
   clear hx
   have HM2 : Hid (m ≤ x ↔ (0 ≤ x ∧ (0 < k → l.getD (k - 1) 0 < x))) := by
    obtain ⟨m1, m2⟩ := HM.out
    unfold Hid
    by_cases hk0 : k = 0
    ·rw [m1 hk0]
     constructor
     ·intro h; exact ⟨h, fun h => by omega⟩
     ·intro h; exact h.1
    ·have := m2 (by omega)
     constructor
     ·intro h; exact ⟨by omega, fun _ => by omega⟩
     ·intro h; have := h.2 (by omega); omega
   by_cases c1 : x < m
   ·go_wp2
    go_ret
    refine ⟨?_, rfl⟩
    rw [HD.out false]
    ·rfl
    rw [HV.out]
    constructor
    ·intro h; cases h
    ·intro h; have := h.2.2 k hlt; rw [HXX.out] at this; have := HM2.out.2 ⟨this.1.1, this.2⟩; omega
   by_cases c2 : 1099511627776 < x
   ·go_wp2
    go_ret
    refine ⟨?_, rfl⟩
    rw [HD.out false]
    ·rfl
    rw [HV.out]
    constructor
    ·intro h; cases h
    ·intro h; have := h.2.2 k hlt; rw [HXX.out] at this; omega
   go_wp2
   go_round
   case rel =>
    refine ⟨k + 1, x + 1, by omega, by go_num, by go_num, by omega, by omega, ⟨fun h => by omega, fun _ => by rw [Nat.add_sub_cancel, HXX.out]⟩, fun j hj => ?_⟩
    by_cases e : j = k
    ·subst e
     rw [HXX.out]
     have := HM2.out.1 (by omega)
     exact ⟨⟨this.1, by omega⟩, this.2⟩
    ·exact HJ.out j (by omega)
   case measure => simp [intOf]; omega
  ·have hkk : k = n := by omega
   subst hkk
   go_wp2
   go_ret
   refine ⟨?_, rfl⟩
   rw [HD.out true]
   ·rfl
   rw [HV.out]
   exact ⟨fun _ => ⟨by omega, by omega, HJ.out⟩, fun _ => rfl⟩
set_option maxHeartbeats 1000000 in
theorem specValuesOk (l : List Int) (v : Value) (w : World) (B : Nat) (hv : NumsV w B v l) (hn : l.length ≤ 1048576) : Calls Tryz.prog 56 #[v] w fun e w' => e = .returned (.bool (decide (VOk l))) ∧ w = w' := by
 obtain ⟨A, cap, rfl, _, _, hl⟩ := hv
 have HL : Hid (∀ j, j < l.length → ∃ g off, A = some ⟨g, off, none⟩ ∧ g < B ∧ _) := hl
 have HD : Hid (∀ b, (b = true ↔ VOk l) → decide (VOk l) = b) := by
  intro b hb
  cases b
  ·exact decide_eq_false fun h => by simp [h] at hb
  ·exact decide_eq_true (hb.1 rfl)
 have HV : Hid (VOk l ↔ 1 ≤ l.length ∧ l.length ≤ 60 ∧ ∀ j, j < l.length → -1099511627776 ≤ l.getD j 0 ∧ l.getD j 0 ≤ 1099511627776) := Iff.rfl
 have q0 : (l.length : Int) ≤ 1048576 := by omega
 clear hl hn
 generalize hN : l.length = n at *
 clear hN
 by_cases h1 : (n : Int) < 1 ∨ (60 : Int) < (n : Int)
 ·have c := fun wx => in_no (n : Int) 1 60 wx h1
  have H1 : Hid ((n : Int) < 1 ∨ (60 : Int) < (n : Int)) := h1
  clear h1
  go_enter Tryz.func56, Tryz.ntmps56
  go_wp2_with (go_at_call 15; refine (c _).mono ?_; rintro e w' ⟨rfl, rfl⟩)
  go_ret
  refine ⟨?_, rfl⟩
  rw [HD.out false]
  ·rfl
  rw [HV.out]
  constructor
  ·intro h; cases h
  ·intro h; have := H1.out; omega
 have c := fun wx => in_yes (n : Int) 1 60 wx (by omega) (by omega)
 have q1 : (n : Int) ≤ 60 := by omega
 have q11 : (1 : Int) ≤ (n : Int) := by omega
 clear h1
 go_enter Tryz.func56, Tryz.ntmps56
 go_wp2_with (go_at_call 15; refine (c _).mono ?_; rintro e w' ⟨rfl, rfl⟩)
 go_loop [3] (fun v3 => ∃ k : Nat, k ≤ n ∧ v3 = .int .i64 (k : Int) ∧ Hid (∀ j, j < k → -1099511627776 ≤ l.getD j 0 ∧ l.getD j 0 ≤ 1099511627776)) (fun i => n - (intOf i).toNat)
 case atStart => exact ⟨0, by omega, rfl, fun j hj => by omega⟩
 case round =>
  obtain ⟨k, hk, rfl, HJ⟩ := hrel
  by_cases hlt : k < n
  ·have q2 : (k : Int) < (n : Int) := by omega
   obtain ⟨g, off, rfl, _, e1⟩ := HL.out k hlt
   generalize hx : l.getD k 0 = x at *
   have HXX : Hid (l.getD k 0 = x) := hx
   clear hx
   by_cases c1 : x < -1099511627776 ∨ 1099511627776 < x
   ·have c2 := fun wx => in_no x (-1099511627776) 1099511627776 wx c1
    have H1 : Hid (x < -1099511627776 ∨ 1099511627776 < x) := c1
    clear c1
    go_wp2_with (go_at_call 15; refine (c2 _).mono ?_; rintro e w' ⟨rfl, rfl⟩)
    go_ret
    refine ⟨?_, rfl⟩
    rw [HD.out false]
    ·rfl
    rw [HV.out]
    constructor
    ·intro h; cases h
    ·intro h; have := h.2.2 k hlt; rw [HXX.out] at this; have := H1.out; omega
   have c2 := fun wx => in_yes x (-1099511627776) 1099511627776 wx (by omega) (by omega)
   have H1 : Hid (¬ (x < -1099511627776 ∨ 1099511627776 < x)) := c1
   clear c1
   go_wp2_with (go_at_call 15; refine (c2 _).mono ?_; rintro e w' ⟨rfl, rfl⟩)
   go_round
   case rel =>
    refine ⟨k + 1, by omega, by go_num, fun j hj => ?_⟩
    by_cases e : j = k
    ·subst e; rw [HXX.out]; have := H1.out; omega
    ·exact HJ.out j (by omega)
   case measure => simp [intOf]; omega
  ·have hkk : k = n := by omega
   subst hkk
   go_wp2
   go_ret
   refine ⟨?_, rfl⟩
   rw [HD.out true]
   ·rfl
   rw [HV.out]
   exact ⟨fun _ => ⟨by omega, by omega, HJ.out⟩, fun _ => rfl⟩
end Go.Proofs.YtgbepickfhbknaaGreatDoor
namespace Go.Proofs.YtgbepickfhbknaaGreatDoor
open Go.ChangeShapes Go.WideShapes Go.ChangeAt Go.RowKit Go.PlainAid
set_option linter.unusedVariables false
set_option maxHeartbeats 1000000 in
theorem specRise (l : List Int) (v : Value) (w : World) (B : Nat) (hv : NumsV w B v l) (hn : l.length ≤ 1048576) : Calls Tryz.prog 54 #[v] w fun e w' => e = .returned (.bool (decide (TOk l))) ∧ Like w w' := by
 obtain ⟨A, cap, rfl, _, _, hl⟩ := hv
 have HL : Hid (∀ j, j < l.length → ∃ g off, A = some ⟨g, off, none⟩ ∧ g < B ∧ _) := hl
 have HD : Hid (∀ b, (b = true ↔ TOk l) → decide (TOk l) = b) := by
  intro b hb
  cases b
  ·exact decide_eq_false fun h => by simp [h] at hb
  ·exact decide_eq_true (hb.1 rfl)
 have HV : Hid (TOk l ↔ 1 ≤ l.length ∧ l.length ≤ 60 ∧ ∀ j, j < l.length → (0 ≤ l.getD j 0 ∧ l.getD j 0 ≤ 1099511627776) ∧ (0 < j → l.getD (j - 1) 0 < l.getD j 0)) := Iff.rfl
 have q0 : (l.length : Int) ≤ 1048576 := by omega
 clear hl hn
 generalize hN : l.length = n at *
 clear hN
 by_cases h1 : (n : Int) < 1 ∨ (60 : Int) < (n : Int)
 ·have c := fun wx => in_no (n : Int) 1 60 wx h1
  have H1 : Hid ((n : Int) < 1 ∨ (60 : Int) < (n : Int)) := h1
  clear h1
  go_enter Tryz.func54, Tryz.ntmps54
  go_wp2_with (go_at_call 15; refine (c _).mono ?_; rintro e w' ⟨rfl, rfl⟩)
  go_ret
  refine ⟨?_, Like.refl _⟩
  rw [HD.out false]
  ·rfl
  rw [HV.out]
  constructor
  ·intro h; cases h
  ·intro h; have := H1.out; omega
 have c := fun wx => in_yes (n : Int) 1 60 wx (by omega) (by omega)
 have q1 : (n : Int) ≤ 60 := by omega
 have q11 : (1 : Int) ≤ (n : Int) := by omega
 clear h1
 go_enter Tryz.func54, Tryz.ntmps54
 go_wp2_with (go_at_call 15; refine (c _).mono ?_; rintro e w' ⟨rfl, rfl⟩)
 go_loopw [3] (fun v3 wr => ∃ k : Nat, k ≤ n ∧ v3 = .int .i64 (k : Int) ∧ Like w wr ∧ Hid (∀ j, j < k → (0 ≤ l.getD j 0 ∧ l.getD j 0 ≤ 1099511627776) ∧ (0 < j → l.getD (j - 1) 0 < l.getD j 0))) (fun i _ => n - (intOf i).toNat)
 case atStart => exact ⟨0, by omega, rfl, Like.refl _, fun j hj => by omega⟩
 case round =>
  obtain ⟨k, hk, rfl, hLk, HJ⟩ := hrel
  by_cases hlt : k < n
  ·have q2 : (k : Int) < (n : Int) := by omega
   obtain ⟨g, off, rfl, _, e1⟩ := HL.out k hlt
   obtain ⟨g', off', eA, _, e0⟩ := HL.out (k - 1) (by omega)
   injection eA with eA
   injection eA with eA1 eA2
   subst eA1
   subst eA2
   rw [← cell?_heap hLk.1] at e1 e0
   generalize hx : l.getD k 0 = x at *
   have HXX : Hid (l.getD k 0 = x) := hx
   clear hx
   generalize hy : l.getD (k - 1) 0 = y at *
   have HYY : Hid (l.getD (k - 1) 0 = y) := hy
   clear hy
   by_cases c1 : x < 0 ∨ 1099511627776 < x
   ·have c2 := fun wx => in_no x 0 1099511627776 wx c1
    have H1 : Hid (x < 0 ∨ 1099511627776 < x) := c1
    clear c1
    go_wp2_with fail
    go_quiet ((go_at_call 15; exact Calls.quiet_of_same ((c2 _).mono fun _ _ h => ⟨h.1, h.2.symm⟩)))
    go_wp2_with fail
    go_ret
    refine ⟨?_, hLk.drewN _⟩
    rw [HD.out false]
    ·rfl
    rw [HV.out]
    constructor
    ·intro h; cases h
    ·intro h; have := h.2.2 k hlt; rw [HXX.out] at this; have := H1.out; omega
   have c2 := fun wx => in_yes x 0 1099511627776 wx (by omega) (by omega)
   have H1 : Hid (¬ (x < 0 ∨ 1099511627776 < x)) := c1
   clear c1
   by_cases hk0 : k = 0
   ·have d0 : decide ((0 : Int) < (k : Int)) = false := decide_eq_false (by omega)
    have d1 : decide (0 < k) = false := decide_eq_false (by omega)
    have HK0 : Hid (k = 0) := hk0
    clear e0 hk0
    go_wp2_with fail
    go_quiet ((go_at_call 15; exact Calls.quiet_of_same ((c2 _).mono fun _ _ h => ⟨h.1, h.2.symm⟩)))
    go_wp2_with fail
    go_roundw
    case rel =>
     refine ⟨k + 1, by omega, by go_num, hLk.drewN _, fun j hj => ?_⟩
     have hk0 := HK0.out
     obtain rfl : j = k := by omega
     rw [HXX.out]
     have := H1.out
     exact ⟨by omega, fun h => by omega⟩
    case measure => simp [intOf]; omega
   have q3 : (0 : Int) < (k : Int) := by omega
   have q4 : decide (0 < k) = true := decide_eq_true (by omega)
   have q5 : 0 < k := by omega
   have e3 : ((k : Int) - 1).toNat = k - 1 := by omega
   by_cases c3 : x ≤ y
   ·go_wp2_with fail
    go_quiet ((go_at_call 15; exact Calls.quiet_of_same ((c2 _).mono fun _ _ h => ⟨h.1, h.2.symm⟩)))
    go_wp2_with fail
    go_ret
    refine ⟨?_, hLk.drewN _⟩
    rw [HD.out false]
    ·rfl
    rw [HV.out]
    constructor
    ·intro h; cases h
    ·intro h; have := (h.2.2 k hlt).2 (by omega); rw [HXX.out, HYY.out] at this; omega
   ·have d1 : decide (x ≤ y) = false := decide_eq_false c3
    go_wp2_with fail
    go_quiet ((go_at_call 15; exact Calls.quiet_of_same ((c2 _).mono fun _ _ h => ⟨h.1, h.2.symm⟩)))
    go_wp2_with fail
    go_roundw
    case rel =>
     refine ⟨k + 1, by omega, by go_num, hLk.drewN _, fun j hj => ?_⟩
     by_cases e : j = k
     ·subst e
      rw [HXX.out, HYY.out]
      have := H1.out
      exact ⟨by omega, fun _ => by omega⟩
     ·exact HJ.out j (by omega)
    case measure => simp [intOf]; omega
  ·have hkk : k = n := by omega
   subst hkk
   go_wp2
   go_ret
   refine ⟨?_, hLk⟩
   rw [HD.out true]
   ·rfl
   rw [HV.out]
   exact ⟨fun _ => ⟨by omega, by omega, HJ.out⟩, fun _ => rfl⟩
end Go.Proofs.YtgbepickfhbknaaGreatDoor
namespace Go.Proofs.YtgbepickfhbknaaGreatDoor
open Go.Shelf Go.RowKit
set_option linter.unusedVariables false
def bldRen : Go.Shelf.Ren := ⟨fun | 166 => 75 | 169 => 78 | 240 => 85 | 276 => 88 | f => f, fun | 20 => 20 | 37 => 53 | 70 => 92 | 72 => 94 | 75 => 77 | 80 => 57 | 127 => 85 | 164 => 117 | t => t, fun g => g⟩
theorem bld_lays166 : Go.Proofs.Lays.n166 Tryz.prog bldRen where
 mixed := by kernel_rfl
 f166 := Tryz.func75.trans (congrArg some (by kernel_rfl))
 f240 := Tryz.func85.trans (congrArg some (by kernel_rfl))
 f276 := Tryz.func88.trans (congrArg some (by kernel_rfl))
 t0 := Tryz.underlying0
 a0 := Tryz.isAgg0
 z0 := Tryz.sizeOf0
 v0 := Tryz.zeroValue0
 t3 := Tryz.underlying3
 a3 := Tryz.isAgg3
 z3 := Tryz.sizeOf3
 v3 := Tryz.zeroValue3
 t4 := Tryz.underlying4
 a4 := Tryz.isAgg4
 z4 := Tryz.sizeOf4
 v4 := Tryz.zeroValue4
 t9 := Tryz.underlying9
 a9 := Tryz.isAgg9
 z9 := Tryz.sizeOf9
 v9 := Tryz.zeroValue9
 t20 := Tryz.underlying20
 a20 := Tryz.isAgg20
 z20 := Tryz.sizeOf20
 v20 := Tryz.zeroValue20
 t37 := Tryz.underlying53
 a37 := Tryz.isAgg53
 z37 := Tryz.sizeOf53
 v37 := Tryz.zeroValue53
 t70 := Tryz.underlying92
 a70 := Tryz.isAgg92
 z70 := Tryz.sizeOf92
 v70 := Tryz.zeroValue92
 t72 := Tryz.underlying94
 a72 := Tryz.isAgg94
 z72 := Tryz.sizeOf94
 v72 := Tryz.zeroValue94
 t75 := Tryz.underlying77
 a75 := Tryz.isAgg77
 z75 := Tryz.sizeOf77
 v75 := Tryz.zeroValue77
 t164 := Tryz.underlying117
 a164 := Tryz.isAgg117
 z164 := Tryz.sizeOf117
 v164 := Tryz.zeroValue117
theorem bld_lays169 : Go.Proofs.Lays.n169 Tryz.prog bldRen where
 mixed := by kernel_rfl
 f169 := Tryz.func78.trans (congrArg some (by kernel_rfl))
 t0 := Tryz.underlying0
 a0 := Tryz.isAgg0
 z0 := Tryz.sizeOf0
 v0 := Tryz.zeroValue0
 t3 := Tryz.underlying3
 a3 := Tryz.isAgg3
 z3 := Tryz.sizeOf3
 v3 := Tryz.zeroValue3
 t9 := Tryz.underlying9
 a9 := Tryz.isAgg9
 z9 := Tryz.sizeOf9
 v9 := Tryz.zeroValue9
 t37 := Tryz.underlying53
 a37 := Tryz.isAgg53
 z37 := Tryz.sizeOf53
 v37 := Tryz.zeroValue53
 t70 := Tryz.underlying92
 a70 := Tryz.isAgg92
 z70 := Tryz.sizeOf92
 v70 := Tryz.zeroValue92
 t72 := Tryz.underlying94
 a72 := Tryz.isAgg94
 z72 := Tryz.sizeOf94
 v72 := Tryz.zeroValue94
 t127 := Tryz.underlying85
 a127 := Tryz.isAgg85
 z127 := Tryz.sizeOf85
 v127 := Tryz.zeroValue85
theorem bld_extra : Go.Proofs.Builder.Extra Tryz.prog bldRen where
 sizeBuilder := by kernel_rfl
 liesBuilder := by kernel_rfl
 t5 := Tryz.underlying5
 a5 := Tryz.isAgg5
 z5 := Tryz.sizeOf5
 v5 := Tryz.zeroValue5
 infoByte := by kernel_rfl
 cellsByte := by kernel_rfl
 sizeByte := by kernel_rfl
 neB5 := by decide
theorem bldWrite (B b : Nat) (bs : List Value) (s : ByteArray) (w : World) (h : Lib.IsBuilderF 94 5 B b bs w) (hlen : bs.length + s.size ≤ 140737488355328) (hBw : B ≤ w.heap.size) :
  Calls Tryz.prog 75 #[.pointer (some ⟨b, 0, none⟩), .string s] w fun e w' => e = .returned (.tuple #[.int .i64 s.size, .nilIface]) ∧ (Lib.BuilderAtF 94 5 B b (.pointer (some ⟨b, 0, none⟩)) (bs ++ Lib.strCells s) w' ∧ Below B w w' ∧ Lib.OthersKept 5 (some b) w w') := Any.Builder_WriteString_k bld_lays166 bld_extra B b bs s w h hlen hBw
theorem bldString (B b : Nat) (l : List UInt8) (w : World) (h : Lib.IsBuilderF 94 5 B b (Lib.byteCells l) w) (hBw : B ≤ w.heap.size) :
  Calls Tryz.prog 78 #[.pointer (some ⟨b, 0, none⟩)] w fun e w' => e = .returned (.string ⟨l.toArray⟩) ∧ (Lib.IsBuilderF 94 5 B b (Lib.byteCells l) w' ∧ Below B w w' ∧ Lib.OthersKept 5 (some b) w w') := Any.Builder_String_any_k bld_lays169 bld_extra B b l w h hBw
end Go.Proofs.YtgbepickfhbknaaGreatDoor
namespace Go.Proofs.YtgbepickfhbknaaGreatDoor
open Go.ChangeShapes Go.WideShapes Go.ChangeAt Go.RowKit Go.PlainAid
set_option linter.unusedVariables false
set_option maxHeartbeats 1000000 in
theorem differencesV (l : List Int) (v : Value) (w : World) (B : Nat) (F : Nat) (caps : Array Value) (Inv : Nat → World → Prop)
  (hF : ∀ args w, (callFunc F args).run Tryz.prog w = .ok (.enter F args) w) (hn : l.length ≤ 1048576) (hd : ∀ k, k < l.length → -4611686018427387904 ≤ dif l k ∧ dif l k ≤ 4611686018427387904)
  (hv : ∀ k wx, Inv k wx → NumsV wx B v l) (h0 : Inv 0 w)
  (hC : ∀ k, k < l.length → ∀ wx, Inv k wx → Calls Tryz.prog F (#[.int .i64 (k : Int), .int .i64 (dif l k)] ++ caps) wx fun e w' => (∃ u, e = .returned u) ∧ Inv (k + 1) w') :
  Calls Tryz.prog 73 #[v, .func (.func F) #[] caps] w fun e w' => (∃ u, e = .returned u) ∧ Inv l.length w' := by
 have HV : Hid (∀ k wx, Inv k wx → NumsV wx B v l) := hv
 have HC : Hid (∀ k, k < l.length → ∀ wx, Inv k wx → Calls Tryz.prog F (#[.int .i64 (k : Int), .int .i64 (dif l k)] ++ caps) wx fun e w' => (∃ u, e = .returned u) ∧ Inv (k + 1) w') := hC
 have HD : Hid (∀ k, k < l.length → -4611686018427387904 ≤ dif l k ∧ dif l k ≤ 4611686018427387904) := hd
 obtain ⟨A, cap, rfl, _, _, hl⟩ := hv 0 w h0
 have q0 : (l.length : Int) ≤ 1048576 := by omega
 clear hl hn hd hv hC
 generalize hN : l.length = n at *
 have HN : Hid (l.length = n) := hN
 clear hN
 go_enter Tryz.func73, Tryz.ntmps73
 go_wp2
 go_loopw [4, 9] (fun v4 v9 wr => ∃ k : Nat, k ≤ n ∧ v9 = .int .i64 (k : Int) ∧ v4 = .int .i64 (prv l k) ∧ Inv k wr) (fun _ i _ => n - (intOf i).toNat)
 case atStart => exact ⟨0, by omega, rfl, rfl, h0⟩
 case round =>
  obtain ⟨k, hk, rfl, rfl, hI⟩ := hrel
  by_cases hlt : k < n
  ·have q2 : (k : Int) < (n : Int) := by omega
   obtain ⟨A', cap', e', _, _, hl⟩ := HV.out k wr hI
   injection e' with ea eb ec
   subst ea
   subst ec
   obtain ⟨g, off, rfl, _, e1⟩ := hl k (by rw [HN.out]; exact hlt)
   have hdk := HD.out k hlt
   have cC := HC.out k hlt wr hI
   have HP : Hid (prv l (k + 1) = l.getD k 0) := prv_succ l k
   have ed : dif l k = l.getD k 0 - prv l k := rfl
   rw [ed] at hdk cC
   generalize l.getD k 0 = x at *
   generalize prv l k = y at *
   have hw : wrap64 (x - y) = x - y := by unfold wrap64; omega
   clear hl eb ed
   go_wp2_with fail
   refine cC.mono ?_
   rintro e w1 ⟨⟨u, rfl⟩, hI1⟩
   go_wp2_with fail
   go_roundw
   case rel => exact ⟨k + 1, by omega, by go_num, by rw [HP.out], hI1⟩
   case measure => simp [intOf]; omega
  ·obtain rfl : k = n := by omega
   go_wp2_with fail
   exact bodyPost_end (v := .tuple #[]) (by simp [results, go_sem]) rfl ⟨⟨_, rfl⟩, hI⟩
theorem strCells_append (a b : ByteArray) : Lib.strCells (a ++ b) = Lib.strCells a ++ Lib.strCells b := by simp [Lib.strCells, ByteArray.data_append]
theorem strCells_txt (l m : List UInt8) : Lib.strCells (txt (l ++ m)) = Lib.strCells (txt l) ++ Lib.strCells (txt m) := by rw [← txt_cat, strCells_append]
theorem bld_on {w w' : World} {B b : Nat} {bs : List Value} (h : Lib.IsBuilderF 94 5 B b bs w) (hb : Below w.heap.size w w') : Lib.IsBuilderF 94 5 B b bs w' := by
 have key : ∀ p, Lib.BuilderAtF 94 5 B b p bs w → Lib.BuilderAtF 94 5 B b p bs w' := by
  rintro p ⟨hB, v, hh, hown, hne⟩
  refine ⟨hB, v, by rw [hb.block b (lt_of_block hh)]; exact hh, ⟨hown.1, ?_⟩, hne⟩
  rcases hown.2 with h | ⟨g, cap, cur, fz, rfl, hbg, hg, rest⟩
  ·exact .inl h
  ·refine .inr ⟨g, cap, cur, fz, rfl, hbg, ?_, rest⟩
   rw [hb.block g (Array.getElem?_eq_some_iff.1 hg).1]
   exact hg
 exact h.imp (key _) (key _)
theorem bld_new {w : World} {b : Nat} (h : w.heap[b]? = some (.cells #[.pointer none, .slice none 0 0] 94 (0, 0))) : Lib.IsBuilderF 94 5 b b (Lib.strCells ByteArray.empty) w :=
 .inl ⟨Nat.le_refl _, .slice none 0 0, h, ⟨rfl, .inl ⟨rfl, rfl⟩⟩, fun e => by cases e⟩
def Bld (gb : Nat) (l : List UInt8) (w : World) : Prop := Lib.IsBuilderF 94 5 gb gb (Lib.strCells (txt l)) w
theorem Bld.on {gb : Nat} {l : List UInt8} {w w' : World} (h : Bld gb l w) (hb : Below w.heap.size w w') : Bld gb l w' := bld_on h hb
theorem bldWriteT (gb : Nat) (l m : List UInt8) (w : World) (h : Bld gb l w) (hlen : l.length + m.length ≤ 1048576) (hBw : gb ≤ w.heap.size) :
  Calls Tryz.prog 75 #[.pointer (some ⟨gb, 0, none⟩), .string (txt m)] w fun e w' => e = .returned (.tuple #[.int .i64 (m.length : Int), .nilIface]) ∧ Bld gb (l ++ m) w' ∧ Below gb w w' ∧ Lib.OthersKept 5 (some gb) w w' := by
 refine (bldWrite gb gb _ (txt m) w h (by rw [Lib.strCells_length]; have h1 := txt_size l; have h2 := txt_size m; omega) hBw).mono ?_
 rintro e w' ⟨rfl, h1, h2, h3⟩
 refine ⟨by rw [txt_size], ?_, h2, h3⟩
 unfold Bld
 rw [strCells_txt]
 exact .inr h1
theorem bldStringT (gb : Nat) (l : List UInt8) (w : World) (h : Bld gb l w) (hBw : gb ≤ w.heap.size) :
  Calls Tryz.prog 78 #[.pointer (some ⟨gb, 0, none⟩)] w fun e w' => e = .returned (.string (txt l)) ∧ Below gb w w' := by
 have h' : Lib.IsBuilderF 94 5 gb gb (Lib.byteCells l) w := by
  have : Lib.strCells (txt l) = Lib.byteCells l := by simp [Lib.strCells, Lib.byteCells, txt]
  rw [← this]
  exact h
 refine (bldString gb gb l w h' hBw).mono ?_
 rintro e w' ⟨rfl, _, h2, _⟩
 exact ⟨rfl, h2⟩
set_option maxHeartbeats 1000000 in
theorem specShowValues (l : List Int) (v : Value) (w : World) (B : Nat) (hv : NumsV w B v l) (hn : l.length ≤ 1048576) (hB : B ≤ w.heap.size) : Calls Tryz.prog 44 #[v] w fun e w' => e = .returned (.string (showV l)) ∧ Below w.heap.size w w' := by
 have c := specValuesOk l v w B hv hn
 have HV : Hid (NumsV w B v l) := hv
 have HB : Hid (B ≤ w.heap.size) := hB
 obtain ⟨A, cap, rfl, _, _, _⟩ := hv
 by_cases ho : VOk l
 ·have HE : Hid (showV l = txt (cat (vPiece l) l.length)) := by unfold Hid showV; rw [if_pos ho]
  have HO : Hid (VOk l) := ho
  rw [decide_eq_true ho] at c
  have q0 : (l.length : Int) ≤ 60 := by have := ho.2.1; omega
  clear ho hn hB
  generalize hN : l.length = n at *
  have HN : Hid (l.length = n) := hN
  clear hN
  go_enter Tryz.func44, Tryz.ntmps44
  go_wp2_with fail
  refine c.mono ?_
  rintro e w0 ⟨rfl, rfl⟩
  go_wp2_with fail
  go_loopw [3, 4, 5] (fun v3 v4 v5 wr => ∃ k : Nat, k ≤ n ∧ v5 = .int .i64 (k : Int) ∧ v4 = .int .i64 (prv l k) ∧ v3 = .string (txt (cat (vPiece l) k)) ∧ Below w.heap.size w wr) (fun _ _ i _ => n - (intOf i).toNat)
  case atStart => exact ⟨0, by omega, rfl, rfl, rfl, Below.refl _ _⟩
  case round =>
   obtain ⟨k, hk, rfl, rfl, rfl, hb⟩ := hrel
   have HB1 : Hid (Below w.heap.size w wr) := hb
   by_cases hlt : k < n
   ·have q2 : (k : Int) < (n : Int) := by omega
    obtain ⟨A', cap', e', _, _, hl⟩ := HV.out.on (hb.mono HB.out)
    injection e' with ea eb ec
    subst ea
    subst ec
    obtain ⟨g, off, rfl, hgB, e1⟩ := hl k (by rw [HN.out]; exact hlt)
    have hdk := HO.out.dif k (by rw [HN.out]; exact hlt)
    have cz := fun wx => spec_zig (dif l k) wx (by omega) (by omega)
    have hz0 := zig_pos (dif l k) (by omega) (by omega)
    have hz1 := (zig_range (dif l k)).2
    have cv := fun wx => spec_var (zig (dif l k)).toNat wx (by omega)
    rw [Int.toNat_of_nonneg hz0] at cv
    have HP : Hid (prv l (k + 1) = l.getD k 0) := prv_succ l k
    have ed : dif l k = l.getD k 0 - prv l k := rfl
    have ecat : cat (vPiece l) (k + 1) = cat (vPiece l) k ++ vF 6 (zig (dif l k)).toNat := cat_succ _ _
    have hl1 := cat_length (vPiece l) (vPiece_length l) k
    have hl2 := vF_length 6 (zig (dif l k)).toNat
    have HCT : Hid (txt (cat (vPiece l) (k + 1)) = txt (cat (vPiece l) k) ++ txt (vF 6 (zig (dif l k)).toNat)) := by unfold Hid; rw [ecat, txt_cat]
    have hs1 := txt_size (cat (vPiece l) k)
    have hs2 := txt_size (vF 6 (zig (dif l k)).toNat)
    generalize txt (cat (vPiece l) k) = sa at *
    generalize txt (vF 6 (zig (dif l k)).toNat) = sb at *
    have hsum : sa.size + sb.size ≤ 9223372036854775807 := by omega
    generalize zig (dif l k) = z at *
    clear ecat hl1 hl2 hs1 hs2
    rw [ed] at hdk cz
    have he1 : ∀ wx, Below wr.heap.size wr wx → wx.cell? ⟨g, off + k, none⟩ = some (.int .i64 (l.getD k 0)) := fun wx hx => by rw [hx.cell (p := ⟨_, _, none⟩) (by have := hb.size; have := HB.out; show g < _; omega)]; exact e1
    generalize l.getD k 0 = x at *
    generalize prv l k = y at *
    have hw : wrap64 (x - y) = x - y := by unfold wrap64; omega
    clear hl eb ed hb
    go_wp2_with fail
    refine (cz _).mono ?_
    rintro e w1 ⟨rfl, rfl⟩
    go_wp2_with fail
    refine (cv _).mono ?_
    rintro e w2 ⟨rfl, hb2⟩
    have e2 := he1 _ hb2
    have HB2 : Hid (Below w.heap.size w w2) := HB1.out.trans (hb2.mono HB1.out.size)
    clear he1 hb2
    go_wp2_with fail
    go_roundw
    case rel => exact ⟨k + 1, by omega, by go_num, by rw [HP.out], by rw [HCT.out], HB2.out⟩
    case measure => simp [intOf]; omega
   ·obtain rfl : k = n := by omega
    clear hb
    go_wp2_with fail
    go_ret
    exact ⟨by rw [HE.out]; rfl, HB1.out⟩
 ·have HE : Hid (showV l = txt []) := by unfold Hid showV; rw [if_neg ho]
  rw [decide_eq_false ho] at c
  clear ho
  go_enter Tryz.func44, Tryz.ntmps44
  go_wp2_with fail
  refine c.mono ?_
  rintro e w0 ⟨rfl, rfl⟩
  go_wp2_with fail
  go_ret
  exact ⟨by rw [HE.out]; rfl, Below.refl _ _⟩
set_option maxHeartbeats 1000000 in
theorem showVals1 (k : Nat) (d : Int) (gb : Nat) (l : List UInt8) (w : World) (h1 : -140737488355328 ≤ d) (h2 : d ≤ 140737488355328) (hb : Bld gb l w) (hl : l.length ≤ 1000) (hg : gb ≤ w.heap.size) :
  Calls Tryz.prog 80 #[.int .i64 (k : Int), .int .i64 d, .pointer (some ⟨gb, 0, none⟩)] w fun e w' => (∃ u, e = .returned u) ∧ Bld gb (l ++ vF 6 (zig d).toNat) w' ∧ Below gb w w' := by
 have cz := fun wx => impl_zig d wx (by omega) (by omega)
 have hz0 := zig_pos d h1 h2
 have hz1 := (zig_range d).2
 have cv := fun wx => impl_var (zig d).toNat wx (by omega)
 rw [Int.toNat_of_nonneg hz0] at cv
 have HBD : Hid (Bld gb l w) := hb
 have HG : Hid (gb ≤ w.heap.size) := hg
 have hvl := vF_length 6 (zig d).toNat
 have HL : Hid (l.length + (vF 6 (zig d).toNat).length ≤ 1048576) := by unfold Hid; omega
 clear hb hg hl hvl
 generalize hvv : vF 6 (zig d).toNat = vv at *
 generalize zig d = z at *
 go_enter Tryz.func80, Tryz.ntmps80
 go_wp2_with fail
 refine (cz _).mono ?_
 rintro e w1 ⟨rfl, rfl⟩
 go_wp2_with fail
 refine (cv _).mono ?_
 rintro e w2 ⟨rfl, hb2⟩
 have HB2 : Hid (Below gb w w2) := hb2.mono HG.out
 have Z2 : Hid (gb ≤ w2.heap.size) := Nat.le_trans HG.out hb2.size
 have L2 : Hid (Bld gb l w2) := HBD.out.on hb2
 clear hb2
 go_wp2_with fail
 refine (bldWriteT gb l vv w2 L2.out HL.out Z2.out).mono ?_
 rintro e w3 ⟨rfl, hB3, hb3, _⟩
 have HB3 : Hid (Below gb w w3) := HB2.out.trans hb3
 clear hb3
 go_wp2_with fail
 exact bodyPost_end (v := .tuple #[]) (by simp [results, go_sem]) rfl ⟨⟨_, rfl⟩, hB3, HB3.out⟩
set_option maxHeartbeats 1000000 in
theorem implShowValues (l : List Int) (v : Value) (w : World) (B : Nat) (hv : NumsV w B v l) (hn : l.length ≤ 1048576) (hB : B ≤ w.heap.size) : Calls Tryz.prog 63 #[v] w fun e w' => e = .returned (.string (showV l)) ∧ Below w.heap.size w w' := by
 have c := implValuesOk l v w B hv hn
 have HV : Hid (NumsV w B v l) := hv
 have HB : Hid (B ≤ w.heap.size) := hB
 obtain ⟨A, cap, rfl, _, _, _⟩ := hv
 by_cases ho : VOk l
 ·have HE : Hid (showV l = txt (cat (vPiece l) l.length)) := by unfold Hid showV; rw [if_pos ho]
  have HO : Hid (VOk l) := ho
  have HN : Hid (l.length ≤ 60) := ho.2.1
  rw [decide_eq_true ho] at c
  have k0 : (w.alloc (.cells #[.pointer none, .slice none 0 0] 94)).heap[w.heap.size]? = some (.cells #[.pointer none, .slice none 0 0] 94 (0, 0)) := heap_alloc_new w _
  have b0 : Below w.heap.size w (w.alloc (.cells #[.pointer none, .slice none 0 0] 94)) := (Below.refl _ _).alloc (Nat.le_refl _) _
  clear ho hB
  go_enter Tryz.func63, Tryz.ntmps63
  go_wp2_with fail
  refine c.mono ?_
  rintro e w0 ⟨rfl, rfl⟩
  go_wp2_with fail
  generalize w.alloc (.cells #[.pointer none, .slice none 0 0] 94) = W at *
  have cD := differencesV l (.slice A l.length cap) W B 80 #[.pointer (some ⟨w.heap.size, 0, none⟩)] (fun k wx => Below w.heap.size w wx ∧ Bld w.heap.size (cat (vPiece l) k) wx) (fun _ _ => by kernel_rfl) hn (fun k hk => by have := HO.out.dif k hk; omega) (fun k wx hx => HV.out.on (hx.1.mono HB.out)) ⟨b0, bld_new k0⟩ (fun k hk wx hx => by
   have hd := HO.out.dif k hk
   have hc := cat_length (vPiece l) (vPiece_length l) k
   have hN := HN.out
   refine (showVals1 k (dif l k) w.heap.size (cat (vPiece l) k) wx (by omega) (by omega) hx.2 (by omega) hx.1.size).mono ?_
   rintro e w' ⟨hu, h1, h2⟩
   exact ⟨hu, hx.1.trans h2, by rw [cat_succ]; exact h1⟩)
  refine cD.mono ?_
  rintro e w2 ⟨⟨u, rfl⟩, hb2, hB2⟩
  have cS := bldStringT w.heap.size _ w2 hB2 hb2.size
  have HB2 : Hid (Below w.heap.size w w2) := hb2
  clear hb2 hB2 cD b0 k0
  go_wp2_with fail
  refine cS.mono ?_
  rintro e w3 ⟨rfl, hb3⟩
  have HB3 : Hid (Below w.heap.size w w3) := HB2.out.trans hb3
  clear hb3 cS
  go_wp2_with fail
  go_ret
  exact ⟨by rw [HE.out]; rfl, HB3.out⟩
 ·have HE : Hid (showV l = txt []) := by unfold Hid showV; rw [if_neg ho]
  rw [decide_eq_false ho] at c
  clear ho
  go_enter Tryz.func63, Tryz.ntmps63
  go_wp2_with fail
  refine c.mono ?_
  rintro e w0 ⟨rfl, rfl⟩
  go_wp2_with fail
  go_ret
  exact ⟨by rw [HE.out]; rfl, Below.refl _ _⟩
end Go.Proofs.YtgbepickfhbknaaGreatDoor
namespace Go.Proofs.YtgbepickfhbknaaGreatDoor
open Go.ChangeShapes Go.WideShapes Go.ChangeAt Go.RowKit Go.PlainAid
set_option linter.unusedVariables false
set_option maxHeartbeats 2000000 in
theorem specShowTimes (l : List Int) (v : Value) (w : World) (B : Nat) (hv : NumsV w B v l) (hn : l.length ≤ 1048576) (hB : B ≤ w.heap.size) : Calls Tryz.prog 43 #[v] w fun e w' => e = .returned (.string (showT l)) ∧ Below w.heap.size w w' := by
 have c := specRise l v w B hv hn
 have HV : Hid (NumsV w B v l) := hv
 have HB : Hid (B ≤ w.heap.size) := hB
 by_cases ho : TOk l
 ·obtain ⟨g, off, cap, rfl, _, _, hg, hc0⟩ := hv.full ho.1
  have HC : Hid (∀ wx, Below w.heap.size w wx → ∀ j, j < l.length → wx.cell? ⟨g, off + j, none⟩ = some (.int .i64 (l.getD j 0))) := fun wx hx => hc0 wx (hx.mono hB)
  have HE : Hid (showT l = txt (cat (tPiece l) l.length)) := by unfold Hid showT; rw [if_pos ho]
  have HO : Hid (TOk l) := ho
  rw [decide_eq_true ho] at c
  have q0 : (l.length : Int) ≤ 60 := by have := ho.2.1; omega
  have q1 : (1 : Int) ≤ (l.length : Int) := by have := ho.1; omega
  have hq1 : 1 ≤ l.length := by have := ho.1; omega
  clear ho hn hB hc0 hv
  generalize hN : l.length = n at *
  have HN : Hid (l.length = n) := hN
  clear hN
  go_enter Tryz.func43, Tryz.ntmps43
  go_wp2_with fail
  refine c.mono ?_
  rintro e w0 ⟨rfl, hL0⟩
  have B0 : Hid (Below w.heap.size w w0) := hL0.below
  have e1 := HC.out w0 B0.out 0 hq1
  have e00 : off + 0 = off := rfl
  rw [e00] at e1
  have hT0 := HO.out.turn 0 (by rw [HN.out]; exact hq1)
  have ht0 : turn l 0 = l.getD 0 0 := by unfold turn dif prv; simp
  have cv0 := fun wx => spec_var (turn l 0).toNat wx (by omega)
  rw [Int.toNat_of_nonneg hT0.1] at cv0
  have HC1 : Hid (txt (cat (tPiece l) 1) = txt (vF 6 (turn l 0).toNat)) := by unfold Hid; rw [cat_succ, cat_zero]; rfl
  generalize txt (vF 6 (turn l 0).toNat) = s1 at *
  rw [ht0] at cv0
  clear e00 hT0 ht0 hL0
  generalize l.getD 0 0 = x0 at *
  go_wp2_with fail
  refine (cv0 _).mono ?_
  rintro e w1 ⟨rfl, hb1⟩
  have B1 : Hid (Below w.heap.size w w1) := B0.out.trans (hb1.mono B0.out.size)
  clear hb1 cv0 e1
  go_wp2_with fail
  go_loopw [3, 4] (fun v3 v4 wr => ∃ k : Nat, 1 ≤ k ∧ k ≤ n ∧ v4 = .int .i64 (k : Int) ∧ v3 = .string (txt (cat (tPiece l) k)) ∧ Below w.heap.size w wr) (fun _ i _ => n - (intOf i).toNat)
  case atStart => exact ⟨1, by omega, by omega, rfl, by rw [HC1.out], B1.out⟩
  case round =>
   obtain ⟨k, hk1, hk, rfl, rfl, hb⟩ := hrel
   have HB1 : Hid (Below w.heap.size w wr) := hb
   by_cases hlt : k < n
   ·have q2 : (k : Int) < (n : Int) := by omega
    have q3 : (1 : Int) ≤ (k : Int) := by omega
    have e1 := HC.out wr hb k hlt
    have e0 := HC.out wr hb (k - 1) (by omega)
    have hdk := HO.out.dif k (by rw [HN.out]; exact hlt)
    have hpk := HO.out.2.2 k (by rw [HN.out]; exact hlt)
    have hpj := HO.out.2.2 (k - 1) (by rw [HN.out]; omega)
    have ed : dif l k = l.getD k 0 - l.getD (k - 1) 0 := by unfold dif prv; rw [if_neg (by omega)]
    have hT := HO.out.turn k (by rw [HN.out]; exact hlt)
    have cv := fun wx => spec_var (turn l k).toNat wx (by omega)
    rw [Int.toNat_of_nonneg hT.1] at cv
    have ecat : cat (tPiece l) (k + 1) = cat (tPiece l) k ++ vF 6 (turn l k).toNat := cat_succ _ _
    have hl1 := cat_length (tPiece l) (tPiece_length l) k
    have hl2 := vF_length 6 (turn l k).toNat
    have HCT : Hid (txt (cat (tPiece l) (k + 1)) = txt (cat (tPiece l) k) ++ txt (vF 6 (turn l k).toNat)) := by unfold Hid; rw [ecat, txt_cat]
    have hs1 := txt_size (cat (tPiece l) k)
    have hs2 := txt_size (vF 6 (turn l k).toNat)
    generalize txt (cat (tPiece l) k) = sa at *
    generalize txt (vF 6 (turn l k).toNat) = sb at *
    have hsum : sa.size + sb.size ≤ 9223372036854775807 := by omega
    have e3 : ((k : Int) - 1).toNat = k - 1 := by omega
    have ew : wrap64 (l.getD k 0 - l.getD (k - 1) 0) = l.getD k 0 - l.getD (k - 1) 0 := by unfold wrap64; omega
    clear ecat hl1 hl2 hs1 hs2
    by_cases hk1 : k = 1
    ·have et : turn l k = dif l k := by unfold turn; rw [if_pos (by omega)]
     rw [et, ed] at cv
     clear et hT ed hdk hpk hpj
     subst hk1
     have e0' : wr.cell? ⟨g, off, none⟩ = some (.int .i64 (l.getD (1 - 1) 0)) := e0
     clear e0 e3
     generalize l.getD 1 0 = x at *
     generalize l.getD (1 - 1) 0 = y at *
     go_wp2_with fail
     go_quiet (fail)
     go_wp2_with fail
     refine (cv _).mono ?_
     rintro e w2 ⟨rfl, hb2⟩
     have HB2 : Hid (Below w.heap.size w w2) := (HB1.out.trans (((Like.refl wr).drewN _).below.mono HB1.out.size)).trans (hb2.mono HB1.out.size)
     clear hb2
     go_wp2_with fail
     go_roundw
     case rel => exact ⟨2, by omega, by omega, by go_num, by rw [HCT.out], HB2.out⟩
     case measure => simp [intOf]; omega
    ·have et : turn l k = zig (dif l k - dif l (k - 1)) := by unfold turn; rw [if_neg (by omega)]
     have ed2 : dif l (k - 1) = l.getD (k - 1) 0 - l.getD (k - 2) 0 := by unfold dif prv; rw [if_neg (by omega), Nat.sub_sub]
     have hdj := HO.out.dif (k - 1) (by rw [HN.out]; omega)
     have cz := fun wx => spec_zig (dif l k - dif l (k - 1)) wx (by omega) (by omega)
     rw [← et] at cz
     rw [ed, ed2] at cz
     have f0 := HC.out wr hb (k - 2) (by omega)
     have hpi := HO.out.2.2 (k - 2) (by rw [HN.out]; omega)
     have e4 : ((k : Int) - 2).toNat = k - 2 := by omega
     have q5 : ¬ (k : Int) = 1 := by omega
     have q6 : (2 : Int) ≤ (k : Int) := by omega
     have q7 : decide ((k : Int) = 1) = false := decide_eq_false q5
     have q8 : ((k : Int) == 1) = false := by simp; omega
     have ew2 : wrap64 (l.getD (k - 1) 0 - l.getD (k - 2) 0) = l.getD (k - 1) 0 - l.getD (k - 2) 0 := by unfold wrap64; omega
     have ew3 : wrap64 (l.getD k 0 - l.getD (k - 1) 0 - (l.getD (k - 1) 0 - l.getD (k - 2) 0)) = l.getD k 0 - l.getD (k - 1) 0 - (l.getD (k - 1) 0 - l.getD (k - 2) 0) := by unfold wrap64; omega
     have HCY0 : ∀ wx, Below w.heap.size w wx → wx.cell? ⟨g, off + (k - 1), none⟩ = some (.int .i64 (l.getD (k - 1) 0)) ∧ wx.cell? ⟨g, off + (k - 2), none⟩ = some (.int .i64 (l.getD (k - 2) 0)) := fun wx hx => ⟨HC.out wx hx (k - 1) (by omega), HC.out wx hx (k - 2) (by omega)⟩
     generalize turn l k = tt at *
     clear ed ed2 et hdk hdj
     generalize l.getD k 0 = x at *
     generalize l.getD (k - 1) 0 = y at *
     generalize l.getD (k - 2) 0 = z at *
     go_wp2_with fail
     go_quiet (fail)
     go_wp2_with fail
     have g1 : IntKind.i64.wrap ((k : Int) - 1) = (k : Int) - 1 := by rw [IntKind.wrap_i64]; omega
     have g2 : IntKind.i64.wrap ((k : Int) - 2) = (k : Int) - 2 := by rw [IntKind.wrap_i64]; omega
     have g3 : (0 : Int) ≤ (k : Int) - 1 := by omega
     have g4 : (k : Int) - 1 < (n : Int) := by omega
     have g5 : (0 : Int) ≤ (k : Int) - 2 := by omega
     have g6 : (k : Int) - 2 < (n : Int) := by omega
     have g7 : IntKind.i64.wrap (y - z) = y - z := by rw [IntKind.wrap_i64]; omega
     have g8 : IntKind.i64.wrap (x - y - (y - z)) = x - y - (y - z) := by rw [IntKind.wrap_i64]; omega
     have g9 : sa.size + sb.size ≤ maxLen := by unfold maxLen; omega
     have g10 : ¬ maxLen < sa.size + sb.size := by unfold maxLen; omega
     have S0 : Hid (wr.cell? ⟨g, off + (k - 1), none⟩ = some (.int .i64 y) ∧ wr.cell? ⟨g, off + (k - 2), none⟩ = some (.int .i64 z)) := ⟨e0, f0⟩
     have HCY : Hid (∀ wx, Below w.heap.size w wx → wx.cell? ⟨g, off + (k - 1), none⟩ = some (.int .i64 y) ∧ wx.cell? ⟨g, off + (k - 2), none⟩ = some (.int .i64 z)) := HCY0
     refine wp_region_until (fun w' => w'.cell? ⟨g, off + (k - 1), none⟩ = some (.int .i64 y) ∧ w'.cell? ⟨g, off + (k - 2), none⟩ = some (.int .i64 z)) (fun i => false) 18 (by rfl) (by kernel_rfl) ?_
     refine until_take 0 (v := ?_) (by rfl) (by kernel_rfl) (by exact fun _ _ _ h => h) (by rfl) ?_ S0.out ?_
     rotate_left
     ·intro w hSw
      try dsimp only at hSw
      go_simp
      try with_reducible rfl
     try simp only [Act.put, setIfInBounds_toArray, set_cons_zero, set_cons_succ]
     refine until_take 1 (v := ?_) (by rfl) (by kernel_rfl) (by exact fun _ _ _ h => h) (by rfl) ?_ S0.out ?_
     rotate_left
     ·intro w hSw
      try dsimp only at hSw
      go_simp
      try with_reducible rfl
     try simp only [Act.put, setIfInBounds_toArray, set_cons_zero, set_cons_succ]
     refine until_take 2 (v := ?_) (by rfl) (by kernel_rfl) (by exact fun _ _ _ h => h) (by rfl) ?_ S0.out ?_
     rotate_left
     ·intro w hSw
      try dsimp only at hSw
      go_simp
      try with_reducible rfl
     try simp only [Act.put, setIfInBounds_toArray, set_cons_zero, set_cons_succ]
     refine until_take 3 (v := ?_) (by rfl) (by kernel_rfl) (by exact fun _ _ _ h => h) (by rfl) ?_ S0.out ?_
     rotate_left
     ·intro w hSw
      try dsimp only at hSw
      go_simp
      try with_reducible rfl
     try simp only [Act.put, setIfInBounds_toArray, set_cons_zero, set_cons_succ]
     refine until_take 4 (v := ?_) (by rfl) (by kernel_rfl) (by exact fun _ _ _ h => h) (by rfl) ?_ S0.out ?_
     rotate_left
     ·intro w hSw
      try dsimp only at hSw
      go_simp
      try with_reducible rfl
     try simp only [Act.put, setIfInBounds_toArray, set_cons_zero, set_cons_succ]
     refine until_take 5 (v := ?_) (by rfl) (by kernel_rfl) (by exact fun _ _ _ h => h) (by rfl) ?_ S0.out ?_
     rotate_left
     ·intro w hSw
      try dsimp only at hSw
      go_simp
      try with_reducible rfl
     try simp only [Act.put, setIfInBounds_toArray, set_cons_zero, set_cons_succ]
     refine until_take 6 (v := ?_) (by rfl) (by kernel_rfl) (by exact fun _ _ _ h => h) (by rfl) ?_ S0.out ?_
     rotate_left
     ·intro w hSw
      try dsimp only at hSw
      go_simp
      try with_reducible rfl
     try simp only [Act.put, setIfInBounds_toArray, set_cons_zero, set_cons_succ]
     refine until_take 7 (v := ?_) (by rfl) (by kernel_rfl) (by exact fun _ _ _ h => h) (by rfl) ?_ S0.out ?_
     rotate_left
     ·intro w hSw
      try dsimp only at hSw
      go_simp
      try with_reducible rfl
     try simp only [Act.put, setIfInBounds_toArray, set_cons_zero, set_cons_succ]
     refine until_take 8 (v := ?_) (by rfl) (by kernel_rfl) (by exact fun _ _ _ h => h) (by rfl) ?_ S0.out ?_
     rotate_left
     ·intro w hSw
      try dsimp only at hSw
      go_simp
      try with_reducible rfl
     try simp only [Act.put, setIfInBounds_toArray, set_cons_zero, set_cons_succ]
     refine until_take 9 (v := ?_) (by rfl) (by kernel_rfl) (by exact fun _ _ _ h => h) (by rfl) ?_ S0.out ?_
     rotate_left
     ·intro w hSw
      try dsimp only at hSw
      go_simp
      try with_reducible rfl
     try simp only [Act.put, setIfInBounds_toArray, set_cons_zero, set_cons_succ]
     refine until_take 10 (v := ?_) (by rfl) (by kernel_rfl) (by exact fun _ _ _ h => h) (by rfl) ?_ S0.out ?_
     rotate_left
     ·intro w hSw
      try dsimp only at hSw
      go_simp
      try with_reducible rfl
     try simp only [Act.put, setIfInBounds_toArray, set_cons_zero, set_cons_succ]
     refine until_take 11 (v := ?_) (by rfl) (by kernel_rfl) (by exact fun _ _ _ h => h) (by rfl) ?_ S0.out ?_
     rotate_left
     ·intro w hSw
      try dsimp only at hSw
      go_simp
      try with_reducible rfl
     try simp only [Act.put, setIfInBounds_toArray, set_cons_zero, set_cons_succ]
     refine until_take 12 (v := ?_) (by rfl) (by kernel_rfl) (by exact fun _ _ _ h => h) (by rfl) ?_ S0.out ?_
     rotate_left
     ·intro w hSw
      try dsimp only at hSw
      go_simp
      try with_reducible rfl
     try simp only [Act.put, setIfInBounds_toArray, set_cons_zero, set_cons_succ]
     refine until_take 13 (v := ?_) (by rfl) (by kernel_rfl) (by exact fun _ _ _ h => h) (by rfl) ?_ S0.out ?_
     rotate_left
     ·intro w hSw
      try dsimp only at hSw
      go_simp
      try with_reducible rfl
     try simp only [Act.put, setIfInBounds_toArray, set_cons_zero, set_cons_succ]
     refine until_one 14 (by rfl) (by kernel_rfl) (fun K hK => ?_)
     go_simp
     refine (cz _).mono ?_
     rintro e w2 ⟨rfl, rfl⟩
     go_wp2_with fail
     refine hK.out _ _ (fun _ _ => S0.out) ?_
     clear hK K
     try simp only [Act.put, setIfInBounds_toArray, set_cons_zero, set_cons_succ]
     refine until_one 15 (by rfl) (by kernel_rfl) (fun K hK => ?_)
     go_simp
     refine (cv _).mono ?_
     rintro e w2 ⟨rfl, hb2⟩
     have HB2 : Hid (Below w.heap.size w w2) := ((HB1.out.trans (((Like.refl wr).drewN _).below.mono HB1.out.size)).drew).trans (hb2.mono HB1.out.size)
     clear hb2
     go_wp2_with fail
     refine hK.out _ _ (fun _ _ => HCY.out w2 HB2.out) ?_
     clear hK K
     try simp only [Act.put, setIfInBounds_toArray, set_cons_zero, set_cons_succ]
     refine until_one 16 (by rfl) (by kernel_rfl) (fun K hK => ?_)
     go_simp
     go_wp2_with fail
     refine hK.out _ _ (fun _ h => h) ?_
     clear hK K
     try simp only [Act.put, setIfInBounds_toArray, set_cons_zero, set_cons_succ]
     refine until_pure 17 (v := ?_) (by rfl) (by kernel_rfl) (by exact fun _ _ _ h => h) (by rfl) ?_ ?_
     rotate_left
     ·intro w
      go_simp
      try with_reducible rfl
     try simp only [Act.put, setIfInBounds_toArray, set_cons_zero, set_cons_succ]
     refine until_done (by kernel_rfl) ?_ _
     go_wp2_with fail
     exact ⟨⟨k + 1, by omega, by omega, by go_num, by rw [HCT.out], HB2.out⟩, by simp [intOf]; omega⟩
   ·obtain rfl : k = n := by omega
    clear hb
    go_wp2_with fail
    go_ret
    exact ⟨by rw [HE.out]; rfl, HB1.out⟩
 ·obtain ⟨A, cap, rfl, _, _, _⟩ := hv
  have HE : Hid (showT l = txt []) := by unfold Hid showT; rw [if_neg ho]
  rw [decide_eq_false ho] at c
  clear ho
  go_enter Tryz.func43, Tryz.ntmps43
  go_wp2_with fail
  refine c.mono ?_
  rintro e w0 ⟨rfl, hL0⟩
  have B0 : Hid (Below w.heap.size w w0) := hL0.below
  clear hL0
  go_wp2_with fail
  go_ret
  exact ⟨by rw [HE.out]; rfl, B0.out⟩
end Go.Proofs.YtgbepickfhbknaaGreatDoor
