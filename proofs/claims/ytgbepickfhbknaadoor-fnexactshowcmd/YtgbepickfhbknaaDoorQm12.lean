/- CmCmd CmCmdL LawShowCmd -/
import Derived.Test.YtgbepickfhbknaaDoorRows
import Derived.Test.YtgbepickfhbknaaDoorQm10
import Derived.Deep.Slices
import Derived.ChangeArms
import Derived.OpenShut
import Derived.Test.YtgbepickfhbknaaDoorQm1
import Derived.Test.YtgbepickfhbknaaDoorQm7
open List (setIfInBounds_toArray set_cons_zero set_cons_succ)
namespace Go.Proofs.YtgbepickfhbknaaDoor
open Go.ChangeShapes Go.WideShapes Go.ChangeAt Go.RowKit Go.PlainAid
set_option linter.unusedVariables false
structure Cmx where
 client : Int
 serial : Int
 op : Opx
def vCmd (x : Cmx) : Value := .agg #[.int .i64 x.client, .int .i64 x.serial, .int .i64 x.op.kind, .string x.op.key, .int .i64 x.op.frm, .int .i64 x.op.til, .string x.op.data]
def trnOk (x : Cmx) : Bool := inRg x.client 1 4 && inRg x.serial 1 1000000
noncomputable def cmdT (x : Cmx) : ByteArray := if (trnOk x && opOk x.op) = true then txt (vF 6 x.client.toNat) ++ txt (vF 6 x.serial.toNat) ++ opT x.op else ⟨#[]⟩
theorem opT_some {x : Opx} (h : opOk x = true) : ¬ opT x = ⟨#[]⟩ := by
 intro e
 have h2 : (opT x).size = 0 := by rw [e]; rfl
 unfold opT at h2
 rw [if_pos h] at h2
 simp only [ByteArray.size_append, txt_size, List.length_cons, List.length_nil] at h2
 omega
theorem opT_none {x : Opx} (h : opOk x = false) : opT x = ⟨#[]⟩ := by unfold opT; rw [h]; rfl
theorem trnOk_in {x : Cmx} (h : trnOk x = true) : (1 ≤ x.client ∧ x.client ≤ 4) ∧ (1 ≤ x.serial ∧ x.serial ≤ 1000000) := by
 unfold trnOk inRg at h
 simp only [Bool.and_eq_true, decide_eq_true_eq] at h
 omega
theorem opT_size (x : Opx) : (opT x).size ≤ 31 + x.data.size := by
 cases h : opOk x
 ·rw [opT_none h]; exact Nat.zero_le _
 ·have hk := (opOk_in h).2.1
  have l1 := vF_length 6 x.key.size
  have l2 := vF_length 6 x.frm.toNat
  have l3 := vF_length 6 x.til.toNat
  unfold opT
  rw [if_pos h]
  simp only [ByteArray.size_append, txt_size, List.length_cons, List.length_nil]
  omega
set_option maxHeartbeats 1000000 in
theorem turnOkV (x : Cmx) (w : World) : Calls Tryd.prog 26 #[vCmd x] w fun e w' => e = .returned (.bool (trnOk x)) ∧ Below w.heap.size w w' := by
 have HB : Hid (Below w.heap.size w (w.alloc (.cells #[.int .i64 x.client, .int .i64 x.serial, .int .i64 x.op.kind, .string x.op.key, .int .i64 x.op.frm, .int .i64 x.op.til, .string x.op.data] 38))) := below_c1 _ _
 have k0 := Blk.new w #[.int .i64 x.client, .int .i64 x.serial, .int .i64 x.op.kind, .string x.op.key, .int .i64 x.op.frm, .int .i64 x.op.til, .string x.op.data] 38
 have e0 : (w.alloc (.cells #[.int .i64 x.client, .int .i64 x.serial, .int .i64 x.op.kind, .string x.op.key, .int .i64 x.op.frm, .int .i64 x.op.til, .string x.op.data] 38)).cell? ⟨w.heap.size, 0, none⟩ = some (.int .i64 x.client) := k0.cell 0 _ rfl
 have e1 : (w.alloc (.cells #[.int .i64 x.client, .int .i64 x.serial, .int .i64 x.op.kind, .string x.op.key, .int .i64 x.op.frm, .int .i64 x.op.til, .string x.op.data] 38)).cell? ⟨w.heap.size, 1, none⟩ = some (.int .i64 x.serial) := k0.cell 1 _ rfl
 have HE : Hid (trnOk x = (inRg x.client 1 4 && inRg x.serial 1 1000000)) := rfl
 have a1 := inI x.client 1 4
 have a2 := inI x.serial 1 1000000
 unfold vCmd
 clear k0
 cases h1 : inRg x.client 1 4 <;> rw [h1] at a1 HE <;> clear h1
 ·go_enter Tryd.func26, Tryd.ntmps26
  go_wp2_with fail
  refine (a1 _).mono ?_
  rintro e w' ⟨rfl, rfl⟩
  go_wp2_with fail
  go_ret
  exact ⟨by rw [HE.out]; rfl, HB.out⟩
 ·go_enter Tryd.func26, Tryd.ntmps26
  go_wp2_with fail
  refine (a1 _).mono ?_
  rintro e w' ⟨rfl, rfl⟩
  go_wp2_with fail
  refine (a2 _).mono ?_
  rintro e w' ⟨rfl, rfl⟩
  go_wp2_with fail
  go_ret
  exact ⟨by rw [HE.out]; rfl, HB.out⟩
set_option maxHeartbeats 4000000 in
theorem implShowCmd (x : Cmx) (w : World) (hk : x.op.key.size ≤ maxLen) (hd : x.op.data.size ≤ 1048576) (hst : SumTab w) (a0 a1 a2 : Addr) (he : Errs w a0 a1 a2) : Calls Tryd.prog 16 #[vCmd x] w fun e w' => e = .returned (.string (cmdT x)) ∧ Below w.heap.size w w' := by
 have c0 := fun wx (hb : Below w.heap.size w wx) => implShowOp x.op wx hk hd (hst.on hb) a0 a1 a2 (he.on hb)
 have c1 := fun wx => turnOkV x wx
 have hb0 := below_c1 w (.cells #[.int .i64 x.client, .int .i64 x.serial, .int .i64 x.op.kind, .string x.op.key, .int .i64 x.op.frm, .int .i64 x.op.til, .string x.op.data] 38)
 have k0 := Blk.new w #[.int .i64 x.client, .int .i64 x.serial, .int .i64 x.op.kind, .string x.op.key, .int .i64 x.op.frm, .int .i64 x.op.til, .string x.op.data] 38
 obtain ⟨f0, f1, f2, f3, f4, f5, f6⟩ := cellsC7 k0
 unfold vOp vCmd at *
 clear hst he hk
 have HW : Hid (cmdT x = if (trnOk x && opOk x.op) = true then txt (vF 6 x.client.toNat) ++ txt (vF 6 x.serial.toNat) ++ opT x.op else ⟨#[]⟩) := rfl
 go_enter Tryd.func16, Tryd.ntmps16
 go_wp2_with fail
 generalize w.alloc (.cells #[.int .i64 x.client, .int .i64 x.serial, .int .i64 x.op.kind, .string x.op.key, .int .i64 x.op.frm, .int .i64 x.op.til, .string x.op.data] 38) = W at *
 refine (c0 _ hb0).mono ?_
 rintro e y0 ⟨rfl, hb1⟩
 have k1 := k0.on hb1 k0.lt
 have B1 := hb0.trans (hb1.mono hb0.size)
 clear hb0 hb1 c0 k0 f0 f1 f2 f3 f4 f5 f6
 obtain ⟨f0, f1, f2, f3, f4, f5, f6⟩ := cellsC7 k1
 go_wp2_with fail
 refine (c1 _).mono ?_
 rintro e y1 ⟨rfl, hb1⟩
 have k2 := k1.on hb1 k1.lt
 have B2 : Hid (Below w.heap.size w y1) := B1.trans (hb1.mono B1.size)
 clear hb1 c1 k1 B1 f0 f1 f2 f3 f4 f5 f6
 cases ht : trnOk x
 ·have HT : Hid (cmdT x = ⟨#[]⟩) := by unfold Hid; rw [HW.out, ht]; rfl
  clear ht HW k2
  go_wp2_with fail
  go_ret
  exact ⟨by rw [HT.out]; rfl, B2.out⟩
 cases ho : opOk x.op
 ·have HT : Hid (cmdT x = ⟨#[]⟩) := by unfold Hid; rw [HW.out, ho, Bool.and_false]; rfl
  have hz := opT_none ho
  have hq : (⟨#[]⟩ : ByteArray).toList = [] := by rw [Lib.toList_data]
  rw [hz]
  clear ht ho HW k2 hz
  go_wp2_with fail
  go_ret
  exact ⟨by rw [HT.out]; rfl, B2.out⟩
 have HT : Hid (cmdT x = txt (vF 6 x.client.toNat) ++ txt (vF 6 x.serial.toNat) ++ opT x.op) := by unfold Hid; rw [HW.out, ht, ho]; rfl
 obtain ⟨z1, z2, z3, _⟩ := em_facts (opT_some ho)
 obtain ⟨⟨a1, a2⟩, ⟨a3, a4⟩⟩ := trnOk_in ht
 clear ho HW
 obtain ⟨c, s, o⟩ := x
 simp only at *
 obtain ⟨cn, rfl⟩ : ∃ n : Nat, c = (n : Int) := ⟨c.toNat, by omega⟩
 obtain ⟨sn, rfl⟩ : ∃ n : Nat, s = (n : Int) := ⟨s.toNat, by omega⟩
 simp only [Int.toNat_natCast] at HT
 have cA := fun wx => impl_var cn wx (by omega)
 have cB := fun wx => impl_var sn wx (by omega)
 have l1 : (txt (vF 6 cn)).size ≤ 7 := by rw [txt_size]; exact vF_length 6 cn
 have l2 : (txt (vF 6 sn)).size ≤ 7 := by rw [txt_size]; exact vF_length 6 sn
 have l3 := opT_size o
 generalize txt (vF 6 cn) = t1 at *
 generalize txt (vF 6 sn) = t2 at *
 have p1 : ¬ 9223372036854775807 < t1.size + t2.size := by omega
 have p2 : ¬ 9223372036854775807 < t1.size + t2.size + (opT o).size := by omega
 generalize opT o = to' at *
 clear l1 l2 l3
 clear a1 a2 a3 a4 ht
 have D0 : Hid (Below w.heap.size w y1.drew) := B2.out.drew
 have K0 : Hid (Blk y1.drew w.heap.size #[.int .i64 (cn : Int), .int .i64 (sn : Int), .int .i64 o.kind, .string o.key, .int .i64 o.frm, .int .i64 o.til, .string o.data] 38) := k2
 clear B2 k2
 go_wp2_with fail
 have S0 : Hid (y1.drew.cell? ⟨w.heap.size, 0, none⟩ = some (.int .i64 (cn : Int)) ∧ y1.drew.cell? ⟨w.heap.size, 1, none⟩ = some (.int .i64 (sn : Int)) ∧ y1.drew.cell? ⟨w.heap.size, 2, none⟩ = some (.int .i64 o.kind) ∧ y1.drew.cell? ⟨w.heap.size, 3, none⟩ = some (.string o.key) ∧ y1.drew.cell? ⟨w.heap.size, 4, none⟩ = some (.int .i64 o.frm) ∧ y1.drew.cell? ⟨w.heap.size, 5, none⟩ = some (.int .i64 o.til) ∧ y1.drew.cell? ⟨w.heap.size, 6, none⟩ = some (.string o.data)) := ⟨K0.out.cell 0 _ rfl, K0.out.cell 1 _ rfl, K0.out.cell 2 _ rfl, K0.out.cell 3 _ rfl, K0.out.cell 4 _ rfl, K0.out.cell 5 _ rfl, K0.out.cell 6 _ rfl⟩
 refine wp_region_until (fun w' => w'.cell? ⟨w.heap.size, 0, none⟩ = some (.int .i64 (cn : Int)) ∧ w'.cell? ⟨w.heap.size, 1, none⟩ = some (.int .i64 (sn : Int)) ∧ w'.cell? ⟨w.heap.size, 2, none⟩ = some (.int .i64 o.kind) ∧ w'.cell? ⟨w.heap.size, 3, none⟩ = some (.string o.key) ∧ w'.cell? ⟨w.heap.size, 4, none⟩ = some (.int .i64 o.frm) ∧ w'.cell? ⟨w.heap.size, 5, none⟩ = some (.int .i64 o.til) ∧ w'.cell? ⟨w.heap.size, 6, none⟩ = some (.string o.data)) (fun i => false) 10 (by rfl) (by kernel_rfl) ?_
 generalize y1.drew = X at *
 refine until_take 0 (v := ?_) (by rfl) (by kernel_rfl) (by exact fun _ _ _ h => h) (by rfl) ?_ S0.out ?_
 rotate_left
 ·intro w hSw
  try dsimp only at hSw
  go_simp
  try with_reducible rfl
 try simp only [Act.put, setIfInBounds_toArray, set_cons_zero, set_cons_succ]
 refine until_take 1 (v := ?_) (by rfl) (by kernel_rfl) (by exact fun _ _ _ h => h) (by rfl) ?_ S0.out ?_
 rotate_left
 ·intro w hSw
  try dsimp only at hSw
  go_simp
  try with_reducible rfl
 try simp only [Act.put, setIfInBounds_toArray, set_cons_zero, set_cons_succ]
 refine until_take 3 (v := ?_) (by rfl) (by kernel_rfl) (by exact fun _ _ _ h => h) (by rfl) ?_ S0.out ?_
 rotate_left
 ·intro w hSw
  try dsimp only at hSw
  go_simp
  try with_reducible rfl
 try simp only [Act.put, setIfInBounds_toArray, set_cons_zero, set_cons_succ]
 refine until_take 4 (v := ?_) (by rfl) (by kernel_rfl) (by exact fun _ _ _ h => h) (by rfl) ?_ S0.out ?_
 rotate_left
 ·intro w hSw
  try dsimp only at hSw
  go_simp
  try with_reducible rfl
 try simp only [Act.put, setIfInBounds_toArray, set_cons_zero, set_cons_succ]
 refine until_pure 7 (v := ?_) (by rfl) (by kernel_rfl) (by exact fun _ _ _ h => h) (by rfl) ?_ ?_
 rotate_left
 ·intro w
  go_simp
  try with_reducible rfl
 try simp only [Act.put, setIfInBounds_toArray, set_cons_zero, set_cons_succ]
 refine until_one 2 (by rfl) (by kernel_rfl) (fun K hK => ?_)
 go_simp
 refine (cA _).mono ?_
 rintro e Y1 ⟨rfl, hb⟩
 have K1 : Hid (Blk Y1 w.heap.size #[.int .i64 (cn : Int), .int .i64 (sn : Int), .int .i64 o.kind, .string o.key, .int .i64 o.frm, .int .i64 o.til, .string o.data] 38) := K0.out.on hb K0.out.lt
 have D1 : Hid (Below w.heap.size w Y1) := D0.out.trans (hb.mono D0.out.size)
 clear hb
 go_wp2_with fail
 refine hK.out _ _ (fun _ _ => ⟨K1.out.cell 0 _ rfl, K1.out.cell 1 _ rfl, K1.out.cell 2 _ rfl, K1.out.cell 3 _ rfl, K1.out.cell 4 _ rfl, K1.out.cell 5 _ rfl, K1.out.cell 6 _ rfl⟩) ?_
 clear hK K
 try simp only [Act.put, setIfInBounds_toArray, set_cons_zero, set_cons_succ]
 refine until_one 5 (by rfl) (by kernel_rfl) (fun K hK => ?_)
 go_simp
 refine (cB _).mono ?_
 rintro e Y2 ⟨rfl, hb⟩
 have K2 : Hid (Blk Y2 w.heap.size #[.int .i64 (cn : Int), .int .i64 (sn : Int), .int .i64 o.kind, .string o.key, .int .i64 o.frm, .int .i64 o.til, .string o.data] 38) := K1.out.on hb K1.out.lt
 have D2 : Hid (Below w.heap.size w Y2) := D1.out.trans (hb.mono D1.out.size)
 clear hb
 go_wp2_with fail
 refine hK.out _ _ (fun _ _ => ⟨K2.out.cell 0 _ rfl, K2.out.cell 1 _ rfl, K2.out.cell 2 _ rfl, K2.out.cell 3 _ rfl, K2.out.cell 4 _ rfl, K2.out.cell 5 _ rfl, K2.out.cell 6 _ rfl⟩) ?_
 clear hK K
 try simp only [Act.put, setIfInBounds_toArray, set_cons_zero, set_cons_succ]
 refine until_pure 6 (v := ?_) (by rfl) (by kernel_rfl) (by exact fun _ _ _ h => h) (by rfl) ?_ ?_
 rotate_left
 ·intro w
  go_simp
  try with_reducible rfl
 try simp only [Act.put, setIfInBounds_toArray, set_cons_zero, set_cons_succ]
 refine until_pure 8 (v := ?_) (by rfl) (by kernel_rfl) (by exact fun _ _ _ h => h) (by rfl) ?_ ?_
 rotate_left
 ·intro w
  go_simp
  try with_reducible rfl
 try simp only [Act.put, setIfInBounds_toArray, set_cons_zero, set_cons_succ]
 refine until_pure 9 (v := ?_) (by rfl) (by kernel_rfl) (by exact fun _ _ _ h => h) (by rfl) ?_ ?_
 rotate_left
 ·intro w
  go_simp
  try with_reducible rfl
 try simp only [Act.put, setIfInBounds_toArray, set_cons_zero, set_cons_succ]
 refine until_done (by kernel_rfl) ?_ _
 go_wp2_with fail
 go_ret
 exact ⟨by rw [HT.out]; rfl, D2.out⟩
set_option maxHeartbeats 4000000 in
theorem specShowCmd (x : Cmx) (w : World) (hk : x.op.key.size ≤ maxLen) (hd : x.op.data.size ≤ 1048576) : Calls Tryd.prog 14 #[vCmd x] w fun e w' => e = .returned (.string (cmdT x)) ∧ Below w.heap.size w w' := by
 have c0 := fun wx => specOpOk x.op wx hk hd
 have cO := fun wx => specShowOp x.op wx hk hd
 have hb0 := below_c1 w (.cells #[.int .i64 x.client, .int .i64 x.serial, .int .i64 x.op.kind, .string x.op.key, .int .i64 x.op.frm, .int .i64 x.op.til, .string x.op.data] 38)
 have k0 := Blk.new w #[.int .i64 x.client, .int .i64 x.serial, .int .i64 x.op.kind, .string x.op.key, .int .i64 x.op.frm, .int .i64 x.op.til, .string x.op.data] 38
 obtain ⟨f0, f1, f2, f3, f4, f5, f6⟩ := cellsC7 k0
 unfold vOp vCmd at *
 clear hk
 have HW : Hid (cmdT x = if ((inRg x.client 1 4 && inRg x.serial 1 1000000) && opOk x.op) = true then txt (vF 6 x.client.toNat) ++ txt (vF 6 x.serial.toNat) ++ opT x.op else ⟨#[]⟩) := rfl
 have HTR : Hid (trnOk x = (inRg x.client 1 4 && inRg x.serial 1 1000000)) := rfl
 have a1 := inS x.client 1 4
 have a2 := inS x.serial 1 1000000
 cases h1 : inRg x.client 1 4 <;> rw [h1] at a1 HW HTR <;> clear h1
 ·have HT : Hid (cmdT x = ⟨#[]⟩) := by unfold Hid; rw [HW.out]; rfl
  go_enter Tryd.func14, Tryd.ntmps14
  go_wp2_with fail
  generalize w.alloc (.cells #[.int .i64 x.client, .int .i64 x.serial, .int .i64 x.op.kind, .string x.op.key, .int .i64 x.op.frm, .int .i64 x.op.til, .string x.op.data] 38) = W at *
  refine (a1 _).mono ?_
  rintro e w' ⟨rfl, rfl⟩
  go_wp2_with fail
  go_ret
  exact ⟨by rw [HT.out]; rfl, hb0⟩
 cases h2 : inRg x.serial 1 1000000 <;> rw [h2] at a2 HW HTR <;> clear h2
 ·have HT : Hid (cmdT x = ⟨#[]⟩) := by unfold Hid; rw [HW.out]; rfl
  go_enter Tryd.func14, Tryd.ntmps14
  go_wp2_with fail
  generalize w.alloc (.cells #[.int .i64 x.client, .int .i64 x.serial, .int .i64 x.op.kind, .string x.op.key, .int .i64 x.op.frm, .int .i64 x.op.til, .string x.op.data] 38) = W at *
  refine (a1 _).mono ?_
  rintro e w' ⟨rfl, rfl⟩
  go_wp2_with fail
  refine (a2 _).mono ?_
  rintro e w' ⟨rfl, rfl⟩
  go_wp2_with fail
  go_ret
  exact ⟨by rw [HT.out]; rfl, hb0⟩
 cases ho : opOk x.op <;> rw [ho] at c0 HW
 ·have HT : Hid (cmdT x = ⟨#[]⟩) := by unfold Hid; rw [HW.out]; rfl
  go_enter Tryd.func14, Tryd.ntmps14
  go_wp2_with fail
  generalize w.alloc (.cells #[.int .i64 x.client, .int .i64 x.serial, .int .i64 x.op.kind, .string x.op.key, .int .i64 x.op.frm, .int .i64 x.op.til, .string x.op.data] 38) = W at *
  refine (a1 _).mono ?_
  rintro e w' ⟨rfl, rfl⟩
  go_wp2_with fail
  refine (a2 _).mono ?_
  rintro e w' ⟨rfl, rfl⟩
  go_wp2_with fail
  refine (c0 _).mono ?_
  rintro e y1 ⟨rfl, hb1⟩
  have B2 : Hid (Below w.heap.size w y1) := hb0.trans (hb1.mono hb0.size)
  have k2 := k0.on hb1 k0.lt
  clear hb1 c0 hb0 k0 f0 f1 f2 f3 f4 f5 f6 a1 a2
  go_wp2_with fail
  go_ret
  exact ⟨by rw [HT.out]; rfl, B2.out⟩
 have HT : Hid (cmdT x = txt (vF 6 x.client.toNat) ++ txt (vF 6 x.serial.toNat) ++ opT x.op) := by unfold Hid; rw [HW.out]; rfl
 obtain ⟨⟨b1, b2⟩, ⟨b3, b4⟩⟩ := trnOk_in HTR.out
 clear ho HW HTR
 go_enter Tryd.func14, Tryd.ntmps14
 go_wp2_with fail
 generalize w.alloc (.cells #[.int .i64 x.client, .int .i64 x.serial, .int .i64 x.op.kind, .string x.op.key, .int .i64 x.op.frm, .int .i64 x.op.til, .string x.op.data] 38) = W at *
 refine (a1 _).mono ?_
 rintro e w' ⟨rfl, rfl⟩
 go_wp2_with fail
 refine (a2 _).mono ?_
 rintro e w' ⟨rfl, rfl⟩
 go_wp2_with fail
 refine (c0 _).mono ?_
 rintro e y1 ⟨rfl, hb1⟩
 have B2 : Hid (Below w.heap.size w y1) := hb0.trans (hb1.mono hb0.size)
 have k2 := k0.on hb1 k0.lt
 clear hb1 c0 hb0 k0 f0 f1 f2 f3 f4 f5 f6 a1 a2
 obtain ⟨c, s, o⟩ := x
 simp only at *
 obtain ⟨cn, rfl⟩ : ∃ n : Nat, c = (n : Int) := ⟨c.toNat, by omega⟩
 obtain ⟨sn, rfl⟩ : ∃ n : Nat, s = (n : Int) := ⟨s.toNat, by omega⟩
 simp only [Int.toNat_natCast] at HT
 have cA := fun wx => spec_var cn wx (by omega)
 have cB := fun wx => spec_var sn wx (by omega)
 have l1 : (txt (vF 6 cn)).size ≤ 7 := by rw [txt_size]; exact vF_length 6 cn
 have l2 : (txt (vF 6 sn)).size ≤ 7 := by rw [txt_size]; exact vF_length 6 sn
 have l3 := opT_size o
 generalize txt (vF 6 cn) = t1 at *
 generalize txt (vF 6 sn) = t2 at *
 have p1 : ¬ 9223372036854775807 < t1.size + t2.size := by omega
 have p2 : ¬ 9223372036854775807 < t1.size + t2.size + (opT o).size := by omega
 generalize opT o = to' at *
 clear l1 l2 l3
 clear b1 b2 b3 b4
 have D0 : Hid (Below w.heap.size w y1.drew) := B2.out.drew
 have K0 : Hid (Blk y1.drew w.heap.size #[.int .i64 (cn : Int), .int .i64 (sn : Int), .int .i64 o.kind, .string o.key, .int .i64 o.frm, .int .i64 o.til, .string o.data] 38) := k2
 clear B2 k2
 go_wp2_with fail
 have S0 : Hid (y1.drew.cell? ⟨w.heap.size, 0, none⟩ = some (.int .i64 (cn : Int)) ∧ y1.drew.cell? ⟨w.heap.size, 1, none⟩ = some (.int .i64 (sn : Int)) ∧ y1.drew.cell? ⟨w.heap.size, 2, none⟩ = some (.int .i64 o.kind) ∧ y1.drew.cell? ⟨w.heap.size, 3, none⟩ = some (.string o.key) ∧ y1.drew.cell? ⟨w.heap.size, 4, none⟩ = some (.int .i64 o.frm) ∧ y1.drew.cell? ⟨w.heap.size, 5, none⟩ = some (.int .i64 o.til) ∧ y1.drew.cell? ⟨w.heap.size, 6, none⟩ = some (.string o.data)) := ⟨K0.out.cell 0 _ rfl, K0.out.cell 1 _ rfl, K0.out.cell 2 _ rfl, K0.out.cell 3 _ rfl, K0.out.cell 4 _ rfl, K0.out.cell 5 _ rfl, K0.out.cell 6 _ rfl⟩
 refine wp_region_until (fun w' => w'.cell? ⟨w.heap.size, 0, none⟩ = some (.int .i64 (cn : Int)) ∧ w'.cell? ⟨w.heap.size, 1, none⟩ = some (.int .i64 (sn : Int)) ∧ w'.cell? ⟨w.heap.size, 2, none⟩ = some (.int .i64 o.kind) ∧ w'.cell? ⟨w.heap.size, 3, none⟩ = some (.string o.key) ∧ w'.cell? ⟨w.heap.size, 4, none⟩ = some (.int .i64 o.frm) ∧ w'.cell? ⟨w.heap.size, 5, none⟩ = some (.int .i64 o.til) ∧ w'.cell? ⟨w.heap.size, 6, none⟩ = some (.string o.data)) (fun i => false) 12 (by rfl) (by kernel_rfl) ?_
 generalize y1.drew = X at *
 refine until_take 0 (v := ?_) (by rfl) (by kernel_rfl) (by exact fun _ _ _ h => h) (by rfl) ?_ S0.out ?_
 rotate_left
 ·intro w hSw
  try dsimp only at hSw
  go_simp
  try with_reducible rfl
 try simp only [Act.put, setIfInBounds_toArray, set_cons_zero, set_cons_succ]
 refine until_take 1 (v := ?_) (by rfl) (by kernel_rfl) (by exact fun _ _ _ h => h) (by rfl) ?_ S0.out ?_
 rotate_left
 ·intro w hSw
  try dsimp only at hSw
  go_simp
  try with_reducible rfl
 try simp only [Act.put, setIfInBounds_toArray, set_cons_zero, set_cons_succ]
 refine until_take 3 (v := ?_) (by rfl) (by kernel_rfl) (by exact fun _ _ _ h => h) (by rfl) ?_ S0.out ?_
 rotate_left
 ·intro w hSw
  try dsimp only at hSw
  go_simp
  try with_reducible rfl
 try simp only [Act.put, setIfInBounds_toArray, set_cons_zero, set_cons_succ]
 refine until_take 4 (v := ?_) (by rfl) (by kernel_rfl) (by exact fun _ _ _ h => h) (by rfl) ?_ S0.out ?_
 rotate_left
 ·intro w hSw
  try dsimp only at hSw
  go_simp
  try with_reducible rfl
 try simp only [Act.put, setIfInBounds_toArray, set_cons_zero, set_cons_succ]
 refine until_take 7 (v := ?_) (by rfl) (by kernel_rfl) (by exact fun _ _ _ h => h) (by rfl) ?_ S0.out ?_
 rotate_left
 ·intro w hSw
  try dsimp only at hSw
  go_simp
  try with_reducible rfl
 try simp only [Act.put, setIfInBounds_toArray, set_cons_zero, set_cons_succ]
 refine until_take 8 (v := ?_) (by rfl) (by kernel_rfl) (by exact fun _ _ _ h => h) (by rfl) ?_ S0.out ?_
 rotate_left
 ·intro w hSw
  try dsimp only at hSw
  go_simp
  try with_reducible rfl
 try simp only [Act.put, setIfInBounds_toArray, set_cons_zero, set_cons_succ]
 refine until_one 2 (by rfl) (by kernel_rfl) (fun K hK => ?_)
 go_simp
 refine (cA _).mono ?_
 rintro e Y1 ⟨rfl, hb⟩
 have K1 : Hid (Blk Y1 w.heap.size #[.int .i64 (cn : Int), .int .i64 (sn : Int), .int .i64 o.kind, .string o.key, .int .i64 o.frm, .int .i64 o.til, .string o.data] 38) := K0.out.on hb K0.out.lt
 have D1 : Hid (Below w.heap.size w Y1) := D0.out.trans (hb.mono D0.out.size)
 clear hb
 go_wp2_with fail
 refine hK.out _ _ (fun _ _ => ⟨K1.out.cell 0 _ rfl, K1.out.cell 1 _ rfl, K1.out.cell 2 _ rfl, K1.out.cell 3 _ rfl, K1.out.cell 4 _ rfl, K1.out.cell 5 _ rfl, K1.out.cell 6 _ rfl⟩) ?_
 clear hK K
 try simp only [Act.put, setIfInBounds_toArray, set_cons_zero, set_cons_succ]
 refine until_one 5 (by rfl) (by kernel_rfl) (fun K hK => ?_)
 go_simp
 refine (cB _).mono ?_
 rintro e Y2 ⟨rfl, hb⟩
 have K2 : Hid (Blk Y2 w.heap.size #[.int .i64 (cn : Int), .int .i64 (sn : Int), .int .i64 o.kind, .string o.key, .int .i64 o.frm, .int .i64 o.til, .string o.data] 38) := K1.out.on hb K1.out.lt
 have D2 : Hid (Below w.heap.size w Y2) := D1.out.trans (hb.mono D1.out.size)
 clear hb
 go_wp2_with fail
 refine hK.out _ _ (fun _ _ => ⟨K2.out.cell 0 _ rfl, K2.out.cell 1 _ rfl, K2.out.cell 2 _ rfl, K2.out.cell 3 _ rfl, K2.out.cell 4 _ rfl, K2.out.cell 5 _ rfl, K2.out.cell 6 _ rfl⟩) ?_
 clear hK K
 try simp only [Act.put, setIfInBounds_toArray, set_cons_zero, set_cons_succ]
 refine until_pure 6 (v := ?_) (by rfl) (by kernel_rfl) (by exact fun _ _ _ h => h) (by rfl) ?_ ?_
 rotate_left
 ·intro w
  go_simp
  try with_reducible rfl
 try simp only [Act.put, setIfInBounds_toArray, set_cons_zero, set_cons_succ]
 refine until_one 9 (by rfl) (by kernel_rfl) (fun K hK => ?_)
 go_simp
 refine (cO _).mono ?_
 rintro e Y3 ⟨rfl, hb⟩
 have K3 : Hid (Blk Y3 w.heap.size #[.int .i64 (cn : Int), .int .i64 (sn : Int), .int .i64 o.kind, .string o.key, .int .i64 o.frm, .int .i64 o.til, .string o.data] 38) := K2.out.on hb K2.out.lt
 have D3 : Hid (Below w.heap.size w Y3) := D2.out.trans (hb.mono D2.out.size)
 clear hb
 go_wp2_with fail
 refine hK.out _ _ (fun _ _ => ⟨K3.out.cell 0 _ rfl, K3.out.cell 1 _ rfl, K3.out.cell 2 _ rfl, K3.out.cell 3 _ rfl, K3.out.cell 4 _ rfl, K3.out.cell 5 _ rfl, K3.out.cell 6 _ rfl⟩) ?_
 clear hK K
 try simp only [Act.put, setIfInBounds_toArray, set_cons_zero, set_cons_succ]
 refine until_pure 10 (v := ?_) (by rfl) (by kernel_rfl) (by exact fun _ _ _ h => h) (by rfl) ?_ ?_
 rotate_left
 ·intro w
  go_simp
  try with_reducible rfl
 try simp only [Act.put, setIfInBounds_toArray, set_cons_zero, set_cons_succ]
 refine until_pure 11 (v := ?_) (by rfl) (by kernel_rfl) (by exact fun _ _ _ h => h) (by rfl) ?_ ?_
 rotate_left
 ·intro w
  go_simp
  try with_reducible rfl
 try simp only [Act.put, setIfInBounds_toArray, set_cons_zero, set_cons_succ]
 refine until_done (by kernel_rfl) ?_ _
 go_wp2_with fail
 go_ret
 exact ⟨by rw [HT.out]; rfl, D3.out⟩
end Go.Proofs.YtgbepickfhbknaaDoor
namespace Go.Proofs.YtgbepickfhbknaaDoor
open Go.ChangeShapes Go.WideShapes Go.ChangeAt Go.RowKit Go.PlainAid
set_option linter.unusedVariables false
set_option maxHeartbeats 400000 in
theorem szCmd (x : Cmx) (left : Int) (w : World) (h0 : 0 ≤ left) (h1 : left ≤ 1048576) (hx : OpFit x.op) :
  Calls Tryd.prog 13 #[vCmd x, .int .i64 left] w fun e w' => (∃ r, e = .returned (.int .i64 r) ∧ Hid (r = -1 ∨ 0 ≤ r ∧ r + ((x.op.key.size + x.op.data.size : Nat) : Int) = left)) ∧ Below w.heap.size w w' := by
 unfold vCmd
 have c1 := fun wx => szOp x.op left wx h0 h1 hx
 have HB : Hid (Below w.heap.size w (w.alloc (.cells #[.int .i64 x.client, .int .i64 x.serial, .int .i64 x.op.kind, .string x.op.key, .int .i64 x.op.frm, .int .i64 x.op.til, .string x.op.data] 34))) := below_c1 _ _
 obtain ⟨f0, f1, f2, f3, f4, f5, f6⟩ := cellsC7 (Blk.new w #[.int .i64 x.client, .int .i64 x.serial, .int .i64 x.op.kind, .string x.op.key, .int .i64 x.op.frm, .int .i64 x.op.til, .string x.op.data] 34)
 unfold vOp at c1
 clear hx
 generalize hn : x.op.key.size + x.op.data.size = n at *
 go_enter Tryd.func13, Tryd.ntmps13
 go_wp2_with fail
 refine (c1 _).mono ?_
 rintro e w1 ⟨⟨r, rfl, hr⟩, hb⟩
 have B1 : Hid (Below w.heap.size w w1) := HB.out.trans (hb.mono HB.out.size)
 clear hb f0 f1 f2 f3 f4 f5 f6
 rcases hr.out with rfl | ⟨hr0, hr1⟩
 ·go_wp2_with fail
  go_ret
  exact ⟨⟨_, rfl, .inl rfl⟩, B1.out⟩
 ·have q : decide (r < 0) = false := decide_eq_false (by omega)
  have HR : Hid (r + (n : Int) = left) := by unfold Hid; omega
  clear hr1
  go_wp2_with fail
  go_ret
  exact ⟨⟨_, rfl, .inr ⟨hr0, HR.out⟩⟩, B1.out⟩
set_option maxHeartbeats 400000 in
theorem toOpX (x : Opx) (w : World) : Calls Tryd.prog 8 #[vOp x] w fun e w' => e = .returned (vOp x) ∧ ∃ oa ob oc, w' = ((w.alloc oa).alloc ob).alloc oc := by
 unfold vOp
 go_enter Tryd.func8, Tryd.ntmps8
 go_wp2
 exact bodyPost_ret (v := .agg #[.int .i64 x.kind, .string x.key, .int .i64 x.frm, .int .i64 x.til, .string x.data]) (by simp [results, go_sem]) rfl ⟨rfl, _, _, _, rfl⟩
theorem below_c6 (w : World) (a b c d e f : Obj) : Below w.heap.size w ((((((w.alloc a).alloc b).alloc c).alloc d).alloc e).alloc f) := ((((((Below.refl _ w).alloc (Nat.le_refl _) a).alloc (by simp) b).alloc (by simp; omega) c).alloc (by simp; omega) d).alloc (by simp; omega) e).alloc (by simp; omega) f
set_option maxHeartbeats 2000000 in
theorem toCmd (x : Cmx) (w : World) : Calls Tryd.prog 15 #[vCmd x] w fun e w' => e = .returned (vCmd x) ∧ Below w.heap.size w w' := by
 unfold vCmd
 have c1 := fun wx => toOpX x.op wx
 unfold vOp at c1
 go_enter Tryd.func15, Tryd.ntmps15
 go_wp2_with fail
 refine (c1 _).mono ?_
 rintro e w1 ⟨rfl, oa, ob, oc, rfl⟩
 go_wp2_with fail
 exact bodyPost_ret (v := .agg #[.int .i64 x.client, .int .i64 x.serial, .int .i64 x.op.kind, .string x.op.key, .int .i64 x.op.frm, .int .i64 x.op.til, .string x.op.data]) (by simp [results, go_sem]) rfl ⟨rfl, below_c6 _ _ _ _ _ _ _⟩
theorem cCmd : Tryd.prog.cellsOf 34 = 7 := by kernel_rfl
theorem list7c {α : Type} {l : List α} (h : l.length = 7) : ∃ a b c d e f g, l = [a, b, c, d, e, f, g] := by
 match l, h with
 | [a, b, c, d, e, f, g], _ => exact ⟨a, b, c, d, e, f, g, rfl⟩
theorem list3c {α : Type} {l : List α} (h : l.length = 3) : ∃ a b c, l = [a, b, c] := by
 match l, h with
 | [a, b, c], _ => exact ⟨a, b, c, rfl⟩
section
variable {H : Type} {enc : TypeId × Value → H} {w : World} {base : Nat} {spare : Nat → Bool} {held : Bool}
set_option maxRecDepth 100000 in
theorem open_opT (n : Nat) (cs : List Value) (y : DataW H × List MemPlace) (h : DataW.trod enc Tryd.prog w base spare held n 23 cs = some y) : ∃ z : Opx, cs = [.int .i64 z.kind, .string z.key, .int .i64 z.frm, .int .i64 z.til, .string z.data] ∧ OpFit z ∧ OpInt z := by
 obtain ⟨xs, m, _, _, hl, hlen, hf⟩ := DataW.trod_struct Tryd.underlying23 h
 rw [cOp] at hl
 obtain ⟨a, b, c, d, e, rfl⟩ := list5 hl
 obtain ⟨x0, x1, x2, x3, x4, rfl⟩ := list5 (show xs.length = 5 from hlen)
 have f0 := hf 0 _ rfl
 have f1 := hf 1 _ rfl
 have f2 := hf 2 _ rfl
 have f3 := hf 3 _ rfl
 have f4 := hf 4 _ rfl
 simp only [List.getElem?_cons_zero, List.getElem?_cons_succ] at f0 f1 f2 f3 f4
 obtain ⟨i0, e0, _, w0⟩ := DataW.trod_int Tryd.underlying3 f0
 obtain ⟨s1, e1, _, hs1⟩ := DataW.trod_string Tryd.underlying9 f1
 obtain ⟨i2, e2, _, w2⟩ := DataW.trod_int Tryd.underlying3 f2
 obtain ⟨i3, e3, _, w3⟩ := DataW.trod_int Tryd.underlying3 f3
 obtain ⟨s4, e4, _, hs4⟩ := DataW.trod_string Tryd.underlying9 f4
 cases e0
 cases e1
 cases e2
 cases e3
 cases e4
 exact ⟨⟨i0, s1, i2, i3, s4⟩, rfl, ⟨hs1, hs4⟩, bounds_i64 w0, bounds_i64 w2, bounds_i64 w3⟩
set_option maxRecDepth 100000 in
theorem open_cmd {r : Reach} {b0 : Nat} {v : Value} {dd : DataW H} {ps : List MemPlace} (hval : Value.okWide Tryd.prog w r b0 34 v) (hd : DataW.Trod enc Tryd.prog w base spare held 34 v dd ps) : ∃ x : Cmx, v = vCmd x ∧ OpFit x.op ∧ OpInt x.op := by
 obtain ⟨cs, rfl, hsz⟩ := okWide_struct Tryd.underlying34 hval
 rw [cCmd] at hsz
 obtain ⟨fuel, hf0⟩ := hd
 obtain ⟨xs, m, _, _, _, hlen, hf⟩ := DataW.trod_struct Tryd.underlying34 hf0
 obtain ⟨l⟩ := cs
 obtain ⟨a, b, c, d, e, f, g, rfl⟩ := list7c (show l.length = 7 from hsz)
 obtain ⟨x0, x1, x2, rfl⟩ := list3c (show xs.length = 3 from hlen)
 have f0 := hf 0 _ rfl
 have f1 := hf 1 _ rfl
 have f2 := hf 2 _ rfl
 simp only [Value.cells, List.getElem?_cons_zero, List.getElem?_cons_succ] at f0 f1 f2
 obtain ⟨i0, e0, _, w0⟩ := DataW.trod_int Tryd.underlying3 f0
 obtain ⟨i1, e1, _, w1⟩ := DataW.trod_int Tryd.underlying3 f1
 obtain ⟨z, e2, hz⟩ := open_opT _ _ _ f2
 cases e0
 cases e1
 cases e2
 exact ⟨⟨i0, i1, z⟩, rfl, hz⟩
end
end Go.Proofs.YtgbepickfhbknaaDoor
namespace Go.Proofs.YtgbepickfhbknaaDoor
open Go.ChangeShapes Go.WideShapes Go.ChangeAt Go.RowKit Go.PlainAid
set_option linter.unusedVariables false
set_option maxHeartbeats 1000000 in
theorem law_fnExactShowCmd (x : Cmx) (v : Value) (w : World) (hv : v = vCmd x) (hd : OpFit x.op) (hi : OpInt x.op) (hst : SumTab w) (a0 a1 a2 : Addr) (he : Errs w a0 a1 a2) :
  Calls Tryd.prog 5 #[v] w fun e w' => e = .returned (.bool true) ∧ Below w.heap.size w w' := by
 subst hv
 have c1 := fun wx => szCmd x 1048576 wx (by omega) (by omega) hd
 have c2 := fun wx => toCmd x wx
 unfold vCmd at *
 have hb0 := below_a1 w (.cells #[.int .i64 x.client, .int .i64 x.serial, .int .i64 x.op.kind, .string x.op.key, .int .i64 x.op.frm, .int .i64 x.op.til, .string x.op.data] 34)
 have k0 := Blk.new w #[.int .i64 x.client, .int .i64 x.serial, .int .i64 x.op.kind, .string x.op.key, .int .i64 x.op.frm, .int .i64 x.op.til, .string x.op.data] 34
 have HD : Hid (OpFit x.op) := hd
 have HI : Hid (OpInt x.op) := hi
 have HST : Hid (SumTab w) := hst
 have HER : Hid (Errs w a0 a1 a2) := he
 clear hd hi hst he
 go_enter Tryd.func5, Tryd.ntmps5
 go_wp2_with fail
 generalize w.alloc (.cells #[.int .i64 x.client, .int .i64 x.serial, .int .i64 x.op.kind, .string x.op.key, .int .i64 x.op.frm, .int .i64 x.op.til, .string x.op.data] 34) = W at *
 refine (c1 _).mono ?_
 rintro e w1 ⟨⟨q, rfl, hq⟩, hb1⟩
 have B1 : Hid (Below w.heap.size w w1) := hb0.trans (hb1.mono hb0.size)
 have K1 : Hid (Blk w1 w.heap.size #[.int .i64 x.client, .int .i64 x.serial, .int .i64 x.op.kind, .string x.op.key, .int .i64 x.op.frm, .int .i64 x.op.til, .string x.op.data] 34) := k0.on hb1 k0.lt
 clear hb0 hb1 c1 k0
 rcases hq.out with rfl | ⟨hq0, hq1⟩
 ·go_wp2_with fail
  go_ret
  exact ⟨rfl, B1.out⟩
 have q1 : decide (q < 0) = false := decide_eq_false (by omega)
 have HS : Hid (x.op.key.size ≤ 1048576 ∧ x.op.data.size ≤ 1048576) := by unfold Hid; omega
 clear hq1
 obtain ⟨e0, e1, e2, e3, e4, e5, e6⟩ := cellsC7 K1.out
 go_wp2_with fail
 refine (c2 _).mono ?_
 rintro e w2 ⟨rfl, hb2⟩
 go_wp2_with fail
 refine (specShowCmd x _ HD.out.1 HS.out.2).mono ?_
 rintro e w3 ⟨rfl, hb3⟩
 have B3 : Hid (Below w.heap.size w w3) := B1.out.trans ((hb2.trans (hb3.mono hb2.size)).mono B1.out.size)
 have K3 : Hid (Blk w3 w.heap.size #[.int .i64 x.client, .int .i64 x.serial, .int .i64 x.op.kind, .string x.op.key, .int .i64 x.op.frm, .int .i64 x.op.til, .string x.op.data] 34) := (K1.out.on hb2 K1.out.lt).on hb3 (K1.out.on hb2 K1.out.lt).lt
 clear e0 e1 e2 e3 e4 e5 e6 hb2 hb3
 obtain ⟨e0, e1, e2, e3, e4, e5, e6⟩ := cellsC7 K3.out
 go_wp2_with fail
 refine (c2 _).mono ?_
 rintro e w4 ⟨rfl, hb4⟩
 go_wp2_with fail
 refine (implShowCmd x _ HD.out.1 HS.out.2 (HST.out.on (B3.out.trans (hb4.mono B3.out.size))) a0 a1 a2 (HER.out.on (B3.out.trans (hb4.mono B3.out.size)))).mono ?_
 rintro e w5 ⟨rfl, hb5⟩
 have B5 : Hid (Below w.heap.size w w5) := B3.out.trans ((hb4.trans (hb5.mono hb4.size)).mono B3.out.size)
 clear hb4 hb5
 generalize cmdT x = y at *
 go_wp2_with fail
 go_ret
 exact ⟨rfl, B5.out⟩
end Go.Proofs.YtgbepickfhbknaaDoor
