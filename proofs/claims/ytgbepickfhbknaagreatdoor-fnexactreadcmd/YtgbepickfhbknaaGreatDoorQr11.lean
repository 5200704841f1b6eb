/- CmCmd CmCmdT CmCmdR CmVars CmOpP -/
import Derived.Test.YtgbepickfhbknaaGreatDoorRows
import Derived.Test.YtgbepickfhbknaaGreatDoorQr10
import Derived.Test.YtgbepickfhbknaaGreatDoorQr7
import Derived.Test.YtgbepickfhbknaaGreatDoorQr2
open List (setIfInBounds_toArray set_cons_zero set_cons_succ)
namespace Go.Proofs.YtgbepickfhbknaaGreatDoor
open Go.ChangeShapes Go.WideShapes Go.ChangeAt Go.RowKit Go.PlainAid
set_option linter.unusedVariables false
structure Cmx where
 client : Int
 serial : Int
 op : Opx
def vCmd (x : Cmx) : Value := .agg #[.int .i64 x.client, .int .i64 x.serial, .int .i64 x.op.kind, .string x.op.key, .int .i64 x.op.frm, .int .i64 x.op.til, .string x.op.data]
def trnOk (x : Cmx) : Bool := inRg x.client 1 4 && inRg x.serial 1 1000000
noncomputable def cmdT (x : Cmx) : ByteArray := if (trnOk x && opOk x.op) = true then txt (vF 6 x.client.toNat) ++ txt (vF 6 x.serial.toNat) ++ opT x.op else ⟨#[]⟩
theorem opT_none {x : Opx} (h : opOk x = false) : opT x = ⟨#[]⟩ := by unfold opT; rw [h]; rfl
theorem trnOk_in {x : Cmx} (h : trnOk x = true) : (1 ≤ x.client ∧ x.client ≤ 4) ∧ (1 ≤ x.serial ∧ x.serial ≤ 1000000) := by
 unfold trnOk inRg at h
 simp only [Bool.and_eq_true, decide_eq_true_eq] at h
 omega
theorem opT_size (x : Opx) : (opT x).size ≤ 31 + x.data.size := by
 cases h : opOk x
 ·rw [opT_none h]; exact Nat.zero_le _
 ·have hk := (opOk_in h).2.1
  have l1 := vF_length 6 x.key.size
  have l2 := vF_length 6 x.frm.toNat
  have l3 := vF_length 6 x.til.toNat
  unfold opT
  rw [if_pos h]
  simp only [ByteArray.size_append, txt_size, List.length_cons, List.length_nil]
  omega
set_option maxHeartbeats 1000000 in
theorem turnOkV (x : Cmx) (w : World) : Calls Tryz.prog 22 #[vCmd x] w fun e w' => e = .returned (.bool (trnOk x)) ∧ Below w.heap.size w w' := by
 have HB : Hid (Below w.heap.size w (w.alloc (.cells #[.int .i64 x.client, .int .i64 x.serial, .int .i64 x.op.kind, .string x.op.key, .int .i64 x.op.frm, .int .i64 x.op.til, .string x.op.data] 25))) := below_c1 _ _
 have k0 := Blk.new w #[.int .i64 x.client, .int .i64 x.serial, .int .i64 x.op.kind, .string x.op.key, .int .i64 x.op.frm, .int .i64 x.op.til, .string x.op.data] 25
 have e0 : (w.alloc (.cells #[.int .i64 x.client, .int .i64 x.serial, .int .i64 x.op.kind, .string x.op.key, .int .i64 x.op.frm, .int .i64 x.op.til, .string x.op.data] 25)).cell? ⟨w.heap.size, 0, none⟩ = some (.int .i64 x.client) := k0.cell 0 _ rfl
 have e1 : (w.alloc (.cells #[.int .i64 x.client, .int .i64 x.serial, .int .i64 x.op.kind, .string x.op.key, .int .i64 x.op.frm, .int .i64 x.op.til, .string x.op.data] 25)).cell? ⟨w.heap.size, 1, none⟩ = some (.int .i64 x.serial) := k0.cell 1 _ rfl
 have HE : Hid (trnOk x = (inRg x.client 1 4 && inRg x.serial 1 1000000)) := rfl
 have a1 := inI x.client 1 4
 have a2 := inI x.serial 1 1000000
 unfold vCmd
 clear k0
 cases h1 : inRg x.client 1 4 <;> rw [h1] at a1 HE <;> clear h1
 ·go_enter Tryz.func22, Tryz.ntmps22
  go_wp2_with fail
  refine (a1 _).mono ?_
  rintro e w' ⟨rfl, rfl⟩
  go_wp2_with fail
  go_ret
  exact ⟨by rw [HE.out]; rfl, HB.out⟩
 ·go_enter Tryz.func22, Tryz.ntmps22
  go_wp2_with fail
  refine (a1 _).mono ?_
  rintro e w' ⟨rfl, rfl⟩
  go_wp2_with fail
  refine (a2 _).mono ?_
  rintro e w' ⟨rfl, rfl⟩
  go_wp2_with fail
  go_ret
  exact ⟨by rw [HE.out]; rfl, HB.out⟩
set_option maxHeartbeats 4000000 in
theorem specShowCmd (x : Cmx) (w : World) (hk : x.op.key.size ≤ maxLen) (hd : x.op.data.size ≤ 1048576) : Calls Tryz.prog 9 #[vCmd x] w fun e w' => e = .returned (.string (cmdT x)) ∧ Below w.heap.size w w' := by
 have c0 := fun wx => specOpOk x.op wx hk hd
 have cO := fun wx => specShowOp x.op wx hk hd
 have hb0 := below_c1 w (.cells #[.int .i64 x.client, .int .i64 x.serial, .int .i64 x.op.kind, .string x.op.key, .int .i64 x.op.frm, .int .i64 x.op.til, .string x.op.data] 25)
 have k0 := Blk.new w #[.int .i64 x.client, .int .i64 x.serial, .int .i64 x.op.kind, .string x.op.key, .int .i64 x.op.frm, .int .i64 x.op.til, .string x.op.data] 25
 obtain ⟨f0, f1, f2, f3, f4, f5, f6⟩ := cellsC7 k0
 unfold vOp vCmd at *
 clear hk
 have HW : Hid (cmdT x = if ((inRg x.client 1 4 && inRg x.serial 1 1000000) && opOk x.op) = true then txt (vF 6 x.client.toNat) ++ txt (vF 6 x.serial.toNat) ++ opT x.op else ⟨#[]⟩) := rfl
 have HTR : Hid (trnOk x = (inRg x.client 1 4 && inRg x.serial 1 1000000)) := rfl
 have a1 := inS x.client 1 4
 have a2 := inS x.serial 1 1000000
 cases h1 : inRg x.client 1 4 <;> rw [h1] at a1 HW HTR <;> clear h1
 ·have HT : Hid (cmdT x = ⟨#[]⟩) := by unfold Hid; rw [HW.out]; rfl
  go_enter Tryz.func9, Tryz.ntmps9
  go_wp2_with fail
  generalize w.alloc (.cells #[.int .i64 x.client, .int .i64 x.serial, .int .i64 x.op.kind, .string x.op.key, .int .i64 x.op.frm, .int .i64 x.op.til, .string x.op.data] 25) = W at *
  refine (a1 _).mono ?_
  rintro e w' ⟨rfl, rfl⟩
  go_wp2_with fail
  go_ret
  exact ⟨by rw [HT.out]; rfl, hb0⟩
 cases h2 : inRg x.serial 1 1000000 <;> rw [h2] at a2 HW HTR <;> clear h2
 ·have HT : Hid (cmdT x = ⟨#[]⟩) := by unfold Hid; rw [HW.out]; rfl
  go_enter Tryz.func9, Tryz.ntmps9
  go_wp2_with fail
  generalize w.alloc (.cells #[.int .i64 x.client, .int .i64 x.serial, .int .i64 x.op.kind, .string x.op.key, .int .i64 x.op.frm, .int .i64 x.op.til, .string x.op.data] 25) = W at *
  refine (a1 _).mono ?_
  rintro e w' ⟨rfl, rfl⟩
  go_wp2_with fail
  refine (a2 _).mono ?_
  rintro e w' ⟨rfl, rfl⟩
  go_wp2_with fail
  go_ret
  exact ⟨by rw [HT.out]; rfl, hb0⟩
 cases ho : opOk x.op <;> rw [ho] at c0 HW
 ·have HT : Hid (cmdT x = ⟨#[]⟩) := by unfold Hid; rw [HW.out]; rfl
  go_enter Tryz.func9, Tryz.ntmps9
  go_wp2_with fail
  generalize w.alloc (.cells #[.int .i64 x.client, .int .i64 x.serial, .int .i64 x.op.kind, .string x.op.key, .int .i64 x.op.frm, .int .i64 x.op.til, .string x.op.data] 25) = W at *
  refine (a1 _).mono ?_
  rintro e w' ⟨rfl, rfl⟩
  go_wp2_with fail
  refine (a2 _).mono ?_
  rintro e w' ⟨rfl, rfl⟩
  go_wp2_with fail
  refine (c0 _).mono ?_
  rintro e y1 ⟨rfl, hb1⟩
  have B2 : Hid (Below w.heap.size w y1) := hb0.trans (hb1.mono hb0.size)
  have k2 := k0.on hb1 k0.lt
  clear hb1 c0 hb0 k0 f0 f1 f2 f3 f4 f5 f6 a1 a2
  go_wp2_with fail
  go_ret
  exact ⟨by rw [HT.out]; rfl, B2.out⟩
 have HT : Hid (cmdT x = txt (vF 6 x.client.toNat) ++ txt (vF 6 x.serial.toNat) ++ opT x.op) := by unfold Hid; rw [HW.out]; rfl
 obtain ⟨⟨b1, b2⟩, ⟨b3, b4⟩⟩ := trnOk_in HTR.out
 clear ho HW HTR
 go_enter Tryz.func9, Tryz.ntmps9
 go_wp2_with fail
 generalize w.alloc (.cells #[.int .i64 x.client, .int .i64 x.serial, .int .i64 x.op.kind, .string x.op.key, .int .i64 x.op.frm, .int .i64 x.op.til, .string x.op.data] 25) = W at *
 refine (a1 _).mono ?_
 rintro e w' ⟨rfl, rfl⟩
 go_wp2_with fail
 refine (a2 _).mono ?_
 rintro e w' ⟨rfl, rfl⟩
 go_wp2_with fail
 refine (c0 _).mono ?_
 rintro e y1 ⟨rfl, hb1⟩
 have B2 : Hid (Below w.heap.size w y1) := hb0.trans (hb1.mono hb0.size)
 have k2 := k0.on hb1 k0.lt
 clear hb1 c0 hb0 k0 f0 f1 f2 f3 f4 f5 f6 a1 a2
 obtain ⟨c, s, o⟩ := x
 simp only at *
 obtain ⟨cn, rfl⟩ : ∃ n : Nat, c = (n : Int) := ⟨c.toNat, by omega⟩
 obtain ⟨sn, rfl⟩ : ∃ n : Nat, s = (n : Int) := ⟨s.toNat, by omega⟩
 simp only [Int.toNat_natCast] at HT
 have cA := fun wx => spec_var cn wx (by omega)
 have cB := fun wx => spec_var sn wx (by omega)
 have l1 : (txt (vF 6 cn)).size ≤ 7 := by rw [txt_size]; exact vF_length 6 cn
 have l2 : (txt (vF 6 sn)).size ≤ 7 := by rw [txt_size]; exact vF_length 6 sn
 have l3 := opT_size o
 generalize txt (vF 6 cn) = t1 at *
 generalize txt (vF 6 sn) = t2 at *
 have p1 : ¬ 9223372036854775807 < t1.size + t2.size := by omega
 have p2 : ¬ 9223372036854775807 < t1.size + t2.size + (opT o).size := by omega
 generalize opT o = to' at *
 clear l1 l2 l3
 clear b1 b2 b3 b4
 have D0 : Hid (Below w.heap.size w y1.drew) := B2.out.drew
 have K0 : Hid (Blk y1.drew w.heap.size #[.int .i64 (cn : Int), .int .i64 (sn : Int), .int .i64 o.kind, .string o.key, .int .i64 o.frm, .int .i64 o.til, .string o.data] 25) := k2
 clear B2 k2
 go_wp2_with fail
 have S0 : Hid (y1.drew.cell? ⟨w.heap.size, 0, none⟩ = some (.int .i64 (cn : Int)) ∧ y1.drew.cell? ⟨w.heap.size, 1, none⟩ = some (.int .i64 (sn : Int)) ∧ y1.drew.cell? ⟨w.heap.size, 2, none⟩ = some (.int .i64 o.kind) ∧ y1.drew.cell? ⟨w.heap.size, 3, none⟩ = some (.string o.key) ∧ y1.drew.cell? ⟨w.heap.size, 4, none⟩ = some (.int .i64 o.frm) ∧ y1.drew.cell? ⟨w.heap.size, 5, none⟩ = some (.int .i64 o.til) ∧ y1.drew.cell? ⟨w.heap.size, 6, none⟩ = some (.string o.data)) := ⟨K0.out.cell 0 _ rfl, K0.out.cell 1 _ rfl, K0.out.cell 2 _ rfl, K0.out.cell 3 _ rfl, K0.out.cell 4 _ rfl, K0.out.cell 5 _ rfl, K0.out.cell 6 _ rfl⟩
 refine wp_region_until (fun w' => w'.cell? ⟨w.heap.size, 0, none⟩ = some (.int .i64 (cn : Int)) ∧ w'.cell? ⟨w.heap.size, 1, none⟩ = some (.int .i64 (sn : Int)) ∧ w'.cell? ⟨w.heap.size, 2, none⟩ = some (.int .i64 o.kind) ∧ w'.cell? ⟨w.heap.size, 3, none⟩ = some (.string o.key) ∧ w'.cell? ⟨w.heap.size, 4, none⟩ = some (.int .i64 o.frm) ∧ w'.cell? ⟨w.heap.size, 5, none⟩ = some (.int .i64 o.til) ∧ w'.cell? ⟨w.heap.size, 6, none⟩ = some (.string o.data)) (fun i => false) 12 (by rfl) (by kernel_rfl) ?_
 generalize y1.drew = X at *
 refine until_take 0 (v := ?_) (by rfl) (by kernel_rfl) (by exact fun _ _ _ h => h) (by rfl) ?_ S0.out ?_
 rotate_left
 ·intro w hSw
  try dsimp only at hSw
  go_simp
  try with_reducible rfl
 try simp only [Act.put, setIfInBounds_toArray, set_cons_zero, set_cons_succ]
 refine until_take 1 (v := ?_) (by rfl) (by kernel_rfl) (by exact fun _ _ _ h => h) (by rfl) ?_ S0.out ?_
 rotate_left
 ·intro w hSw
  try dsimp only at hSw
  go_simp
  try with_reducible rfl
 try simp only [Act.put, setIfInBounds_toArray, set_cons_zero, set_cons_succ]
 refine until_take 3 (v := ?_) (by rfl) (by kernel_rfl) (by exact fun _ _ _ h => h) (by rfl) ?_ S0.out ?_
 rotate_left
 ·intro w hSw
  try dsimp only at hSw
  go_simp
  try with_reducible rfl
 try simp only [Act.put, setIfInBounds_toArray, set_cons_zero, set_cons_succ]
 refine until_take 4 (v := ?_) (by rfl) (by kernel_rfl) (by exact fun _ _ _ h => h) (by rfl) ?_ S0.out ?_
 rotate_left
 ·intro w hSw
  try dsimp only at hSw
  go_simp
  try with_reducible rfl
 try simp only [Act.put, setIfInBounds_toArray, set_cons_zero, set_cons_succ]
 refine until_take 7 (v := ?_) (by rfl) (by kernel_rfl) (by exact fun _ _ _ h => h) (by rfl) ?_ S0.out ?_
 rotate_left
 ·intro w hSw
  try dsimp only at hSw
  go_simp
  try with_reducible rfl
 try simp only [Act.put, setIfInBounds_toArray, set_cons_zero, set_cons_succ]
 refine until_take 8 (v := ?_) (by rfl) (by kernel_rfl) (by exact fun _ _ _ h => h) (by rfl) ?_ S0.out ?_
 rotate_left
 ·intro w hSw
  try dsimp only at hSw
  go_simp
  try with_reducible rfl
 try simp only [Act.put, setIfInBounds_toArray, set_cons_zero, set_cons_succ]
 refine until_one 2 (by rfl) (by kernel_rfl) (fun K hK => ?_)
 go_simp
 refine (cA _).mono ?_
 rintro e Y1 ⟨rfl, hb⟩
 have K1 : Hid (Blk Y1 w.heap.size #[.int .i64 (cn : Int), .int .i64 (sn : Int), .int .i64 o.kind, .string o.key, .int .i64 o.frm, .int .i64 o.til, .string o.data] 25) := K0.out.on hb K0.out.lt
 have D1 : Hid (Below w.heap.size w Y1) := D0.out.trans (hb.mono D0.out.size)
 clear hb
 go_wp2_with fail
 refine hK.out _ _ (fun _ _ => ⟨K1.out.cell 0 _ rfl, K1.out.cell 1 _ rfl, K1.out.cell 2 _ rfl, K1.out.cell 3 _ rfl, K1.out.cell 4 _ rfl, K1.out.cell 5 _ rfl, K1.out.cell 6 _ rfl⟩) ?_
 clear hK K
 try simp only [Act.put, setIfInBounds_toArray, set_cons_zero, set_cons_succ]
 refine until_one 5 (by rfl) (by kernel_rfl) (fun K hK => ?_)
 go_simp
 refine (cB _).mono ?_
 rintro e Y2 ⟨rfl, hb⟩
 have K2 : Hid (Blk Y2 w.heap.size #[.int .i64 (cn : Int), .int .i64 (sn : Int), .int .i64 o.kind, .string o.key, .int .i64 o.frm, .int .i64 o.til, .string o.data] 25) := K1.out.on hb K1.out.lt
 have D2 : Hid (Below w.heap.size w Y2) := D1.out.trans (hb.mono D1.out.size)
 clear hb
 go_wp2_with fail
 refine hK.out _ _ (fun _ _ => ⟨K2.out.cell 0 _ rfl, K2.out.cell 1 _ rfl, K2.out.cell 2 _ rfl, K2.out.cell 3 _ rfl, K2.out.cell 4 _ rfl, K2.out.cell 5 _ rfl, K2.out.cell 6 _ rfl⟩) ?_
 clear hK K
 try simp only [Act.put, setIfInBounds_toArray, set_cons_zero, set_cons_succ]
 refine until_pure 6 (v := ?_) (by rfl) (by kernel_rfl) (by exact fun _ _ _ h => h) (by rfl) ?_ ?_
 rotate_left
 ·intro w
  go_simp
  try with_reducible rfl
 try simp only [Act.put, setIfInBounds_toArray, set_cons_zero, set_cons_succ]
 refine until_one 9 (by rfl) (by kernel_rfl) (fun K hK => ?_)
 go_simp
 refine (cO _).mono ?_
 rintro e Y3 ⟨rfl, hb⟩
 have K3 : Hid (Blk Y3 w.heap.size #[.int .i64 (cn : Int), .int .i64 (sn : Int), .int .i64 o.kind, .string o.key, .int .i64 o.frm, .int .i64 o.til, .string o.data] 25) := K2.out.on hb K2.out.lt
 have D3 : Hid (Below w.heap.size w Y3) := D2.out.trans (hb.mono D2.out.size)
 clear hb
 go_wp2_with fail
 refine hK.out _ _ (fun _ _ => ⟨K3.out.cell 0 _ rfl, K3.out.cell 1 _ rfl, K3.out.cell 2 _ rfl, K3.out.cell 3 _ rfl, K3.out.cell 4 _ rfl, K3.out.cell 5 _ rfl, K3.out.cell 6 _ rfl⟩) ?_
 clear hK K
 try simp only [Act.put, setIfInBounds_toArray, set_cons_zero, set_cons_succ]
 refine until_pure 10 (v := ?_) (by rfl) (by kernel_rfl) (by exact fun _ _ _ h => h) (by rfl) ?_ ?_
 rotate_left
 ·intro w
  go_simp
  try with_reducible rfl
 try simp only [Act.put, setIfInBounds_toArray, set_cons_zero, set_cons_succ]
 refine until_pure 11 (v := ?_) (by rfl) (by kernel_rfl) (by exact fun _ _ _ h => h) (by rfl) ?_ ?_
 rotate_left
 ·intro w
  go_simp
  try with_reducible rfl
 try simp only [Act.put, setIfInBounds_toArray, set_cons_zero, set_cons_succ]
 refine until_done (by kernel_rfl) ?_ _
 go_wp2_with fail
 go_ret
 exact ⟨by rw [HT.out]; rfl, D3.out⟩
end Go.Proofs.YtgbepickfhbknaaGreatDoor
namespace Go.Proofs.YtgbepickfhbknaaGreatDoor
open Go.ChangeShapes Go.WideShapes Go.ChangeAt Go.RowKit Go.PlainAid
set_option linter.unusedVariables false
def CmdRd (s : ByteArray) (x : Cmx) : Prop := ∃ c i n, RdF s 0 2 [c, i] n ∧ OpRd (lf s n) x.op ∧ x.client = c ∧ x.serial = i ∧ trnOk x = true
theorem CmdRd.one {s : ByteArray} {x y : Cmx} (h : CmdRd s x) (h' : CmdRd s y) : x = y := by
 obtain ⟨c, i, n, h1, h2, h3, h4, _⟩ := h
 obtain ⟨c', i', n', h1', h2', h3', h4', _⟩ := h'
 obtain ⟨e, rfl⟩ := h1.one h1'
 simp only [List.cons.injEq, and_true] at e
 obtain ⟨rfl, rfl⟩ := e
 obtain ⟨a, b, o⟩ := x
 obtain ⟨a', b', o'⟩ := y
 simp only at *
 rw [h3, h4, h3', h4', h2.one h2']
def CmdA (s : ByteArray) (e : Ending) : Prop := (∃ x, CmdRd s x ∧ e = .returned (.tuple #[vCmd x, .bool true])) ∨ ((∀ x, ¬ CmdRd s x) ∧ e = .returned (.tuple #[vCmd ⟨0, 0, ⟨0, ⟨#[]⟩, 0, 0, ⟨#[]⟩⟩⟩, .bool false]))
theorem CmdA.one {s : ByteArray} {e e' : Ending} (h : CmdA s e) (h' : CmdA s e') : e = e' := by
 rcases h with ⟨x, hx, rfl⟩ | ⟨hn, rfl⟩ <;> rcases h' with ⟨y, hy, rfl⟩ | ⟨hn', rfl⟩
 ·rw [hx.one hy]
 ·exact absurd hx (hn' x)
 ·exact absurd hy (hn y)
 ·rfl
theorem CmdA.form {s : ByteArray} {e : Ending} (h : CmdA s e) : ∃ x b, e = .returned (.tuple #[vCmd x, .bool b]) := by
 rcases h with ⟨x, hx, rfl⟩ | ⟨hn, rfl⟩
 ·exact ⟨_, _, rfl⟩
 ·exact ⟨_, _, rfl⟩
theorem OpRd.back {s : ByteArray} {x : Opx} (h : OpRd s x) : opT x = s ∧ opOk x = true := by
 obtain ⟨k, n1, f, t, m, h0, h1, h2, h3, rfl, h5⟩ := h
 exact ⟨opT_back h0 h1 h2 h3 h5, h5⟩
set_option maxHeartbeats 4000000 in
theorem takeCmd (g : Nat) (s : ByteArray) (w : World) (hp : Prt w g s) (hs : s.size ≤ 1048576) (w0 : World) (hst : SumTab w0) (a0 a1 a2 : Addr) (he : Errs w0 a0 a1 a2) (hw0 : Below w0.heap.size w0 w) (hg0 : w0.heap.size ≤ g) :
  Calls Tryz.prog 11 #[.pointer (some ⟨g, 0, none⟩)] w fun e w' => ((∃ x, CmdRd s x ∧ e = .returned (vCmd x)) ∨ ((∀ x, ¬ CmdRd s x) ∧ e = .panicked lackP)) ∧ PKeep g w w' := by
 have HS : Hid (s.size ≤ 1048576) := hs
 have HG : Hid (g < w.heap.size) := hp.lt
 have B0 : Hid (Blk (w.alloc (.cells #[.int .i64 0, .int .i64 0, .int .i64 0, .string ⟨#[]⟩, .int .i64 0, .int .i64 0, .string ⟨#[]⟩] 25)) w.heap.size #[.int .i64 0, .int .i64 0, .int .i64 0, .string ⟨#[]⟩, .int .i64 0, .int .i64 0, .string ⟨#[]⟩] 25) := Blk.new _ _ _
 have K0 : Hid (PKeep g w (w.alloc (.cells #[.int .i64 0, .int .i64 0, .int .i64 0, .string ⟨#[]⟩, .int .i64 0, .int .i64 0, .string ⟨#[]⟩] 25))) := (PKeep.refl g w).alloc hp.lt _
 have HD : Hid (∀ wx, PKeep g w wx → Below w0.heap.size w0 wx) := fun wx hk => hw0.trans (hk.1.mono hg0)
 obtain ⟨n0, hn0⟩ : ∃ n0, n0 = 0 := ⟨0, rfl⟩
 have P0 : Hid (Prt (w.alloc (.cells #[.int .i64 0, .int .i64 0, .int .i64 0, .string ⟨#[]⟩, .int .i64 0, .int .i64 0, .string ⟨#[]⟩] 25)) g (lf s n0)) := by subst hn0; rw [lf_zero]; exact hp.alloc _
 have R0 : Hid (RdF s 0 0 [] n0) := ⟨rfl, hn0⟩
 have HO : Hid (∀ (t : ByteArray) (wx : World), PKeep g w wx → Prt wx g t → t.size ≤ 1048576 → Calls Tryz.prog 20 #[.pointer (some ⟨g, 0, none⟩)] wx fun e w' => ((∃ x, OpRd t x ∧ e = .returned (vOp x)) ∨ ((∀ x, ¬ OpRd t x) ∧ e = .panicked lackP)) ∧ PKeep g wx w') := fun t wx hk hp ht => takeOp g t wx hp ht w0 hst a0 a1 a2 he (HD.out wx hk) hg0
 clear hp hs hn0 hst he hw0 hg0 HD
 go_enter Tryz.func11, Tryz.ntmps11
 go_wp2_with fail
 generalize w.alloc (.cells #[.int .i64 0, .int .i64 0, .int .i64 0, .string ⟨#[]⟩, .int .i64 0, .int .i64 0, .string ⟨#[]⟩] 25) = W at *
 refine (takeVarF g s n0 _ P0.out HS.out).mono ?_
 rintro e w1 ⟨hR, hk⟩
 have K1 : Hid (PKeep g w w1) := K0.out.trans hk
 have B1 := Hid.mk (hk.blk B0.out (by have := HG.out; omega))
 clear hk B0
 rcases hR with ⟨k0, hf, rfl, hp⟩ | ⟨hno, rfl⟩
 rotate_left
 ·have HN : Hid (∀ x, ¬ CmdRd s x) := by
   rintro x ⟨c, i, n, h1, _⟩
   exact R0.out.no (by omega) hno _ _ h1
  clear hno
  go_wp2_with fail
  exact ⟨rfl, .inr ⟨HN.out, rfl⟩, K1.out⟩
 have P1 : Hid (Prt w1 g (lf s (n0 + k0))) := hp
 have R1 := Hid.mk (R0.out.snoc hf)
 generalize n0 + k0 = n1 at P1 R1
 generalize (vvS (lf s n0) 0 k0 : Int) = z0 at *
 clear hf hp P0 K0
 go_wp2_with fail
 refine (takeVarF g s n1 _ P1.out HS.out).mono ?_
 rintro e w2 ⟨hR, hk⟩
 have K2 : Hid (PKeep g w w2) := K1.out.trans hk
 have B2 := Hid.mk (hk.blk B1.out (by have := HG.out; omega))
 clear hk B1
 rcases hR with ⟨k1, hf, rfl, hp⟩ | ⟨hno, rfl⟩
 rotate_left
 ·have HN : Hid (∀ x, ¬ CmdRd s x) := by
   rintro x ⟨c, i, n, h1, _⟩
   exact R1.out.no (by omega) hno _ _ h1
  clear hno
  go_wp2_with fail
  exact ⟨rfl, .inr ⟨HN.out, rfl⟩, K2.out⟩
 have P2 : Hid (Prt w2 g (lf s (n1 + k1))) := hp
 have R2 := Hid.mk (R1.out.snoc hf)
 generalize n1 + k1 = n2 at P2 R2
 generalize (vvS (lf s n1) 0 k1 : Int) = z1 at *
 clear hf hp P1 K1
 go_wp2_with fail
 refine (HO.out (lf s n2) _ K2.out P2.out (by rw [lf_size]; have := HS.out; omega)).mono ?_
 rintro e w3 ⟨hR, hk⟩
 have K3 : Hid (PKeep g w w3) := K2.out.trans hk
 have B3 := Hid.mk (hk.blk B2.out (by have := HG.out; omega))
 clear hk B2
 clear HO
 have R2' : Hid (RdF s 0 2 [z0, z1] n2) := R2.out
 rcases hR with ⟨o, hx, rfl⟩ | ⟨hno, rfl⟩
 rotate_left
 ·have HN : Hid (∀ x, ¬ CmdRd s x) := by
   rintro x ⟨c, i, n, h1, h2, _⟩
   obtain ⟨_, rfl⟩ := h1.one R2'.out
   exact hno _ h2
  clear hno
  go_wp2_with fail
  exact ⟨rfl, .inr ⟨HN.out, rfl⟩, K3.out⟩
 have HX1 : Hid (trnOk ⟨z0, z1, o⟩ = true → CmdRd s ⟨z0, z1, o⟩) := fun h => ⟨z0, z1, n2, R2'.out, hx, rfl, rfl, h⟩
 have HX2 : Hid (trnOk ⟨z0, z1, o⟩ = false → ∀ x, ¬ CmdRd s x) := by
  rintro h ⟨a, b, o'⟩ ⟨c, i, n, h1, h2, h3, h4, h5⟩
  obtain ⟨e, rfl⟩ := h1.one R2'.out
  simp only [List.cons.injEq, and_true] at e
  obtain ⟨rfl, rfl⟩ := e
  simp only at h2 h3 h4
  rw [h3, h4, h2.one hx, h] at h5
  cases h5
 clear R0 R1 R2 R2' hx P2 K2
 unfold vOp
 obtain ⟨c0, c1, c2, c3, c4, c5, c6⟩ := cellsC7 (Blk.new w3 #[.int .i64 z0, .int .i64 z1, .int .i64 o.kind, .string o.key, .int .i64 o.frm, .int .i64 o.til, .string o.data] 25)
 have K5 : Hid (PKeep g w (w3.alloc (.cells #[.int .i64 z0, .int .i64 z1, .int .i64 o.kind, .string o.key, .int .i64 o.frm, .int .i64 o.til, .string o.data] 25))) := K3.out.alloc HG.out _
 have B5 := Hid.mk (B3.out.alloc (.cells #[.int .i64 z0, .int .i64 z1, .int .i64 o.kind, .string o.key, .int .i64 o.frm, .int .i64 o.til, .string o.data] 25))
 have A5 := Hid.mk (Blk.new w3 #[.int .i64 z0, .int .i64 z1, .int .i64 o.kind, .string o.key, .int .i64 o.frm, .int .i64 o.til, .string o.data] 25)
 clear K3 B3
 have ct := fun wx => turnOkV ⟨z0, z1, o⟩ wx
 unfold vCmd at ct
 simp only at ct
 go_wp2_with fail
 generalize w3.alloc (.cells #[.int .i64 z0, .int .i64 z1, .int .i64 o.kind, .string o.key, .int .i64 o.frm, .int .i64 o.til, .string o.data] 25) = V at *
 refine (ct _).mono ?_
 rintro e w5 ⟨rfl, hb⟩
 have K7 : Hid (PKeep g w w5) := K5.out.below HG.out hb
 have B7 := Hid.mk (B5.out.on hb B5.out.lt)
 have A7 := Hid.mk (A5.out.on hb A5.out.lt)
 clear hb c0 c1 c2 c3 c4 c5 c6 K5 B5 A5 ct
 cases ho : trnOk ⟨z0, z1, o⟩
 ·have HN : Hid (∀ x, ¬ CmdRd s x) := HX2.out ho
  clear ho
  go_wp2_with fail
  refine (need_no _).mono ?_
  rintro e w6 ⟨rfl, rfl⟩
  go_wp2_with fail
  exact ⟨rfl, .inr ⟨HN.out, rfl⟩, K7.out⟩
 have HX : Hid (CmdRd s ⟨z0, z1, o⟩) := HX1.out ho
 clear ho HX1 HX2
 obtain ⟨c0, c1, c2, c3, c4, c5, c6⟩ := cellsC7 A7.out
 obtain ⟨⟨r0, s0⟩, ⟨r1, s1⟩, ⟨r2, s2⟩, ⟨r3, s3⟩, ⟨r4, s4⟩, ⟨r5, s5⟩, ⟨r6, s6⟩, y0, y1, y2, y3, y4, y5, y6⟩ := resC7 (x0 := .int .i64 z0) (x1 := .int .i64 z1) (x2 := .int .i64 o.kind) (x3 := .string o.key) (x4 := .int .i64 o.frm) (x5 := .int .i64 o.til) (x6 := .string o.data) B7.out
 go_wp2_with fail
 refine (need_yes _).mono ?_
 rintro e w6 ⟨rfl, rfl⟩
 go_wp2_with fail
 have hgs := Nat.le_of_lt HG.out
 exact bodyPost_ret (v := .agg #[.int .i64 z0, .int .i64 z1, .int .i64 o.kind, .string o.key, .int .i64 o.frm, .int .i64 o.til, .string o.data]) (by simp [results, go_sem, y0, y1, y2, y3, y4, y5, y6]) rfl ⟨.inl ⟨_, HX.out, rfl⟩, (((((((K7.out.setNew (Nat.le_refl _) hgs _ _).setNew (Nat.le_refl _) hgs _ _).setNew (Nat.le_refl _) hgs _ _).setNew (Nat.le_refl _) hgs _ _).setNew (Nat.le_refl _) hgs _ _).setNew (Nat.le_refl _) hgs _ _).setNew (Nat.le_refl _) hgs _ _)⟩
end Go.Proofs.YtgbepickfhbknaaGreatDoor
namespace Go.Proofs.YtgbepickfhbknaaGreatDoor
open Go.ChangeShapes Go.WideShapes Go.ChangeAt Go.RowKit Go.PlainAid
set_option linter.unusedVariables false
theorem catchCmd_panicking (u : TypeId) (pv : Value) (older : List PanicEntry) (w : World) :
  CallsD Tryz.prog 18 #[] (.panicking ({ v := .iface u pv, recovered := false } :: older)) w fun e u' w' =>
   e = .returned (.tuple #[]) ∧ u' = .panicking ({ v := .iface u pv, recovered := true } :: older) ∧ w' = w := by
 refine callsD_of_wpS Tryz.func18 rfl fun c₀ cs hu => ?_
 apply wpS_region
 simp [wpOpsS, go_sem, recoverD, hu, Tryz.ntmps18, bodyPostS, results, Tryz.results18]
theorem catchCmd_idle (w : World) :
  CallsD Tryz.prog 18 #[] .returning w fun e u' w' => e = .returned (.tuple #[]) ∧ u' = .returning ∧ w' = w := by
 refine callsD_of_wpS Tryz.func18 rfl fun c₀ cs hu => ?_
 apply wpS_region
 simp [wpOpsS, go_sem, recoverD, hu, Tryz.ntmps18, bodyPostS, results, Tryz.results18]
 cases c₀
 simp_all
set_option maxHeartbeats 2000000 in
theorem partsCmd (s : ByteArray) (w : World) (hs : s.size ≤ 1048576) (hst : SumTab w) (a0 a1 a2 : Addr) (he : Errs w a0 a1 a2) :
  Calls Tryz.prog 10 #[.string s, .func (.func 11) #[] #[]] w fun e w' => CmdA s e ∧ Below w.heap.size w w' := by
 have hmf : ∀ (fn : Fn) (first cap : Array Value) (w : World), (Instr.makeFunc fn first cap).run Tryz.prog w = .ok (.func fn first cap) w := fun _ _ _ _ => rfl
 have k0 := (Blk.new w #[.int .i64 0, .int .i64 0, .int .i64 0, .string ⟨#[]⟩, .int .i64 0, .int .i64 0, .string ⟨#[]⟩] 25).alloc (.cells #[.string s] 48)
 have p0 : Prt ((w.alloc (.cells #[.int .i64 0, .int .i64 0, .int .i64 0, .string ⟨#[]⟩, .int .i64 0, .int .i64 0, .string ⟨#[]⟩] 25)).alloc (.cells #[.string s] 48)) (w.heap.size + 1) s := by
  have := heap_alloc_new (w.alloc (.cells #[.int .i64 0, .int .i64 0, .int .i64 0, .string ⟨#[]⟩, .int .i64 0, .int .i64 0, .string ⟨#[]⟩] 25)) (.cells #[.string s] 48)
  rw [World.size_alloc] at this
  exact this
 have hb0 := below_c2 w (.cells #[.int .i64 0, .int .i64 0, .int .i64 0, .string ⟨#[]⟩, .int .i64 0, .int .i64 0, .string ⟨#[]⟩] 25) (.cells #[.string s] 48)
 go_enter_defers Tryz.func10, Tryz.ntmps10
 go_wp2_with fail
 generalize (w.alloc (.cells #[.int .i64 0, .int .i64 0, .int .i64 0, .string ⟨#[]⟩, .int .i64 0, .int .i64 0, .string ⟨#[]⟩] 25)).alloc (.cells #[.string s] 48) = X at *
 refine (takeCmd (w.heap.size + 1) s X p0 hs w hst a0 a1 a2 he hb0 (by omega)).mono ?_
 rintro e w1 ⟨hR, hk⟩
 have k1 := hk.blk k0 (by omega)
 have B1 : Hid (Below w.heap.size w w1) := hb0.trans (hk.1.mono (by omega))
 clear hk hb0 p0 k0 hs hst he
 rcases hR with ⟨x, hx, rfl⟩ | ⟨hn, rfl⟩
 ·have HX : Hid (CmdRd s x) := hx
  unfold vCmd
  clear hx
  obtain ⟨⟨r0, s0⟩, ⟨r1, s1⟩, ⟨r2, s2⟩, ⟨r3, s3⟩, ⟨r4, s4⟩, ⟨r5, s5⟩, ⟨r6, s6⟩, y0, y1, y2, y3, y4, y5, y6⟩ := resC7 (x0 := .int .i64 x.client) (x1 := .int .i64 x.serial) (x2 := .int .i64 x.op.kind) (x3 := .string x.op.key) (x4 := .int .i64 x.op.frm) (x5 := .int .i64 x.op.til) (x6 := .string x.op.data) k1
  have B2 : Hid (Below w.heap.size w _) := belowC7 B1.out (Nat.le_refl _) (.int .i64 x.client) (.int .i64 x.serial) (.int .i64 x.op.kind) (.string x.op.key) (.int .i64 x.op.frm) (.int .i64 x.op.til) (.string x.op.data)
  clear k1
  go_wp2_with fail
  refine leaves_cons (f := 18) (args := #[]) (by simp) (by simp [go_sem]) ?_
  refine (catchCmd_idle _).mono ?_
  rintro e u' w'' ⟨rfl, rfl, rfl⟩
  refine ⟨.tuple #[.agg #[.int .i64 x.client, .int .i64 x.serial, .int .i64 x.op.kind, .string x.op.key, .int .i64 x.op.frm, .int .i64 x.op.til, .string x.op.data], .bool true], ?_, .inl ⟨x, HX.out, rfl⟩, B2.out⟩
  simp [results, Tryz.results10, go_sem, y0, y1, y2, y3, y4, y5, y6]
 ·have HN : Hid (∀ x, ¬ CmdRd s x) := hn
  clear hn
  have hz := cellsC7 k1
  obtain ⟨y0, y1, y2, y3, y4, y5, y6⟩ := hz
  clear k1
  go_wp2_with fail
  refine leaves_cons (f := 18) (args := #[]) (by simp) (by simp [go_sem]) ?_
  refine (catchCmd_panicking _ _ [] _).mono ?_
  rintro e u' w'' ⟨rfl, rfl, rfl⟩
  refine ⟨.tuple #[.agg #[.int .i64 0, .int .i64 0, .int .i64 0, .string ⟨#[]⟩, .int .i64 0, .int .i64 0, .string ⟨#[]⟩], .bool false], ?_, .inr ⟨HN.out, rfl⟩, B1.out⟩
  simp [results, Tryz.results10, go_sem, y0, y1, y2, y3, y4, y5, y6]
set_option maxHeartbeats 1000000 in
theorem implReadCmd (s : ByteArray) (w : World) (hs : s.size ≤ 1048576) (hst : SumTab w) (a0 a1 a2 : Addr) (he : Errs w a0 a1 a2) :
  Calls Tryz.prog 5 #[.string s] w fun e w' => CmdA s e ∧ Below w.heap.size w w' := by
 have c := fun wx (hb : Below w.heap.size w wx) => partsCmd s wx hs (hst.on hb) a0 a1 a2 (he.on hb)
 have k0 := Blk.new w #[.int .i64 0, .int .i64 0, .int .i64 0, .string ⟨#[]⟩, .int .i64 0, .int .i64 0, .string ⟨#[]⟩] 25
 have hb0 := (Below.refl w.heap.size w).alloc (Nat.le_refl _) (.cells #[.int .i64 0, .int .i64 0, .int .i64 0, .string ⟨#[]⟩, .int .i64 0, .int .i64 0, .string ⟨#[]⟩] 25)
 clear hs hst he
 go_enter Tryz.func5, Tryz.ntmps5
 go_wp2_with fail
 generalize w.alloc (.cells #[.int .i64 0, .int .i64 0, .int .i64 0, .string ⟨#[]⟩, .int .i64 0, .int .i64 0, .string ⟨#[]⟩] 25) = X at *
 refine (c _ hb0).mono ?_
 rintro e w1 ⟨hR, hb1⟩
 have k1 := k0.on hb1 k0.lt
 have B1 : Hid (Below w.heap.size w w1) := hb0.trans (hb1.mono hb0.size)
 have HR : Hid (CmdA s e) := hR
 obtain ⟨x, b, rfl⟩ := hR.form
 clear hb0 hb1 c k0 hR
 unfold vCmd at *
 obtain ⟨⟨r0, s0⟩, ⟨r1, s1⟩, ⟨r2, s2⟩, ⟨r3, s3⟩, ⟨r4, s4⟩, ⟨r5, s5⟩, ⟨r6, s6⟩, y0, y1, y2, y3, y4, y5, y6⟩ := resC7 (x0 := .int .i64 x.client) (x1 := .int .i64 x.serial) (x2 := .int .i64 x.op.kind) (x3 := .string x.op.key) (x4 := .int .i64 x.op.frm) (x5 := .int .i64 x.op.til) (x6 := .string x.op.data) k1
 have B2 : Hid (Below w.heap.size w _) := belowC7 B1.out (Nat.le_refl _) (.int .i64 x.client) (.int .i64 x.serial) (.int .i64 x.op.kind) (.string x.op.key) (.int .i64 x.op.frm) (.int .i64 x.op.til) (.string x.op.data)
 clear k1 B1
 go_wp2_with fail
 exact bodyPost_ret (v := .tuple #[.agg #[.int .i64 x.client, .int .i64 x.serial, .int .i64 x.op.kind, .string x.op.key, .int .i64 x.op.frm, .int .i64 x.op.til, .string x.op.data], .bool b]) (by simp [results, go_sem, y0, y1, y2, y3, y4, y5, y6]) rfl ⟨HR.out, B2.out⟩
end Go.Proofs.YtgbepickfhbknaaGreatDoor
namespace Go.Proofs.YtgbepickfhbknaaGreatDoor
open Go.ChangeShapes Go.WideShapes Go.ChangeAt Go.RowKit Go.PlainAid
set_option linter.unusedVariables false
set_option maxHeartbeats 1000000 in
theorem specVars (s : ByteArray) (a k0 : Nat) (w : World) (hs : s.size ≤ 1048576) (ha : a ≤ 2097152) (h2 : k0 ≤ 60) :
  Calls Tryz.prog 7 #[.string s, .int .i64 (a : Int), .int .i64 (k0 : Int)] w fun e w' => ((∃ l n u, RdF s a k0 l n ∧ e = .returned (.tuple #[u, .int .i64 (n : Int)]) ∧ Nums w' w.heap.size u l) ∨ ((∀ l n, ¬ RdF s a k0 l n) ∧ ∃ u, e = .returned (.tuple #[u, .int .i64 (-1)]))) ∧ Below w.heap.size w w' := by
 have q2 : (k0 : Int) ≤ 60 := by omega
 have HS : Hid (s.size ≤ 1048576) := hs
 have HA : Hid (a ≤ 2097152) := ha
 have q3 : (s.size : Int) ≤ 1048576 := by omega
 clear hs ha
 go_enter Tryz.func7, Tryz.ntmps7
 go_wp2_with fail
 go_loopw [1, 8, 9] (fun v1 v8 v9 wr => ∃ (k n : Nat) (l : List Int), k ≤ k0 ∧ v9 = .int .i64 (k : Int) ∧ v1 = .int .i64 (n : Int) ∧ Hid (RdF s a k l n) ∧ Nums wr w.heap.size v8 l ∧ Below w.heap.size w wr) (fun _ _ i _ => k0 - (intOf i).toNat)
 case atStart => exact ⟨0, a, [], by omega, rfl, rfl, ⟨rfl, rfl⟩, Nums.empty _ _ (Nat.le_refl _), (Below.refl _ _).alloc (Nat.le_refl _) _⟩
 case round =>
  obtain ⟨k, n, l, hk, rfl, rfl, HR, hN, hb⟩ := hrel
  have HN : Hid (Nums wr w.heap.size _ l) := hN
  obtain ⟨A, c, rfl, _, _⟩ := hN.shape
  have HB : Hid (Below w.heap.size w wr) := hb
  have hln := HR.out.length
  have HLN : Hid (l.length ≤ 2097152) := by unfold Hid; omega
  clear hN hb
  by_cases hlt : k < k0
  ·have q4 : (k : Int) < (k0 : Int) := by omega
   have hnb : (n : Int) ≤ 4194304 := by have := HR.out.le; have := HA.out; omega
   by_cases hns : n ≤ s.size
   ·have q5 : (n : Int) ≤ (s.size : Int) := by omega
    have q5' : decide ((s.size : Int) < (n : Int)) = false := decide_eq_false (by omega)
    have hsx : (lf s n).size ≤ 1048576 := by rw [lf_size]; have := HS.out; omega
    have c := fun wx => spec_readVar (lf s n) wx hsx
    have HX : Hid (∀ m, FindV (lf s n) m → m ≤ s.size - n) := fun m hm => by have := hm.2.2.1; rw [lf_size] at this; omega
    have HSX0 : Hid (s.extract n s.size = lf s n) := rfl
    unfold lf at c
    clear hsx hln
    go_wp2_with fail
    refine (c _).mono ?_
    rw [HSX0.out]
    clear c HSX0
    generalize hsx' : lf s n = sx at *
    have HSX : Hid (lf s n = sx) := hsx'
    clear hsx'
    rintro e w1 ⟨hR, hb1⟩
    have HB1 : Hid (Below w.heap.size w w1) := HB.out.trans (hb1.mono HB.out.size)
    have HN1 : Hid (Nums w1 w.heap.size (.slice A l.length _) l) := HN.out.on hb1
    clear hb1
    rcases hR with ⟨m, hm, rfl⟩ | ⟨hno, rfl⟩
    ·have hmx := HX.out m hm
     have hm1 := hm.1
     have hm7 := hm.2.1
     have q6 : (m : Int) ≤ 7 := by omega
     have q7 : (1 : Int) ≤ (m : Int) := by omega
     have q8 : ¬ (m : Int) = 0 := by omega
     have q9 : ¬ m = 0 := by omega
     have HM : Hid (FindV sx m) := hm
     have HZ : Hid (w.heap.size ≤ w1.heap.size) := HB1.out.size
     generalize hz : (vvS sx 0 m : Int) = z at *
     have HR2 : Hid (RdF s a (k + 1) (l ++ [z]) (n + m)) := by
      refine ⟨l, n, m, HR.out, ?_, ?_, rfl⟩
      ·rw [HSX.out]; exact HM.out
      ·rw [HSX.out, hz]
     clear hz hm
     go_wp2_with (at_builtin; refine wpList_append_num rfl (.tmp 33) (.tmp 35) 30 rfl Tryz.underlying30 Tryz.infoInt w.heap.size _ l rfl HN1.out z rfl HLN.out HZ.out ?_; intro v' w2 hN2 hb2 hk2)
     go_roundw
     case rel => exact ⟨k + 1, n + m, l ++ [z], by omega, by go_num, by go_num, HR2, hN2, HB1.out.trans hb2⟩
     case measure => simp [intOf]; omega
    ·have HNO : Hid (∀ l n, ¬ RdF s a k0 l n) := HR.out.no hlt (by rw [HSX.out]; exact hno)
     clear hno
     go_wp2_with fail
     go_ret2
     exact ⟨.inr ⟨HNO.out, _, rfl⟩, HB1.out⟩
   ·have q5 : decide ((s.size : Int) < (n : Int)) = true := decide_eq_true (by omega)
    have HNO : Hid (∀ l n, ¬ RdF s a k0 l n) := HR.out.no hlt (fun m hm => by have h3 := hm.2.2.1; have h1 := hm.1; rw [lf_size] at h3; omega)
    clear hln
    go_wp2_with fail
    go_ret2
    exact ⟨.inr ⟨HNO.out, _, rfl⟩, HB.out⟩
  ·obtain rfl : k = k0 := by omega
   go_wp2_with fail
   go_ret2
   exact ⟨.inl ⟨l, n, _, HR.out, rfl, HN.out⟩, HB.out⟩
end Go.Proofs.YtgbepickfhbknaaGreatDoor
namespace Go.Proofs.YtgbepickfhbknaaGreatDoor
open Go.ChangeShapes Go.WideShapes Go.ChangeAt Go.RowKit Go.PlainAid
set_option linter.unusedVariables false
theorem text_neqC {a b : ByteArray} (h : ¬ a = b) : ¬ a.toList = b.toList ∧ (a.toList == b.toList) = false ∧ (a.toList != b.toList) = true := by
 have : ¬ a.toList = b.toList := by
  intro e
  rw [Lib.toList_data, Lib.toList_data] at e
  exact h (ByteArray.ext (Array.toList_inj.1 e))
 exact ⟨this, by simpa using this, by simpa [bne] using this⟩
theorem Nums.full1 {w : World} {base : Nat} {v : Value} {l : List Int} (h : Nums w base v l) (hl : 0 < l.length) : ∃ g cap, v = .slice (some ⟨g, 0, none⟩) l.length cap ∧ base ≤ g ∧ g < w.heap.size := by
 rcases h.form with ⟨_, e⟩ | ⟨g, cap, e, _, _, h1, h2⟩
 ·rw [e] at hl; cases hl
 ·exact ⟨g, cap, e, h1, h2⟩
set_option maxHeartbeats 4000000 in
theorem specReadOp (s : ByteArray) (w : World) (hs : s.size ≤ 1048576) :
  Calls Tryz.prog 8 #[.string s] w fun e w' => OpA s e ∧ Below w.heap.size w w' := by
 have c := fun wx => specVars s 1 1 wx hs (by omega) (by omega)
 have c2 := fun a wx (ha : a ≤ 2097152) => specVars s a 2 wx hs ha (by omega)
 have k0 := Blk.new w #[.int .i64 0, .string ⟨#[]⟩, .int .i64 0, .int .i64 0, .string ⟨#[]⟩] 23
 have hb0 := (Below.refl w.heap.size w).alloc (Nat.le_refl _) (.cells #[.int .i64 0, .string ⟨#[]⟩, .int .i64 0, .int .i64 0, .string ⟨#[]⟩] 23)
 have HS : Hid (s.size ≤ 1048576) := hs
 have q2 : (s.size : Int) ≤ 1048576 := by omega
 clear hs
 go_enter Tryz.func8, Tryz.ntmps8
 go_wp2_with fail
 generalize w.alloc (.cells #[.int .i64 0, .string ⟨#[]⟩, .int .i64 0, .int .i64 0, .string ⟨#[]⟩] 23) = X at *
 refine (c _).mono ?_
 rintro e w1 ⟨hR, hb1⟩
 have k1 := Hid.mk (k0.on hb1 k0.lt)
 have B1 : Hid (Below w.heap.size w w1) := hb0.trans (hb1.mono hb0.size)
 clear hb1 k0 c
 rcases hR with ⟨l, n1, u, hR, rfl, hN⟩ | ⟨hno, u, rfl⟩
 rotate_left
 ·have HN : Hid (∀ x, ¬ OpRd s x) := by
   rintro x ⟨k, n1, f, t, m, h0, h1, h2, h3, h4, h5⟩
   exact hno _ _ h1
  clear hno hb0 c2
  obtain ⟨⟨r0, s0⟩, ⟨r1, s1⟩, ⟨r2, s2⟩, ⟨r3, s3⟩, ⟨r4, s4⟩, y0, y1, y2, y3, y4⟩ := resC5 (x0 := .int .i64 0) (x1 := .string ⟨#[]⟩) (x2 := .int .i64 0) (x3 := .int .i64 0) (x4 := .string ⟨#[]⟩) k1.out
  have BZ := Hid.mk (belowC5 B1.out (Nat.le_refl _) (.int .i64 0) (.string ⟨#[]⟩) (.int .i64 0) (.int .i64 0) (.string ⟨#[]⟩))
  go_wp2_with fail
  exact bodyPost_ret (v := .tuple #[.agg #[.int .i64 0, .string ⟨#[]⟩, .int .i64 0, .int .i64 0, .string ⟨#[]⟩], .bool false]) (by simp [results, go_sem, y0, y1, y2, y3, y4]) rfl ⟨.inr ⟨HN.out, rfl⟩, BZ.out⟩
 have hl := hR.length
 obtain ⟨z, rfl⟩ : ∃ a, l = [a] := by
  match l, hl with
  | [a], _ => exact ⟨a, rfl⟩
 have hz := hR.bound z (by simp)
 obtain ⟨kl, rfl⟩ : ∃ n : Nat, z = (n : Int) := ⟨z.toNat, by omega⟩
 have HR : Hid (RdF s 1 1 [(kl : Int)] n1) := hR
 have hns := hR.ge.2 (by omega)
 have hn1 := hR.ge.1
 have hnl := hR.le
 obtain ⟨g1, cap1, rfl, hg1, hg2⟩ := hN.full1 (by simp)
 have e0 : w1.cell? ⟨g1, 0, none⟩ = some (.int .i64 (kl : Int)) := hN.cell 0 (by simp)
 have HG1 : Hid (g1 < w1.heap.size) := hg2
 have hlen : [(kl : Int)].length = 1 := rfl
 rw [hlen] at *
 have q1 : (n1 : Int) ≤ (s.size : Int) := by omega
 have q3 : decide ((n1 : Int) < 0) = false := decide_eq_false (by omega)
 have HKO : Hid (∀ x, OpRd s x → kl ≤ 8 ∧ n1 + kl ≤ s.size) := by
  rintro x ⟨k, n1', f, t, m, h0, h1, h2, h3, rfl, h5⟩
  obtain ⟨e, rfl⟩ := h1.one HR.out
  simp only [List.cons.injEq, and_true] at e
  obtain rfl : k = kl := by omega
  have := (opOk_in h5).2.1
  simp only [ByteArray.size_extract] at this
  omega
 have hw1 : IntKind.i64.wrap ((s.size : Int) - (n1 : Int)) = (s.size : Int) - (n1 : Int) := by rw [IntKind.wrap_i64]; omega
 have hw2 : wrap64 ((s.size : Int) - (n1 : Int)) = (s.size : Int) - (n1 : Int) := by unfold wrap64; omega
 clear hR hl hN hg1 hg2 hlen hz
 by_cases h8 : kl ≤ 8
 rotate_left
 ·have HN : Hid (∀ x, ¬ OpRd s x) := fun x hx => h8 (HKO.out x hx).1
  have q4 : (8 : Int) < (kl : Int) := by omega
  clear c2 hb0 h8 HKO
  obtain ⟨⟨r0, s0⟩, ⟨r1, s1⟩, ⟨r2, s2⟩, ⟨r3, s3⟩, ⟨r4, s4⟩, y0, y1, y2, y3, y4⟩ := resC5 (x0 := .int .i64 0) (x1 := .string ⟨#[]⟩) (x2 := .int .i64 0) (x3 := .int .i64 0) (x4 := .string ⟨#[]⟩) k1.out
  have BZ := Hid.mk (belowC5 B1.out (Nat.le_refl _) (.int .i64 0) (.string ⟨#[]⟩) (.int .i64 0) (.int .i64 0) (.string ⟨#[]⟩))
  go_wp2_with fail
  exact bodyPost_ret (v := .tuple #[.agg #[.int .i64 0, .string ⟨#[]⟩, .int .i64 0, .int .i64 0, .string ⟨#[]⟩], .bool false]) (by simp [results, go_sem, y0, y1, y2, y3, y4]) rfl ⟨.inr ⟨HN.out, rfl⟩, BZ.out⟩
 have q4 : (kl : Int) ≤ 8 := by omega
 have q4' : decide ((8 : Int) < (kl : Int)) = false := decide_eq_false (by omega)
 by_cases hle : n1 + kl ≤ s.size
 rotate_left
 ·have HN : Hid (∀ x, ¬ OpRd s x) := fun x hx => hle (HKO.out x hx).2
  have q5 : (s.size : Int) - (n1 : Int) < (kl : Int) := by omega
  clear c2 hb0 hle HKO h8
  obtain ⟨⟨r0, s0⟩, ⟨r1, s1⟩, ⟨r2, s2⟩, ⟨r3, s3⟩, ⟨r4, s4⟩, y0, y1, y2, y3, y4⟩ := resC5 (x0 := .int .i64 0) (x1 := .string ⟨#[]⟩) (x2 := .int .i64 0) (x3 := .int .i64 0) (x4 := .string ⟨#[]⟩) k1.out
  have BZ := Hid.mk (belowC5 B1.out (Nat.le_refl _) (.int .i64 0) (.string ⟨#[]⟩) (.int .i64 0) (.int .i64 0) (.string ⟨#[]⟩))
  go_wp2_with fail
  exact bodyPost_ret (v := .tuple #[.agg #[.int .i64 0, .string ⟨#[]⟩, .int .i64 0, .int .i64 0, .string ⟨#[]⟩], .bool false]) (by simp [results, go_sem, y0, y1, y2, y3, y4]) rfl ⟨.inr ⟨HN.out, rfl⟩, BZ.out⟩
 have q5 : (kl : Int) ≤ (s.size : Int) - (n1 : Int) := by omega
 have q5' : decide ((s.size : Int) - (n1 : Int) < (kl : Int)) = false := decide_eq_false (by omega)
 have HLE : Hid (n1 + kl ≤ s.size) := hle
 have hw3 : IntKind.i64.wrap ((n1 : Int) + (kl : Int)) = ((n1 + kl : Nat) : Int) := by rw [IntKind.wrap_i64]; omega
 have hw4 : wrap64 ((n1 : Int) + (kl : Int)) = ((n1 + kl : Nat) : Int) := by unfold wrap64; omega
 have c3 := fun wx => c2 (n1 + kl) wx (by omega)
 have HN1 : Hid (2 ≤ n1) := by unfold Hid; omega
 clear c2 HKO h8 hle hb0 hns hn1 hnl
 generalize hnk : n1 + kl = nk at *
 have HNK : Hid (n1 + kl = nk) := hnk
 clear hnk
 go_wp2_with fail
 refine (c3 _).mono ?_
 rintro e w2 ⟨hR, hb2⟩
 have k2 := Hid.mk (k1.out.on hb2 k1.out.lt)
 have B2 : Hid (Below w.heap.size w w2) := B1.out.trans (hb2.mono B1.out.size)
 have e1 : w2.cell? ⟨g1, 0, none⟩ = some (.int .i64 (kl : Int)) := by rw [hb2.cell HG1.out]; exact e0
 have HG3 : Hid (g1 < w2.heap.size) := Nat.lt_of_lt_of_le HG1.out hb2.size
 clear hb2 k1 B1 c3 e0 HG1
 rcases hR with ⟨l, m, u, hR, rfl, hN⟩ | ⟨hno, u, rfl⟩
 rotate_left
 ·have HN : Hid (∀ x, ¬ OpRd s x) := by
   rintro x ⟨k, n1', f, t, m, h0, h1, h2, h3, rfl, h5⟩
   obtain ⟨e, rfl⟩ := h1.one HR.out
   simp only [List.cons.injEq, and_true] at e
   obtain rfl : k = kl := by omega
   rw [HNK.out] at h3
   exact hno _ _ h3
  clear hno
  obtain ⟨⟨r0, s0⟩, ⟨r1, s1⟩, ⟨r2, s2⟩, ⟨r3, s3⟩, ⟨r4, s4⟩, y0, y1, y2, y3, y4⟩ := resC5 (x0 := .int .i64 0) (x1 := .string ⟨#[]⟩) (x2 := .int .i64 0) (x3 := .int .i64 0) (x4 := .string ⟨#[]⟩) k2.out
  have BZ := Hid.mk (belowC5 B2.out (Nat.le_refl _) (.int .i64 0) (.string ⟨#[]⟩) (.int .i64 0) (.int .i64 0) (.string ⟨#[]⟩))
  go_wp2_with fail
  exact bodyPost_ret (v := .tuple #[.agg #[.int .i64 0, .string ⟨#[]⟩, .int .i64 0, .int .i64 0, .string ⟨#[]⟩], .bool false]) (by simp [results, go_sem, y0, y1, y2, y3, y4]) rfl ⟨.inr ⟨HN.out, rfl⟩, BZ.out⟩
 have hl := hR.length
 obtain ⟨z1, z2, rfl⟩ : ∃ a b, l = [a, b] := by
  match l, hl with
  | [a, b], _ => exact ⟨a, b, rfl⟩
 have HR2 : Hid (RdF s nk 2 [z1, z2] m) := hR
 have hns := hR.ge.2 (by omega)
 obtain ⟨g2, cap2, rfl, hg1, hg2⟩ := hN.full1 (by simp)
 have e2 : w2.cell? ⟨g2, 0, none⟩ = some (.int .i64 z1) := hN.cell 0 (by simp)
 have e3 : w2.cell? ⟨g2, 1, none⟩ = some (.int .i64 z2) := hN.cell 1 (by simp)
 have hlen : [z1, z2].length = 2 := rfl
 rw [hlen] at *
 have HG4 : Hid (g2 < w2.heap.size) := hg2
 have SS : Hid (w2.drew.cell? ⟨g1, 0, none⟩ = some (.int .i64 (kl : Int)) ∧ w2.drew.cell? ⟨g2, 0, none⟩ = some (.int .i64 z1) ∧ w2.drew.cell? ⟨g2, 1, none⟩ = some (.int .i64 z2)) := ⟨e1, e2, e3⟩
 have q6 : (m : Int) ≤ (s.size : Int) := by omega
 have q7 : decide ((m : Int) < 0) = false := decide_eq_false (by omega)
 have q8 : (n1 : Int) ≤ (nk : Int) := by have := HNK.out; omega
 have q9 : (nk : Int) ≤ (s.size : Int) := by have := HLE.out; omega
 have qa : (0 : Int) < (s.size : Int) := by have := HN1.out; omega
 have qb : 0 < s.size := by omega
 have hbt := get_bn s
 have hbl := bn_lt s 0
 have HZ : Hid (1 ≤ s.size) := qb
 have HNE : Hid (¬ s = ⟨#[]⟩) := by
  intro e
  rw [e] at qb
  have h0 : (⟨#[]⟩ : ByteArray).size = 0 := rfl
  omega
 have HX1 : Hid (opOk ⟨(bn s 0 : Int), s.extract n1 nk, z1, z2, lf s m⟩ = true → OpRd s ⟨(bn s 0 : Int), s.extract n1 nk, z1, z2, lf s m⟩ ∧ opT ⟨(bn s 0 : Int), s.extract n1 nk, z1, z2, lf s m⟩ = s) := by
  have h1 := HR.out
  have h2 := HR2.out
  have h3 := HLE.out
  rw [← HNK.out] at h2 h3 ⊢
  exact fun h => ⟨⟨kl, n1, z1, z2, m, HZ.out, h1, h3, h2, rfl, h⟩, opT_back HZ.out h1 h3 h2 h⟩
 have HX2 : Hid (opOk ⟨(bn s 0 : Int), s.extract n1 nk, z1, z2, lf s m⟩ = false → (∀ x, ¬ OpRd s x) ∧ opT ⟨(bn s 0 : Int), s.extract n1 nk, z1, z2, lf s m⟩ = ⟨#[]⟩) := by
  intro h
  refine ⟨?_, by unfold opT; rw [h]; rfl⟩
  rintro x ⟨k, n1', f, t, m', h0, h1, h2, h3, rfl, h5⟩
  obtain ⟨e, rfl⟩ := h1.one HR.out
  simp only [List.cons.injEq, and_true] at e
  obtain rfl : k = kl := by omega
  rw [HNK.out] at h3 h5
  obtain ⟨e, rfl⟩ := h3.one HR2.out
  simp only [List.cons.injEq, and_true] at e
  obtain ⟨rfl, rfl⟩ := e
  rw [h] at h5
  cases h5
 have HL1 : Hid ((s.extract n1 nk).size ≤ 1048576) := by unfold Hid; rw [ByteArray.size_extract]; have := HS.out; omega
 have HL2 : Hid ((lf s m).size ≤ 1048576) := by unfold Hid; rw [lf_size]; have := HS.out; omega
 have HEX : Hid (s.extract m s.size = lf s m) := rfl
 clear hR hl hN e1 e2 e3 hg1 hg2 hlen hns
 go_wp2_with fail
 refine wp_region_until (fun w' => w'.cell? ⟨g1, 0, none⟩ = some (.int .i64 (kl : Int)) ∧ w'.cell? ⟨g2, 0, none⟩ = some (.int .i64 z1) ∧ w'.cell? ⟨g2, 1, none⟩ = some (.int .i64 z2)) (fun i => i == 22) 23 (by rfl) (by kernel_rfl) ?_
 have B2' : Hid (Below w.heap.size w w2.drew) := B2.out.drew
 have k2' : Hid (Blk w2.drew w.heap.size #[.int .i64 0, .string ⟨#[]⟩, .int .i64 0, .int .i64 0, .string ⟨#[]⟩] 23) := k2.out
 have HG3' : Hid (g1 < w2.drew.heap.size) := HG3.out
 have HG4' : Hid (g2 < w2.drew.heap.size) := HG4.out
 clear k2 B2 HG3 HG4
 generalize w2.drew = Y at *
 refine until_pure 0 (v := ?_) (by rfl) (by kernel_rfl) (by exact fun _ _ _ h => h) (by rfl) ?_ ?_
 rotate_left
 ·intro w
  go_simp
  try with_reducible rfl
 try simp only [Act.put, setIfInBounds_toArray, set_cons_zero, set_cons_succ]
 refine until_pure 1 (v := ?_) (by rfl) (by kernel_rfl) (by exact fun _ _ _ h => h) (by rfl) ?_ ?_
 rotate_left
 ·intro w
  go_simp
  try with_reducible rfl
 try simp only [Act.put, setIfInBounds_toArray, set_cons_zero, set_cons_succ]
 refine until_pure 2 (v := ?_) (by rfl) (by kernel_rfl) (by exact fun _ _ _ h => h) (by rfl) ?_ ?_
 rotate_left
 ·intro w
  go_simp
  try with_reducible rfl
 try simp only [Act.put, setIfInBounds_toArray, set_cons_zero, set_cons_succ]
 refine until_pure 3 (v := ?_) (by rfl) (by kernel_rfl) (by exact fun _ _ _ h => h) (by rfl) ?_ ?_
 rotate_left
 ·intro w
  go_simp
  try with_reducible rfl
 try simp only [Act.put, setIfInBounds_toArray, set_cons_zero, set_cons_succ]
 refine until_pure 4 (v := ?_) (by rfl) (by kernel_rfl) (by exact fun _ _ _ h => h) (by rfl) ?_ ?_
 rotate_left
 ·intro w
  go_simp
  try with_reducible rfl
 try simp only [Act.put, setIfInBounds_toArray, set_cons_zero, set_cons_succ]
 refine until_pure 5 (v := ?_) (by rfl) (by kernel_rfl) (by exact fun _ _ _ h => h) (by rfl) ?_ ?_
 rotate_left
 ·intro w
  go_simp
  try with_reducible rfl
 try simp only [Act.put, setIfInBounds_toArray, set_cons_zero, set_cons_succ]
 refine until_pure 6 (v := ?_) (by rfl) (by kernel_rfl) (by exact fun _ _ _ h => h) (by rfl) ?_ ?_
 rotate_left
 ·intro w
  go_simp
  try with_reducible rfl
 try simp only [Act.put, setIfInBounds_toArray, set_cons_zero, set_cons_succ]
 refine until_pure 7 (v := ?_) (by rfl) (by kernel_rfl) (by exact fun _ _ _ h => h) (by rfl) ?_ ?_
 rotate_left
 ·intro w
  go_simp
  try with_reducible rfl
 try simp only [Act.put, setIfInBounds_toArray, set_cons_zero, set_cons_succ]
 refine until_take 8 (v := ?_) (by rfl) (by kernel_rfl) (by exact fun _ _ _ h => h) (by rfl) ?_ SS.out ?_
 rotate_left
 ·intro w hSw
  try dsimp only at hSw
  go_simp
  try with_reducible rfl
 try simp only [Act.put, setIfInBounds_toArray, set_cons_zero, set_cons_succ]
 refine until_pure 9 (v := ?_) (by rfl) (by kernel_rfl) (by exact fun _ _ _ h => h) (by rfl) ?_ ?_
 rotate_left
 ·intro w
  go_simp
  try with_reducible rfl
 try simp only [Act.put, setIfInBounds_toArray, set_cons_zero, set_cons_succ]
 refine until_pure 10 (v := ?_) (by rfl) (by kernel_rfl) (by exact fun _ _ _ h => h) (by rfl) ?_ ?_
 rotate_left
 ·intro w
  go_simp
  try with_reducible rfl
 try simp only [Act.put, setIfInBounds_toArray, set_cons_zero, set_cons_succ]
 refine until_pure 11 (v := ?_) (by rfl) (by kernel_rfl) (by exact fun _ _ _ h => h) (by rfl) ?_ ?_
 rotate_left
 ·intro w
  go_simp
  try with_reducible rfl
 try simp only [Act.put, setIfInBounds_toArray, set_cons_zero, set_cons_succ]
 refine until_pure 12 (v := ?_) (by rfl) (by kernel_rfl) (by exact fun _ _ _ h => h) (by rfl) ?_ ?_
 rotate_left
 ·intro w
  go_simp
  try with_reducible rfl
 try simp only [Act.put, setIfInBounds_toArray, set_cons_zero, set_cons_succ]
 refine until_take 13 (v := ?_) (by rfl) (by kernel_rfl) (by exact fun _ _ _ h => h) (by rfl) ?_ SS.out ?_
 rotate_left
 ·intro w hSw
  try dsimp only at hSw
  go_simp
  try with_reducible rfl
 try simp only [Act.put, setIfInBounds_toArray, set_cons_zero, set_cons_succ]
 refine until_pure 14 (v := ?_) (by rfl) (by kernel_rfl) (by exact fun _ _ _ h => h) (by rfl) ?_ ?_
 rotate_left
 ·intro w
  go_simp
  try with_reducible rfl
 try simp only [Act.put, setIfInBounds_toArray, set_cons_zero, set_cons_succ]
 refine until_pure 15 (v := ?_) (by rfl) (by kernel_rfl) (by exact fun _ _ _ h => h) (by rfl) ?_ ?_
 rotate_left
 ·intro w
  go_simp
  try with_reducible rfl
 try simp only [Act.put, setIfInBounds_toArray, set_cons_zero, set_cons_succ]
 refine until_take 16 (v := ?_) (by rfl) (by kernel_rfl) (by exact fun _ _ _ h => h) (by rfl) ?_ SS.out ?_
 rotate_left
 ·intro w hSw
  try dsimp only at hSw
  go_simp
  try with_reducible rfl
 try simp only [Act.put, setIfInBounds_toArray, set_cons_zero, set_cons_succ]
 refine until_pure 17 (v := ?_) (by rfl) (by kernel_rfl) (by exact fun _ _ _ h => h) (by rfl) ?_ ?_
 rotate_left
 ·intro w
  go_simp
  try with_reducible rfl
 try simp only [Act.put, setIfInBounds_toArray, set_cons_zero, set_cons_succ]
 refine until_pure 18 (v := ?_) (by rfl) (by kernel_rfl) (by exact fun _ _ _ h => h) (by rfl) ?_ ?_
 rotate_left
 ·intro w
  go_simp
  try with_reducible rfl
 try simp only [Act.put, setIfInBounds_toArray, set_cons_zero, set_cons_succ]
 refine until_pure 19 (v := ?_) (by rfl) (by kernel_rfl) (by exact fun _ _ _ h => h) (by rfl) ?_ ?_
 rotate_left
 ·intro w
  go_simp
  try with_reducible rfl
 try simp only [Act.put, setIfInBounds_toArray, set_cons_zero, set_cons_succ]
 refine until_pure 20 (v := ?_) (by rfl) (by kernel_rfl) (by exact fun _ _ _ h => h) (by rfl) ?_ ?_
 rotate_left
 ·intro w
  go_simp
  try with_reducible rfl
 try simp only [Act.put, setIfInBounds_toArray, set_cons_zero, set_cons_succ]
 rw [HEX.out]
 clear HEX hbt
 generalize lf s m = d at *
 generalize s.extract n1 nk = ky at *
 generalize bn s 0 = kn at *
 refine until_one 21 (by rfl) (by kernel_rfl) (fun K hK => ?_)
 go_simp
 have S2 : Hid ((Y.alloc (.cells #[.int .i64 0, .string ⟨#[]⟩, .int .i64 0, .int .i64 0, .string ⟨#[]⟩] 23)).cell? ⟨g1, 0, none⟩ = some (.int .i64 (kl : Int)) ∧ (Y.alloc (.cells #[.int .i64 0, .string ⟨#[]⟩, .int .i64 0, .int .i64 0, .string ⟨#[]⟩] 23)).cell? ⟨g2, 0, none⟩ = some (.int .i64 z1) ∧ (Y.alloc (.cells #[.int .i64 0, .string ⟨#[]⟩, .int .i64 0, .int .i64 0, .string ⟨#[]⟩] 23)).cell? ⟨g2, 1, none⟩ = some (.int .i64 z2)) := by
  have hb := below_c1 Y (.cells #[.int .i64 0, .string ⟨#[]⟩, .int .i64 0, .int .i64 0, .string ⟨#[]⟩] 23)
  exact ⟨by rw [hb.cell HG3'.out]; exact SS.out.1, by rw [hb.cell HG4'.out]; exact SS.out.2.1, by rw [hb.cell HG4'.out]; exact SS.out.2.2⟩
 refine hK.out _ _ (fun _ _ => S2.out) ?_
 clear hK K
 try simp only [Act.put, setIfInBounds_toArray, set_cons_zero, set_cons_succ]
 refine until_one 22 (by rfl) (by kernel_rfl) (fun K hK => ?_)
 go_simp
 refine hK.out _ _ (fun h => by cases h) ?_
 clear hK K
 try simp only [Act.put, setIfInBounds_toArray, set_cons_zero, set_cons_succ]
 refine until_done (by kernel_rfl) ?_ _
 have kA := Blk.new Y #[.int .i64 (kn : Int), .string ky, .int .i64 z1, .int .i64 z2, .string d] 23
 have kR := k2'.out.alloc (.cells #[.int .i64 (kn : Int), .string ky, .int .i64 z1, .int .i64 z2, .string d] 23)
 have hbA := B2'.out.alloc B2'.out.size (.cells #[.int .i64 (kn : Int), .string ky, .int .i64 z1, .int .i64 z2, .string d] 23)
 obtain ⟨c0, c1, c2, c3, c4⟩ := cellsC5 kA
 clear S2 SS k2' B2'
 go_wp2_with fail
 generalize Y.alloc (.cells #[.int .i64 (kn : Int), .string ky, .int .i64 z1, .int .i64 z2, .string d] 23) = V at *
 refine (specShowOp ⟨(kn : Int), ky, z1, z2, d⟩ _ (by have := HL1.out; simp only [maxLen]; omega) HL2.out).mono ?_
 rintro e w3 ⟨rfl, hb⟩
 have A2 := Hid.mk (kA.on hb kA.lt)
 have R2 := Hid.mk (kR.on hb kR.lt)
 have B3 : Hid (Below w.heap.size w w3) := hbA.trans (hb.mono hbA.size)
 clear hb kA kR hbA c0 c1 c2 c3 c4
 generalize opT ⟨(kn : Int), ky, z1, z2, d⟩ = T at *
 cases ho : opOk ⟨(kn : Int), ky, z1, z2, d⟩
 ·obtain ⟨HN, hT⟩ := HX2.out ho
  have HN : Hid (∀ x, ¬ OpRd s x) := HN
  obtain ⟨hq1, hq2, hq3⟩ := text_neqC (a := T) (b := s) (by rw [hT]; exact fun e => HNE.out e.symm)
  clear hT ho HX1 HX2
  obtain ⟨⟨r0, s0⟩, ⟨r1, s1⟩, ⟨r2, s2⟩, ⟨r3, s3⟩, ⟨r4, s4⟩, y0, y1, y2, y3, y4⟩ := resC5 (x0 := .int .i64 0) (x1 := .string ⟨#[]⟩) (x2 := .int .i64 0) (x3 := .int .i64 0) (x4 := .string ⟨#[]⟩) R2.out
  have BZ := Hid.mk (belowC5 B3.out (Nat.le_refl _) (.int .i64 0) (.string ⟨#[]⟩) (.int .i64 0) (.int .i64 0) (.string ⟨#[]⟩))
  go_wp2_with fail
  exact bodyPost_ret (v := .tuple #[.agg #[.int .i64 0, .string ⟨#[]⟩, .int .i64 0, .int .i64 0, .string ⟨#[]⟩], .bool false]) (by simp [results, go_sem, y0, y1, y2, y3, y4]) rfl ⟨.inr ⟨HN.out, rfl⟩, BZ.out⟩
 ·obtain ⟨hx, hT⟩ := HX1.out ho
  have HX : Hid (OpRd s ⟨(kn : Int), ky, z1, z2, d⟩) := hx
  subst hT
  clear hx ho HX1 HX2
  obtain ⟨c0, c1, c2, c3, c4⟩ := cellsC5 A2.out
  obtain ⟨⟨r0, s0⟩, ⟨r1, s1⟩, ⟨r2, s2⟩, ⟨r3, s3⟩, ⟨r4, s4⟩, y0, y1, y2, y3, y4⟩ := resC5 (x0 := .int .i64 (kn : Int)) (x1 := .string ky) (x2 := .int .i64 z1) (x3 := .int .i64 z2) (x4 := .string d) R2.out
  have BZ := Hid.mk (belowC5 B3.out (Nat.le_refl _) (.int .i64 (kn : Int)) (.string ky) (.int .i64 z1) (.int .i64 z2) (.string d))
  go_wp2_with fail
  exact bodyPost_ret (v := .tuple #[.agg #[.int .i64 (kn : Int), .string ky, .int .i64 z1, .int .i64 z2, .string d], .bool true]) (by simp [results, go_sem, y0, y1, y2, y3, y4]) rfl ⟨.inl ⟨_, HX.out, rfl⟩, BZ.out⟩
end Go.Proofs.YtgbepickfhbknaaGreatDoor
