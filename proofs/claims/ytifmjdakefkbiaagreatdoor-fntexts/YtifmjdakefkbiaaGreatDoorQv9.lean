/- CmCmd TxMail UntilF TxAny MgAid RcSpec RcImpl RcOf WokSpec -/
import Derived.Test.YtifmjdakefkbiaaGreatDoorRows
import Derived.Test.YtifmjdakefkbiaaGreatDoorQv8
import Derived.Lib.OwnKind
import Derived.Deep.Cut
import Derived.Deep.CutRange
import Derived.Deep.CutBlock
import Derived.Handy
import Derived.OwnWalk
import Derived.Deep.RegionWith
import Derived.Test.YtifmjdakefkbiaaGreatDoorQt0
import Derived.Test.YtifmjdakefkbiaaGreatDoorQt1
import Derived.Test.YtifmjdakefkbiaaGreatDoorQt2
import Derived.Test.YtifmjdakefkbiaaGreatDoorQt3
import Derived.Test.YtifmjdakefkbiaaGreatDoorQt4
import Derived.Test.YtifmjdakefkbiaaGreatDoorQt5
import Derived.Test.YtifmjdakefkbiaaGreatDoorQt6
import Derived.Test.YtifmjdakefkbiaaGreatDoorQt7
import Derived.Test.YtifmjdakefkbiaaGreatDoorQt8
import Derived.Test.YtifmjdakefkbiaaGreatDoorQt9
import Derived.Test.YtifmjdakefkbiaaGreatDoorQt10
import Derived.Test.YtifmjdakefkbiaaGreatDoorQt11
import Derived.Test.YtifmjdakefkbiaaGreatDoorQt12
import Derived.Test.YtifmjdakefkbiaaGreatDoorQt13
open List (setIfInBounds_toArray set_cons_zero set_cons_succ)
namespace Go.Proofs.YtifmjdakefkbiaaGreatDoor
open Go.ChangeShapes Go.WideShapes Go.ChangeAt Go.RowKit Go.PlainAid
set_option linter.unusedVariables false
noncomputable def cmdT (x : Cmx) : ByteArray := if (trnOk x && opOk x.op) = true then txt (vF 6 x.client.toNat) ++ txt (vF 6 x.serial.toNat) ++ opT x.op else ⟨#[]⟩
theorem opT_some {x : Opx} (h : opOk x = true) : ¬ opT x = ⟨#[]⟩ := by
 intro e
 have h2 : (opT x).size = 0 := by rw [e]; rfl
 unfold opT at h2
 rw [if_pos h] at h2
 simp only [ByteArray.size_append, txt_size, List.length_cons, List.length_nil] at h2
 omega
theorem trnOk_in {x : Cmx} (h : trnOk x = true) : (1 ≤ x.client ∧ x.client ≤ 4) ∧ (1 ≤ x.serial ∧ x.serial ≤ 1000000) := by
 unfold trnOk inRg at h
 simp only [Bool.and_eq_true, decide_eq_true_eq] at h
 omega
set_option maxHeartbeats 1000000 in
theorem turnOkV (x : Cmx) (w : World) : Calls Tryz.prog 53 #[vCmd x] w fun e w' => e = .returned (.bool (trnOk x)) ∧ Below w.heap.size w w' := by
 have HB : Hid (Below w.heap.size w (w.alloc (.cells #[.int .i64 x.client, .int .i64 x.serial, .int .i64 x.op.kind, .string x.op.key, .int .i64 x.op.frm, .int .i64 x.op.til, .string x.op.data] 40))) := below_c1 _ _
 have k0 := Blk.new w #[.int .i64 x.client, .int .i64 x.serial, .int .i64 x.op.kind, .string x.op.key, .int .i64 x.op.frm, .int .i64 x.op.til, .string x.op.data] 40
 have e0 : (w.alloc (.cells #[.int .i64 x.client, .int .i64 x.serial, .int .i64 x.op.kind, .string x.op.key, .int .i64 x.op.frm, .int .i64 x.op.til, .string x.op.data] 40)).cell? ⟨w.heap.size, 0, none⟩ = some (.int .i64 x.client) := k0.cell 0 _ rfl
 have e1 : (w.alloc (.cells #[.int .i64 x.client, .int .i64 x.serial, .int .i64 x.op.kind, .string x.op.key, .int .i64 x.op.frm, .int .i64 x.op.til, .string x.op.data] 40)).cell? ⟨w.heap.size, 1, none⟩ = some (.int .i64 x.serial) := k0.cell 1 _ rfl
 have HE : Hid (trnOk x = (inRg x.client 1 4 && inRg x.serial 1 1000000)) := rfl
 have a1 := inI x.client 1 4
 have a2 := inI x.serial 1 1000000
 unfold vCmd
 clear k0
 cases h1 : inRg x.client 1 4 <;> rw [h1] at a1 HE <;> clear h1
 ·go_enter Tryz.func53, Tryz.ntmps53
  go_wp2_with fail
  refine (a1 _).mono ?_
  rintro e w' ⟨rfl, rfl⟩
  go_wp2_with fail
  go_ret
  exact ⟨by rw [HE.out]; rfl, HB.out⟩
 ·go_enter Tryz.func53, Tryz.ntmps53
  go_wp2_with fail
  refine (a1 _).mono ?_
  rintro e w' ⟨rfl, rfl⟩
  go_wp2_with fail
  refine (a2 _).mono ?_
  rintro e w' ⟨rfl, rfl⟩
  go_wp2_with fail
  go_ret
  exact ⟨by rw [HE.out]; rfl, HB.out⟩
set_option maxHeartbeats 4000000 in
theorem implShowCmd (x : Cmx) (w : World) (hk : x.op.key.size ≤ maxLen) (hd : x.op.data.size ≤ 1048576) (hst : SumTab w) (a0 a1 a2 : Addr) (he : Errs w a0 a1 a2) : Calls Tryz.prog 16 #[vCmd x] w fun e w' => e = .returned (.string (cmdT x)) ∧ Below w.heap.size w w' := by
 have c0 := fun wx (hb : Below w.heap.size w wx) => implShowOp x.op wx hk hd (hst.on hb) a0 a1 a2 (he.on hb)
 have c1 := fun wx => turnOkV x wx
 have hb0 := below_c1 w (.cells #[.int .i64 x.client, .int .i64 x.serial, .int .i64 x.op.kind, .string x.op.key, .int .i64 x.op.frm, .int .i64 x.op.til, .string x.op.data] 40)
 have k0 := Blk.new w #[.int .i64 x.client, .int .i64 x.serial, .int .i64 x.op.kind, .string x.op.key, .int .i64 x.op.frm, .int .i64 x.op.til, .string x.op.data] 40
 obtain ⟨f0, f1, f2, f3, f4, f5, f6⟩ := cellsC7 k0
 unfold vOp vCmd at *
 clear hst he hk
 have HW : Hid (cmdT x = if (trnOk x && opOk x.op) = true then txt (vF 6 x.client.toNat) ++ txt (vF 6 x.serial.toNat) ++ opT x.op else ⟨#[]⟩) := rfl
 go_enter Tryz.func16, Tryz.ntmps16
 go_wp2_with fail
 generalize w.alloc (.cells #[.int .i64 x.client, .int .i64 x.serial, .int .i64 x.op.kind, .string x.op.key, .int .i64 x.op.frm, .int .i64 x.op.til, .string x.op.data] 40) = W at *
 refine (c0 _ hb0).mono ?_
 rintro e y0 ⟨rfl, hb1⟩
 have k1 := k0.on hb1 k0.lt
 have B1 := hb0.trans (hb1.mono hb0.size)
 clear hb0 hb1 c0 k0 f0 f1 f2 f3 f4 f5 f6
 obtain ⟨f0, f1, f2, f3, f4, f5, f6⟩ := cellsC7 k1
 go_wp2_with fail
 refine (c1 _).mono ?_
 rintro e y1 ⟨rfl, hb1⟩
 have k2 := k1.on hb1 k1.lt
 have B2 : Hid (Below w.heap.size w y1) := B1.trans (hb1.mono B1.size)
 clear hb1 c1 k1 B1 f0 f1 f2 f3 f4 f5 f6
 cases ht : trnOk x
 ·have HT : Hid (cmdT x = ⟨#[]⟩) := by unfold Hid; rw [HW.out, ht]; rfl
  clear ht HW k2
  go_wp2_with fail
  go_ret
  exact ⟨by rw [HT.out]; rfl, B2.out⟩
 cases ho : opOk x.op
 ·have HT : Hid (cmdT x = ⟨#[]⟩) := by unfold Hid; rw [HW.out, ho, Bool.and_false]; rfl
  have hz := opT_none ho
  have hq : (⟨#[]⟩ : ByteArray).toList = [] := by rw [Lib.toList_data]
  rw [hz]
  clear ht ho HW k2 hz
  go_wp2_with fail
  go_ret
  exact ⟨by rw [HT.out]; rfl, B2.out⟩
 have HT : Hid (cmdT x = txt (vF 6 x.client.toNat) ++ txt (vF 6 x.serial.toNat) ++ opT x.op) := by unfold Hid; rw [HW.out, ht, ho]; rfl
 obtain ⟨z1, z2, z3, _⟩ := em_facts (opT_some ho)
 obtain ⟨⟨a1, a2⟩, ⟨a3, a4⟩⟩ := trnOk_in ht
 clear ho HW
 obtain ⟨c, s, o⟩ := x
 simp only at *
 obtain ⟨cn, rfl⟩ : ∃ n : Nat, c = (n : Int) := ⟨c.toNat, by omega⟩
 obtain ⟨sn, rfl⟩ : ∃ n : Nat, s = (n : Int) := ⟨s.toNat, by omega⟩
 simp only [Int.toNat_natCast] at HT
 have cA := fun wx => impl_var cn wx (by omega)
 have cB := fun wx => impl_var sn wx (by omega)
 have l1 : (txt (vF 6 cn)).size ≤ 7 := by rw [txt_size]; exact vF_length 6 cn
 have l2 : (txt (vF 6 sn)).size ≤ 7 := by rw [txt_size]; exact vF_length 6 sn
 have l3 := opT_size o
 generalize txt (vF 6 cn) = t1 at *
 generalize txt (vF 6 sn) = t2 at *
 have p1 : ¬ 9223372036854775807 < t1.size + t2.size := by omega
 have p2 : ¬ 9223372036854775807 < t1.size + t2.size + (opT o).size := by omega
 generalize opT o = to' at *
 clear l1 l2 l3
 clear a1 a2 a3 a4 ht
 have D0 : Hid (Below w.heap.size w y1.drew) := B2.out.drew
 have K0 : Hid (Blk y1.drew w.heap.size #[.int .i64 (cn : Int), .int .i64 (sn : Int), .int .i64 o.kind, .string o.key, .int .i64 o.frm, .int .i64 o.til, .string o.data] 40) := k2
 clear B2 k2
 go_wp2_with fail
 have S0 : Hid (y1.drew.cell? ⟨w.heap.size, 0, none⟩ = some (.int .i64 (cn : Int)) ∧ y1.drew.cell? ⟨w.heap.size, 1, none⟩ = some (.int .i64 (sn : Int)) ∧ y1.drew.cell? ⟨w.heap.size, 2, none⟩ = some (.int .i64 o.kind) ∧ y1.drew.cell? ⟨w.heap.size, 3, none⟩ = some (.string o.key) ∧ y1.drew.cell? ⟨w.heap.size, 4, none⟩ = some (.int .i64 o.frm) ∧ y1.drew.cell? ⟨w.heap.size, 5, none⟩ = some (.int .i64 o.til) ∧ y1.drew.cell? ⟨w.heap.size, 6, none⟩ = some (.string o.data)) := ⟨K0.out.cell 0 _ rfl, K0.out.cell 1 _ rfl, K0.out.cell 2 _ rfl, K0.out.cell 3 _ rfl, K0.out.cell 4 _ rfl, K0.out.cell 5 _ rfl, K0.out.cell 6 _ rfl⟩
 refine wp_region_until (fun w' => w'.cell? ⟨w.heap.size, 0, none⟩ = some (.int .i64 (cn : Int)) ∧ w'.cell? ⟨w.heap.size, 1, none⟩ = some (.int .i64 (sn : Int)) ∧ w'.cell? ⟨w.heap.size, 2, none⟩ = some (.int .i64 o.kind) ∧ w'.cell? ⟨w.heap.size, 3, none⟩ = some (.string o.key) ∧ w'.cell? ⟨w.heap.size, 4, none⟩ = some (.int .i64 o.frm) ∧ w'.cell? ⟨w.heap.size, 5, none⟩ = some (.int .i64 o.til) ∧ w'.cell? ⟨w.heap.size, 6, none⟩ = some (.string o.data)) (fun i => false) 10 (by rfl) (by kernel_rfl) ?_
 generalize y1.drew = X at *
 refine tKf 0 S0.out ?_
 refine tKf 1 S0.out ?_
 refine tKf 3 S0.out ?_
 refine tKf 4 S0.out ?_
 refine pUf 7 ?_
 refine uNe 2 (fun K hK => ?_)
 go_simp
 refine (cA _).mono ?_
 rintro e Y1 ⟨rfl, hb⟩
 have K1 : Hid (Blk Y1 w.heap.size #[.int .i64 (cn : Int), .int .i64 (sn : Int), .int .i64 o.kind, .string o.key, .int .i64 o.frm, .int .i64 o.til, .string o.data] 40) := K0.out.on hb K0.out.lt
 have D1 : Hid (Below w.heap.size w Y1) := D0.out.trans (hb.mono D0.out.size)
 clear hb
 go_wp2_with fail
 refine hK.out _ _ (fun _ _ => ⟨K1.out.cell 0 _ rfl, K1.out.cell 1 _ rfl, K1.out.cell 2 _ rfl, K1.out.cell 3 _ rfl, K1.out.cell 4 _ rfl, K1.out.cell 5 _ rfl, K1.out.cell 6 _ rfl⟩) ?_
 clear hK K
 try simp only [Act.put, zQ1, zQ2, zQ3]
 refine uNe 5 (fun K hK => ?_)
 go_simp
 refine (cB _).mono ?_
 rintro e Y2 ⟨rfl, hb⟩
 have K2 : Hid (Blk Y2 w.heap.size #[.int .i64 (cn : Int), .int .i64 (sn : Int), .int .i64 o.kind, .string o.key, .int .i64 o.frm, .int .i64 o.til, .string o.data] 40) := K1.out.on hb K1.out.lt
 have D2 : Hid (Below w.heap.size w Y2) := D1.out.trans (hb.mono D1.out.size)
 clear hb
 go_wp2_with fail
 refine hK.out _ _ (fun _ _ => ⟨K2.out.cell 0 _ rfl, K2.out.cell 1 _ rfl, K2.out.cell 2 _ rfl, K2.out.cell 3 _ rfl, K2.out.cell 4 _ rfl, K2.out.cell 5 _ rfl, K2.out.cell 6 _ rfl⟩) ?_
 clear hK K
 try simp only [Act.put, zQ1, zQ2, zQ3]
 refine pUf 6 ?_
 refine pUf 8 ?_
 refine pUf 9 ?_
 refine until_done (by kernel_rfl) ?_ _
 go_wp2_with fail
 go_ret
 exact ⟨by rw [HT.out]; rfl, D2.out⟩
end Go.Proofs.YtifmjdakefkbiaaGreatDoor
namespace Go.Proofs.YtifmjdakefkbiaaGreatDoor
open Go.ChangeShapes Go.WideShapes Go.ChangeAt Go.RowKit Go.PlainAid
set_option linter.unusedVariables false
end Go.Proofs.YtifmjdakefkbiaaGreatDoor
namespace Go.Proofs.YtifmjdakefkbiaaGreatDoor
set_option linter.unusedVariables false
section
variable {P : Program} {Q : Exit → Act → World → Prop} {md : Region.Mode} {S : World → Prop} {T : Nat → Bool}
end
end Go.Proofs.YtifmjdakefkbiaaGreatDoor
namespace Go.Proofs.YtifmjdakefkbiaaGreatDoor
open Go.ChangeShapes Go.WideShapes Go.ChangeAt Go.RowKit Go.PlainAid
set_option linter.unusedVariables false
section
variable {w wc : World} {p g : Nat} {k f d t i it c : Int} {y : Bool} {ua : Option Addr} {um uc : Nat} {es : List Ent} {da : ByteArray}
end
end Go.Proofs.YtifmjdakefkbiaaGreatDoor
namespace Go.Proofs.YtifmjdakefkbiaaGreatDoor
open Go.ChangeShapes Go.WideShapes Go.ChangeAt Go.RowKit Go.PlainAid
set_option linter.unusedVariables false
end Go.Proofs.YtifmjdakefkbiaaGreatDoor
namespace Go.Proofs.YtifmjdakefkbiaaGreatDoor
open Go.ChangeShapes Go.WideShapes Go.ChangeAt Go.RowKit Go.PlainAid
set_option linter.unusedVariables false
end Go.Proofs.YtifmjdakefkbiaaGreatDoor
namespace Go.Proofs.YtifmjdakefkbiaaGreatDoor
open Go.ChangeShapes Go.WideShapes Go.ChangeAt Go.RowKit Go.PlainAid
set_option linter.unusedVariables false
end Go.Proofs.YtifmjdakefkbiaaGreatDoor
namespace Go.Proofs.YtifmjdakefkbiaaGreatDoor
open Go.ChangeShapes Go.WideShapes Go.ChangeAt Go.RowKit Go.PlainAid
set_option linter.unusedVariables false
end Go.Proofs.YtifmjdakefkbiaaGreatDoor
namespace Go.Proofs.YtifmjdakefkbiaaGreatDoor
open Go.ChangeShapes Go.WideShapes Go.ChangeAt Go.RowKit Go.PlainAid
set_option linter.unusedVariables false
end Go.Proofs.YtifmjdakefkbiaaGreatDoor
