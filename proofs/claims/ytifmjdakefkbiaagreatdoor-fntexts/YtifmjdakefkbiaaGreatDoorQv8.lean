/- CmOpS CmAns CmVars CmAnsS -/
import Derived.Test.YtifmjdakefkbiaaGreatDoorRows
import Derived.Test.YtifmjdakefkbiaaGreatDoorQv0
import Derived.Test.YtifmjdakefkbiaaGreatDoorQv5
import Derived.Test.YtifmjdakefkbiaaGreatDoorQt0
import Derived.Test.YtifmjdakefkbiaaGreatDoorQt1
import Derived.Test.YtifmjdakefkbiaaGreatDoorQt2
import Derived.Test.YtifmjdakefkbiaaGreatDoorQt3
import Derived.Test.YtifmjdakefkbiaaGreatDoorQt4
import Derived.Test.YtifmjdakefkbiaaGreatDoorQt5
import Derived.Test.YtifmjdakefkbiaaGreatDoorQt6
import Derived.Test.YtifmjdakefkbiaaGreatDoorQt7
import Derived.Test.YtifmjdakefkbiaaGreatDoorQt8
import Derived.Test.YtifmjdakefkbiaaGreatDoorQt9
import Derived.Test.YtifmjdakefkbiaaGreatDoorQt10
import Derived.Test.YtifmjdakefkbiaaGreatDoorQt11
import Derived.Test.YtifmjdakefkbiaaGreatDoorQt12
import Derived.Test.YtifmjdakefkbiaaGreatDoorQt13
open List (setIfInBounds_toArray set_cons_zero set_cons_succ)
namespace Go.Proofs.YtifmjdakefkbiaaGreatDoor
open Go.ChangeShapes Go.WideShapes Go.ChangeAt Go.RowKit Go.PlainAid
set_option linter.unusedVariables false
theorem fixed_oneC (n : Nat) (h : n < 256) : fixed n 1 = txt [byt n] := by
 unfold fixed
 rw [if_pos (by rw [Nat.pow_one]; exact Nat.div_eq_of_lt h)]
 simp [low]
set_option maxHeartbeats 4000000 in
theorem implShowOp (x : Opx) (w : World) (hk : x.key.size ≤ maxLen) (hd : x.data.size ≤ 1048576) (hst : SumTab w) (a0 a1 a2 : Addr) (he : Errs w a0 a1 a2) : Calls Tryz.prog 52 #[vOp x] w fun e w' => e = .returned (.string (opT x)) ∧ Below w.heap.size w w' := by
 have c0 := fun wx (hb : Below w.heap.size w wx) => implOpOk x wx hk hd (hst.on hb) a0 a1 a2 (he.on hb)
 have hb0 := below_c1 w (.cells #[.int .i64 x.kind, .string x.key, .int .i64 x.frm, .int .i64 x.til, .string x.data] 38)
 have k0 := Blk.new w #[.int .i64 x.kind, .string x.key, .int .i64 x.frm, .int .i64 x.til, .string x.data] 38
 clear hst he hk
 cases ho : opOk x
 ·have HE : Hid (opT x = ⟨#[]⟩) := by unfold Hid opT; rw [ho]; rfl
  rw [ho] at c0
  unfold vOp at *
  clear ho hd k0
  go_enter Tryz.func52, Tryz.ntmps52
  go_wp2_with fail
  generalize w.alloc (.cells #[.int .i64 x.kind, .string x.key, .int .i64 x.frm, .int .i64 x.til, .string x.data] 38) = W at *
  refine (c0 _ hb0).mono ?_
  rintro e w1 ⟨rfl, hb1⟩
  have B1 : Hid (Below w.heap.size w w1) := hb0.trans (hb1.mono hb0.size)
  clear hb0 hb1 c0
  go_wp2_with fail
  go_ret
  exact ⟨by rw [HE.out]; rfl, B1.out⟩
 obtain ⟨⟨a1, a2⟩, a3, ⟨a4, a5⟩, ⟨a6, a7⟩⟩ := opOk_in ho
 have HE : Hid (opT x = txt [byt x.kind.toNat] ++ txt (vF 6 x.key.size) ++ x.key ++ txt (vF 6 x.frm.toNat) ++ txt (vF 6 x.til.toNat) ++ x.data) := by unfold Hid opT; rw [if_pos ho]
 rw [ho] at c0
 clear ho
 obtain ⟨k, key, f, t, d⟩ := x
 simp only at *
 obtain ⟨kn, rfl⟩ : ∃ n : Nat, k = (n : Int) := ⟨k.toNat, by omega⟩
 obtain ⟨fn, rfl⟩ : ∃ n : Nat, f = (n : Int) := ⟨f.toNat, by omega⟩
 obtain ⟨tn, rfl⟩ : ∃ n : Nat, t = (n : Int) := ⟨t.toNat, by omega⟩
 simp only [Int.toNat_natCast] at HE
 have cF : ∀ wx, Calls Tryz.prog 28 #[.int .i64 (kn : Int), .int .i64 1] wx fun e w' => e = .returned (.string (txt [byt kn])) ∧ Below wx.heap.size wx w' := fun wx => by
  have h := impl_fixed kn 1 wx (by omega) (by omega) (by omega)
  rw [fixed_oneC kn (by omega)] at h
  exact h
 have cN := fun wx => impl_var key.size wx (by omega)
 have cA := fun wx => impl_var fn wx (by omega)
 have cB := fun wx => impl_var tn wx (by omega)
 have l0 : (txt [byt kn]).size = 1 := by rw [txt_size]; rfl
 have l1 : (txt (vF 6 key.size)).size ≤ 7 := by rw [txt_size]; exact vF_length 6 _
 have l2 : (txt (vF 6 fn)).size ≤ 7 := by rw [txt_size]; exact vF_length 6 fn
 have l3 : (txt (vF 6 tn)).size ≤ 7 := by rw [txt_size]; exact vF_length 6 tn
 generalize txt [byt kn] = t0 at *
 generalize txt (vF 6 key.size) = t1 at *
 generalize txt (vF 6 fn) = t2 at *
 generalize txt (vF 6 tn) = t3 at *
 have p1 : ¬ 9223372036854775807 < t0.size + t1.size := by omega
 have p2 : ¬ 9223372036854775807 < t0.size + t1.size + key.size := by omega
 have p3 : ¬ 9223372036854775807 < t0.size + t1.size + key.size + t2.size := by omega
 have p4 : ¬ 9223372036854775807 < t0.size + t1.size + key.size + t2.size + t3.size := by omega
 have p5 : ¬ 9223372036854775807 < t0.size + t1.size + key.size + t2.size + t3.size + d.size := by omega
 have hks : (key.size : Int) ≤ 9223372036854775807 := by omega
 clear a1 a2 a3 a4 a5 a6 a7 l0 l1 l2 l3 hd
 unfold vOp at *
 simp only at *
 go_enter Tryz.func52, Tryz.ntmps52
 go_wp2_with fail
 generalize w.alloc (.cells #[.int .i64 (kn : Int), .string key, .int .i64 (fn : Int), .int .i64 (tn : Int), .string d] 38) = W at *
 refine (c0 _ hb0).mono ?_
 rintro e y1 ⟨rfl, hb1⟩
 have D0 : Hid (Below w.heap.size w y1.drew) := (hb0.trans (hb1.mono hb0.size)).drew
 have K0 : Hid (Blk y1.drew w.heap.size #[.int .i64 (kn : Int), .string key, .int .i64 (fn : Int), .int .i64 (tn : Int), .string d] 38) := k0.on hb1.drew k0.lt
 clear hb0 hb1 c0 k0
 have S0 : Hid (y1.drew.cell? ⟨w.heap.size, 0, none⟩ = some (.int .i64 (kn : Int)) ∧ y1.drew.cell? ⟨w.heap.size, 1, none⟩ = some (.string key) ∧ y1.drew.cell? ⟨w.heap.size, 2, none⟩ = some (.int .i64 (fn : Int)) ∧ y1.drew.cell? ⟨w.heap.size, 3, none⟩ = some (.int .i64 (tn : Int)) ∧ y1.drew.cell? ⟨w.heap.size, 4, none⟩ = some (.string d)) := ⟨K0.out.cell 0 _ rfl, K0.out.cell 1 _ rfl, K0.out.cell 2 _ rfl, K0.out.cell 3 _ rfl, K0.out.cell 4 _ rfl⟩
 go_wp2_with fail
 refine wp_region_until (fun w' => w'.cell? ⟨w.heap.size, 0, none⟩ = some (.int .i64 (kn : Int)) ∧ w'.cell? ⟨w.heap.size, 1, none⟩ = some (.string key) ∧ w'.cell? ⟨w.heap.size, 2, none⟩ = some (.int .i64 (fn : Int)) ∧ w'.cell? ⟨w.heap.size, 3, none⟩ = some (.int .i64 (tn : Int)) ∧ w'.cell? ⟨w.heap.size, 4, none⟩ = some (.string d)) (fun i => false) 23 (by rfl) (by kernel_rfl) ?_
 generalize y1.drew = X at *
 refine tKf 0 S0.out ?_
 refine tKf 1 S0.out ?_
 refine tKf 3 S0.out ?_
 refine tKf 4 S0.out ?_
 refine pUf 5 ?_
 refine tKf 8 S0.out ?_
 refine tKf 9 S0.out ?_
 refine tKf 11 S0.out ?_
 refine tKf 12 S0.out ?_
 refine tKf 15 S0.out ?_
 refine tKf 16 S0.out ?_
 refine tKf 19 S0.out ?_
 refine tKf 20 S0.out ?_
 refine uNe 2 (fun K hK => ?_)
 go_simp
 refine (cF _).mono ?_
 rintro e Y1 ⟨rfl, hb1⟩
 have KY1 : Hid (Blk Y1 w.heap.size #[.int .i64 (kn : Int), .string key, .int .i64 (fn : Int), .int .i64 (tn : Int), .string d] 38) := K0.out.on hb1 K0.out.lt
 have DY1 : Hid (Below w.heap.size w Y1) := D0.out.trans (hb1.mono D0.out.size)
 clear hb1
 go_wp2_with fail
 refine hK.out _ _ (fun _ _ => ⟨KY1.out.cell 0 _ rfl, KY1.out.cell 1 _ rfl, KY1.out.cell 2 _ rfl, KY1.out.cell 3 _ rfl, KY1.out.cell 4 _ rfl⟩) ?_
 clear hK K
 try simp only [Act.put, zQ1, zQ2, zQ3]
 refine uNe 6 (fun K hK => ?_)
 go_simp
 refine (cN _).mono ?_
 rintro e Y2 ⟨rfl, hb2⟩
 have KY2 : Hid (Blk Y2 w.heap.size #[.int .i64 (kn : Int), .string key, .int .i64 (fn : Int), .int .i64 (tn : Int), .string d] 38) := KY1.out.on hb2 KY1.out.lt
 have DY2 : Hid (Below w.heap.size w Y2) := DY1.out.trans (hb2.mono DY1.out.size)
 clear hb2
 go_wp2_with fail
 refine hK.out _ _ (fun _ _ => ⟨KY2.out.cell 0 _ rfl, KY2.out.cell 1 _ rfl, KY2.out.cell 2 _ rfl, KY2.out.cell 3 _ rfl, KY2.out.cell 4 _ rfl⟩) ?_
 clear hK K
 try simp only [Act.put, zQ1, zQ2, zQ3]
 refine pUf 7 ?_
 refine pUf 10 ?_
 refine uNe 13 (fun K hK => ?_)
 go_simp
 refine (cA _).mono ?_
 rintro e Y3 ⟨rfl, hb3⟩
 have KY3 : Hid (Blk Y3 w.heap.size #[.int .i64 (kn : Int), .string key, .int .i64 (fn : Int), .int .i64 (tn : Int), .string d] 38) := KY2.out.on hb3 KY2.out.lt
 have DY3 : Hid (Below w.heap.size w Y3) := DY2.out.trans (hb3.mono DY2.out.size)
 clear hb3
 go_wp2_with fail
 refine hK.out _ _ (fun _ _ => ⟨KY3.out.cell 0 _ rfl, KY3.out.cell 1 _ rfl, KY3.out.cell 2 _ rfl, KY3.out.cell 3 _ rfl, KY3.out.cell 4 _ rfl⟩) ?_
 clear hK K
 try simp only [Act.put, zQ1, zQ2, zQ3]
 refine pUf 14 ?_
 refine uNe 17 (fun K hK => ?_)
 go_simp
 refine (cB _).mono ?_
 rintro e Y4 ⟨rfl, hb4⟩
 have KY4 : Hid (Blk Y4 w.heap.size #[.int .i64 (kn : Int), .string key, .int .i64 (fn : Int), .int .i64 (tn : Int), .string d] 38) := KY3.out.on hb4 KY3.out.lt
 have DY4 : Hid (Below w.heap.size w Y4) := DY3.out.trans (hb4.mono DY3.out.size)
 clear hb4
 go_wp2_with fail
 refine hK.out _ _ (fun _ _ => ⟨KY4.out.cell 0 _ rfl, KY4.out.cell 1 _ rfl, KY4.out.cell 2 _ rfl, KY4.out.cell 3 _ rfl, KY4.out.cell 4 _ rfl⟩) ?_
 clear hK K
 try simp only [Act.put, zQ1, zQ2, zQ3]
 refine pUf 18 ?_
 refine pUf 21 ?_
 refine pUf 22 ?_
 refine until_done (by kernel_rfl) ?_ _
 go_wp2_with fail
 go_ret
 exact ⟨by rw [HE.out]; rfl, DY4.out⟩
end Go.Proofs.YtifmjdakefkbiaaGreatDoor
namespace Go.Proofs.YtifmjdakefkbiaaGreatDoor
open Go.ChangeShapes Go.WideShapes Go.ChangeAt Go.RowKit Go.PlainAid
set_option linter.unusedVariables false
end Go.Proofs.YtifmjdakefkbiaaGreatDoor
namespace Go.Proofs.YtifmjdakefkbiaaGreatDoor
open Go.ChangeShapes Go.WideShapes Go.ChangeAt Go.RowKit Go.PlainAid
set_option linter.unusedVariables false
end Go.Proofs.YtifmjdakefkbiaaGreatDoor
namespace Go.Proofs.YtifmjdakefkbiaaGreatDoor
open Go.ChangeShapes Go.WideShapes Go.ChangeAt Go.RowKit Go.PlainAid
set_option linter.unusedVariables false
set_option maxHeartbeats 2000000 in
theorem implShowAnswer (x : Ans) (w : World) (hd : x.data.size ≤ maxLen) : Calls Tryz.prog 20 #[vAns x] w fun e w' => e = .returned (.string (ansT x)) ∧ Below w.heap.size w w' := by
 have c0 := fun wx => implAnswerOk x wx hd
 have hb0 := below_a1 w (.cells #[.int .i64 x.code, .int .i64 x.index, .int .i64 x.mark, .string x.data] 46)
 have k0 := Cell4.new w x 46
 cases ho : ansOk x
 ·have HT : Hid (ansT x = ⟨#[]⟩) := by unfold Hid ansT; rw [ho]; rfl
  rw [ho] at c0
  unfold vAns at *
  clear ho hd k0
  go_enter Tryz.func20, Tryz.ntmps20
  go_wp2_with fail
  generalize w.alloc (.cells #[.int .i64 x.code, .int .i64 x.index, .int .i64 x.mark, .string x.data] 46) = W at *
  refine (c0 _).mono ?_
  rintro e w1 ⟨rfl, hb1⟩
  have B1 : Hid (Below w.heap.size w w1) := hb0.trans (hb1.mono hb0.size)
  clear hb0 hb1 c0
  go_wp2_with fail
  go_ret
  exact ⟨by rw [HT.out]; rfl, B1.out⟩
 obtain ⟨⟨a1, a2⟩, ⟨a3, a4⟩, ⟨a5, a6⟩, a7⟩ := ansOk_in ho
 have HT : Hid (ansT x = txt (vF 6 x.code.toNat) ++ txt (vF 6 x.index.toNat) ++ txt (vF 6 x.mark.toNat) ++ x.data) := by unfold Hid ansT; rw [if_pos ho]
 rw [ho] at c0
 clear ho hd
 obtain ⟨c, i, m, d⟩ := x
 simp only at *
 obtain ⟨cn, rfl⟩ : ∃ cn : Nat, c = (cn : Int) := ⟨c.toNat, by omega⟩
 obtain ⟨jn, rfl⟩ : ∃ cn : Nat, i = (cn : Int) := ⟨i.toNat, by omega⟩
 obtain ⟨mn, rfl⟩ : ∃ cn : Nat, m = (cn : Int) := ⟨m.toNat, by omega⟩
 simp only [Int.toNat_natCast] at HT
 have c1 := fun wx => impl_var cn wx (by omega)
 have c2 := fun wx => impl_var jn wx (by omega)
 have c3 := fun wx => impl_var mn wx (by omega)
 have l1 : (txt (vF 6 cn)).size ≤ 7 := by rw [txt_size]; exact vF_length 6 cn
 have l2 : (txt (vF 6 jn)).size ≤ 7 := by rw [txt_size]; exact vF_length 6 jn
 have l3 : (txt (vF 6 mn)).size ≤ 7 := by rw [txt_size]; exact vF_length 6 mn
 generalize txt (vF 6 cn) = t1 at *
 generalize txt (vF 6 jn) = t2 at *
 generalize txt (vF 6 mn) = t3 at *
 have p1 : ¬ 9223372036854775807 < t1.size + t2.size := by omega
 have p2 : ¬ 9223372036854775807 < t1.size + t2.size + t3.size := by omega
 have p3 : ¬ 9223372036854775807 < t1.size + t2.size + t3.size + d.size := by omega
 clear a1 a2 a3 a4 a5 a6 a7 l1 l2 l3
 unfold vAns at *
 simp only at *
 go_enter Tryz.func20, Tryz.ntmps20
 go_wp2_with fail
 generalize w.alloc (.cells #[.int .i64 (cn : Int), .int .i64 (jn : Int), .int .i64 (mn : Int), .string d] 46) = W at *
 refine (c0 _).mono ?_
 rintro e y1 ⟨rfl, hb1⟩
 have B1 : Hid (Below w.heap.size w y1) := hb0.trans (hb1.mono hb0.size)
 have Q1 := Hid.mk (k0.on hb1 k0.2.2.2.2 (Nat.le_refl _))
 clear hb0 hb1 c0 k0
 go_wp2_with fail
 have SS : Hid (y1.drew.cell? ⟨w.heap.size, 0, none⟩ = some (.int .i64 (cn : Int)) ∧ y1.drew.cell? ⟨w.heap.size, 1, none⟩ = some (.int .i64 (jn : Int)) ∧ y1.drew.cell? ⟨w.heap.size, 2, none⟩ = some (.int .i64 (mn : Int)) ∧ y1.drew.cell? ⟨w.heap.size, 3, none⟩ = some (.string d)) := ⟨Q1.out.1, Q1.out.2.1, Q1.out.2.2.1, Q1.out.2.2.2.1⟩
 have B1' : Hid (Below w.heap.size w y1.drew) := B1.out.drew
 have Q1' : Hid (Cell4 y1.drew w.heap.size ⟨(cn : Int), (jn : Int), (mn : Int), d⟩) := Q1.out
 refine wp_region_until (fun w' => w'.cell? ⟨w.heap.size, 0, none⟩ = some (.int .i64 (cn : Int)) ∧ w'.cell? ⟨w.heap.size, 1, none⟩ = some (.int .i64 (jn : Int)) ∧ w'.cell? ⟨w.heap.size, 2, none⟩ = some (.int .i64 (mn : Int)) ∧ w'.cell? ⟨w.heap.size, 3, none⟩ = some (.string d)) (fun i => false) 15 (by rfl) (by kernel_rfl) ?_
 clear Q1 B1
 generalize y1.drew = y0 at *
 have B1 := B1'
 have Q1 := Q1'
 clear B1' Q1'
 refine tKf 0 SS.out ?_
 refine tKf 1 SS.out ?_
 refine tKf 3 SS.out ?_
 refine tKf 4 SS.out ?_
 refine tKf 7 SS.out ?_
 refine tKf 8 SS.out ?_
 refine tKf 11 SS.out ?_
 refine tKf 12 SS.out ?_
 refine uNe 2 (fun K hK => ?_)
 go_simp
 refine (c1 _).mono ?_
 rintro e y2 ⟨rfl, hb⟩
 have B2 : Hid (Below w.heap.size w y2) := B1.out.trans (hb.mono B1.out.size)
 have Q2 := Hid.mk (Q1.out.on hb Q1.out.2.2.2.2 (Nat.le_refl _))
 clear hb SS Q1 B1
 have SS : Hid (y2.cell? ⟨w.heap.size, 0, none⟩ = some (.int .i64 (cn : Int)) ∧ y2.cell? ⟨w.heap.size, 1, none⟩ = some (.int .i64 (jn : Int)) ∧ y2.cell? ⟨w.heap.size, 2, none⟩ = some (.int .i64 (mn : Int)) ∧ y2.cell? ⟨w.heap.size, 3, none⟩ = some (.string d)) := ⟨Q2.out.1, Q2.out.2.1, Q2.out.2.2.1, Q2.out.2.2.2.1⟩
 go_wp2_with fail
 refine hK.out _ _ (fun _ _ => SS.out) ?_
 clear hK K
 try simp only [Act.put, zQ1, zQ2, zQ3]
 refine uNe 5 (fun K hK => ?_)
 go_simp
 refine (c2 _).mono ?_
 rintro e y3 ⟨rfl, hb⟩
 have B3 : Hid (Below w.heap.size w y3) := B2.out.trans (hb.mono B2.out.size)
 have Q3 := Hid.mk (Q2.out.on hb Q2.out.2.2.2.2 (Nat.le_refl _))
 clear hb SS Q2 B2
 have SS : Hid (y3.cell? ⟨w.heap.size, 0, none⟩ = some (.int .i64 (cn : Int)) ∧ y3.cell? ⟨w.heap.size, 1, none⟩ = some (.int .i64 (jn : Int)) ∧ y3.cell? ⟨w.heap.size, 2, none⟩ = some (.int .i64 (mn : Int)) ∧ y3.cell? ⟨w.heap.size, 3, none⟩ = some (.string d)) := ⟨Q3.out.1, Q3.out.2.1, Q3.out.2.2.1, Q3.out.2.2.2.1⟩
 go_wp2_with fail
 refine hK.out _ _ (fun _ _ => SS.out) ?_
 clear hK K
 try simp only [Act.put, zQ1, zQ2, zQ3]
 refine pUf 6 ?_
 refine uNe 9 (fun K hK => ?_)
 go_simp
 refine (c3 _).mono ?_
 rintro e y4 ⟨rfl, hb⟩
 have B4 : Hid (Below w.heap.size w y4) := B3.out.trans (hb.mono B3.out.size)
 have Q4 := Hid.mk (Q3.out.on hb Q3.out.2.2.2.2 (Nat.le_refl _))
 clear hb SS Q3 B3
 have SS : Hid (y4.cell? ⟨w.heap.size, 0, none⟩ = some (.int .i64 (cn : Int)) ∧ y4.cell? ⟨w.heap.size, 1, none⟩ = some (.int .i64 (jn : Int)) ∧ y4.cell? ⟨w.heap.size, 2, none⟩ = some (.int .i64 (mn : Int)) ∧ y4.cell? ⟨w.heap.size, 3, none⟩ = some (.string d)) := ⟨Q4.out.1, Q4.out.2.1, Q4.out.2.2.1, Q4.out.2.2.2.1⟩
 go_wp2_with fail
 refine hK.out _ _ (fun _ _ => SS.out) ?_
 clear hK K
 try simp only [Act.put, zQ1, zQ2, zQ3]
 refine pUf 10 ?_
 refine pUf 13 ?_
 refine pUf 14 ?_
 refine until_done (by kernel_rfl) ?_ _
 go_wp2_with fail
 go_ret
 exact ⟨by rw [HT.out]; rfl, B4.out⟩
end Go.Proofs.YtifmjdakefkbiaaGreatDoor
