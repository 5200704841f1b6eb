/- MgRd TxMath MgShI MgReA WkTo MgTk MgCp -/
import Derived.Test.YtifmjdakefkbiaaGreatDoorRows
import Derived.Test.YtifmjdakefkbiaaGreatDoorQv12
import Derived.Test.YtifmjdakefkbiaaGreatDoorQv5
import Derived.Test.YtifmjdakefkbiaaGreatDoorQv8
import Derived.Test.YtifmjdakefkbiaaGreatDoorQv9
import Derived.Test.YtifmjdakefkbiaaGreatDoorQv0
import Derived.Laws.StructEq
import Derived.Laws.DeepStrings4
import Derived.Deep.Cut
import Derived.Deep.CutRange
import Derived.Handy
import Derived.Test.YtifmjdakefkbiaaGreatDoorQt0
import Derived.Test.YtifmjdakefkbiaaGreatDoorQt1
import Derived.Test.YtifmjdakefkbiaaGreatDoorQt2
import Derived.Test.YtifmjdakefkbiaaGreatDoorQt3
import Derived.Test.YtifmjdakefkbiaaGreatDoorQt4
import Derived.Test.YtifmjdakefkbiaaGreatDoorQt5
import Derived.Test.YtifmjdakefkbiaaGreatDoorQt6
import Derived.Test.YtifmjdakefkbiaaGreatDoorQt7
import Derived.Test.YtifmjdakefkbiaaGreatDoorQt8
import Derived.Test.YtifmjdakefkbiaaGreatDoorQt9
import Derived.Test.YtifmjdakefkbiaaGreatDoorQt10
import Derived.Test.YtifmjdakefkbiaaGreatDoorQt11
import Derived.Test.YtifmjdakefkbiaaGreatDoorQt12
import Derived.Test.YtifmjdakefkbiaaGreatDoorQt13
open List (setIfInBounds_toArray set_cons_zero set_cons_succ)
namespace Go.Proofs.YtifmjdakefkbiaaGreatDoor
open Go.ChangeShapes Go.WideShapes Go.ChangeAt Go.RowKit Go.PlainAid
set_option linter.unusedVariables false
end Go.Proofs.YtifmjdakefkbiaaGreatDoor
namespace Go.Proofs.YtifmjdakefkbiaaGreatDoor
open Go.RowKit Go.PlainAid
set_option linter.unusedVariables false
theorem bn_first (n : Nat) (h : n < 256) (r : ByteArray) : bn (txt [byt n] ++ r) 0 = n := by
 rw [txt_put, List.cons_append, List.nil_append]
 have := bn_txt (byt n :: r.data.toList) 0 (by simp)
 rw [this, List.getElem_cons_zero, byt_toNat]
 omega
theorem ansT_rd {x : Ans} (h : ansOk x = true) : AnsRd (ansT x) x := by
 have hi := ansOk_in h
 obtain ⟨c, i, m, d⟩ := x
 simp only at hi
 have e : ansT ⟨c, i, m, d⟩ = ByteArray.empty ++ (varsT [c, i, m] ++ d) := by
  unfold ansT
  rw [if_pos h]
  simp only [varsT, ByteArray.append_empty, ByteArray.empty_append, ByteArray.append_assoc]
 have hr := RdF.all [c, i, m] (by intro z hz; simp at hz; rcases hz with rfl | rfl | rfl <;> omega) ByteArray.empty d
 rw [← e] at hr
 refine ⟨c, i, m, _, hr, ?_, h⟩
 congr 1
 rw [e, ← ByteArray.append_assoc, ← ByteArray.size_append, lf_cat]
theorem opT_rd {x : Opx} (h : opOk x = true) : OpRd (opT x) x := by
 have hi := opOk_in h
 obtain ⟨kd, ky, f, t, d⟩ := x
 simp only at hi
 have e : opT ⟨kd, ky, f, t, d⟩ = txt [byt kd.toNat] ++ (varsT [(ky.size : Int)] ++ (ky ++ (varsT [f, t] ++ d))) := by
  unfold opT
  rw [if_pos h]
  simp only [varsT, ByteArray.append_empty, ByteArray.append_assoc, Int.toNat_natCast]
 have h1 := RdF.all [(ky.size : Int)] (by intro z hz; simp at hz; omega) (txt [byt kd.toNat]) (ky ++ (varsT [f, t] ++ d))
 rw [← e] at h1
 have s1 : (txt [byt kd.toNat]).size = 1 := by rw [txt_size]; rfl
 have e2 : opT ⟨kd, ky, f, t, d⟩ = (txt [byt kd.toNat] ++ varsT [(ky.size : Int)]) ++ (ky ++ (varsT [f, t] ++ d)) := by rw [e]; simp only [ByteArray.append_assoc]
 have e3 : opT ⟨kd, ky, f, t, d⟩ = (txt [byt kd.toNat] ++ varsT [(ky.size : Int)] ++ ky) ++ (varsT [f, t] ++ d) := by rw [e]; simp only [ByteArray.append_assoc]
 have h2 := RdF.all [f, t] (by intro z hz; simp at hz; rcases hz with rfl | rfl <;> omega) (txt [byt kd.toNat] ++ varsT [(ky.size : Int)] ++ ky) d
 rw [← e3] at h2
 have e4 : opT ⟨kd, ky, f, t, d⟩ = (txt [byt kd.toNat] ++ varsT [(ky.size : Int)] ++ ky ++ varsT [f, t]) ++ d := by rw [e]; simp only [ByteArray.append_assoc]
 have hsz : (txt [byt kd.toNat] ++ varsT [(ky.size : Int)] ++ ky).size = (txt [byt kd.toNat]).size + (varsT [(ky.size : Int)]).size + ky.size := by simp only [ByteArray.size_append]
 refine ⟨ky.size, (txt [byt kd.toNat]).size + (varsT [(ky.size : Int)]).size, f, t, (txt [byt kd.toNat]).size + (varsT [(ky.size : Int)]).size + ky.size + (varsT [f, t]).size, ?_, ?_, ?_, ?_, ?_, h⟩
 ·rw [e, ByteArray.size_append, s1]; omega
 ·rw [← s1]; exact h1
 ·rw [e]; simp only [ByteArray.size_append]; omega
 ·rw [← hsz]; exact h2
 ·have b0 : bn (opT ⟨kd, ky, f, t, d⟩) 0 = kd.toNat := by rw [e]; exact bn_first _ (by omega) _
  have b1 : (opT ⟨kd, ky, f, t, d⟩).extract ((txt [byt kd.toNat]).size + (varsT [(ky.size : Int)]).size) ((txt [byt kd.toNat]).size + (varsT [(ky.size : Int)]).size + ky.size) = ky := by
   rw [e2, ← ByteArray.size_append]
   exact ex_mid _ _ _
  have b2 : lf (opT ⟨kd, ky, f, t, d⟩) ((txt [byt kd.toNat]).size + (varsT [(ky.size : Int)]).size + ky.size + (varsT [f, t]).size) = d := by
   rw [← ByteArray.size_append, ← ByteArray.size_append, ← ByteArray.size_append, e4, lf_cat]
  rw [b0, b1, b2, show ((kd.toNat : Nat) : Int) = kd by omega]
theorem cmdT_rd {x : Cmx} (h : (trnOk x && opOk x.op) = true) : CmdRd (cmdT x) x := by
 have ht : trnOk x = true := (Bool.and_eq_true _ _ ▸ h).1
 have ho : opOk x.op = true := (Bool.and_eq_true _ _ ▸ h).2
 have hi := trnOk_in ht
 have e : cmdT x = ByteArray.empty ++ (varsT [x.client, x.serial] ++ opT x.op) := by
  unfold cmdT
  rw [if_pos h]
  simp only [varsT, ByteArray.append_empty, ByteArray.empty_append, ByteArray.append_assoc]
 have hr := RdF.all [x.client, x.serial] (by intro z hz; simp at hz; rcases hz with rfl | rfl <;> omega) ByteArray.empty (opT x.op)
 rw [← e] at hr
 refine ⟨x.client, x.serial, _, hr, ?_, rfl, rfl, ht⟩
 rw [e, ← ByteArray.append_assoc, ← ByteArray.size_append, lf_cat]
 exact opT_rd ho
end Go.Proofs.YtifmjdakefkbiaaGreatDoor
namespace Go.Proofs.YtifmjdakefkbiaaGreatDoor
open Go.ChangeShapes Go.WideShapes Go.ChangeAt Go.RowKit Go.PlainAid
set_option linter.unusedVariables false
end Go.Proofs.YtifmjdakefkbiaaGreatDoor
namespace Go.Proofs.YtifmjdakefkbiaaGreatDoor
open Go.ChangeShapes Go.WideShapes Go.ChangeAt Go.RowKit Go.PlainAid
set_option linter.unusedVariables false
end Go.Proofs.YtifmjdakefkbiaaGreatDoor
namespace Go.Proofs.YtifmjdakefkbiaaGreatDoor
open Go.ChangeShapes Go.WideShapes Go.ChangeAt Go.RowKit Go.PlainAid
set_option linter.unusedVariables false
end Go.Proofs.YtifmjdakefkbiaaGreatDoor
namespace Go.Proofs.YtifmjdakefkbiaaGreatDoor
open Go.ChangeShapes Go.WideShapes Go.ChangeAt Go.RowKit Go.PlainAid
set_option linter.unusedVariables false
end Go.Proofs.YtifmjdakefkbiaaGreatDoor
namespace Go.Proofs.YtifmjdakefkbiaaGreatDoor
open Go.ChangeShapes Go.WideShapes Go.ChangeAt Go.RowKit Go.PlainAid
set_option linter.unusedVariables false
end Go.Proofs.YtifmjdakefkbiaaGreatDoor
