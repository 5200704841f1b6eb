/- ImApply -/
import Derived.Test.YtepffbgelaajnaaGreatDoorRows
import Derived.Test.YtepffbgelaajnaaGreatDoorQn1
import Derived.Test.YtepffbgelaajnaaGreatDoorQn4
import Derived.Test.YtepffbgelaajnaaGreatDoorQn5
namespace Go.Proofs.YtepffbgelaajnaaGreatDoor
open Go.ChangeShapes Go.WideShapes Go.ChangeAt Go.RowKit Go.PlainAid
set_option linter.unusedVariables false
def NamesOk (l : List Lnk) : Prop := ∀ x ∈ l, nameOk x.name = true
theorem linkAt_name {l : List Lnk} {s : ByteArray} {i : Nat} (h : linkAt l s = some i) : (l.getD i default).name = s ∧ l.getD i default ∈ l := by
 unfold linkAt at h
 rw [List.findIdx?_eq_some_iff_getElem] at h
 obtain ⟨hi, hp, _⟩ := h
 rw [← getD_at l i hi]
 exact ⟨of_decide_eq_true hp, List.getElem_mem hi⟩
theorem NamesOk.at {l : List Lnk} (h : NamesOk l) {s : ByteArray} {i : Nat} (hi : linkAt l s = some i) : nameOk s = true := by
 obtain ⟨e, hm⟩ := linkAt_name hi
 rw [← e]
 exact h _ hm
theorem ins_mem {x y : Lnk} : ∀ {l : List Lnk}, y ∈ ins x l → y = x ∨ y ∈ l
 | [], h => by
  rw [ins, List.mem_singleton] at h
  exact .inl h
 | z :: r, h => by
  unfold ins at h
  split at h
  ·rcases List.mem_cons.1 h with h | h
   ·exact .inl h
   ·exact .inr h
  ·rcases List.mem_cons.1 h with h | h
   ·exact .inr (h ▸ List.mem_cons_self)
   ·rcases ins_mem h with h | h
    ·exact .inl h
    ·exact .inr (List.mem_cons_of_mem _ h)
theorem NamesOk.without {l : List Lnk} (h : NamesOk l) (s : ByteArray) : NamesOk (without l s) := fun x hx => h x (List.mem_filter.1 hx).1
theorem NamesOk.withL {l : List Lnk} (h : NamesOk l) (x : Lnk) (hx : nameOk x.name = true) : NamesOk (withL l x) := fun y hy => by
 rcases ins_mem hy with rfl | hy
 ·exact hx
 ·exact h.without x.name y hy
theorem apply_make {l : List Lnk} {n t : ByteArray} {i : Int} (hn : nameOk n = true) (ht : t.size = 0) (hat : linkAt l n = none) : apply l ⟨1, n, t, i⟩ = some (withL l ⟨n, i⟩) := by
 unfold apply
 rw [if_neg (by simp [hn]), if_pos ⟨rfl, ht, hat⟩]
theorem apply_bad {l : List Lnk} {m : Mov} (hn : nameOk m.name = false) : apply l m = none := by
 unfold apply
 rw [if_pos hn]
theorem apply_none {l : List Lnk} {m : Mov} (hat : linkAt l m.name = none) (h : ¬ (m.kind = 1 ∧ m.to.size = 0)) : apply l m = none := by
 unfold apply
 by_cases hn : nameOk m.name = false
 ·rw [if_pos hn]
 ·rw [if_neg hn, if_neg (fun k => h ⟨k.1, k.2.1⟩), hat]
theorem apply_some {l : List Lnk} {m : Mov} {j : Nat} (hat : linkAt l m.name = some j) (h2 : ¬ (m.kind = 2 ∧ m.id = 0 ∧ nameOk m.to = true ∧ m.to ≠ m.name)) (h3 : ¬ (m.kind = 3 ∧ m.id = 0 ∧ m.to.size = 0)) : apply l m = none := by
 unfold apply
 by_cases hn : nameOk m.name = false
 ·rw [if_pos hn]
 ·rw [if_neg hn, if_neg (fun k => by rw [hat] at k; exact absurd k.2.2 (by simp)), hat]
  simp only
  rw [if_neg h2, if_neg h3]
theorem apply_name {l : List Lnk} {n t : ByteArray} {j : Nat} (hn : nameOk n = true) (hat : linkAt l n = some j) (ht : nameOk t = true) (hne : t ≠ n) : apply l ⟨2, n, t, 0⟩ = some (withL (without l n) ⟨t, (l.getD j default).id⟩) := by
 unfold apply
 rw [if_neg (by simp [hn]), if_neg (fun k => absurd k.1 (by simp)), hat]
 simp [ht, hne]
theorem apply_drop {l : List Lnk} {n t : ByteArray} {j : Nat} (hn : nameOk n = true) (hat : linkAt l n = some j) (ht : t.size = 0) : apply l ⟨3, n, t, 0⟩ = some (without l n) := by
 unfold apply
 rw [if_neg (by simp [hn]), if_neg (fun k => absurd k.1 (by simp)), hat]
 simp [ht]
theorem NamesOk.apply {l : List Lnk} (h : NamesOk l) {m : Mov} {r : List Lnk} (he : apply l m = some r) : NamesOk r := by
 by_cases hn : nameOk m.name = false
 ·rw [apply_bad hn] at he; cases he
 ·have hn' : nameOk m.name = true := by simpa using hn
  rcases hat : linkAt l m.name with _ | j
  ·by_cases h1 : m.kind = 1 ∧ m.to.size = 0
   ·obtain ⟨k, n, t, i⟩ := m
    simp only at h1 hn' hat
    obtain ⟨rfl, h1⟩ := h1
    rw [apply_make hn' h1 hat] at he
    cases he
    exact h.withL _ hn'
   ·rw [apply_none hat h1] at he; cases he
  ·by_cases h2 : m.kind = 2 ∧ m.id = 0 ∧ nameOk m.to = true ∧ m.to ≠ m.name
   ·obtain ⟨k, n, t, i⟩ := m
    simp only at h2 hn' hat
    obtain ⟨rfl, rfl, h2, h3⟩ := h2
    rw [apply_name hn' hat h2 h3] at he
    cases he
    exact (h.without _).withL _ h2
   ·by_cases h3 : m.kind = 3 ∧ m.id = 0 ∧ m.to.size = 0
    ·obtain ⟨k, n, t, i⟩ := m
     simp only at h3 hn' hat
     obtain ⟨rfl, rfl, h3⟩ := h3
     rw [apply_drop hn' hat h3] at he
     cases he
     exact h.without _
    ·rw [apply_some hat h2 h3] at he; cases he
set_option maxRecDepth 20000 in
set_option maxHeartbeats 1000000 in
theorem iap_1a (l : List Lnk) (b : Nat) (mn mt : ByteArray) (mi : Int) (w : World) (h : NT w b l) (hl : l.length ≤ 1000) (hs : mn.size ≤ maxLen) (ht : mt.size ≤ maxLen) (j : Nat) (hat : linkAt l mn = some j) :
  Calls Tryz.prog 102 #[.map (some b), .agg #[.int .i64 1, .string mn, .string mt, .int .i64 mi]] w fun e w' => e = .returned (.bool false) ∧ NT w' b l ∧ But (fun i => i = b) w w' := by
 have HH : Hid (NT w b l) := h
 have hW : NT (w.alloc (.cells #[.int .i64 1, .string mn, .string mt, .int .i64 mi] 106)) b l := h.on ((Below.refl _ w).alloc (Nat.le_refl _) _) h.lt
 have B0 : Hid (But (fun i => i = b) w (w.alloc (.cells #[.int .i64 1, .string mn, .string mt, .int .i64 mi] 106))) := (But.refl _ w).alloc _
 have r1 := (hW.look mn hs).2 j hat
 have HW : Hid (NT (w.alloc (.cells #[.int .i64 1, .string mn, .string mt, .int .i64 mi] 106)) b l) := hW
 clear h hW
 clear hs ht hl hat
 go_enter Tryz.func102, Tryz.ntmps102
 go_wp2_with fail
 go_ret
 exact ⟨rfl, HW.out, B0.out⟩
set_option maxRecDepth 20000 in
set_option maxHeartbeats 1000000 in
theorem iap_1b (l : List Lnk) (b : Nat) (mn mt : ByteArray) (mi : Int) (w : World) (h : NT w b l) (hl : l.length ≤ 1000) (hs : mn.size ≤ maxLen) (ht : mt.size ≤ maxLen) (hat : linkAt l mn = none) (hno : nameOk mn = false) :
  Calls Tryz.prog 102 #[.map (some b), .agg #[.int .i64 1, .string mn, .string mt, .int .i64 mi]] w fun e w' => e = .returned (.bool false) ∧ NT w' b l ∧ But (fun i => i = b) w w' := by
 have HH : Hid (NT w b l) := h
 have hW : NT (w.alloc (.cells #[.int .i64 1, .string mn, .string mt, .int .i64 mi] 106)) b l := h.on ((Below.refl _ w).alloc (Nat.le_refl _) _) h.lt
 have B0 : Hid (But (fun i => i = b) w (w.alloc (.cells #[.int .i64 1, .string mn, .string mt, .int .i64 mi] 106))) := (But.refl _ w).alloc _
 have r1 := (hW.look mn hs).1 hat
 have c1 := fun wx => isNameV mn wx (by unfold maxLen at hs; omega)
 rw [hno] at c1
 have HW : Hid (NT (w.alloc (.cells #[.int .i64 1, .string mn, .string mt, .int .i64 mi] 106)) b l) := hW
 clear h hW
 clear hs ht hl hat hno
 go_enter Tryz.func102, Tryz.ntmps102
 go_wp2_with fail
 refine (c1 _).mono ?_
 rintro e w1 ⟨rfl, rfl⟩
 go_wp2_with fail
 go_ret
 exact ⟨rfl, HW.out, B0.out⟩
set_option maxRecDepth 20000 in
set_option maxHeartbeats 1000000 in
theorem iap_1c (l : List Lnk) (b : Nat) (mn mt : ByteArray) (mi : Int) (w : World) (h : NT w b l) (hl : l.length ≤ 1000) (hs : mn.size ≤ maxLen) (ht : mt.size ≤ maxLen) (hat : linkAt l mn = none) (hno : nameOk mn = true) (hto : ¬ mt.size = 0) :
  Calls Tryz.prog 102 #[.map (some b), .agg #[.int .i64 1, .string mn, .string mt, .int .i64 mi]] w fun e w' => e = .returned (.bool false) ∧ NT w' b l ∧ But (fun i => i = b) w w' := by
 have HH : Hid (NT w b l) := h
 have hW : NT (w.alloc (.cells #[.int .i64 1, .string mn, .string mt, .int .i64 mi] 106)) b l := h.on ((Below.refl _ w).alloc (Nat.le_refl _) _) h.lt
 have B0 : Hid (But (fun i => i = b) w (w.alloc (.cells #[.int .i64 1, .string mn, .string mt, .int .i64 mi] 106))) := (But.refl _ w).alloc _
 have r1 := (hW.look mn hs).1 hat
 have c1 := fun wx => isNameV mn wx (by unfold maxLen at hs; omega)
 rw [hno] at c1
 have t1 := isEmpty_no mt hto
 have t2 : ¬ mt.toList = [] := fun h => by rw [h] at t1; cases t1
 have HW : Hid (NT (w.alloc (.cells #[.int .i64 1, .string mn, .string mt, .int .i64 mi] 106)) b l) := hW
 clear h hW
 clear hs ht hl hat hno hto
 go_enter Tryz.func102, Tryz.ntmps102
 go_wp2_with fail
 refine (c1 _).mono ?_
 rintro e w1 ⟨rfl, rfl⟩
 go_wp2_with fail
 go_ret
 exact ⟨rfl, HW.out, B0.out⟩
set_option maxRecDepth 20000 in
set_option maxHeartbeats 1000000 in
theorem iap_1d (l : List Lnk) (b : Nat) (mn : ByteArray) (mi : Int) (w : World) (h : NT w b l) (hl : l.length ≤ 1000) (hs : mn.size ≤ maxLen) (hat : linkAt l mn = none) (hno : nameOk mn = true) :
  Calls Tryz.prog 102 #[.map (some b), .agg #[.int .i64 1, .string mn, .string ⟨#[]⟩, .int .i64 mi]] w fun e w' => e = .returned (.bool true) ∧ NT w' b (withL l ⟨mn, mi⟩) ∧ But (fun i => i = b) w w' := by
 have HH : Hid (NT w b l) := h
 have hW : NT (w.alloc (.cells #[.int .i64 1, .string mn, .string ⟨#[]⟩, .int .i64 mi] 106)) b l := h.on ((Below.refl _ w).alloc (Nat.le_refl _) _) h.lt
 have B0 : Hid (But (fun i => i = b) w (w.alloc (.cells #[.int .i64 1, .string mn, .string ⟨#[]⟩, .int .i64 mi] 106))) := (But.refl _ w).alloc _
 have r1 := (hW.look mn hs).1 hat
 have c1 := fun wx => isNameV mn wx (by unfold maxLen at hs; omega)
 rw [hno] at c1
 obtain ⟨w2, r2, hN, hB, _⟩ := hW.put mn mi hs (by unfold maxLen; omega)
 have B1 : Hid (But (fun i => i = b) w w2) := B0.out.trans hB (fun _ _ k => k)
 have N1 : Hid (NT w2 b (withL l ⟨mn, mi⟩)) := hN
 clear h hW hB hN hs hl hat hno
 go_enter Tryz.func102, Tryz.ntmps102
 go_wp2_with fail
 refine (c1 _).mono ?_
 rintro e w1 ⟨rfl, rfl⟩
 go_wp2_with fail
 go_ret
 exact ⟨rfl, N1.out, B1.out⟩
set_option maxRecDepth 20000 in
set_option maxHeartbeats 1000000 in
theorem iap_2a (l : List Lnk) (b : Nat) (mn mt : ByteArray) (mi : Int) (w : World) (h : NT w b l) (hl : l.length ≤ 1000) (hs : mn.size ≤ maxLen) (ht : mt.size ≤ maxLen) (hat : linkAt l mn = none) :
  Calls Tryz.prog 102 #[.map (some b), .agg #[.int .i64 2, .string mn, .string mt, .int .i64 mi]] w fun e w' => e = .returned (.bool false) ∧ NT w' b l ∧ But (fun i => i = b) w w' := by
 have HH : Hid (NT w b l) := h
 have hW : NT (w.alloc (.cells #[.int .i64 2, .string mn, .string mt, .int .i64 mi] 106)) b l := h.on ((Below.refl _ w).alloc (Nat.le_refl _) _) h.lt
 have B0 : Hid (But (fun i => i = b) w (w.alloc (.cells #[.int .i64 2, .string mn, .string mt, .int .i64 mi] 106))) := (But.refl _ w).alloc _
 have r1 := (hW.look mn hs).1 hat
 have HW : Hid (NT (w.alloc (.cells #[.int .i64 2, .string mn, .string mt, .int .i64 mi] 106)) b l) := hW
 clear h hW
 clear hs ht hl hat
 go_enter Tryz.func102, Tryz.ntmps102
 go_wp2_with fail
 go_ret
 exact ⟨rfl, HW.out, B0.out⟩
set_option maxRecDepth 20000 in
set_option maxHeartbeats 1000000 in
theorem iap_2b (l : List Lnk) (b : Nat) (mn mt : ByteArray) (mi : Int) (w : World) (h : NT w b l) (hl : l.length ≤ 1000) (hs : mn.size ≤ maxLen) (ht : mt.size ≤ maxLen) (j : Nat) (hat : linkAt l mn = some j) (hno : nameOk mt = false) :
  Calls Tryz.prog 102 #[.map (some b), .agg #[.int .i64 2, .string mn, .string mt, .int .i64 mi]] w fun e w' => e = .returned (.bool false) ∧ NT w' b l ∧ But (fun i => i = b) w w' := by
 have HH : Hid (NT w b l) := h
 have hW : NT (w.alloc (.cells #[.int .i64 2, .string mn, .string mt, .int .i64 mi] 106)) b l := h.on ((Below.refl _ w).alloc (Nat.le_refl _) _) h.lt
 have B0 : Hid (But (fun i => i = b) w (w.alloc (.cells #[.int .i64 2, .string mn, .string mt, .int .i64 mi] 106))) := (But.refl _ w).alloc _
 have r1 := (hW.look mn hs).2 j hat
 have c1 := fun wx => isNameV mt wx (by unfold maxLen at ht; omega)
 rw [hno] at c1
 have HW : Hid (NT (w.alloc (.cells #[.int .i64 2, .string mn, .string mt, .int .i64 mi] 106)) b l) := hW
 clear h hW
 clear hs ht hl hat hno
 go_enter Tryz.func102, Tryz.ntmps102
 go_wp2_with fail
 refine (c1 _).mono ?_
 rintro e w1 ⟨rfl, rfl⟩
 go_wp2_with fail
 go_ret
 exact ⟨rfl, HW.out, B0.out⟩
set_option maxRecDepth 20000 in
set_option maxHeartbeats 1000000 in
theorem iap_2c (l : List Lnk) (b : Nat) (mn mt : ByteArray) (mi : Int) (w : World) (h : NT w b l) (hl : l.length ≤ 1000) (hs : mn.size ≤ maxLen) (ht : mt.size ≤ maxLen) (j : Nat) (hat : linkAt l mn = some j) (hno : nameOk mt = true) (heq : mt = mn) :
  Calls Tryz.prog 102 #[.map (some b), .agg #[.int .i64 2, .string mn, .string mt, .int .i64 mi]] w fun e w' => e = .returned (.bool false) ∧ NT w' b l ∧ But (fun i => i = b) w w' := by
 have HH : Hid (NT w b l) := h
 have hW : NT (w.alloc (.cells #[.int .i64 2, .string mn, .string mt, .int .i64 mi] 106)) b l := h.on ((Below.refl _ w).alloc (Nat.le_refl _) _) h.lt
 have B0 : Hid (But (fun i => i = b) w (w.alloc (.cells #[.int .i64 2, .string mn, .string mt, .int .i64 mi] 106))) := (But.refl _ w).alloc _
 have r1 := (hW.look mn hs).2 j hat
 have c1 := fun wx => isNameV mt wx (by unfold maxLen at ht; omega)
 rw [hno] at c1
 have hbq := toList_beq mt mn
 rw [decide_eq_true heq] at hbq
 have HW : Hid (NT (w.alloc (.cells #[.int .i64 2, .string mn, .string mt, .int .i64 mi] 106)) b l) := hW
 clear h hW
 clear hs ht hl hat hno heq
 go_enter Tryz.func102, Tryz.ntmps102
 go_wp2_with fail
 refine (c1 _).mono ?_
 rintro e w1 ⟨rfl, rfl⟩
 go_wp2_with fail
 go_ret
 exact ⟨rfl, HW.out, B0.out⟩
set_option maxRecDepth 20000 in
set_option maxHeartbeats 1000000 in
theorem iap_2d (l : List Lnk) (b : Nat) (mn mt : ByteArray) (mi : Int) (w : World) (h : NT w b l) (hl : l.length ≤ 1000) (hs : mn.size ≤ maxLen) (ht : mt.size ≤ maxLen) (j : Nat) (hat : linkAt l mn = some j) (hno : nameOk mt = true) (hne : ¬ mt = mn) (hi : ¬ mi = 0) :
  Calls Tryz.prog 102 #[.map (some b), .agg #[.int .i64 2, .string mn, .string mt, .int .i64 mi]] w fun e w' => e = .returned (.bool false) ∧ NT w' b l ∧ But (fun i => i = b) w w' := by
 have HH : Hid (NT w b l) := h
 have hW : NT (w.alloc (.cells #[.int .i64 2, .string mn, .string mt, .int .i64 mi] 106)) b l := h.on ((Below.refl _ w).alloc (Nat.le_refl _) _) h.lt
 have B0 : Hid (But (fun i => i = b) w (w.alloc (.cells #[.int .i64 2, .string mn, .string mt, .int .i64 mi] 106))) := (But.refl _ w).alloc _
 have r1 := (hW.look mn hs).2 j hat
 have c1 := fun wx => isNameV mt wx (by unfold maxLen at ht; omega)
 rw [hno] at c1
 have hbq := toList_beq mt mn
 rw [decide_eq_false hne] at hbq
 have z6 : (mi != 0) = true := by simp only [bne_iff_ne, ne_eq]; exact hi
 have z5 : (mi == 0) = false := by simp only [beq_eq_false_iff_ne, ne_eq]; exact hi
 have HW : Hid (NT (w.alloc (.cells #[.int .i64 2, .string mn, .string mt, .int .i64 mi] 106)) b l) := hW
 clear h hW
 clear hs ht hl hat hno hne hi
 go_enter Tryz.func102, Tryz.ntmps102
 go_wp2_with fail
 refine (c1 _).mono ?_
 rintro e w1 ⟨rfl, rfl⟩
 go_wp2_with fail
 go_ret
 exact ⟨rfl, HW.out, B0.out⟩
set_option maxRecDepth 20000 in
set_option maxHeartbeats 1000000 in
theorem iap_2e (l : List Lnk) (b : Nat) (mn mt : ByteArray) (w : World) (h : NT w b l) (hl : l.length ≤ 1000) (hs : mn.size ≤ maxLen) (ht : mt.size ≤ maxLen) (j : Nat) (hat : linkAt l mn = some j) (hno : nameOk mt = true) (hne : ¬ mt = mn) :
  Calls Tryz.prog 102 #[.map (some b), .agg #[.int .i64 2, .string mn, .string mt, .int .i64 0]] w fun e w' => e = .returned (.bool true) ∧ NT w' b (withL (without l mn) ⟨mt, (l.getD j default).id⟩) ∧ But (fun i => i = b) w w' := by
 have HH : Hid (NT w b l) := h
 have hW : NT (w.alloc (.cells #[.int .i64 2, .string mn, .string mt, .int .i64 0] 106)) b l := h.on ((Below.refl _ w).alloc (Nat.le_refl _) _) h.lt
 have B0 : Hid (But (fun i => i = b) w (w.alloc (.cells #[.int .i64 2, .string mn, .string mt, .int .i64 0] 106))) := (But.refl _ w).alloc _
 have r1 := (hW.look mn hs).2 j hat
 have c1 := fun wx => isNameV mt wx (by unfold maxLen at ht; omega)
 rw [hno] at c1
 have hbq := toList_beq mt mn
 rw [decide_eq_false hne] at hbq
 have r2 := fun ty => hW.del mn hs ty
 have hwl := without_len l mn
 have XX : Hid (∀ w3, NT w3 b (without l mn) → ∃ w4, (Instr.mapUpdate 123 (.map (some b)) (.string mt) (.int .i64 (l.getD j default).id)).run Tryz.prog w3 = .ok () w4 ∧ NT w4 b (withL (without l mn) ⟨mt, (l.getD j default).id⟩) ∧ But (fun i => i = b) w3 w4 ∧ w4.heap.size = w3.heap.size) := fun w3 h3 => h3.put mt _ ht (by unfold maxLen; omega)
 have kb := (Blk.new w #[.int .i64 2, .string mn, .string mt, .int .i64 0] 106)
 have hne2 : w.heap.size ≠ b := fun e => by have := HH.out.lt; omega
 generalize (l.getD j default).id = li at *
 clear h hs ht hl hat hno hne hwl
 obtain ⟨w3, r3, hN, hB, _⟩ := r2 0
 obtain ⟨w4, r4, hN4, hB4, _⟩ := XX.out w3 hN
 have k3 := hB.blk kb hne2
 have x2 := k3.cell 2 _ rfl
 have B1 : Hid (But (fun i => i = b) w w4) := (B0.out.trans hB (fun _ _ k => k)).trans hB4 (fun _ _ k => k)
 have N1 : Hid (NT w4 b (withL (without l mn) ⟨mt, li⟩)) := hN4
 clear r2 hB hN hB4 hN4 k3 kb hne2 XX HH hW
 go_enter Tryz.func102, Tryz.ntmps102
 go_wp2_with fail
 refine (c1 _).mono ?_
 rintro e w1 ⟨rfl, rfl⟩
 go_wp2_with fail
 go_ret
 exact ⟨rfl, N1.out, B1.out⟩
set_option maxRecDepth 20000 in
set_option maxHeartbeats 1000000 in
theorem iap_3a (l : List Lnk) (b : Nat) (mn mt : ByteArray) (mi : Int) (w : World) (h : NT w b l) (hl : l.length ≤ 1000) (hs : mn.size ≤ maxLen) (ht : mt.size ≤ maxLen) (hat : linkAt l mn = none) :
  Calls Tryz.prog 102 #[.map (some b), .agg #[.int .i64 3, .string mn, .string mt, .int .i64 mi]] w fun e w' => e = .returned (.bool false) ∧ NT w' b l ∧ But (fun i => i = b) w w' := by
 have HH : Hid (NT w b l) := h
 have hW : NT (w.alloc (.cells #[.int .i64 3, .string mn, .string mt, .int .i64 mi] 106)) b l := h.on ((Below.refl _ w).alloc (Nat.le_refl _) _) h.lt
 have B0 : Hid (But (fun i => i = b) w (w.alloc (.cells #[.int .i64 3, .string mn, .string mt, .int .i64 mi] 106))) := (But.refl _ w).alloc _
 have r1 := (hW.look mn hs).1 hat
 have HW : Hid (NT (w.alloc (.cells #[.int .i64 3, .string mn, .string mt, .int .i64 mi] 106)) b l) := hW
 clear h hW
 clear hs ht hl hat
 go_enter Tryz.func102, Tryz.ntmps102
 go_wp2_with fail
 go_ret
 exact ⟨rfl, HW.out, B0.out⟩
set_option maxRecDepth 20000 in
set_option maxHeartbeats 1000000 in
theorem iap_3b (l : List Lnk) (b : Nat) (mn mt : ByteArray) (mi : Int) (w : World) (h : NT w b l) (hl : l.length ≤ 1000) (hs : mn.size ≤ maxLen) (ht : mt.size ≤ maxLen) (j : Nat) (hat : linkAt l mn = some j) (hto : ¬ mt.size = 0) :
  Calls Tryz.prog 102 #[.map (some b), .agg #[.int .i64 3, .string mn, .string mt, .int .i64 mi]] w fun e w' => e = .returned (.bool false) ∧ NT w' b l ∧ But (fun i => i = b) w w' := by
 have HH : Hid (NT w b l) := h
 have hW : NT (w.alloc (.cells #[.int .i64 3, .string mn, .string mt, .int .i64 mi] 106)) b l := h.on ((Below.refl _ w).alloc (Nat.le_refl _) _) h.lt
 have B0 : Hid (But (fun i => i = b) w (w.alloc (.cells #[.int .i64 3, .string mn, .string mt, .int .i64 mi] 106))) := (But.refl _ w).alloc _
 have r1 := (hW.look mn hs).2 j hat
 have t1 := isEmpty_no mt hto
 have t2 : ¬ mt.toList = [] := fun h => by rw [h] at t1; cases t1
 have HW : Hid (NT (w.alloc (.cells #[.int .i64 3, .string mn, .string mt, .int .i64 mi] 106)) b l) := hW
 clear h hW
 clear hs ht hl hat hto
 go_enter Tryz.func102, Tryz.ntmps102
 go_wp2_with fail
 go_ret
 exact ⟨rfl, HW.out, B0.out⟩
set_option maxRecDepth 20000 in
set_option maxHeartbeats 1000000 in
theorem iap_3c (l : List Lnk) (b : Nat) (mn : ByteArray) (mi : Int) (w : World) (h : NT w b l) (hl : l.length ≤ 1000) (hs : mn.size ≤ maxLen) (j : Nat) (hat : linkAt l mn = some j) (hi : ¬ mi = 0) :
  Calls Tryz.prog 102 #[.map (some b), .agg #[.int .i64 3, .string mn, .string ⟨#[]⟩, .int .i64 mi]] w fun e w' => e = .returned (.bool false) ∧ NT w' b l ∧ But (fun i => i = b) w w' := by
 have HH : Hid (NT w b l) := h
 have hW : NT (w.alloc (.cells #[.int .i64 3, .string mn, .string ⟨#[]⟩, .int .i64 mi] 106)) b l := h.on ((Below.refl _ w).alloc (Nat.le_refl _) _) h.lt
 have B0 : Hid (But (fun i => i = b) w (w.alloc (.cells #[.int .i64 3, .string mn, .string ⟨#[]⟩, .int .i64 mi] 106))) := (But.refl _ w).alloc _
 have r1 := (hW.look mn hs).2 j hat
 have z6 : (mi != 0) = true := by simp only [bne_iff_ne, ne_eq]; exact hi
 have z5 : (mi == 0) = false := by simp only [beq_eq_false_iff_ne, ne_eq]; exact hi
 have HW : Hid (NT (w.alloc (.cells #[.int .i64 3, .string mn, .string ⟨#[]⟩, .int .i64 mi] 106)) b l) := hW
 clear h hW
 clear hs hl hat hi
 go_enter Tryz.func102, Tryz.ntmps102
 go_wp2_with fail
 go_ret
 exact ⟨rfl, HW.out, B0.out⟩
set_option maxRecDepth 20000 in
set_option maxHeartbeats 1000000 in
theorem iap_3d (l : List Lnk) (b : Nat) (mn : ByteArray) (w : World) (h : NT w b l) (hl : l.length ≤ 1000) (hs : mn.size ≤ maxLen) (j : Nat) (hat : linkAt l mn = some j) :
  Calls Tryz.prog 102 #[.map (some b), .agg #[.int .i64 3, .string mn, .string ⟨#[]⟩, .int .i64 0]] w fun e w' => e = .returned (.bool true) ∧ NT w' b (without l mn) ∧ But (fun i => i = b) w w' := by
 have HH : Hid (NT w b l) := h
 have hW : NT (w.alloc (.cells #[.int .i64 3, .string mn, .string ⟨#[]⟩, .int .i64 0] 106)) b l := h.on ((Below.refl _ w).alloc (Nat.le_refl _) _) h.lt
 have B0 : Hid (But (fun i => i = b) w (w.alloc (.cells #[.int .i64 3, .string mn, .string ⟨#[]⟩, .int .i64 0] 106))) := (But.refl _ w).alloc _
 have r1 := (hW.look mn hs).2 j hat
 obtain ⟨w3, r3, hN, hB, _⟩ := hW.del mn hs 0
 have B1 : Hid (But (fun i => i = b) w w3) := B0.out.trans hB (fun _ _ k => k)
 have N1 : Hid (NT w3 b (without l mn)) := hN
 clear h hW hB hN hs hl hat
 go_enter Tryz.func102, Tryz.ntmps102
 go_wp2_with fail
 go_ret
 exact ⟨rfl, N1.out, B1.out⟩
set_option maxRecDepth 20000 in
set_option maxHeartbeats 1000000 in
theorem iap_0 (l : List Lnk) (b : Nat) (mn mt : ByteArray) (mk : Int) (mi : Int) (w : World) (h : NT w b l) (hl : l.length ≤ 1000) (hs : mn.size ≤ maxLen) (ht : mt.size ≤ maxLen) (h1 : ¬ mk = 1) (h2 : ¬ mk = 2) (h3 : ¬ mk = 3) :
  Calls Tryz.prog 102 #[.map (some b), .agg #[.int .i64 mk, .string mn, .string mt, .int .i64 mi]] w fun e w' => e = .returned (.bool false) ∧ NT w' b l ∧ But (fun i => i = b) w w' := by
 have HH : Hid (NT w b l) := h
 have hW : NT (w.alloc (.cells #[.int .i64 mk, .string mn, .string mt, .int .i64 mi] 106)) b l := h.on ((Below.refl _ w).alloc (Nat.le_refl _) _) h.lt
 have B0 : Hid (But (fun i => i = b) w (w.alloc (.cells #[.int .i64 mk, .string mn, .string mt, .int .i64 mi] 106))) := (But.refl _ w).alloc _
 have r0 : ∃ c q, (Instr.lookup 123 (.map (some b)) (.string mn) true).run Tryz.prog (w.alloc (.cells #[.int .i64 mk, .string mn, .string mt, .int .i64 mi] 106)) = .ok (.tuple #[.int .i64 c, .bool q]) (w.alloc (.cells #[.int .i64 mk, .string mn, .string mt, .int .i64 mi] 106)) := by
  rcases hat : linkAt l mn with _ | j
  ·exact ⟨_, _, (hW.look mn hs).1 hat⟩
  ·exact ⟨_, _, (hW.look mn hs).2 j hat⟩
 obtain ⟨c, q, r1⟩ := r0
 have z1 : (mk == 1) = false := by simp only [beq_eq_false_iff_ne, ne_eq]; exact h1
 have z2 : (mk == 2) = false := by simp only [beq_eq_false_iff_ne, ne_eq]; exact h2
 have z3 : (mk == 3) = false := by simp only [beq_eq_false_iff_ne, ne_eq]; exact h3
 have HW : Hid (NT (w.alloc (.cells #[.int .i64 mk, .string mn, .string mt, .int .i64 mi] 106)) b l) := hW
 clear h hW
 clear hs ht hl h1 h2 h3
 go_enter Tryz.func102, Tryz.ntmps102
 go_wp2_with fail
 go_ret
 exact ⟨rfl, HW.out, B0.out⟩
theorem applyI (l : List Lnk) (b : Nat) (m : Mov) (w : World) (h : NT w b l) (hl : l.length ≤ 1000) (hok : NamesOk l) (hs : m.name.size ≤ maxLen) (ht : m.to.size ≤ maxLen) :
  Calls Tryz.prog 102 #[.map (some b), movV m] w fun e w' => e = .returned (.bool (apply l m).isSome) ∧ NT w' b ((apply l m).getD l) ∧ But (fun i => i = b) w w' := by
 obtain ⟨mk, mn, mt, mi⟩ := m
 simp only at hs ht
 unfold movV
 simp only
 by_cases h1 : mk = 1
 ·subst h1
  rcases hat : linkAt l mn with _ | j
  ·cases hno : nameOk mn with
   | false => rw [apply_bad (m := ⟨1, mn, mt, mi⟩) hno]; exact iap_1b l b mn mt mi w h hl hs ht hat hno
   | true =>
    by_cases hto : mt.size = 0
    ·rw [apply_make hno hto hat]
     obtain rfl := empty_of mt hto
     exact iap_1d l b mn mi w h hl hs hat hno
    ·rw [apply_none (m := ⟨1, mn, mt, mi⟩) hat (fun k => hto k.2)]; exact iap_1c l b mn mt mi w h hl hs ht hat hno hto
  ·rw [apply_some (m := ⟨1, mn, mt, mi⟩) hat (fun k => absurd k.1 (by simp)) (fun k => absurd k.1 (by simp))]; exact iap_1a l b mn mt mi w h hl hs ht j hat
 ·by_cases h2 : mk = 2
  ·subst h2
   rcases hat : linkAt l mn with _ | j
   ·rw [apply_none (m := ⟨2, mn, mt, mi⟩) hat (fun k => absurd k.1 (by simp))]; exact iap_2a l b mn mt mi w h hl hs ht hat
   ·have hnm := hok.at hat
    cases hno : nameOk mt with
    | false => rw [apply_some (m := ⟨2, mn, mt, mi⟩) hat (fun k => by rw [hno] at k; exact absurd k.2.2.1 (by simp)) (fun k => absurd k.1 (by simp))]; exact iap_2b l b mn mt mi w h hl hs ht j hat hno
    | true =>
     by_cases heq : mt = mn
     ·rw [apply_some (m := ⟨2, mn, mt, mi⟩) hat (fun k => k.2.2.2 heq) (fun k => absurd k.1 (by simp))]; exact iap_2c l b mn mt mi w h hl hs ht j hat hno heq
     ·by_cases hi : mi = 0
      ·subst hi
       rw [apply_name hnm hat hno heq]
       exact iap_2e l b mn mt w h hl hs ht j hat hno heq
      ·rw [apply_some (m := ⟨2, mn, mt, mi⟩) hat (fun k => hi k.2.1) (fun k => absurd k.1 (by simp))]; exact iap_2d l b mn mt mi w h hl hs ht j hat hno heq hi
  ·by_cases h3 : mk = 3
   ·subst h3
    rcases hat : linkAt l mn with _ | j
    ·rw [apply_none (m := ⟨3, mn, mt, mi⟩) hat (fun k => absurd k.1 (by simp))]; exact iap_3a l b mn mt mi w h hl hs ht hat
    ·have hnm := hok.at hat
     by_cases hto : mt.size = 0
     ·by_cases hi : mi = 0
      ·subst hi
       rw [apply_drop hnm hat hto]
       obtain rfl := empty_of mt hto
       exact iap_3d l b mn w h hl hs j hat
      ·rw [apply_some (m := ⟨3, mn, mt, mi⟩) hat (fun k => absurd k.1 (by simp)) (fun k => hi k.2.1)]
       obtain rfl := empty_of mt hto
       exact iap_3c l b mn mi w h hl hs j hat hi
     ·rw [apply_some (m := ⟨3, mn, mt, mi⟩) hat (fun k => absurd k.1 (by simp)) (fun k => hto k.2.2)]; exact iap_3b l b mn mt mi w h hl hs ht j hat hto
   ·rcases hat : linkAt l mn with _ | j
    ·rw [apply_none (m := ⟨mk, mn, mt, mi⟩) hat (fun k => h1 k.1)]; exact iap_0 l b mn mt mk mi w h hl hs ht h1 h2 h3
    ·rw [apply_some (m := ⟨mk, mn, mt, mi⟩) hat (fun k => h2 k.1) (fun k => h3 k.1)]; exact iap_0 l b mn mt mk mi w h hl hs ht h1 h2 h3
end Go.Proofs.YtepffbgelaajnaaGreatDoor
