/-
  The walk of laws.FnNumbers out of contracts, one theorem for each range of the number that is drawn.
-/
import Derived.Test.YtaplbjobhlbcoabDoorRows
import Derived.Test.YtaplbjobhlbcoabDoorDraw1
import Derived.Test.YtaplbjobhlbcoabDoorNumAid
namespace Go.Proofs.YtaplbjobhlbcoabDoor
open Go.ChangeShapes Go.WideShapes Go.ChangeAt Go.RowKit Go.PlainAid
set_option linter.unusedVariables false

theorem CodeIs.on {w w' : World} {ao : Option Addr} {len : Nat} {cs : Nat → Nat} (h : CodeIs w w.heap.size ao len cs) (hb : Below w.heap.size w w') : CodeIs w' w'.heap.size ao len cs := by
  rcases h with h | ⟨cb, co, rfl, hcb, hj⟩
  · exact .inl h
  · exact .inr ⟨cb, co, rfl, Nat.lt_of_lt_of_le hcb hb.size, fun j hj' => ⟨(hj j hj').1, by rw [← (hj j hj').2]; exact World.cell?_of_block (w := w) (hb.block cb hcb)⟩⟩
set_option maxHeartbeats 400000 in
theorem big_no (w : World) (ao : Option Addr) (len cap : Nat) (hl : len ≤ 1048576) : Calls Tryd.prog 4 #[.slice ao len cap] w fun e w' => e = .returned (.bool false) ∧ w = w' := by
  have q : (len : Int) ≤ 1048576 := by omega
  have q2 : decide ((1048576 : Int) < (len : Int)) = false := by simp; omega
  go_enter Tryd.func4, Tryd.ntmps4
  go_wp2
  go_ret
  exact ⟨rfl, rfl⟩
set_option maxHeartbeats 400000 in
theorem big_yes (w : World) (ao : Option Addr) (len cap : Nat) (hl : 1048576 < len) (h2 : len ≤ 9223372036854775807) : Calls Tryd.prog 4 #[.slice ao len cap] w fun e w' => e = .returned (.bool true) ∧ w = w' := by
  have q : (1048576 : Int) < (len : Int) := by omega
  go_enter Tryd.func4, Tryd.ntmps4
  go_wp2
  go_ret
  exact ⟨rfl, rfl⟩
theorem readVar_weak (s : ByteArray) (w : World) (hs : s.size ≤ 1048576) : Calls Tryd.prog 8 #[.string s] w fun e w' => (∃ a b : Int, e = .returned (.tuple #[.int .i64 a, .int .i64 b])) ∧ w = w' := by
  refine (impl_readVar s w hs).mono ?_
  rintro e w' ⟨⟨k, _, rfl⟩ | ⟨_, rfl⟩, rfl⟩
  · exact ⟨⟨_, _, rfl⟩, rfl⟩
  · exact ⟨⟨_, _, rfl⟩, rfl⟩
theorem readFixed_weak (s : ByteArray) (w : World) (hs : s.size ≤ 1048576) : Calls Tryd.prog 10 #[.string s, .int .i64 7] w fun e w' => (∃ (a : Int) (b : Bool), e = .returned (.tuple #[.int .i64 a, .bool b])) ∧ w = w' := by
  by_cases h : s.size < 7
  · refine (impl_readFixed_no s 7 w (by unfold maxLen; omega) (by omega)).mono ?_
    rintro e w' ⟨rfl, rfl⟩
    exact ⟨⟨_, _, rfl⟩, rfl⟩
  · refine (impl_readFixed s 7 w (by unfold maxLen; omega) (by omega) (by omega) (by omega)).mono ?_
    rintro e w' ⟨rfl, rfl⟩
    exact ⟨⟨_, _, rfl⟩, rfl⟩
theorem readVar_found (n : Nat) (tl : List UInt8) (w : World) (hn : n ≤ 562949953421311) (ht : tl.length ≤ 1000) :
    Calls Tryd.prog 8 #[.string (txt (vF 6 n ++ tl))] w fun e w' => e = .returned (.tuple #[.int .i64 (n : Int), .int .i64 ((vF 6 n).length : Int)]) ∧ w = w' := by
  obtain ⟨h1, h2⟩ := find_var n tl hn
  refine (impl_readVar (txt (vF 6 n ++ tl)) w (by rw [txt_size, List.length_append]; have := vF_length 6 n; omega)).mono ?_
  rintro e w' ⟨⟨k, hk, rfl⟩ | ⟨hk, _⟩, rfl⟩
  · obtain rfl := FindV.one hk h1
    exact ⟨by rw [h2], rfl⟩
  · exact absurd h1 (hk _)
theorem readDec_dec (v : Int) (w : World) (h1 : -1000000000 < v) (h2 : v < 1000000000) (hz : (txt (decI v)).size ≤ 1048576) :
    Calls Tryd.prog 11 #[.string (txt (decI v))] w fun e w' => e = .returned (.tuple #[.int .i64 v, .bool true]) ∧ w = w' := by
  have ha := acc_dec v h1 h2
  refine (impl_readDec _ w hz).mono ?_
  rintro e w' ⟨⟨x, hx, rfl⟩ | ⟨hx, _⟩, rfl⟩
  · obtain rfl := AccI.one hx ha
    exact ⟨rfl, rfl⟩
  · exact absurd ha (hx _)
theorem readDec_dec_no (v : Int) (w : World) (h : v ≤ -1000000000 ∨ 1000000000 ≤ v) (h1 : -9223372036854775808 ≤ v) (h2 : v ≤ 9223372036854775807) (hz : (txt (decI v)).size ≤ 1048576) :
    Calls Tryd.prog 11 #[.string (txt (decI v))] w fun e w' => e = .returned (.tuple #[.int .i64 0, .bool false]) ∧ w = w' := by
  have ha := acc_dec_no v h h1 h2
  refine (impl_readDec _ w hz).mono ?_
  rintro e w' ⟨⟨x, hx, rfl⟩ | ⟨hx, rfl⟩, rfl⟩
  · exact absurd hx (ha _)
  · exact ⟨rfl, rfl⟩
theorem decI_length (v : Int) : (decI v).length ≤ 21 := by
  unfold decI decN
  split
  · have := dF_length 20 v.natAbs
    simp
    omega
  · split
    · simp
    · have := dF_length 20 v.toNat
      omega
theorem txt_empty (l : List UInt8) : (txt l).toList.isEmpty = l.isEmpty := by rw [txt_list]
theorem readFixed_low (n : Nat) (tl : List UInt8) (w : World) (hn : n < 72057594037927936) (ht : tl.length ≤ 1000) :
    Calls Tryd.prog 10 #[.string (txt (low n 7 ++ tl)), .int .i64 7] w fun e w' => e = .returned (.tuple #[.int .i64 (n : Int), .bool true]) ∧ w = w' := by
  have hl := low_length n 7
  have hz : (txt (low n 7 ++ tl)).size = 7 + tl.length := by rw [txt_size, List.length_append, hl]
  refine (impl_readFixed (txt (low n 7 ++ tl)) 7 w (by rw [hz]; unfold maxLen; omega) (by omega) (by omega) (by omega)).mono ?_
  rintro e w' ⟨rfl, rfl⟩
  rw [rdv_fixed n tl hn]
  exact ⟨rfl, rfl⟩
theorem unhex_back (t : ByteArray) (w : World) (ht : t.size ≤ 1000) :
    Calls Tryd.prog 13 #[.string (txt (hexs t t.size))] w fun e w' => e = .returned (.tuple #[.string t, .bool true]) ∧ Below w.heap.size w w' := by
  refine (impl_unhex (txt (hexs t t.size)) w (by rw [txt_size, hexs_length]; omega)).mono ?_
  rintro e w' ⟨rfl, hb⟩
  refine ⟨?_, hb⟩
  rw [unhex_hex, unhexV, Option.getD_some, sg_whole]
  rfl

set_option maxHeartbeats 4000000 in
set_option maxRecDepth 100000 in
theorem numbers_a (w : World) (ao : Option Addr) (len cap : Nat) (cs : Nat → Nat) (hl : len ≤ 1048576) (h : CodeIs w w.heap.size ao len cs) (hp : PowTab w) (hg : 1 < w.heap.size) (n : Int) (hn : numV len cs (newP len cs) = n) (r2 : n ≤ -1000000000) :
    Calls Tryd.prog 3 #[.slice ao len cap] w fun e w' => e = .returned (.bool true) ∧ Below w.heap.size w w' := by
  have HC : Hid (CodeIs w w.heap.size ao len cs) := h
  have HP : Hid (PowTab w) := hp
  clear h hp
  have HN : Hid (numV len cs (newP len cs) = n) := hn
  have hbd := numV_bd len cs (newP len cs)
  rw [hn] at hbd
  obtain ⟨n1, n2⟩ := hbd
  clear hn
  have HT : Hid (((textV len cs 40 (newP len cs)).length : Int) ≤ 40) := textV_length len cs 40 (newP len cs) (by omega)
  have q0 : (len : Int) ≤ 1048576 := by omega
  obtain ⟨T, hT⟩ : ∃ T, textV len cs 40 (newP len cs) = T := ⟨_, rfl⟩
  have HTe : Hid (textV len cs 40 (newP len cs) = T) := hT
  have hTl : T.length ≤ 40 := by have := HT.out; rw [hT] at this; omega
  clear hT HT
  have hTz : (txt T).size ≤ 40 := by rw [txt_size]; exact hTl
  have hDz := drv_size len cs
  have HZd : Hid ((txt (decI n)).size ≤ 1048576) := by show _ ≤ _; rw [txt_size]; have := decI_length n; omega
  have g1 : ¬ ((0 : Int) ≤ n) := by omega
  have gd1 : decide ((0 : Int) ≤ n) = false := decide_eq_false g1
  have g3 : n < 0 := by omega
  have gd3 : decide (n < 0) = true := decide_eq_true g3
  have g5 : ¬ ((-1000000000 : Int) < n) := by omega
  have gd5 : decide ((-1000000000 : Int) < n) = false := decide_eq_false g5
  have hEz : (txt ([] : List UInt8)).size ≤ 0 := Nat.le_refl _
  have hEe : (txt ([] : List UInt8)).toList.isEmpty = true := by rw [txt_empty]; rfl
  go_enter Tryd.func3, Tryd.ntmps3
  go_wp2_with fail
  refine (big_no _ ao len cap hl).mono ?_
  rintro e w0 ⟨rfl, rfl⟩
  go_wp2_with fail
  refine (drawVar _ ao len cap cs hl HC.out).mono ?_
  rintro e w1 ⟨rfl, hb1⟩
  have HC1 : Hid (CodeIs w1 w1.heap.size ao len cs) := HC.out.on hb1
  have hB1 := hb1
  clear hb1
  rw [HN.out]
  go_wp2_with fail
  refine (drawHex _ ao len cap cs hl HC1.out).mono ?_
  rintro e w2 ⟨rfl, hb2⟩
  have HC2 : Hid (CodeIs w2 w2.heap.size ao len cs) := HC1.out.on hb2
  have hB2 := hB1.trans (hb2.mono hB1.size)
  clear hb2 HC1 hB1
  rw [HTe.out]
  go_wp2_with fail
  refine (impl_var_no _ _ (by omega)).mono ?_
  rintro e w3 ⟨rfl, hb3⟩
  have HC3 : Hid (CodeIs w3 w3.heap.size ao len cs) := HC2.out.on hb3
  have hB3 := hB2.trans (hb3.mono hB2.size)
  clear hb3 HC2 hB2
  go_wp2_with fail
  rw [txt_cat]
  refine (readVar_weak _ _ (by rw [txt_size]; simp; omega)).mono ?_
  rintro e w4 ⟨⟨xa, xb, rfl⟩, rfl⟩
  go_wp2_with fail
  refine (impl_fixed_no n 7 _ (by omega)).mono ?_
  rintro e w4 ⟨rfl, hb4⟩
  have HC4 : Hid (CodeIs w4 w4.heap.size ao len cs) := HC3.out.on hb4
  have hB4 := hB3.trans (hb4.mono hB3.size)
  clear hb4 HC3 hB3
  go_wp2_with fail
  rw [txt_cat]
  refine (readFixed_weak _ _ (by rw [txt_size]; simp; omega)).mono ?_
  rintro e w5 ⟨⟨ya, yb, rfl⟩, rfl⟩
  go_wp2_with fail
  refine (impl_dec _ _ n1 n2 (HP.out.below hB4 hg)).mono ?_
  rintro e w5 ⟨rfl, hb5⟩
  have HC5 : Hid (CodeIs w5 w5.heap.size ao len cs) := HC4.out.on hb5
  have hB5 := hB4.trans (hb5.mono hB4.size)
  clear hb5 HC4 hB4
  go_wp2_with fail
  refine (readDec_dec_no _ _ (by omega) n1 n2 HZd.out).mono ?_
  rintro e w6 ⟨rfl, rfl⟩
  go_wp2_with fail
  refine (impl_hex (txt T) _ (by omega)).mono ?_
  rintro e w6 ⟨rfl, hb6⟩
  have HC6 : Hid (CodeIs w6 w6.heap.size ao len cs) := HC5.out.on hb6
  have hB6 := hB5.trans (hb6.mono hB5.size)
  clear hb6 HC5 hB5
  go_wp2_with fail
  refine (unhex_back (txt T) _ (by omega)).mono ?_
  rintro e w7 ⟨rfl, hb7⟩
  have HC7 : Hid (CodeIs w7 w7.heap.size ao len cs) := HC6.out.on hb7
  have hB7 := hB6.trans (hb7.mono hB6.size)
  clear hb7 HC6 hB6
  go_wp2_with fail
  refine (drawReadVar _ ao len cap cs hl HC7.out).mono ?_
  rintro e w8 ⟨rfl, hb8⟩
  have HC8 : Hid (CodeIs w8 w8.heap.size ao len cs) := HC7.out.on hb8
  have hB8 := hB7.trans (hb8.mono hB7.size)
  clear hb8 HC7 hB7
  go_wp2_with fail
  refine (impl_readVar (drv len cs) _ (by omega)).mono ?_
  rintro e w9 ⟨⟨k, hk, rfl⟩ | ⟨_, rfl⟩, rfl⟩
  · obtain ⟨f1, f2, f3, f4⟩ := hk
    have hz := vvS_le (drv len cs) k f2 0
    have j0 : ((k : Int) == 0) = false := beq_eq_false_iff_ne.2 (by omega)
    have hq := (var_eq (drv len cs) k f1 f2 f3).2 f4
    have g1 : (k : Int) ≤ ((drv len cs).size : Int) := by omega
    clear f4
    go_wp2_with fail
    refine (impl_var (vvS (drv len cs) 0 k) _ hz).mono ?_
    rintro e w9 ⟨rfl, hb9⟩
    have HC9 : Hid (CodeIs w9 w9.heap.size ao len cs) := HC8.out.on hb9
    have hB9 := hB8.trans (hb9.mono hB8.size)
    clear hb9
    go_wp2_with fail
    refine (drawReadVar _ ao len cap cs hl HC9.out).mono ?_
    rintro e wa ⟨rfl, hba⟩
    have hBa := hB9.trans (hba.mono hB9.size)
    go_wp2_with fail
    go_ret
    exact ⟨rfl, hBa⟩
  · go_wp2_with fail
    go_ret
    exact ⟨rfl, hB8⟩

set_option maxHeartbeats 4000000 in
set_option maxRecDepth 100000 in
theorem numbers_b (w : World) (ao : Option Addr) (len cap : Nat) (cs : Nat → Nat) (hl : len ≤ 1048576) (h : CodeIs w w.heap.size ao len cs) (hp : PowTab w) (hg : 1 < w.heap.size) (n : Int) (hn : numV len cs (newP len cs) = n) (r1 : -1000000000 < n) (r2 : n < 0) :
    Calls Tryd.prog 3 #[.slice ao len cap] w fun e w' => e = .returned (.bool true) ∧ Below w.heap.size w w' := by
  have HC : Hid (CodeIs w w.heap.size ao len cs) := h
  have HP : Hid (PowTab w) := hp
  clear h hp
  have HN : Hid (numV len cs (newP len cs) = n) := hn
  have hbd := numV_bd len cs (newP len cs)
  rw [hn] at hbd
  obtain ⟨n1, n2⟩ := hbd
  clear hn
  have HT : Hid (((textV len cs 40 (newP len cs)).length : Int) ≤ 40) := textV_length len cs 40 (newP len cs) (by omega)
  have q0 : (len : Int) ≤ 1048576 := by omega
  obtain ⟨T, hT⟩ : ∃ T, textV len cs 40 (newP len cs) = T := ⟨_, rfl⟩
  have HTe : Hid (textV len cs 40 (newP len cs) = T) := hT
  have hTl : T.length ≤ 40 := by have := HT.out; rw [hT] at this; omega
  clear hT HT
  have hTz : (txt T).size ≤ 40 := by rw [txt_size]; exact hTl
  have hDz := drv_size len cs
  have HZd : Hid ((txt (decI n)).size ≤ 1048576) := by show _ ≤ _; rw [txt_size]; have := decI_length n; omega
  have g1 : ¬ ((0 : Int) ≤ n) := by omega
  have gd1 : decide ((0 : Int) ≤ n) = false := decide_eq_false g1
  have g3 : n < 0 := by omega
  have gd3 : decide (n < 0) = true := decide_eq_true g3
  have g5 : (-1000000000 : Int) < n := by omega
  have gd5 : decide ((-1000000000 : Int) < n) = true := decide_eq_true g5
  have g6 : n < 1000000000 := by omega
  have gd6 : decide (n < 1000000000) = true := decide_eq_true g6
  have hEz : (txt ([] : List UInt8)).size ≤ 0 := Nat.le_refl _
  have hEe : (txt ([] : List UInt8)).toList.isEmpty = true := by rw [txt_empty]; rfl
  go_enter Tryd.func3, Tryd.ntmps3
  go_wp2_with fail
  refine (big_no _ ao len cap hl).mono ?_
  rintro e w0 ⟨rfl, rfl⟩
  go_wp2_with fail
  refine (drawVar _ ao len cap cs hl HC.out).mono ?_
  rintro e w1 ⟨rfl, hb1⟩
  have HC1 : Hid (CodeIs w1 w1.heap.size ao len cs) := HC.out.on hb1
  have hB1 := hb1
  clear hb1
  rw [HN.out]
  go_wp2_with fail
  refine (drawHex _ ao len cap cs hl HC1.out).mono ?_
  rintro e w2 ⟨rfl, hb2⟩
  have HC2 : Hid (CodeIs w2 w2.heap.size ao len cs) := HC1.out.on hb2
  have hB2 := hB1.trans (hb2.mono hB1.size)
  clear hb2 HC1 hB1
  rw [HTe.out]
  go_wp2_with fail
  refine (impl_var_no _ _ (by omega)).mono ?_
  rintro e w3 ⟨rfl, hb3⟩
  have HC3 : Hid (CodeIs w3 w3.heap.size ao len cs) := HC2.out.on hb3
  have hB3 := hB2.trans (hb3.mono hB2.size)
  clear hb3 HC2 hB2
  go_wp2_with fail
  rw [txt_cat]
  refine (readVar_weak _ _ (by rw [txt_size]; simp; omega)).mono ?_
  rintro e w4 ⟨⟨xa, xb, rfl⟩, rfl⟩
  go_wp2_with fail
  refine (impl_fixed_no n 7 _ (by omega)).mono ?_
  rintro e w4 ⟨rfl, hb4⟩
  have HC4 : Hid (CodeIs w4 w4.heap.size ao len cs) := HC3.out.on hb4
  have hB4 := hB3.trans (hb4.mono hB3.size)
  clear hb4 HC3 hB3
  go_wp2_with fail
  rw [txt_cat]
  refine (readFixed_weak _ _ (by rw [txt_size]; simp; omega)).mono ?_
  rintro e w5 ⟨⟨ya, yb, rfl⟩, rfl⟩
  go_wp2_with fail
  refine (impl_dec _ _ n1 n2 (HP.out.below hB4 hg)).mono ?_
  rintro e w5 ⟨rfl, hb5⟩
  have HC5 : Hid (CodeIs w5 w5.heap.size ao len cs) := HC4.out.on hb5
  have hB5 := hB4.trans (hb5.mono hB4.size)
  clear hb5 HC4 hB4
  go_wp2_with fail
  refine (readDec_dec _ _ (by omega) (by omega) HZd.out).mono ?_
  rintro e w6 ⟨rfl, rfl⟩
  go_wp2_with fail
  refine (impl_hex (txt T) _ (by omega)).mono ?_
  rintro e w6 ⟨rfl, hb6⟩
  have HC6 : Hid (CodeIs w6 w6.heap.size ao len cs) := HC5.out.on hb6
  have hB6 := hB5.trans (hb6.mono hB5.size)
  clear hb6 HC5 hB5
  go_wp2_with fail
  refine (unhex_back (txt T) _ (by omega)).mono ?_
  rintro e w7 ⟨rfl, hb7⟩
  have HC7 : Hid (CodeIs w7 w7.heap.size ao len cs) := HC6.out.on hb7
  have hB7 := hB6.trans (hb7.mono hB6.size)
  clear hb7 HC6 hB6
  go_wp2_with fail
  refine (drawReadVar _ ao len cap cs hl HC7.out).mono ?_
  rintro e w8 ⟨rfl, hb8⟩
  have HC8 : Hid (CodeIs w8 w8.heap.size ao len cs) := HC7.out.on hb8
  have hB8 := hB7.trans (hb8.mono hB7.size)
  clear hb8 HC7 hB7
  go_wp2_with fail
  refine (impl_readVar (drv len cs) _ (by omega)).mono ?_
  rintro e w9 ⟨⟨k, hk, rfl⟩ | ⟨_, rfl⟩, rfl⟩
  · obtain ⟨f1, f2, f3, f4⟩ := hk
    have hz := vvS_le (drv len cs) k f2 0
    have j0 : ((k : Int) == 0) = false := beq_eq_false_iff_ne.2 (by omega)
    have hq := (var_eq (drv len cs) k f1 f2 f3).2 f4
    have g1 : (k : Int) ≤ ((drv len cs).size : Int) := by omega
    clear f4
    go_wp2_with fail
    refine (impl_var (vvS (drv len cs) 0 k) _ hz).mono ?_
    rintro e w9 ⟨rfl, hb9⟩
    have HC9 : Hid (CodeIs w9 w9.heap.size ao len cs) := HC8.out.on hb9
    have hB9 := hB8.trans (hb9.mono hB8.size)
    clear hb9
    go_wp2_with fail
    refine (drawReadVar _ ao len cap cs hl HC9.out).mono ?_
    rintro e wa ⟨rfl, hba⟩
    have hBa := hB9.trans (hba.mono hB9.size)
    go_wp2_with fail
    go_ret
    exact ⟨rfl, hBa⟩
  · go_wp2_with fail
    go_ret
    exact ⟨rfl, hB8⟩

set_option maxHeartbeats 4000000 in
set_option maxRecDepth 100000 in
theorem numbers_c (w : World) (ao : Option Addr) (len cap : Nat) (cs : Nat → Nat) (hl : len ≤ 1048576) (h : CodeIs w w.heap.size ao len cs) (hp : PowTab w) (hg : 1 < w.heap.size) (n : Int) (hn : numV len cs (newP len cs) = n) (r1 : 0 ≤ n) (r2 : n < 1000000000) :
    Calls Tryd.prog 3 #[.slice ao len cap] w fun e w' => e = .returned (.bool true) ∧ Below w.heap.size w w' := by
  have HC : Hid (CodeIs w w.heap.size ao len cs) := h
  have HP : Hid (PowTab w) := hp
  clear h hp
  have HN : Hid (numV len cs (newP len cs) = n) := hn
  have hbd := numV_bd len cs (newP len cs)
  rw [hn] at hbd
  obtain ⟨n1, n2⟩ := hbd
  clear hn
  have HT : Hid (((textV len cs 40 (newP len cs)).length : Int) ≤ 40) := textV_length len cs 40 (newP len cs) (by omega)
  have q0 : (len : Int) ≤ 1048576 := by omega
  obtain ⟨T, hT⟩ : ∃ T, textV len cs 40 (newP len cs) = T := ⟨_, rfl⟩
  have HTe : Hid (textV len cs 40 (newP len cs) = T) := hT
  have hTl : T.length ≤ 40 := by have := HT.out; rw [hT] at this; omega
  clear hT HT
  have hTz : (txt T).size ≤ 40 := by rw [txt_size]; exact hTl
  have hDz := drv_size len cs
  have HZd : Hid ((txt (decI n)).size ≤ 1048576) := by show _ ≤ _; rw [txt_size]; have := decI_length n; omega
  obtain ⟨N, hNN⟩ := Int.eq_ofNat_of_zero_le (show 0 ≤ n by omega)
  subst hNN
  have g1 : (0 : Int) ≤ (N : Int) := by omega
  have gd1 : decide ((0 : Int) ≤ (N : Int)) = true := decide_eq_true g1
  have g2 : (N : Int) ≤ 562949953421311 := by omega
  have gd2 : decide ((N : Int) ≤ 562949953421311) = true := decide_eq_true g2
  have g3 : ¬ ((N : Int) < 0) := by omega
  have gd3 : decide ((N : Int) < 0) = false := decide_eq_false g3
  have g4 : ¬ ((72057594037927936 : Int) ≤ (N : Int)) := by omega
  have gd4 : decide ((72057594037927936 : Int) ≤ (N : Int)) = false := decide_eq_false g4
  have g5 : (-1000000000 : Int) < (N : Int) := by omega
  have gd5 : decide ((-1000000000 : Int) < (N : Int)) = true := decide_eq_true g5
  have g6 : (N : Int) < 1000000000 := by omega
  have gd6 : decide ((N : Int) < 1000000000) = true := decide_eq_true g6
  have hSz : (txt (vF 6 N)).size ≤ 7 := by rw [txt_size]; exact vF_length 6 N
  have hSe : (txt (vF 6 N)).toList.isEmpty = false := by
    rw [txt_empty]
    have := vF_pos 6 N
    cases hv : vF 6 N with
    | nil => rw [hv] at this; simp at this
    | cons a l => rfl
  have hSl : ((txt (vF 6 N)).size : Int) = ((vF 6 N).length : Int) := by rw [txt_size]
  have HSl : Hid (((txt (vF 6 N)).size : Int) = ((vF 6 N).length : Int)) := hSl
  clear hSl
  have HF : Hid (fixed N 7 = txt (low N 7)) := by show fixed N 7 = _; rw [fixed, if_pos (by omega)]
  have hFz : (txt (low N 7)).size ≤ 7 := by rw [txt_size, low_length]; omega
  have hFl : ((txt (low N 7)).size : Int) = 7 := by rw [txt_size, low_length]; rfl
  have hFe : (txt (low N 7)).toList.isEmpty = false := by rw [txt_empty]; rfl
  go_enter Tryd.func3, Tryd.ntmps3
  go_wp2_with fail
  refine (big_no _ ao len cap hl).mono ?_
  rintro e w0 ⟨rfl, rfl⟩
  go_wp2_with fail
  refine (drawVar _ ao len cap cs hl HC.out).mono ?_
  rintro e w1 ⟨rfl, hb1⟩
  have HC1 : Hid (CodeIs w1 w1.heap.size ao len cs) := HC.out.on hb1
  have hB1 := hb1
  clear hb1
  rw [HN.out]
  go_wp2_with fail
  refine (drawHex _ ao len cap cs hl HC1.out).mono ?_
  rintro e w2 ⟨rfl, hb2⟩
  have HC2 : Hid (CodeIs w2 w2.heap.size ao len cs) := HC1.out.on hb2
  have hB2 := hB1.trans (hb2.mono hB1.size)
  clear hb2 HC1 hB1
  rw [HTe.out]
  go_wp2_with fail
  refine (impl_var N _ (by omega)).mono ?_
  rintro e w3 ⟨rfl, hb3⟩
  have HC3 : Hid (CodeIs w3 w3.heap.size ao len cs) := HC2.out.on hb3
  have hB3 := hB2.trans (hb3.mono hB2.size)
  clear hb3 HC2 hB2
  have hk : (((vF 6 N).length : Int) != ((txt (vF 6 N)).size : Int)) = false := by rw [HSl.out]; simp
  go_wp2_with fail
  rw [txt_cat]
  refine (readVar_found N T _ (by omega) (by omega)).mono ?_
  rintro e w4 ⟨rfl, rfl⟩
  go_wp2_with fail
  refine (impl_fixed N 7 _ (by omega) (by omega) (by omega)).mono ?_
  rintro e w4 ⟨rfl, hb4⟩
  rw [HF.out]
  have HC4 : Hid (CodeIs w4 w4.heap.size ao len cs) := HC3.out.on hb4
  have hB4 := hB3.trans (hb4.mono hB3.size)
  clear hb4 HC3 hB3
  go_wp2_with fail
  rw [txt_cat]
  refine (readFixed_low N T _ (by omega) (by omega)).mono ?_
  rintro e w5 ⟨rfl, rfl⟩
  have hf7 : (((txt (low N 7)).size : Int) != 7) = false := by rw [hFl]; rfl
  go_wp2_with fail
  refine (impl_dec _ _ n1 n2 (HP.out.below hB4 hg)).mono ?_
  rintro e w5 ⟨rfl, hb5⟩
  have HC5 : Hid (CodeIs w5 w5.heap.size ao len cs) := HC4.out.on hb5
  have hB5 := hB4.trans (hb5.mono hB4.size)
  clear hb5 HC4 hB4
  go_wp2_with fail
  refine (readDec_dec _ _ (by omega) (by omega) HZd.out).mono ?_
  rintro e w6 ⟨rfl, rfl⟩
  go_wp2_with fail
  refine (impl_hex (txt T) _ (by omega)).mono ?_
  rintro e w6 ⟨rfl, hb6⟩
  have HC6 : Hid (CodeIs w6 w6.heap.size ao len cs) := HC5.out.on hb6
  have hB6 := hB5.trans (hb6.mono hB5.size)
  clear hb6 HC5 hB5
  go_wp2_with fail
  refine (unhex_back (txt T) _ (by omega)).mono ?_
  rintro e w7 ⟨rfl, hb7⟩
  have HC7 : Hid (CodeIs w7 w7.heap.size ao len cs) := HC6.out.on hb7
  have hB7 := hB6.trans (hb7.mono hB6.size)
  clear hb7 HC6 hB6
  go_wp2_with fail
  refine (drawReadVar _ ao len cap cs hl HC7.out).mono ?_
  rintro e w8 ⟨rfl, hb8⟩
  have HC8 : Hid (CodeIs w8 w8.heap.size ao len cs) := HC7.out.on hb8
  have hB8 := hB7.trans (hb8.mono hB7.size)
  clear hb8 HC7 hB7
  go_wp2_with fail
  refine (impl_readVar (drv len cs) _ (by omega)).mono ?_
  rintro e w9 ⟨⟨k, hk, rfl⟩ | ⟨_, rfl⟩, rfl⟩
  · obtain ⟨f1, f2, f3, f4⟩ := hk
    have hz := vvS_le (drv len cs) k f2 0
    have j0 : ((k : Int) == 0) = false := beq_eq_false_iff_ne.2 (by omega)
    have hq := (var_eq (drv len cs) k f1 f2 f3).2 f4
    have g1 : (k : Int) ≤ ((drv len cs).size : Int) := by omega
    clear f4
    go_wp2_with fail
    refine (impl_var (vvS (drv len cs) 0 k) _ hz).mono ?_
    rintro e w9 ⟨rfl, hb9⟩
    have HC9 : Hid (CodeIs w9 w9.heap.size ao len cs) := HC8.out.on hb9
    have hB9 := hB8.trans (hb9.mono hB8.size)
    clear hb9
    go_wp2_with fail
    refine (drawReadVar _ ao len cap cs hl HC9.out).mono ?_
    rintro e wa ⟨rfl, hba⟩
    have hBa := hB9.trans (hba.mono hB9.size)
    go_wp2_with fail
    go_ret
    exact ⟨rfl, hBa⟩
  · go_wp2_with fail
    go_ret
    exact ⟨rfl, hB8⟩

set_option maxHeartbeats 4000000 in
set_option maxRecDepth 100000 in
theorem numbers_d (w : World) (ao : Option Addr) (len cap : Nat) (cs : Nat → Nat) (hl : len ≤ 1048576) (h : CodeIs w w.heap.size ao len cs) (hp : PowTab w) (hg : 1 < w.heap.size) (n : Int) (hn : numV len cs (newP len cs) = n) (r1 : 1000000000 ≤ n) (r2 : n ≤ 562949953421311) :
    Calls Tryd.prog 3 #[.slice ao len cap] w fun e w' => e = .returned (.bool true) ∧ Below w.heap.size w w' := by
  have HC : Hid (CodeIs w w.heap.size ao len cs) := h
  have HP : Hid (PowTab w) := hp
  clear h hp
  have HN : Hid (numV len cs (newP len cs) = n) := hn
  have hbd := numV_bd len cs (newP len cs)
  rw [hn] at hbd
  obtain ⟨n1, n2⟩ := hbd
  clear hn
  have HT : Hid (((textV len cs 40 (newP len cs)).length : Int) ≤ 40) := textV_length len cs 40 (newP len cs) (by omega)
  have q0 : (len : Int) ≤ 1048576 := by omega
  obtain ⟨T, hT⟩ : ∃ T, textV len cs 40 (newP len cs) = T := ⟨_, rfl⟩
  have HTe : Hid (textV len cs 40 (newP len cs) = T) := hT
  have hTl : T.length ≤ 40 := by have := HT.out; rw [hT] at this; omega
  clear hT HT
  have hTz : (txt T).size ≤ 40 := by rw [txt_size]; exact hTl
  have hDz := drv_size len cs
  have HZd : Hid ((txt (decI n)).size ≤ 1048576) := by show _ ≤ _; rw [txt_size]; have := decI_length n; omega
  obtain ⟨N, hNN⟩ := Int.eq_ofNat_of_zero_le (show 0 ≤ n by omega)
  subst hNN
  have g1 : (0 : Int) ≤ (N : Int) := by omega
  have gd1 : decide ((0 : Int) ≤ (N : Int)) = true := decide_eq_true g1
  have g2 : (N : Int) ≤ 562949953421311 := by omega
  have gd2 : decide ((N : Int) ≤ 562949953421311) = true := decide_eq_true g2
  have g3 : ¬ ((N : Int) < 0) := by omega
  have gd3 : decide ((N : Int) < 0) = false := decide_eq_false g3
  have g4 : ¬ ((72057594037927936 : Int) ≤ (N : Int)) := by omega
  have gd4 : decide ((72057594037927936 : Int) ≤ (N : Int)) = false := decide_eq_false g4
  have g5 : (-1000000000 : Int) < (N : Int) := by omega
  have gd5 : decide ((-1000000000 : Int) < (N : Int)) = true := decide_eq_true g5
  have g6 : ¬ ((N : Int) < 1000000000) := by omega
  have gd6 : decide ((N : Int) < 1000000000) = false := decide_eq_false g6
  have hSz : (txt (vF 6 N)).size ≤ 7 := by rw [txt_size]; exact vF_length 6 N
  have hSe : (txt (vF 6 N)).toList.isEmpty = false := by
    rw [txt_empty]
    have := vF_pos 6 N
    cases hv : vF 6 N with
    | nil => rw [hv] at this; simp at this
    | cons a l => rfl
  have hSl : ((txt (vF 6 N)).size : Int) = ((vF 6 N).length : Int) := by rw [txt_size]
  have HSl : Hid (((txt (vF 6 N)).size : Int) = ((vF 6 N).length : Int)) := hSl
  clear hSl
  have HF : Hid (fixed N 7 = txt (low N 7)) := by show fixed N 7 = _; rw [fixed, if_pos (by omega)]
  have hFz : (txt (low N 7)).size ≤ 7 := by rw [txt_size, low_length]; omega
  have hFl : ((txt (low N 7)).size : Int) = 7 := by rw [txt_size, low_length]; rfl
  have hFe : (txt (low N 7)).toList.isEmpty = false := by rw [txt_empty]; rfl
  go_enter Tryd.func3, Tryd.ntmps3
  go_wp2_with fail
  refine (big_no _ ao len cap hl).mono ?_
  rintro e w0 ⟨rfl, rfl⟩
  go_wp2_with fail
  refine (drawVar _ ao len cap cs hl HC.out).mono ?_
  rintro e w1 ⟨rfl, hb1⟩
  have HC1 : Hid (CodeIs w1 w1.heap.size ao len cs) := HC.out.on hb1
  have hB1 := hb1
  clear hb1
  rw [HN.out]
  go_wp2_with fail
  refine (drawHex _ ao len cap cs hl HC1.out).mono ?_
  rintro e w2 ⟨rfl, hb2⟩
  have HC2 : Hid (CodeIs w2 w2.heap.size ao len cs) := HC1.out.on hb2
  have hB2 := hB1.trans (hb2.mono hB1.size)
  clear hb2 HC1 hB1
  rw [HTe.out]
  go_wp2_with fail
  refine (impl_var N _ (by omega)).mono ?_
  rintro e w3 ⟨rfl, hb3⟩
  have HC3 : Hid (CodeIs w3 w3.heap.size ao len cs) := HC2.out.on hb3
  have hB3 := hB2.trans (hb3.mono hB2.size)
  clear hb3 HC2 hB2
  have hk : (((vF 6 N).length : Int) != ((txt (vF 6 N)).size : Int)) = false := by rw [HSl.out]; simp
  go_wp2_with fail
  rw [txt_cat]
  refine (readVar_found N T _ (by omega) (by omega)).mono ?_
  rintro e w4 ⟨rfl, rfl⟩
  go_wp2_with fail
  refine (impl_fixed N 7 _ (by omega) (by omega) (by omega)).mono ?_
  rintro e w4 ⟨rfl, hb4⟩
  rw [HF.out]
  have HC4 : Hid (CodeIs w4 w4.heap.size ao len cs) := HC3.out.on hb4
  have hB4 := hB3.trans (hb4.mono hB3.size)
  clear hb4 HC3 hB3
  go_wp2_with fail
  rw [txt_cat]
  refine (readFixed_low N T _ (by omega) (by omega)).mono ?_
  rintro e w5 ⟨rfl, rfl⟩
  have hf7 : (((txt (low N 7)).size : Int) != 7) = false := by rw [hFl]; rfl
  go_wp2_with fail
  refine (impl_dec _ _ n1 n2 (HP.out.below hB4 hg)).mono ?_
  rintro e w5 ⟨rfl, hb5⟩
  have HC5 : Hid (CodeIs w5 w5.heap.size ao len cs) := HC4.out.on hb5
  have hB5 := hB4.trans (hb5.mono hB4.size)
  clear hb5 HC4 hB4
  go_wp2_with fail
  refine (readDec_dec_no _ _ (by omega) n1 n2 HZd.out).mono ?_
  rintro e w6 ⟨rfl, rfl⟩
  go_wp2_with fail
  refine (impl_hex (txt T) _ (by omega)).mono ?_
  rintro e w6 ⟨rfl, hb6⟩
  have HC6 : Hid (CodeIs w6 w6.heap.size ao len cs) := HC5.out.on hb6
  have hB6 := hB5.trans (hb6.mono hB5.size)
  clear hb6 HC5 hB5
  go_wp2_with fail
  refine (unhex_back (txt T) _ (by omega)).mono ?_
  rintro e w7 ⟨rfl, hb7⟩
  have HC7 : Hid (CodeIs w7 w7.heap.size ao len cs) := HC6.out.on hb7
  have hB7 := hB6.trans (hb7.mono hB6.size)
  clear hb7 HC6 hB6
  go_wp2_with fail
  refine (drawReadVar _ ao len cap cs hl HC7.out).mono ?_
  rintro e w8 ⟨rfl, hb8⟩
  have HC8 : Hid (CodeIs w8 w8.heap.size ao len cs) := HC7.out.on hb8
  have hB8 := hB7.trans (hb8.mono hB7.size)
  clear hb8 HC7 hB7
  go_wp2_with fail
  refine (impl_readVar (drv len cs) _ (by omega)).mono ?_
  rintro e w9 ⟨⟨k, hk, rfl⟩ | ⟨_, rfl⟩, rfl⟩
  · obtain ⟨f1, f2, f3, f4⟩ := hk
    have hz := vvS_le (drv len cs) k f2 0
    have j0 : ((k : Int) == 0) = false := beq_eq_false_iff_ne.2 (by omega)
    have hq := (var_eq (drv len cs) k f1 f2 f3).2 f4
    have g1 : (k : Int) ≤ ((drv len cs).size : Int) := by omega
    clear f4
    go_wp2_with fail
    refine (impl_var (vvS (drv len cs) 0 k) _ hz).mono ?_
    rintro e w9 ⟨rfl, hb9⟩
    have HC9 : Hid (CodeIs w9 w9.heap.size ao len cs) := HC8.out.on hb9
    have hB9 := hB8.trans (hb9.mono hB8.size)
    clear hb9
    go_wp2_with fail
    refine (drawReadVar _ ao len cap cs hl HC9.out).mono ?_
    rintro e wa ⟨rfl, hba⟩
    have hBa := hB9.trans (hba.mono hB9.size)
    go_wp2_with fail
    go_ret
    exact ⟨rfl, hBa⟩
  · go_wp2_with fail
    go_ret
    exact ⟨rfl, hB8⟩

set_option maxHeartbeats 4000000 in
set_option maxRecDepth 100000 in
theorem numbers_e (w : World) (ao : Option Addr) (len cap : Nat) (cs : Nat → Nat) (hl : len ≤ 1048576) (h : CodeIs w w.heap.size ao len cs) (hp : PowTab w) (hg : 1 < w.heap.size) (n : Int) (hn : numV len cs (newP len cs) = n) (r1 : 562949953421312 ≤ n) (r2 : n < 72057594037927936) :
    Calls Tryd.prog 3 #[.slice ao len cap] w fun e w' => e = .returned (.bool true) ∧ Below w.heap.size w w' := by
  have HC : Hid (CodeIs w w.heap.size ao len cs) := h
  have HP : Hid (PowTab w) := hp
  clear h hp
  have HN : Hid (numV len cs (newP len cs) = n) := hn
  have hbd := numV_bd len cs (newP len cs)
  rw [hn] at hbd
  obtain ⟨n1, n2⟩ := hbd
  clear hn
  have HT : Hid (((textV len cs 40 (newP len cs)).length : Int) ≤ 40) := textV_length len cs 40 (newP len cs) (by omega)
  have q0 : (len : Int) ≤ 1048576 := by omega
  obtain ⟨T, hT⟩ : ∃ T, textV len cs 40 (newP len cs) = T := ⟨_, rfl⟩
  have HTe : Hid (textV len cs 40 (newP len cs) = T) := hT
  have hTl : T.length ≤ 40 := by have := HT.out; rw [hT] at this; omega
  clear hT HT
  have hTz : (txt T).size ≤ 40 := by rw [txt_size]; exact hTl
  have hDz := drv_size len cs
  have HZd : Hid ((txt (decI n)).size ≤ 1048576) := by show _ ≤ _; rw [txt_size]; have := decI_length n; omega
  obtain ⟨N, hNN⟩ := Int.eq_ofNat_of_zero_le (show 0 ≤ n by omega)
  subst hNN
  have g1 : (0 : Int) ≤ (N : Int) := by omega
  have gd1 : decide ((0 : Int) ≤ (N : Int)) = true := decide_eq_true g1
  have g2 : ¬ ((N : Int) ≤ 562949953421311) := by omega
  have gd2 : decide ((N : Int) ≤ 562949953421311) = false := decide_eq_false g2
  have g3 : ¬ ((N : Int) < 0) := by omega
  have gd3 : decide ((N : Int) < 0) = false := decide_eq_false g3
  have g4 : ¬ ((72057594037927936 : Int) ≤ (N : Int)) := by omega
  have gd4 : decide ((72057594037927936 : Int) ≤ (N : Int)) = false := decide_eq_false g4
  have g5 : (-1000000000 : Int) < (N : Int) := by omega
  have gd5 : decide ((-1000000000 : Int) < (N : Int)) = true := decide_eq_true g5
  have g6 : ¬ ((N : Int) < 1000000000) := by omega
  have gd6 : decide ((N : Int) < 1000000000) = false := decide_eq_false g6
  have hEz : (txt ([] : List UInt8)).size ≤ 0 := Nat.le_refl _
  have hEe : (txt ([] : List UInt8)).toList.isEmpty = true := by rw [txt_empty]; rfl
  have HF : Hid (fixed N 7 = txt (low N 7)) := by show fixed N 7 = _; rw [fixed, if_pos (by omega)]
  have hFz : (txt (low N 7)).size ≤ 7 := by rw [txt_size, low_length]; omega
  have hFl : ((txt (low N 7)).size : Int) = 7 := by rw [txt_size, low_length]; rfl
  have hFe : (txt (low N 7)).toList.isEmpty = false := by rw [txt_empty]; rfl
  go_enter Tryd.func3, Tryd.ntmps3
  go_wp2_with fail
  refine (big_no _ ao len cap hl).mono ?_
  rintro e w0 ⟨rfl, rfl⟩
  go_wp2_with fail
  refine (drawVar _ ao len cap cs hl HC.out).mono ?_
  rintro e w1 ⟨rfl, hb1⟩
  have HC1 : Hid (CodeIs w1 w1.heap.size ao len cs) := HC.out.on hb1
  have hB1 := hb1
  clear hb1
  rw [HN.out]
  go_wp2_with fail
  refine (drawHex _ ao len cap cs hl HC1.out).mono ?_
  rintro e w2 ⟨rfl, hb2⟩
  have HC2 : Hid (CodeIs w2 w2.heap.size ao len cs) := HC1.out.on hb2
  have hB2 := hB1.trans (hb2.mono hB1.size)
  clear hb2 HC1 hB1
  rw [HTe.out]
  go_wp2_with fail
  refine (impl_var_no _ _ (by omega)).mono ?_
  rintro e w3 ⟨rfl, hb3⟩
  have HC3 : Hid (CodeIs w3 w3.heap.size ao len cs) := HC2.out.on hb3
  have hB3 := hB2.trans (hb3.mono hB2.size)
  clear hb3 HC2 hB2
  go_wp2_with fail
  rw [txt_cat]
  refine (readVar_weak _ _ (by rw [txt_size]; simp; omega)).mono ?_
  rintro e w4 ⟨⟨xa, xb, rfl⟩, rfl⟩
  go_wp2_with fail
  refine (impl_fixed N 7 _ (by omega) (by omega) (by omega)).mono ?_
  rintro e w4 ⟨rfl, hb4⟩
  rw [HF.out]
  have HC4 : Hid (CodeIs w4 w4.heap.size ao len cs) := HC3.out.on hb4
  have hB4 := hB3.trans (hb4.mono hB3.size)
  clear hb4 HC3 hB3
  go_wp2_with fail
  rw [txt_cat]
  refine (readFixed_low N T _ (by omega) (by omega)).mono ?_
  rintro e w5 ⟨rfl, rfl⟩
  have hf7 : (((txt (low N 7)).size : Int) != 7) = false := by rw [hFl]; rfl
  go_wp2_with fail
  refine (impl_dec _ _ n1 n2 (HP.out.below hB4 hg)).mono ?_
  rintro e w5 ⟨rfl, hb5⟩
  have HC5 : Hid (CodeIs w5 w5.heap.size ao len cs) := HC4.out.on hb5
  have hB5 := hB4.trans (hb5.mono hB4.size)
  clear hb5 HC4 hB4
  go_wp2_with fail
  refine (readDec_dec_no _ _ (by omega) n1 n2 HZd.out).mono ?_
  rintro e w6 ⟨rfl, rfl⟩
  go_wp2_with fail
  refine (impl_hex (txt T) _ (by omega)).mono ?_
  rintro e w6 ⟨rfl, hb6⟩
  have HC6 : Hid (CodeIs w6 w6.heap.size ao len cs) := HC5.out.on hb6
  have hB6 := hB5.trans (hb6.mono hB5.size)
  clear hb6 HC5 hB5
  go_wp2_with fail
  refine (unhex_back (txt T) _ (by omega)).mono ?_
  rintro e w7 ⟨rfl, hb7⟩
  have HC7 : Hid (CodeIs w7 w7.heap.size ao len cs) := HC6.out.on hb7
  have hB7 := hB6.trans (hb7.mono hB6.size)
  clear hb7 HC6 hB6
  go_wp2_with fail
  refine (drawReadVar _ ao len cap cs hl HC7.out).mono ?_
  rintro e w8 ⟨rfl, hb8⟩
  have HC8 : Hid (CodeIs w8 w8.heap.size ao len cs) := HC7.out.on hb8
  have hB8 := hB7.trans (hb8.mono hB7.size)
  clear hb8 HC7 hB7
  go_wp2_with fail
  refine (impl_readVar (drv len cs) _ (by omega)).mono ?_
  rintro e w9 ⟨⟨k, hk, rfl⟩ | ⟨_, rfl⟩, rfl⟩
  · obtain ⟨f1, f2, f3, f4⟩ := hk
    have hz := vvS_le (drv len cs) k f2 0
    have j0 : ((k : Int) == 0) = false := beq_eq_false_iff_ne.2 (by omega)
    have hq := (var_eq (drv len cs) k f1 f2 f3).2 f4
    have g1 : (k : Int) ≤ ((drv len cs).size : Int) := by omega
    clear f4
    go_wp2_with fail
    refine (impl_var (vvS (drv len cs) 0 k) _ hz).mono ?_
    rintro e w9 ⟨rfl, hb9⟩
    have HC9 : Hid (CodeIs w9 w9.heap.size ao len cs) := HC8.out.on hb9
    have hB9 := hB8.trans (hb9.mono hB8.size)
    clear hb9
    go_wp2_with fail
    refine (drawReadVar _ ao len cap cs hl HC9.out).mono ?_
    rintro e wa ⟨rfl, hba⟩
    have hBa := hB9.trans (hba.mono hB9.size)
    go_wp2_with fail
    go_ret
    exact ⟨rfl, hBa⟩
  · go_wp2_with fail
    go_ret
    exact ⟨rfl, hB8⟩

set_option maxHeartbeats 4000000 in
set_option maxRecDepth 100000 in
theorem numbers_f (w : World) (ao : Option Addr) (len cap : Nat) (cs : Nat → Nat) (hl : len ≤ 1048576) (h : CodeIs w w.heap.size ao len cs) (hp : PowTab w) (hg : 1 < w.heap.size) (n : Int) (hn : numV len cs (newP len cs) = n) (r1 : 72057594037927936 ≤ n) :
    Calls Tryd.prog 3 #[.slice ao len cap] w fun e w' => e = .returned (.bool true) ∧ Below w.heap.size w w' := by
  have HC : Hid (CodeIs w w.heap.size ao len cs) := h
  have HP : Hid (PowTab w) := hp
  clear h hp
  have HN : Hid (numV len cs (newP len cs) = n) := hn
  have hbd := numV_bd len cs (newP len cs)
  rw [hn] at hbd
  obtain ⟨n1, n2⟩ := hbd
  clear hn
  have HT : Hid (((textV len cs 40 (newP len cs)).length : Int) ≤ 40) := textV_length len cs 40 (newP len cs) (by omega)
  have q0 : (len : Int) ≤ 1048576 := by omega
  obtain ⟨T, hT⟩ : ∃ T, textV len cs 40 (newP len cs) = T := ⟨_, rfl⟩
  have HTe : Hid (textV len cs 40 (newP len cs) = T) := hT
  have hTl : T.length ≤ 40 := by have := HT.out; rw [hT] at this; omega
  clear hT HT
  have hTz : (txt T).size ≤ 40 := by rw [txt_size]; exact hTl
  have hDz := drv_size len cs
  have HZd : Hid ((txt (decI n)).size ≤ 1048576) := by show _ ≤ _; rw [txt_size]; have := decI_length n; omega
  obtain ⟨N, hNN⟩ := Int.eq_ofNat_of_zero_le (show 0 ≤ n by omega)
  subst hNN
  have g1 : (0 : Int) ≤ (N : Int) := by omega
  have gd1 : decide ((0 : Int) ≤ (N : Int)) = true := decide_eq_true g1
  have g2 : ¬ ((N : Int) ≤ 562949953421311) := by omega
  have gd2 : decide ((N : Int) ≤ 562949953421311) = false := decide_eq_false g2
  have g3 : ¬ ((N : Int) < 0) := by omega
  have gd3 : decide ((N : Int) < 0) = false := decide_eq_false g3
  have g4 : (72057594037927936 : Int) ≤ (N : Int) := by omega
  have gd4 : decide ((72057594037927936 : Int) ≤ (N : Int)) = true := decide_eq_true g4
  have g5 : (-1000000000 : Int) < (N : Int) := by omega
  have gd5 : decide ((-1000000000 : Int) < (N : Int)) = true := decide_eq_true g5
  have g6 : ¬ ((N : Int) < 1000000000) := by omega
  have gd6 : decide ((N : Int) < 1000000000) = false := decide_eq_false g6
  have hEz : (txt ([] : List UInt8)).size ≤ 0 := Nat.le_refl _
  have hEe : (txt ([] : List UInt8)).toList.isEmpty = true := by rw [txt_empty]; rfl
  have HF : Hid (fixed N 7 = txt []) := by show fixed N 7 = _; rw [fixed, if_neg (by omega)]
  go_enter Tryd.func3, Tryd.ntmps3
  go_wp2_with fail
  refine (big_no _ ao len cap hl).mono ?_
  rintro e w0 ⟨rfl, rfl⟩
  go_wp2_with fail
  refine (drawVar _ ao len cap cs hl HC.out).mono ?_
  rintro e w1 ⟨rfl, hb1⟩
  have HC1 : Hid (CodeIs w1 w1.heap.size ao len cs) := HC.out.on hb1
  have hB1 := hb1
  clear hb1
  rw [HN.out]
  go_wp2_with fail
  refine (drawHex _ ao len cap cs hl HC1.out).mono ?_
  rintro e w2 ⟨rfl, hb2⟩
  have HC2 : Hid (CodeIs w2 w2.heap.size ao len cs) := HC1.out.on hb2
  have hB2 := hB1.trans (hb2.mono hB1.size)
  clear hb2 HC1 hB1
  rw [HTe.out]
  go_wp2_with fail
  refine (impl_var_no _ _ (by omega)).mono ?_
  rintro e w3 ⟨rfl, hb3⟩
  have HC3 : Hid (CodeIs w3 w3.heap.size ao len cs) := HC2.out.on hb3
  have hB3 := hB2.trans (hb3.mono hB2.size)
  clear hb3 HC2 hB2
  go_wp2_with fail
  rw [txt_cat]
  refine (readVar_weak _ _ (by rw [txt_size]; simp; omega)).mono ?_
  rintro e w4 ⟨⟨xa, xb, rfl⟩, rfl⟩
  go_wp2_with fail
  refine (impl_fixed N 7 _ (by omega) (by omega) (by omega)).mono ?_
  rintro e w4 ⟨rfl, hb4⟩
  rw [HF.out]
  have HC4 : Hid (CodeIs w4 w4.heap.size ao len cs) := HC3.out.on hb4
  have hB4 := hB3.trans (hb4.mono hB3.size)
  clear hb4 HC3 hB3
  go_wp2_with fail
  rw [txt_cat]
  refine (readFixed_weak _ _ (by rw [txt_size]; simp; omega)).mono ?_
  rintro e w5 ⟨⟨ya, yb, rfl⟩, rfl⟩
  go_wp2_with fail
  refine (impl_dec _ _ n1 n2 (HP.out.below hB4 hg)).mono ?_
  rintro e w5 ⟨rfl, hb5⟩
  have HC5 : Hid (CodeIs w5 w5.heap.size ao len cs) := HC4.out.on hb5
  have hB5 := hB4.trans (hb5.mono hB4.size)
  clear hb5 HC4 hB4
  go_wp2_with fail
  refine (readDec_dec_no _ _ (by omega) n1 n2 HZd.out).mono ?_
  rintro e w6 ⟨rfl, rfl⟩
  go_wp2_with fail
  refine (impl_hex (txt T) _ (by omega)).mono ?_
  rintro e w6 ⟨rfl, hb6⟩
  have HC6 : Hid (CodeIs w6 w6.heap.size ao len cs) := HC5.out.on hb6
  have hB6 := hB5.trans (hb6.mono hB5.size)
  clear hb6 HC5 hB5
  go_wp2_with fail
  refine (unhex_back (txt T) _ (by omega)).mono ?_
  rintro e w7 ⟨rfl, hb7⟩
  have HC7 : Hid (CodeIs w7 w7.heap.size ao len cs) := HC6.out.on hb7
  have hB7 := hB6.trans (hb7.mono hB6.size)
  clear hb7 HC6 hB6
  go_wp2_with fail
  refine (drawReadVar _ ao len cap cs hl HC7.out).mono ?_
  rintro e w8 ⟨rfl, hb8⟩
  have HC8 : Hid (CodeIs w8 w8.heap.size ao len cs) := HC7.out.on hb8
  have hB8 := hB7.trans (hb8.mono hB7.size)
  clear hb8 HC7 hB7
  go_wp2_with fail
  refine (impl_readVar (drv len cs) _ (by omega)).mono ?_
  rintro e w9 ⟨⟨k, hk, rfl⟩ | ⟨_, rfl⟩, rfl⟩
  · obtain ⟨f1, f2, f3, f4⟩ := hk
    have hz := vvS_le (drv len cs) k f2 0
    have j0 : ((k : Int) == 0) = false := beq_eq_false_iff_ne.2 (by omega)
    have hq := (var_eq (drv len cs) k f1 f2 f3).2 f4
    have g1 : (k : Int) ≤ ((drv len cs).size : Int) := by omega
    clear f4
    go_wp2_with fail
    refine (impl_var (vvS (drv len cs) 0 k) _ hz).mono ?_
    rintro e w9 ⟨rfl, hb9⟩
    have HC9 : Hid (CodeIs w9 w9.heap.size ao len cs) := HC8.out.on hb9
    have hB9 := hB8.trans (hb9.mono hB8.size)
    clear hb9
    go_wp2_with fail
    refine (drawReadVar _ ao len cap cs hl HC9.out).mono ?_
    rintro e wa ⟨rfl, hba⟩
    have hBa := hB9.trans (hba.mono hB9.size)
    go_wp2_with fail
    go_ret
    exact ⟨rfl, hBa⟩
  · go_wp2_with fail
    go_ret
    exact ⟨rfl, hB8⟩
set_option maxHeartbeats 400000 in
theorem law_big (w : World) (ao : Option Addr) (len cap : Nat) (hl : 1048576 < len) (h2 : len ≤ 9223372036854775807) :
    Calls Tryd.prog 3 #[.slice ao len cap] w fun e w' => e = .returned (.bool true) ∧ Below w.heap.size w w' := by
  go_enter Tryd.func3, Tryd.ntmps3
  go_wp2_with fail
  refine (big_yes _ ao len cap hl h2).mono ?_
  rintro e w0 ⟨rfl, rfl⟩
  go_wp2_with fail
  go_ret
  exact ⟨rfl, Below.refl _ _⟩
theorem law_fnNumbers (w : World) (ao : Option Addr) (len cap : Nat) (cs : Nat → Nat) (h : CodeIs w w.heap.size ao len cs) (hm : len ≤ 9223372036854775807) (hp : PowTab w) (hg : 1 < w.heap.size) :
    Calls Tryd.prog 3 #[.slice ao len cap] w fun e w' => e = .returned (.bool true) ∧ Below w.heap.size w w' := by
  by_cases hl : len ≤ 1048576
  · obtain ⟨n, hn⟩ : ∃ n, numV len cs (newP len cs) = n := ⟨_, rfl⟩
    by_cases a : n ≤ -1000000000
    · exact numbers_a w ao len cap cs hl h hp hg n hn a
    · by_cases b : n < 0
      · exact numbers_b w ao len cap cs hl h hp hg n hn (by omega) b
      · by_cases c : n < 1000000000
        · exact numbers_c w ao len cap cs hl h hp hg n hn (by omega) c
        · by_cases d : n ≤ 562949953421311
          · exact numbers_d w ao len cap cs hl h hp hg n hn (by omega) d
          · by_cases e : n < 72057594037927936
            · exact numbers_e w ao len cap cs hl h hp hg n hn (by omega) e
            · exact numbers_f w ao len cap cs hl h hp hg n hn (by omega)
  · exact law_big w ao len cap (by omega) hm

end Go.Proofs.YtaplbjobhlbcoabDoor
