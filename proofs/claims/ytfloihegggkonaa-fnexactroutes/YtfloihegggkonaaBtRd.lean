/-
  The numbers with whose Vars a text begins, as plain data; contracts of impl.readVars and spec.l7Vars.
-/
import Derived.Test.YtfloihegggkonaaRows
import Derived.Test.YtfloihegggkonaaNumR
import Derived.Test.YtfloihegggkonaaNmLaw
import Derived.Test.YtfloihegggkonaaBtAid
namespace Go.Proofs.Ytfloihegggkonaa
open Go.ChangeShapes Go.WideShapes Go.ChangeAt Go.RowKit Go.PlainAid
set_option linter.unusedVariables false

/-- The text s begins with the Vars of the k numbers l, in n bytes. -/
def Rd (s : ByteArray) : Nat → List Int → Nat → Prop
  | 0, l, n => l = [] ∧ n = 0
  | k + 1, l, n => ∃ l' n' m, Rd s k l' n' ∧ FindV (s.extract n' s.size) m ∧ l = l' ++ [(vvS (s.extract n' s.size) 0 m : Int)] ∧ n = n' + m
/-- It begins with less than k. -/
def RdNo (s : ByteArray) (k : Nat) : Prop := ∃ j l n, j < k ∧ Rd s j l n ∧ ∀ m, ¬ FindV (s.extract n s.size) m
theorem Rd.one {s : ByteArray} : ∀ {k : Nat} {l l' : List Int} {n n' : Nat}, Rd s k l n → Rd s k l' n' → l = l' ∧ n = n'
  | 0, _, _, _, _, h, h' => ⟨h.1.trans h'.1.symm, h.2.trans h'.2.symm⟩
  | k + 1, _, _, _, _, ⟨a, b, m, h1, h2, h3, h4⟩, ⟨a', b', m', h1', h2', h3', h4'⟩ => by
    obtain ⟨rfl, rfl⟩ := Rd.one h1 h1'
    have := h2.one h2'
    subst this
    exact ⟨h3.trans h3'.symm, h4.trans h4'.symm⟩
theorem Rd.before {s : ByteArray} : ∀ {k : Nat} {l : List Int} {n : Nat}, Rd s k l n → ∀ j, j < k → ∃ l' n' m, Rd s j l' n' ∧ FindV (s.extract n' s.size) m
  | 0, _, _, _, j, hj => by omega
  | k + 1, _, _, ⟨a, b, m, h1, h2, h3, h4⟩, j, hj => by
    by_cases e : j = k
    · subst e; exact ⟨a, b, m, h1, h2⟩
    · exact Rd.before h1 j (by omega)
theorem Rd.no {s : ByteArray} {k : Nat} {l : List Int} {n : Nat} (h : Rd s k l n) : ¬ RdNo s k := by
  rintro ⟨j, l', n', hj, h1, h2⟩
  obtain ⟨l2, n2, m, h3, h4⟩ := h.before j hj
  obtain ⟨rfl, rfl⟩ := h1.one h3
  exact h2 m h4
theorem Rd.length {s : ByteArray} : ∀ {k : Nat} {l : List Int} {n : Nat}, Rd s k l n → l.length = k
  | 0, _, _, h => by rw [h.1]; rfl
  | k + 1, _, _, ⟨a, b, m, h1, h2, h3, h4⟩ => by rw [h3, List.length_append, Rd.length h1]; rfl
theorem Rd.le {s : ByteArray} : ∀ {k : Nat} {l : List Int} {n : Nat}, Rd s k l n → k ≤ n ∧ n ≤ s.size
  | 0, _, _, h => by rw [h.2]; omega
  | k + 1, _, _, ⟨a, b, m, h1, h2, h3, h4⟩ => by
    have h5 := Rd.le h1
    obtain ⟨h6, h7, h8, _⟩ := h2
    rw [ByteArray.size_extract] at h8
    omega
theorem Rd.bound {s : ByteArray} : ∀ {k : Nat} {l : List Int} {n : Nat}, Rd s k l n → ∀ z ∈ l, 0 ≤ z ∧ z ≤ 562949953421311
  | 0, _, _, h, z, hz => by rw [h.1] at hz; cases hz
  | k + 1, _, _, ⟨a, b, m, h1, h2, h3, h4⟩, z, hz => by
    rw [h3] at hz
    rcases List.mem_append.1 hz with hz | hz
    · exact Rd.bound h1 z hz
    · simp at hz
      have := vvS_le (s.extract b s.size) m h2.2.1 0
      omega
theorem Rd.boundD {s : ByteArray} {k : Nat} {l : List Int} {n : Nat} (h : Rd s k l n) (j : Nat) : 0 ≤ l.getD j 0 ∧ l.getD j 0 ≤ 562949953421311 := by
  by_cases hj : j < l.length
  · refine h.bound _ ?_
    simp [List.getD, hj]
  · simp [List.getD, hj]

set_option maxHeartbeats 1000000 in
theorem implReadVars (s : ByteArray) (k0 : Nat) (w : World) (hs : s.size ≤ 1048576) (h1 : 1 ≤ k0) (h2 : k0 ≤ 60) :
    Calls Try.prog 30 #[.string s, .int .i64 (k0 : Int)] w fun e w' => ((∃ l n u, Rd s k0 l n ∧ e = .returned (.tuple #[u, .int .i64 (n : Int)]) ∧ Nums w' w.heap.size u l) ∨ (RdNo s k0 ∧ e = .returned (.tuple #[.slice none 0 0, .int .i64 0]))) ∧ Below w.heap.size w w' := by
  have q1 : (1 : Int) ≤ (k0 : Int) := by omega
  have q2 : (k0 : Int) ≤ 60 := by omega
  have HS : Hid (s.size ≤ 1048576) := hs
  have q3 : (s.size : Int) ≤ 1048576 := by omega
  clear hs
  go_enter Try.func30, Try.ntmps30
  go_wp2_with fail
  go_loopw [6, 7, 17] (fun v6 v7 v17 wr => ∃ (k n : Nat) (l : List Int), k ≤ k0 ∧ n ≤ s.size ∧ v17 = .int .i64 (k : Int) ∧ v7 = .int .i64 (n : Int) ∧ Hid (Rd s k l n) ∧ Nums wr w.heap.size v6 l ∧ Below w.heap.size w wr) (fun _ _ i _ => k0 - (intOf i).toNat)
  case atStart => exact ⟨0, 0, [], by omega, by omega, rfl, rfl, ⟨rfl, rfl⟩, Nums.nil _ _, Below.refl _ _⟩
  case round =>
    obtain ⟨k, n, l, hk, hns, rfl, rfl, HR, hN, hb⟩ := hrel
    have HN : Hid (Nums wr w.heap.size _ l) := hN
    obtain ⟨A, c, rfl, _, _⟩ := hN.shape
    have HB : Hid (Below w.heap.size w wr) := hb
    have hln := HR.out.length
    have HLN : Hid (l.length ≤ 2097152) := by unfold Hid; omega
    clear hN hb
    by_cases hlt : k < k0
    · have q4 : (k : Int) < (k0 : Int) := by omega
      have q5 : (n : Int) ≤ (s.size : Int) := by omega
      have hsx : (s.extract n s.size).size ≤ 1048576 := by rw [ByteArray.size_extract]; have := HS.out; omega
      have c := fun wx => impl_readVar (s.extract n s.size) wx hsx
      have HX : Hid (∀ m, FindV (s.extract n s.size) m → m ≤ s.size - n) := fun m hm => by have := hm.2.2.1; rw [ByteArray.size_extract] at this; omega
      clear hsx hln
      go_wp2_with fail
      refine (c _).mono ?_
      generalize hsx' : s.extract n s.size = sx at *
      have HSX : Hid (s.extract n s.size = sx) := hsx'
      clear hsx'
      rintro e w1 ⟨hR, rfl⟩
      rcases hR with ⟨m, hm, rfl⟩ | ⟨hno, rfl⟩
      · have hmx := HX.out m hm
        have hm1 := hm.1
        have hm7 := hm.2.1
        have q6 : (m : Int) ≤ 7 := by omega
        have q7 : (1 : Int) ≤ (m : Int) := by omega
        have q8 : ¬ (m : Int) = 0 := by omega
        have q9 : ¬ m = 0 := by omega
        have HM : Hid (FindV sx m) := hm
        have HZ : Hid (w.heap.size ≤ wr.heap.size) := HB.out.size
        generalize hz : (vvS sx 0 m : Int) = z at *
        have HR2 : Hid (Rd s (k + 1) (l ++ [z]) (n + m)) := by
          refine ⟨l, n, m, HR.out, ?_, ?_, rfl⟩
          · rw [HSX.out]; exact HM.out
          · rw [HSX.out, hz]
        clear hz hm
        go_wp2_with (at_builtin; refine wpList_append_num rfl (.tmp 28) (.tmp 30) 52 rfl Try.underlying52 Try.infoInt w.heap.size _ l rfl HN.out z rfl HLN.out HZ.out ?_; intro v' w1 hN1 hb1 hk1)
        go_roundw
        case rel => exact ⟨k + 1, n + m, l ++ [z], by omega, by omega, by go_num, by go_num, HR2, hN1, HB.out.trans hb1⟩
        case measure => simp [intOf]; omega
      · have HNO : Hid (RdNo s k0) := ⟨k, l, n, hlt, HR.out, by rw [HSX.out]; exact hno⟩
        clear hno
        go_wp2_with fail
        go_ret2
        exact ⟨.inr ⟨HNO.out, rfl⟩, HB.out⟩
    · obtain rfl : k = k0 := by omega
      go_wp2_with fail
      go_ret2
      exact ⟨.inl ⟨l, n, _, HR.out, rfl, HN.out⟩, HB.out⟩

set_option maxHeartbeats 1000000 in
theorem implReadVars_no (s : ByteArray) (n : Int) (w : World) (h : n < 1 ∨ 60 < n) : Calls Try.prog 30 #[.string s, .int .i64 n] w fun e w' => e = .returned (.tuple #[.slice none 0 0, .int .i64 0]) ∧ w = w' := by
  by_cases h1 : n < 1
  · go_enter Try.func30, Try.ntmps30
    go_wp2_with fail
    go_ret2
    exact ⟨rfl, rfl⟩
  · have h2 : 60 < n := by omega
    clear h
    go_enter Try.func30, Try.ntmps30
    go_wp2_with fail
    go_ret2
    exact ⟨rfl, rfl⟩

set_option maxHeartbeats 1000000 in
theorem specReadVars (s : ByteArray) (k0 : Nat) (w : World) (hs : s.size ≤ 1048576) (h1 : 1 ≤ k0) (h2 : k0 ≤ 60) :
    Calls Try.prog 28 #[.string s, .int .i64 (k0 : Int)] w fun e w' => ((∃ l n u, Rd s k0 l n ∧ e = .returned (.tuple #[u, .int .i64 (n : Int)]) ∧ Nums w' w.heap.size u l) ∨ (RdNo s k0 ∧ ∃ u, e = .returned (.tuple #[u, .int .i64 (-1)]))) ∧ Below w.heap.size w w' := by
  have q1 : (1 : Int) ≤ (k0 : Int) := by omega
  have q2 : (k0 : Int) ≤ 60 := by omega
  have HS : Hid (s.size ≤ 1048576) := hs
  have q3 : (s.size : Int) ≤ 1048576 := by omega
  clear hs
  go_enter Try.func28, Try.ntmps28
  go_wp2_with fail
  go_loopw [6, 7, 8] (fun v6 v7 v8 wr => ∃ (k n : Nat) (l : List Int), k ≤ k0 ∧ n ≤ s.size ∧ v8 = .int .i64 (k : Int) ∧ v7 = .int .i64 (n : Int) ∧ Hid (Rd s k l n) ∧ Nums wr w.heap.size v6 l ∧ Below w.heap.size w wr) (fun _ _ i _ => k0 - (intOf i).toNat)
  case atStart => exact ⟨0, 0, [], by omega, by omega, rfl, rfl, ⟨rfl, rfl⟩, Nums.empty _ _ (Nat.le_refl _), (Below.refl _ _).alloc (Nat.le_refl _) _⟩
  case round =>
    obtain ⟨k, n, l, hk, hns, rfl, rfl, HR, hN, hb⟩ := hrel
    have HN : Hid (Nums wr w.heap.size _ l) := hN
    obtain ⟨A, c, rfl, _, _⟩ := hN.shape
    have HB : Hid (Below w.heap.size w wr) := hb
    have hln := HR.out.length
    have HLN : Hid (l.length ≤ 2097152) := by unfold Hid; omega
    clear hN hb
    by_cases hlt : k < k0
    · have q4 : (k : Int) < (k0 : Int) := by omega
      have q5 : (n : Int) ≤ (s.size : Int) := by omega
      have hsx : (s.extract n s.size).size ≤ 1048576 := by rw [ByteArray.size_extract]; have := HS.out; omega
      have c := fun wx => spec_readVar (s.extract n s.size) wx hsx
      have HX : Hid (∀ m, FindV (s.extract n s.size) m → m ≤ s.size - n) := fun m hm => by have := hm.2.2.1; rw [ByteArray.size_extract] at this; omega
      clear hsx hln
      go_wp2_with fail
      refine (c _).mono ?_
      generalize hsx' : s.extract n s.size = sx at *
      have HSX : Hid (s.extract n s.size = sx) := hsx'
      clear hsx'
      rintro e w1 ⟨hR, hb1⟩
      have HB1 : Hid (Below w.heap.size w w1) := HB.out.trans (hb1.mono HB.out.size)
      have HN1 : Hid (Nums w1 w.heap.size (.slice A l.length _) l) := HN.out.on hb1
      clear hb1
      rcases hR with ⟨m, hm, rfl⟩ | ⟨hno, rfl⟩
      · have hmx := HX.out m hm
        have hm1 := hm.1
        have hm7 := hm.2.1
        have q6 : (m : Int) ≤ 7 := by omega
        have q7 : (1 : Int) ≤ (m : Int) := by omega
        have q8 : ¬ (m : Int) = 0 := by omega
        have q9 : ¬ m = 0 := by omega
        have HM : Hid (FindV sx m) := hm
        have HZ : Hid (w.heap.size ≤ w1.heap.size) := HB1.out.size
        generalize hz : (vvS sx 0 m : Int) = z at *
        have HR2 : Hid (Rd s (k + 1) (l ++ [z]) (n + m)) := by
          refine ⟨l, n, m, HR.out, ?_, ?_, rfl⟩
          · rw [HSX.out]; exact HM.out
          · rw [HSX.out, hz]
        clear hz hm
        go_wp2_with (at_builtin; refine wpList_append_num rfl (.tmp 27) (.tmp 29) 52 rfl Try.underlying52 Try.infoInt w.heap.size _ l rfl HN1.out z rfl HLN.out HZ.out ?_; intro v' w2 hN2 hb2 hk2)
        go_roundw
        case rel => exact ⟨k + 1, n + m, l ++ [z], by omega, by omega, by go_num, by go_num, HR2, hN2, HB1.out.trans hb2⟩
        case measure => simp [intOf]; omega
      · have HNO : Hid (RdNo s k0) := ⟨k, l, n, hlt, HR.out, by rw [HSX.out]; exact hno⟩
        clear hno
        go_wp2_with fail
        go_ret2
        exact ⟨.inr ⟨HNO.out, _, rfl⟩, HB1.out⟩
    · obtain rfl : k = k0 := by omega
      go_wp2_with fail
      go_ret2
      exact ⟨.inl ⟨l, n, _, HR.out, rfl, HN.out⟩, HB.out⟩
end Go.Proofs.Ytfloihegggkonaa
