/-
  What is read as an answer; contracts of impl.ReadAnswer and what it goes by.
-/
import Derived.Test.YtaaefceknjhloaaRows
import Derived.Test.YtaaefceknjhloaaAwAid
import Derived.Test.YtaaefceknjhloaaCmPart
import Derived.Test.YtaaefceknjhloaaClone
namespace Go.Proofs.Ytaaefceknjhloaa
open Go.ChangeShapes Go.WideShapes Go.ChangeAt Go.RowKit Go.PlainAid
set_option linter.unusedVariables false

/-- The text of a right answer. -/
def ansT (x : Ans) : ByteArray := if ansOk x = true then txt (vF 6 x.code.toNat) ++ txt (vF 6 x.index.toNat) ++ txt (vF 6 x.mark.toNat) ++ x.data else ⟨#[]⟩
/-- The text is read as this answer. -/
def AnsRd (s : ByteArray) (x : Ans) : Prop := ∃ c i m n, RdF s 0 3 [c, i, m] n ∧ x = ⟨c, i, m, lf s n⟩ ∧ ansOk x = true
theorem AnsRd.one {s : ByteArray} {x y : Ans} (h : AnsRd s x) (h' : AnsRd s y) : x = y := by
  obtain ⟨c, i, m, n, h1, rfl, _⟩ := h
  obtain ⟨c', i', m', n', h1', rfl, _⟩ := h'
  obtain ⟨e, rfl⟩ := h1.one h1'
  simp only [List.cons.injEq, and_true] at e
  obtain ⟨rfl, rfl, rfl⟩ := e
  rfl
/-- What ReadAnswer answers. -/
def AnsA (s : ByteArray) (e : Ending) : Prop := (∃ x, AnsRd s x ∧ e = .returned (.tuple #[vAns x, .bool true])) ∨ ((∀ x, ¬ AnsRd s x) ∧ e = .returned (.tuple #[vAns ⟨0, 0, 0, ⟨#[]⟩⟩, .bool false]))
theorem AnsA.one {s : ByteArray} {e e' : Ending} (h : AnsA s e) (h' : AnsA s e') : e = e' := by
  rcases h with ⟨x, hx, rfl⟩ | ⟨hn, rfl⟩ <;> rcases h' with ⟨y, hy, rfl⟩ | ⟨hn', rfl⟩
  · rw [hx.one hy]
  · exact absurd hx (hn' x)
  · exact absurd hy (hn y)
  · rfl
theorem AnsA.form {s : ByteArray} {e : Ending} (h : AnsA s e) : ∃ x b, e = .returned (.tuple #[vAns x, .bool b]) := by
  rcases h with ⟨x, hx, rfl⟩ | ⟨hn, rfl⟩
  · exact ⟨_, _, rfl⟩
  · exact ⟨_, _, rfl⟩
theorem below_c2 (w : World) (a b : Obj) : Below w.heap.size w ((w.alloc a).alloc b) := ((Below.refl _ w).alloc (Nat.le_refl _) a).alloc (by simp) b

set_option maxHeartbeats 400000 in
theorem copyAns (x : Ans) (w : World) (hd : x.data.size ≤ 1048576) : Calls Try.prog 26 #[vAns x] w fun e w' => e = .returned (vAns x) ∧ Below w.heap.size w w' := by
  obtain ⟨c, i, m, d⟩ := x
  unfold vAns
  simp only at hd ⊢
  have c1 := fun wx => clone d wx (by omega)
  clear hd
  have hb0 := below_c2 w (.cells #[.int .i64 c, .int .i64 i, .int .i64 m, .string d] 26) (.cells #[.int .i64 0, .int .i64 0, .int .i64 0, .string ⟨#[]⟩] 26)
  have k0 := (Blk.new w #[.int .i64 c, .int .i64 i, .int .i64 m, .string d] 26).alloc (.cells #[.int .i64 0, .int .i64 0, .int .i64 0, .string ⟨#[]⟩] 26)
  have k1 := Blk.new (w.alloc (.cells #[.int .i64 c, .int .i64 i, .int .i64 m, .string d] 26)) #[.int .i64 0, .int .i64 0, .int .i64 0, .string ⟨#[]⟩] 26
  rw [World.size_alloc] at k1
  go_enter Try.func26, Try.ntmps26
  go_wp2_with fail
  generalize (w.alloc (.cells #[.int .i64 c, .int .i64 i, .int .i64 m, .string d] 26)).alloc (.cells #[.int .i64 0, .int .i64 0, .int .i64 0, .string ⟨#[]⟩] 26) = X at *
  refine (c1 _).mono ?_
  rintro e w1 ⟨rfl, hb1⟩
  have m0 := k0.on hb1 k0.lt
  have m1 := k1.on hb1 k1.lt
  have B1 : Hid (Below w.heap.size w (w1.setCell ⟨w.heap.size, 3, none⟩ (.string d))) := (hb0.trans (hb1.mono hb0.size)).setCell (Nat.le_refl _) _
  have n0 : Hid (Blk (w1.setCell ⟨w.heap.size, 3, none⟩ (.string d)) w.heap.size #[.int .i64 c, .int .i64 i, .int .i64 m, .string d] 26) := m0.set 3 (.string d)
  have n1 : Hid (Blk (w1.setCell ⟨w.heap.size, 3, none⟩ (.string d)) (w.heap.size + 1) #[.int .i64 0, .int .i64 0, .int .i64 0, .string ⟨#[]⟩] 26) := m1.other (by omega) 3 _
  have f3 := m0.free 3
  have e3 : w1.cell? ⟨w.heap.size, 3, none⟩ = some (.string d) := m0.cell 3 _ rfl
  clear hb0 hb1 c1 k0 k1 m0 m1
  obtain ⟨Y, hY⟩ : ∃ Y, Y = w1.setCell ⟨w.heap.size, 3, none⟩ (.string d) := ⟨_, rfl⟩
  rw [← hY] at B1 n0 n1
  obtain ⟨c0, c1, c2, c3⟩ := cellsC4 n0.out
  have R := resC4 (x0 := .int .i64 c) (x1 := .int .i64 i) (x2 := .int .i64 m) (x3 := .string d) n1.out
  obtain ⟨⟨r0, s0⟩, ⟨r1, s1⟩, ⟨r2, s2⟩, ⟨r3, s3⟩, z0, z1, z2, z3⟩ := R
  have B2 : Hid (Below w.heap.size w ((((Y.setCell ⟨w.heap.size + 1, 0, none⟩ (.int .i64 c)).setCell ⟨w.heap.size + 1, 1, none⟩ (.int .i64 i)).setCell ⟨w.heap.size + 1, 2, none⟩ (.int .i64 m)).setCell ⟨w.heap.size + 1, 3, none⟩ (.string d))) := belowC4 B1.out (by omega) _ _ _ _
  rw [hY] at c0 c1 c2 c3 r0 r1 r2 r3 s0 s1 s2 s3 z0 z1 z2 z3 B2
  clear hY n0 n1 B1
  go_wp2_with fail
  exact bodyPost_ret (v := .agg #[.int .i64 c, .int .i64 i, .int .i64 m, .string d]) (by simp [results, go_sem, z0, z1, z2, z3]) rfl ⟨rfl, B2.out⟩
theorem Hid.mk {p : Prop} (h : p) : Hid p := h
set_option maxHeartbeats 2000000 in
theorem takeAns (g : Nat) (s : ByteArray) (w : World) (hp : Prt w g s) (hs : s.size ≤ 1048576) :
    Calls Try.prog 18 #[.pointer (some ⟨g, 0, none⟩)] w fun e w' => ((∃ x, AnsRd s x ∧ e = .returned (vAns x)) ∨ ((∀ x, ¬ AnsRd s x) ∧ e = .panicked lackP)) ∧ PKeep g w w' := by
  have HS : Hid (s.size ≤ 1048576) := hs
  have HG : Hid (g < w.heap.size) := hp.lt
  have B0 : Hid (Blk (w.alloc (.cells #[.int .i64 0, .int .i64 0, .int .i64 0, .string ⟨#[]⟩] 26)) w.heap.size #[.int .i64 0, .int .i64 0, .int .i64 0, .string ⟨#[]⟩] 26) := Blk.new _ _ _
  have K0 : Hid (PKeep g w (w.alloc (.cells #[.int .i64 0, .int .i64 0, .int .i64 0, .string ⟨#[]⟩] 26))) := (PKeep.refl g w).alloc hp.lt _
  obtain ⟨n0, hn0⟩ : ∃ n0, n0 = 0 := ⟨0, rfl⟩
  have P0 : Hid (Prt (w.alloc (.cells #[.int .i64 0, .int .i64 0, .int .i64 0, .string ⟨#[]⟩] 26)) g (lf s n0)) := by subst hn0; rw [lf_zero]; exact hp.alloc _
  have R0 : Hid (RdF s 0 0 [] n0) := ⟨rfl, hn0⟩
  clear hp hs hn0
  go_enter Try.func18, Try.ntmps18
  go_wp2_with fail
  generalize w.alloc (.cells #[.int .i64 0, .int .i64 0, .int .i64 0, .string ⟨#[]⟩] 26) = W at *
  refine (takeVarF g s n0 _ P0.out HS.out).mono ?_
  rintro e w1 ⟨hR, hk⟩
  have K1 : Hid (PKeep g w w1) := K0.out.trans hk
  have B1 := Hid.mk (hk.blk B0.out (by have := HG.out; omega))
  clear hk B0
  rcases hR with ⟨k0, hf, rfl, hp⟩ | ⟨hno, rfl⟩
  rotate_left
  · have HN : Hid (∀ x, ¬ AnsRd s x) := by
      rintro x ⟨c, i, m, n, h1, _⟩
      exact R0.out.no (by omega) hno _ _ h1
    clear hno
    go_wp2_with fail
    exact ⟨rfl, .inr ⟨HN.out, rfl⟩, K1.out⟩
  have P1 : Hid (Prt w1 g (lf s (n0 + k0))) := hp
  have R1 := Hid.mk (R0.out.snoc hf)
  generalize n0 + k0 = n1 at P1 R1
  generalize (vvS (lf s n0) 0 k0 : Int) = z0 at *
  clear hf hp P0 K0
  go_wp2_with fail
  refine (takeVarF g s n1 _ P1.out HS.out).mono ?_
  rintro e w2 ⟨hR, hk⟩
  have K2 : Hid (PKeep g w w2) := K1.out.trans hk
  have B2 := Hid.mk (hk.blk B1.out (by have := HG.out; omega))
  clear hk B1
  rcases hR with ⟨k1, hf, rfl, hp⟩ | ⟨hno, rfl⟩
  rotate_left
  · have HN : Hid (∀ x, ¬ AnsRd s x) := by
      rintro x ⟨c, i, m, n, h1, _⟩
      exact R1.out.no (by omega) hno _ _ h1
    clear hno
    go_wp2_with fail
    exact ⟨rfl, .inr ⟨HN.out, rfl⟩, K2.out⟩
  have P2 : Hid (Prt w2 g (lf s (n1 + k1))) := hp
  have R2 := Hid.mk (R1.out.snoc hf)
  generalize n1 + k1 = n2 at P2 R2
  generalize (vvS (lf s n1) 0 k1 : Int) = z1 at *
  clear hf hp P1 K1
  go_wp2_with fail
  refine (takeVarF g s n2 _ P2.out HS.out).mono ?_
  rintro e w3 ⟨hR, hk⟩
  have K3 : Hid (PKeep g w w3) := K2.out.trans hk
  have B3 := Hid.mk (hk.blk B2.out (by have := HG.out; omega))
  clear hk B2
  rcases hR with ⟨k2, hf, rfl, hp⟩ | ⟨hno, rfl⟩
  rotate_left
  · have HN : Hid (∀ x, ¬ AnsRd s x) := by
      rintro x ⟨c, i, m, n, h1, _⟩
      exact R2.out.no (by omega) hno _ _ h1
    clear hno
    go_wp2_with fail
    exact ⟨rfl, .inr ⟨HN.out, rfl⟩, K3.out⟩
  have P3 : Hid (Prt w3 g (lf s (n2 + k2))) := hp
  have R3 := Hid.mk (R2.out.snoc hf)
  generalize n2 + k2 = n3 at P3 R3
  generalize (vvS (lf s n2) 0 k2 : Int) = z2 at *
  clear hf hp P2 K2
  go_wp2_with fail
  refine (takeRestF g s n3 _ P3.out HS.out).mono ?_
  rintro e w4 ⟨rfl, hk⟩
  have K4 : Hid (PKeep g w w4) := K3.out.trans hk
  have B4 := Hid.mk (hk.blk B3.out (by have := HG.out; omega))
  have HL : Hid ((lf s n3).size ≤ 1048576) := by unfold Hid; rw [lf_size]; have := HS.out; omega
  generalize hd : lf s n3 = d at HL
  have HE : Hid (lf s n3 = d) := hd
  clear hk B3 K3 P3 hd
  obtain ⟨c0, c1, c2, c3⟩ := cellsC4 (Blk.new w4 #[.int .i64 z0, .int .i64 z1, .int .i64 z2, .string d] 26)
  have hsz : w.heap.size ≤ w4.heap.size := K4.out.1.size
  have K5 : Hid (PKeep g w (w4.alloc (.cells #[.int .i64 z0, .int .i64 z1, .int .i64 z2, .string d] 26))) := K4.out.alloc HG.out _
  have B5 := Hid.mk (B4.out.alloc (.cells #[.int .i64 z0, .int .i64 z1, .int .i64 z2, .string d] 26))
  have A5 := Hid.mk (Blk.new w4 #[.int .i64 z0, .int .i64 z1, .int .i64 z2, .string d] 26)
  have HZ : Hid (w.heap.size ≤ w4.heap.size) := hsz
  clear K4 B4 hsz
  go_wp2_with fail
  generalize w4.alloc (.cells #[.int .i64 z0, .int .i64 z1, .int .i64 z2, .string d] 26) = V at *
  refine (implAnswerOk ⟨z0, z1, z2, d⟩ _ (by have := HL.out; simp only [maxLen]; omega)).mono ?_
  rintro e w5 ⟨rfl, hb⟩
  have K6 : Hid (PKeep g w w5) := K5.out.below HG.out hb
  have B6 := Hid.mk (B5.out.on hb B5.out.lt)
  have A6 := Hid.mk (A5.out.on hb A5.out.lt)
  clear hb c0 c1 c2 c3 K5 B5 A5
  cases ho : ansOk ⟨z0, z1, z2, d⟩
  · have HN : Hid (∀ x, ¬ AnsRd s x) := by
      rintro x ⟨c, i, m, n, h1, rfl, h3⟩
      obtain ⟨e, rfl⟩ := h1.one R3.out
      simp only [List.nil_append, List.cons_append, List.cons.injEq, and_true] at e
      obtain ⟨rfl, rfl, rfl⟩ := e
      rw [HE.out, ho] at h3
      cases h3
    clear ho
    go_wp2_with fail
    refine (need_no _).mono ?_
    rintro e w6 ⟨rfl, rfl⟩
    go_wp2_with fail
    exact ⟨rfl, .inr ⟨HN.out, rfl⟩, K6.out⟩
  have HX : Hid (AnsRd s ⟨z0, z1, z2, d⟩) := ⟨z0, z1, z2, n3, R3.out, by rw [HE.out], ho⟩
  clear ho
  go_wp2_with fail
  refine (need_yes _).mono ?_
  rintro e w6 ⟨rfl, rfl⟩
  obtain ⟨c0, c1, c2, c3⟩ := cellsC4 A6.out
  go_wp2_with fail
  refine (copyAns ⟨z0, z1, z2, d⟩ _ HL.out).mono ?_
  rintro e w6 ⟨rfl, hb⟩
  have K7 : Hid (PKeep g w w6) := K6.out.below HG.out hb
  have B7 := Hid.mk (B6.out.on hb B6.out.lt)
  clear hb c0 c1 c2 c3 K6 B6 A6
  unfold vAns
  obtain ⟨⟨r0, s0⟩, ⟨r1, s1⟩, ⟨r2, s2⟩, ⟨r3, s3⟩, y0, y1, y2, y3⟩ := resC4 (x0 := .int .i64 z0) (x1 := .int .i64 z1) (x2 := .int .i64 z2) (x3 := .string d) B7.out
  go_wp2_with fail
  have hgs := Nat.le_of_lt HG.out
  exact bodyPost_ret (v := .agg #[.int .i64 z0, .int .i64 z1, .int .i64 z2, .string d]) (by simp [results, go_sem, y0, y1, y2, y3]) rfl ⟨.inl ⟨_, HX.out, rfl⟩, (((K7.out.setNew (Nat.le_refl _) hgs _ _).setNew (Nat.le_refl _) hgs _ _).setNew (Nat.le_refl _) hgs _ _).setNew (Nat.le_refl _) hgs _ _⟩
end Go.Proofs.Ytaaefceknjhloaa
