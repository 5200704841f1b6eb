/-
  Blocks as plain data: what ShowBlock makes of points, and that it is read as them, no other (no program in sight, no condition).
-/
import Derived.Test.YthgiekeiljflaaaDoorPtAid
import Derived.Test.YthgiekeiljflaaaDoorBtMath
import Derived.Test.YthgiekeiljflaaaDoorFrAid
import Derived.Test.YthgiekeiljflaaaDoorNumR
namespace Go.Proofs.YthgiekeiljflaaaDoor
open Go.RowKit Go.PlainAid

/-- Times and values of points. -/
def ts (l : List Pnt) : List Int := l.map fun p => p.t
def vs (l : List Pnt) : List Int := l.map fun p => p.v
theorem ts_length (l : List Pnt) : (ts l).length = l.length := by simp [ts]
theorem vs_length (l : List Pnt) : (vs l).length = l.length := by simp [vs]
theorem ts_get (l : List Pnt) (j : Nat) (h : j < l.length) : (ts l).getD j 0 = tAt l j := by
  rw [tAt, ← getD_at l j h]
  simp [ts, List.getD, h]
theorem vs_get (l : List Pnt) (j : Nat) (h : j < l.length) : (vs l).getD j 0 = vAt l j := by
  rw [vAt, ← getD_at l j h]
  simp [vs, List.getD, h]
theorem rows_of_ok {l : List Pnt} (h : POk l) (h1 : 1 ≤ l.length) : TOk (ts l) ∧ VOk (vs l) := by
  refine ⟨⟨by rw [ts_length]; exact h1, by rw [ts_length]; exact h.1, fun j hj => ?_⟩, by rw [vs_length]; exact h1, by rw [vs_length]; exact h.1, fun j hj => ?_⟩
  · rw [ts_length] at hj
    rw [ts_get l j hj]
    refine ⟨(h.2 j hj).1.1, fun h0 => ?_⟩
    rw [ts_get l (j - 1) (by omega)]
    exact (h.2 j hj).2 h0
  · rw [vs_length] at hj
    rw [vs_get l j hj]
    exact (h.2 j hj).1.2
theorem ok_of_rows {l : List Pnt} (h : TOk (ts l)) (h' : VOk (vs l)) : POk l := by
  refine ⟨by have := h.2.1; rwa [ts_length] at this, fun j hj => ?_⟩
  have h1 := h.2.2 j (by rw [ts_length]; exact hj)
  have h2 := h'.2.2 j (by rw [vs_length]; exact hj)
  rw [ts_get l j hj] at h1
  rw [vs_get l j hj] at h2
  refine ⟨⟨h1.1, h2⟩, fun h0 => ?_⟩
  have := h1.2 h0
  rwa [ts_get l (j - 1) (by omega)] at this
/-- Points of times and values. -/
def zipP (t v : List Int) : List Pnt := List.zipWith Pnt.mk t v
theorem zipP_length (t v : List Int) : (zipP t v).length = min t.length v.length := by simp [zipP]
theorem zipP_rows : ∀ l : List Pnt, zipP (ts l) (vs l) = l
  | [] => rfl
  | p :: l => by
    have := zipP_rows l
    simp only [zipP, ts, vs, List.map_cons, List.zipWith_cons_cons] at this ⊢
    rw [this]
theorem ts_zip : ∀ (t v : List Int), t.length = v.length → ts (zipP t v) = t ∧ vs (zipP t v) = v
  | [], [], _ => ⟨rfl, rfl⟩
  | [], _ :: _, h => by simp at h
  | _ :: _, [], h => by simp at h
  | x :: t, y :: v, h => by
    have ih := ts_zip t v (by simpa using h)
    simp only [zipP, ts, vs, List.zipWith_cons_cons, List.map_cons] at ih ⊢
    rw [ih.1, ih.2]
    exact ⟨rfl, rfl⟩
theorem zipP_get (t v : List Int) (k : Nat) (h1 : k < t.length) (h2 : k < v.length) : (zipP t v).take (k + 1) = (zipP t v).take k ++ [⟨t.getD k 0, v.getD k 0⟩] := by
  have hk : k < (zipP t v).length := by rw [zipP_length]; omega
  rw [List.take_succ_eq_append_getElem hk]
  congr 2
  simp [zipP, List.getD, h1, h2]
/-- What a block's body is of. -/
def bodyB (l : List Pnt) : List UInt8 := vF 6 l.length ++ (cat (tPiece (ts l)) l.length ++ cat (vPiece (vs l)) l.length)
/-- What ShowBlock answers. -/
def showB (l : List Pnt) : ByteArray := if 1 ≤ l.length ∧ POk l then frame (txt (vF 6 l.length) ++ showT (ts l) ++ showV (vs l)) else txt []
theorem body_is {l : List Pnt} (h : POk l) (h1 : 1 ≤ l.length) : txt (vF 6 l.length) ++ showT (ts l) ++ showV (vs l) = txt (bodyB l) := by
  obtain ⟨ht, hv⟩ := rows_of_ok h h1
  unfold showT showV bodyB
  rw [if_pos ht, if_pos hv, ts_length, vs_length, txt_cat, txt_cat, List.append_assoc]
theorem bodyB_size {l : List Pnt} (h : POk l) : 1 ≤ (bodyB l).length ∧ (bodyB l).length ≤ 847 := by
  have h1 := vF_pos 6 l.length
  have h2 := vF_length 6 l.length
  have h3 := cat_length (tPiece (ts l)) (tPiece_length (ts l)) l.length
  have h4 := cat_length (vPiece (vs l)) (vPiece_length (vs l)) l.length
  have := h.1
  unfold bodyB
  simp only [List.length_append]
  omega
/-- The text is what ShowBlock makes of right points, one at least. -/
def Good (s : ByteArray) (l : List Pnt) : Prop := 1 ≤ l.length ∧ POk l ∧ showB l = s
theorem Good.frame {s : ByteArray} {l : List Pnt} (h : Good s l) : s = frameOf (txt (bodyB l)) := by
  obtain ⟨h1, h2, rfl⟩ := h
  have hb := bodyB_size h2
  rw [showB, if_pos ⟨h1, h2⟩, body_is h2 h1, Go.Proofs.YthgiekeiljflaaaDoor.frame, if_neg (by rw [txt_size]; omega)]
theorem Good.read {s : ByteArray} {l : List Pnt} (h : Good s l) : code s = 0 ∧ 8 + rdv s 4 = s.size ∧ bodyOf s = txt (bodyB l) := by
  have hf := h.frame
  have hb := bodyB_size h.2.1
  have e : s = frameOf (txt (bodyB l)) ++ ByteArray.empty := by rw [ByteArray.append_empty]; exact hf
  have hz : (txt (bodyB l)).size ≤ 2000 := by rw [txt_size]; omega
  refine ⟨by rw [e]; exact code_frameOf _ _ (by rw [txt_size]; omega) hz, ?_, by rw [e]; exact bodyOf_frameOf _ _ hz⟩
  have h4 : rdv s 4 = (txt (bodyB l)).size := by rw [e]; exact rdv_frameOf _ _ hz
  rw [h4, hf, frameOf_size]
/-- What ReadVar answers. -/
def RdV (s : ByteArray) (n : Int) (k : Nat) : Prop := (FindV s k ∧ n = (vvS s 0 k : Int)) ∨ ((∀ j, ¬ FindV s j) ∧ n = 0 ∧ k = 0)
theorem ReadV.rd {s : ByteArray} {e : Ending} (h : ReadV s e) : ∃ n k, RdV s n k ∧ e = .returned (.tuple #[.int .i64 n, .int .i64 (k : Int)]) := by
  rcases h with ⟨k, h1, h2⟩ | ⟨h1, h2⟩
  · exact ⟨_, k, .inl ⟨h1, rfl⟩, h2⟩
  · exact ⟨0, 0, .inr ⟨h1, rfl, rfl⟩, h2⟩
theorem RdV.one {s : ByteArray} {n n' : Int} {k k' : Nat} (h : RdV s n k) (h' : RdV s n' k') : n = n' ∧ k = k' := by
  rcases h with ⟨h1, h2⟩ | ⟨h1, h2, h3⟩ <;> rcases h' with ⟨h1', h2'⟩ | ⟨h1', h2', h3'⟩
  · obtain rfl := h1.one h1'
    exact ⟨h2.trans h2'.symm, rfl⟩
  · exact absurd h1 (h1' k)
  · exact absurd h1' (h1 k')
  · exact ⟨h2.trans h2'.symm, h3.trans h3'.symm⟩
theorem RdV.le {s : ByteArray} {n : Int} {k : Nat} (h : RdV s n k) : k ≤ s.size ∧ k ≤ 7 ∧ 0 ≤ n := by
  rcases h with ⟨⟨_, h2, h3, _⟩, h4⟩ | ⟨_, h2, h3⟩
  · exact ⟨h3, h2, by omega⟩
  · omega
/-- The body that is read: of a right frame, or nothing. -/
def bodyR (s : ByteArray) : ByteArray := if code s = 0 then bodyOf s else ⟨#[]⟩
theorem bodyR_size (s : ByteArray) : (bodyR s).size ≤ 2000 := by
  unfold bodyR
  split
  · rename_i h
    obtain ⟨_, _, h2, h8, _⟩ := (code_zero s).1 h
    rw [bodyOf_size s h8]
    exact h2
  · exact Nat.zero_le _
/-- What is read step by step. -/
structure Steps (s : ByteArray) (n : Int) (k : Nat) (t : List Int) (a : Nat) (v : List Int) (b : Nat) : Prop where
  rn : RdV (bodyR s) n k
  rt : RdAns showT rowT ((bodyR s).extract k (bodyR s).size) n t a
  rv : RdAns showV rowV ((bodyR s).extract (k + a) (bodyR s).size) n v b
theorem Good.steps {s : ByteArray} {l : List Pnt} (h : Good s l) : Steps s (l.length : Int) (vF 6 l.length).length (ts l) (cat (tPiece (ts l)) l.length).length (vs l) (cat (vPiece (vs l)) l.length).length := by
  obtain ⟨hc, _, hb⟩ := h.read
  obtain ⟨ht, hv⟩ := rows_of_ok h.2.1 h.1
  have hB : bodyR s = txt (bodyB l) := by rw [bodyR, if_pos hc, hb]
  have hn : l.length ≤ 562949953421311 := by have := h.2.1.1; omega
  have hf := find_var l.length (cat (tPiece (ts l)) l.length ++ cat (vPiece (vs l)) l.length) hn
  refine ⟨?_, ?_, ?_⟩
  · rw [hB]
    exact .inl ⟨hf.1, by unfold bodyB; rw [hf.2]⟩
  · rw [hB, bodyB, extract_back]
    have := readT_back (ts l) ht (cat (vPiece (vs l)) l.length)
    rw [ts_length] at this
    exact this
  · rw [hB]
    have e : bodyB l = (vF 6 l.length ++ cat (tPiece (ts l)) l.length) ++ cat (vPiece (vs l)) l.length := by rw [bodyB, List.append_assoc]
    have := readV_back (vs l) hv []
    rw [vs_length, List.append_nil] at this
    rw [e, ← List.length_append, extract_back]
    exact this
theorem Steps.one {s : ByteArray} {n n' : Int} {k k' a a' b b' : Nat} {t t' v v' : List Int} (h : Steps s n k t a v b) (h' : Steps s n' k' t' a' v' b') : n = n' ∧ k = k' ∧ t = t' ∧ a = a' ∧ v = v' ∧ b = b' := by
  obtain ⟨rfl, rfl⟩ := h.rn.one h'.rn
  obtain ⟨rfl, rfl⟩ := h.rt.one h'.rt
  obtain ⟨rfl, rfl⟩ := h.rv.one h'.rv
  exact ⟨rfl, rfl, rfl, rfl, rfl, rfl⟩
/-- Where the text is of right points, they are what is read. -/
theorem Steps.good {s : ByteArray} {n : Int} {k a b : Nat} {t v : List Int} (h : Steps s n k t a v b) {l : List Pnt} (hg : Good s l) : zipP t v = l ∧ n = (l.length : Int) ∧ t = ts l ∧ v = vs l ∧ 1 ≤ k ∧ 1 ≤ a ∧ 1 ≤ b ∧ k + a + b = (bodyR s).size := by
  obtain ⟨rfl, rfl, rfl, rfl, rfl, rfl⟩ := h.one hg.steps
  obtain ⟨hc, _, hb⟩ := hg.read
  have hB : bodyR s = txt (bodyB l) := by rw [bodyR, if_pos hc, hb]
  refine ⟨zipP_rows l, rfl, rfl, rfl, vF_pos _ _, cat_pos _ _ hg.1 (vF_pos _ _), cat_pos _ _ hg.1 (vF_pos _ _), ?_⟩
  rw [hB, txt_size, bodyB]
  simp only [List.length_append]
  omega
theorem Good.one {s : ByteArray} {l m : List Pnt} (h : Good s l) (h' : Good s m) : l = m := by
  have := (h.steps.good h').1
  rw [zipP_rows] at this
  exact this
theorem RdAns.pos {shw : List Int → ByteArray} {row : List Int → List Int} {s : ByteArray} {n : Int} {l : List Int} {k : Nat} (hrow : ∀ v, (row v).length = v.length) (h : RdAns shw row s n l k) (hk : k ≠ 0) : n = (l.length : Int) ∧ 1 ≤ l.length ∧ l.length ≤ 60 ∧ shw l = s.extract 0 k ∧ k ≤ s.size := by
  rcases h with ⟨m, v, h1, h2, h3, h4, h5, h6⟩ | ⟨_, _, h0⟩
  · have hl : l.length = m := by rw [h6, hrow, h4.length]
    exact ⟨by rw [hl]; exact h1, by omega, by omega, by rw [h6]; exact h5, h4.le.2⟩
  · exact absurd h0 hk
theorem okT_of_show {l : List Int} {s : ByteArray} {k : Nat} (h : showT l = s.extract 0 k) (hk : k ≠ 0) (hs : k ≤ s.size) : TOk l := by
  by_cases ho : TOk l
  · exact ho
  · unfold showT at h
    rw [if_neg ho] at h
    exact absurd h (extract_ne s k (by omega) hs)
theorem okV_of_show {l : List Int} {s : ByteArray} {k : Nat} (h : showV l = s.extract 0 k) (hk : k ≠ 0) (hs : k ≤ s.size) : VOk l := by
  by_cases ho : VOk l
  · exact ho
  · unfold showV at h
    rw [if_neg ho] at h
    exact absurd h (extract_ne s k (by omega) hs)
/-- What is read whole is right, and is shown as this text. -/
theorem Steps.back {s : ByteArray} {n : Int} {k a b : Nat} {t v : List Int} (h : Steps s n k t a v b) (hc : code s = 0) (h8 : 8 + rdv s 4 = s.size) (hk : k ≠ 0) (ha : a ≠ 0) (hb : b ≠ 0) (hs : k + a + b = (bodyR s).size) : Good s (zipP t v) ∧ t.length = v.length ∧ n = (t.length : Int) := by
  obtain ⟨ht1, ht2, ht3, ht4, ht5⟩ := h.rt.pos rowT_length ha
  obtain ⟨hv1, hv2, hv3, hv4, hv5⟩ := h.rv.pos rowV_length hb
  have hlen : t.length = v.length := by omega
  have hT := okT_of_show ht4 ha ht5
  have hV := okV_of_show hv4 hb hv5
  obtain ⟨e1, e2⟩ := ts_zip t v hlen
  have hzl : (zipP t v).length = t.length := by rw [zipP_length]; omega
  have hP : POk (zipP t v) := ok_of_rows (by rw [e1]; exact hT) (by rw [e2]; exact hV)
  have hfv : FindV (bodyR s) k ∧ n = (vvS (bodyR s) 0 k : Int) := by
    rcases h.rn with h | ⟨_, _, h0⟩
    · exact h
    · exact absurd h0 hk
  obtain ⟨⟨c1, c2, c3, c4⟩, hn⟩ := hfv
  have hvar : txt (vF 6 (zipP t v).length) = (bodyR s).extract 0 k := by
    have hh := (var_eq (bodyR s) k c1 c2 c3).2 c4
    have hm : vvS (bodyR s) 0 k = (zipP t v).length := by omega
    rw [hm] at hh
    by_cases e : txt (vF 6 (zipP t v).length) = (bodyR s).extract 0 k
    · exact e
    · rw [bytes_ne e] at hh
      cases hh
  have hbody : txt (vF 6 (zipP t v).length) ++ showT (ts (zipP t v)) ++ showV (vs (zipP t v)) = bodyR s := by
    rw [e1, e2, hvar, ht4, hv4, ByteArray.extract_extract, ByteArray.extract_extract, Nat.add_zero, Nat.add_zero, Nat.min_eq_left (by omega), Nat.min_eq_left (by omega), ByteArray.extract_append_extract, show min 0 k = 0 by omega, show max k (k + a) = k + a by omega, ByteArray.extract_append_extract, show min 0 (k + a) = 0 by omega, show max (k + a) (k + a + b) = k + a + b by omega, hs, ByteArray.extract_zero_size]
  refine ⟨⟨by omega, hP, ?_⟩, hlen, ht1⟩
  rw [showB, if_pos ⟨by omega, hP⟩, hbody, bodyR, if_pos hc]
  obtain ⟨g4, g1, g2, g8, gs⟩ := (code_zero s).1 hc
  rw [(frame_fits s g4 g1 g2 g8).2 gs, h8, ByteArray.extract_zero_size]
/-- Of no bytes nothing is read. -/
theorem Steps.empty {n : Int} {k a b : Nat} {t v : List Int} (h : Steps (txt []) n k t a v b) : t = [] := by
  have hc : ¬ code (txt []) = 0 := fun hc => by
    obtain ⟨h4, _⟩ := (code_zero _).1 hc
    rw [txt_size] at h4
    simp at h4
  have hB : bodyR (txt []) = ⟨#[]⟩ := by rw [bodyR, if_neg hc]
  have hz : n = 0 := by
    rcases h.rn with ⟨⟨h1, _, h3, _⟩, _⟩ | ⟨_, h0, _⟩
    · rw [hB] at h3
      have : (ByteArray.mk #[]).size = 0 := rfl
      omega
    · exact h0
  rcases h.rt with ⟨m, v, h1, h2, _⟩ | ⟨_, h0, _⟩
  · omega
  · exact h0
/-- What is shown as the text and is some is right. -/
theorem Steps.shown {s : ByteArray} {n : Int} {k a b : Nat} {t v : List Int} (h : Steps s n k t a v b) (h1 : 1 ≤ (zipP t v).length) (hs : showB (zipP t v) = s) : Good s (zipP t v) := by
  by_cases hp : POk (zipP t v)
  · exact ⟨h1, hp, hs⟩
  · exfalso
    rw [showB, if_neg (fun hh => hp hh.2)] at hs
    subst hs
    rw [h.empty] at h1
    simp [zipP] at h1
/-- What both ReadBlock answer. -/
def RbAns (s : ByteArray) (l : List Pnt) (ok : Bool) : Prop := (ok = true ∧ Good s l) ∨ (ok = false ∧ l = [] ∧ ∀ m, ¬ Good s m)
theorem RbAns.one {s : ByteArray} {l m : List Pnt} {x y : Bool} (h : RbAns s l x) (h' : RbAns s m y) : l = m ∧ x = y := by
  rcases h with ⟨h1, h2⟩ | ⟨h1, h2, h3⟩ <;> rcases h' with ⟨h1', h2'⟩ | ⟨h1', h2', h3'⟩
  · exact ⟨h2.one h2', h1.trans h1'.symm⟩
  · exact absurd h2 (h3' l)
  · exact absurd h2' (h3 m)
  · exact ⟨h2.trans h2'.symm, h1.trans h1'.symm⟩
theorem RbAns.len {s : ByteArray} {l : List Pnt} {x : Bool} (h : RbAns s l x) : l.length ≤ 60 := by
  rcases h with ⟨_, h2⟩ | ⟨_, h2, _⟩
  · exact h2.2.1.1
  · rw [h2]; simp
theorem showB_size (l : List Pnt) : (showB l).size ≤ 900 := by
  unfold showB
  split
  · rename_i h
    have hb := bodyB_size h.2
    rw [body_is h.2 h.1, frame, if_neg (by rw [txt_size]; omega), frameOf_size, txt_size]
    omega
  · rw [txt_size]; simp
end Go.Proofs.YthgiekeiljflaaaDoor
