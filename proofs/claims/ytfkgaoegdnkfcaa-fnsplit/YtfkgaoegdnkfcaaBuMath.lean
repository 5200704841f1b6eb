/-
  The parts of points: what both packages' Split tells of them (no program in sight, no condition).
-/
import Derived.Test.YtfkgaoegdnkfcaaBuOf
import Derived.Test.YtfkgaoegdnkfcaaPrLaw
namespace Go.Proofs.Ytfkgaoegdnkfcaa
open Go.RowKit Go.PlainAid
set_option linter.unusedVariables false

/-- The last of some parts. -/
def lastP (a : List Prt) : Prt := a.getD (a.length - 1) default
theorem lastP_snoc (X : List Prt) (x : Prt) : lastP (X ++ [x]) = x := by simp [lastP]
/-- A new part, where the last is of another bucket. -/
def opn (a : List Prt) (b : Int) : List Prt := if a = [] ∨ (lastP a).num ≠ b then a ++ [⟨b, []⟩] else a
/-- A point more in the last part. -/
def putPt (a : List Prt) (p : Pnt) : List Prt := a.set (a.length - 1) ⟨(lastP a).num, (lastP a).pts ++ [p]⟩
theorem putPt_snoc (X : List Prt) (x : Prt) (p : Pnt) : putPt (X ++ [x]) p = X ++ [⟨x.num, x.pts ++ [p]⟩] := by
  unfold putPt
  rw [lastP_snoc]
  simp
theorem opn_new {a : List Prt} {b : Int} (h : a = [] ∨ (lastP a).num ≠ b) : opn a b = a ++ [⟨b, []⟩] := if_pos h
theorem opn_old {a : List Prt} {b : Int} (h0 : a ≠ []) (h : (lastP a).num = b) : opn a b = a := if_neg (by
  rintro (e | e)
  · exact h0 e
  · exact e h)
theorem snoc_of {a : List Prt} (h : a ≠ []) : ∃ X x, a = X ++ [x] := ⟨a.dropLast, a.getLast h, (List.dropLast_concat_getLast h).symm⟩
/-- The parts of points. -/
def spl (l : List Pnt) : List Prt := l.foldl (fun a p => putPt (opn a (bkt p.t)) p) []
theorem spl_nil : spl [] = [] := rfl
theorem spl_snoc (l : List Pnt) (p : Pnt) : spl (l ++ [p]) = putPt (opn (spl l) (bkt p.t)) p := by simp [spl]
theorem step_new {a : List Prt} {p : Pnt} (h : a = [] ∨ (lastP a).num ≠ bkt p.t) : putPt (opn a (bkt p.t)) p = a ++ [⟨bkt p.t, [p]⟩] := by
  rw [opn_new h, putPt_snoc]
  rfl
theorem step_old {X : List Prt} {x : Prt} {p : Pnt} (h : x.num = bkt p.t) : putPt (opn (X ++ [x]) (bkt p.t)) p = X ++ [⟨x.num, x.pts ++ [p]⟩] := by
  rw [opn_old (by simp) (by rw [lastP_snoc]; exact h), putPt_snoc]
/-- What is so of the parts of points. -/
structure SplOk (l : List Pnt) (a : List Prt) : Prop where
  flat : a.flatMap Prt.pts = l
  full : ∀ x ∈ a, x.pts ≠ []
  here : ∀ x ∈ a, ∀ p ∈ x.pts, bkt p.t = x.num
  last : a ≠ [] → ∃ p, l.getLast? = some p ∧ bkt p.t = (lastP a).num
  void : a = [] → l = []
theorem snocInd {P : List Pnt → Prop} (h0 : P []) (h1 : ∀ l p, P l → P (l ++ [p])) (l : List Pnt) : P l := by
  have h : ∀ m : List Pnt, P m.reverse := fun m => by
    induction m with
    | nil => exact h0
    | cons p m ih => rw [List.reverse_cons]; exact h1 _ _ ih
  have := h l.reverse
  rwa [List.reverse_reverse] at this
theorem spl_ok (l : List Pnt) : SplOk l (spl l) := by
  refine snocInd (P := fun l => SplOk l (spl l)) ?_ ?_ l
  · exact ⟨rfl, fun x hx => (by cases hx), fun x hx => (by cases hx), fun h => (h rfl).elim, fun _ => rfl⟩
  · intro l p ih
    rw [spl_snoc]
    by_cases h : spl l = [] ∨ (lastP (spl l)).num ≠ bkt p.t
    · rw [step_new h]
      refine ⟨by rw [List.flatMap_append, ih.flat]; simp, ?_, ?_, fun _ => ⟨p, by simp, by rw [lastP_snoc]⟩, fun e => by simp at e⟩
      · intro x hx
        rcases List.mem_append.1 hx with hx | hx
        · exact ih.full x hx
        · rw [List.mem_singleton.1 hx]; simp
      · intro x hx q hq
        rcases List.mem_append.1 hx with hx | hx
        · exact ih.here x hx q hq
        · rw [List.mem_singleton.1 hx] at hq ⊢
          rw [List.mem_singleton.1 hq]
    · have h0 : spl l ≠ [] := fun e => h (.inl e)
      obtain ⟨X, x, e⟩ := snoc_of h0
      rw [e] at ih h ⊢
      have hx : x.num = bkt p.t := by
        by_cases hh : x.num = bkt p.t
        · exact hh
        · exact (h (.inr (by rw [lastP_snoc]; exact hh))).elim
      rw [step_old hx]
      refine ⟨?_, ?_, ?_, fun _ => ⟨p, by simp, by rw [lastP_snoc]; exact hx.symm⟩, fun e => by simp at e⟩
      · have := ih.flat
        rw [List.flatMap_append] at this ⊢
        simp at this ⊢
        rw [← List.append_assoc, this]
      · intro y hy
        rcases List.mem_append.1 hy with hy | hy
        · exact ih.full y (List.mem_append.2 (.inl hy))
        · rw [List.mem_singleton.1 hy]; simp
      · intro y hy q hq
        rcases List.mem_append.1 hy with hy | hy
        · exact ih.here y (List.mem_append.2 (.inl hy)) q hq
        · rw [List.mem_singleton.1 hy] at hq ⊢
          rcases List.mem_append.1 hq with hq | hq
          · exact ih.here x (by simp) q hq
          · rw [List.mem_singleton.1 hq]; exact hx.symm
theorem flat_long (a : List Prt) (h : ∀ x ∈ a, x.pts ≠ []) : a.length ≤ (a.flatMap Prt.pts).length ∧ ∀ x ∈ a, x.pts.length ≤ (a.flatMap Prt.pts).length := by
  induction a with
  | nil => exact ⟨Nat.le_refl _, fun x hx => (by cases hx)⟩
  | cons y a ih =>
    obtain ⟨h1, h2⟩ := ih (fun x hx => h x (List.mem_cons_of_mem _ hx))
    have hy : 0 < y.pts.length := List.length_pos_iff.2 (h y (by simp))
    rw [List.flatMap_cons, List.length_append]
    refine ⟨by rw [List.length_cons]; omega, fun x hx => ?_⟩
    rcases List.mem_cons.1 hx with rfl | hx
    · omega
    · have := h2 x hx
      omega
theorem spl_short (l : List Pnt) (n : Nat) (h : l.length ≤ n) : (spl l).length ≤ n ∧ ∀ x ∈ spl l, x.pts.length ≤ n := by
  have hk := spl_ok l
  have := flat_long _ hk.full
  rw [hk.flat] at this
  exact ⟨by omega, fun x hx => by have := this.2 x hx; omega⟩
theorem spl_PShort (l : List Pnt) (h : l.length ≤ 60) : PShort (spl l) := spl_short l 60 h
theorem getLast_take (l : List Pnt) (b : Nat) (h0 : 0 < b) (hb : b ≤ l.length) : (l.take b).getLast? = some (l.getD (b - 1) default) := by
  obtain ⟨c, rfl⟩ : ∃ c, b = c + 1 := ⟨b - 1, by omega⟩
  rw [take_getD l c (by omega)]
  simp
/-- A run of points of one bucket is one part more. -/
theorem spl_run (l : List Pnt) (B : Int) (b : Nat) : ∀ e, b < e → e ≤ l.length → (∀ j, b ≤ j → j < e → bkt (tAt l j) = B) → (b = 0 ∨ bkt (tAt l (b - 1)) ≠ B) → spl (l.take e) = spl (l.take b) ++ [⟨B, (l.take e).drop b⟩] := by
  intro e hbe
  obtain ⟨k, rfl⟩ : ∃ k, e = b + 1 + k := ⟨e - (b + 1), by omega⟩
  clear hbe
  induction k with
  | zero =>
    rw [Nat.add_zero]
    intro he hj h0
    rw [take_getD l b (by omega), spl_snoc]
    have hB : bkt (l.getD b default).t = B := hj b (Nat.le_refl _) (by omega)
    rw [step_new ?_, hB]
    · congr 1
      have : (l.take b).length = b := by rw [List.length_take]; omega
      rw [List.drop_append_of_le_length (by omega), List.drop_of_length_le (by omega)]
      rfl
    · by_cases hn : spl (l.take b) = []
      · exact .inl hn
      · right
        obtain ⟨p, hp, hp2⟩ := (spl_ok (l.take b)).last hn
        rw [← hp2, hB]
        rcases h0 with rfl | h0
        · exact (hn rfl).elim
        · by_cases hb0 : b = 0
          · subst hb0; exact (hn rfl).elim
          · rw [getLast_take l b (by omega) (by omega)] at hp
            cases hp
            exact h0
  | succ k ih =>
    rw [show b + 1 + (k + 1) = b + 1 + k + 1 by omega]
    generalize hE : b + 1 + k = e at *
    intro he hj h0
    have := ih (by omega) (fun j h1 h2 => hj j h1 (by omega)) h0
    rw [take_getD l e (by omega), spl_snoc, this]
    have hB : bkt (l.getD e default).t = B := hj e (by omega) (by omega)
    rw [step_old (by rw [hB])]
    congr 2
    congr 1
    rw [List.drop_append_of_le_length (by rw [List.length_take]; omega)]
end Go.Proofs.Ytfkgaoegdnkfcaa
