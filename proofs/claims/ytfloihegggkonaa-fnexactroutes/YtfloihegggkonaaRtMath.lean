/-
  What a text of routes tells, as plain data (no program in sight).
-/
import Derived.Test.YtfloihegggkonaaBtRd
import Derived.Test.YtfloihegggkonaaBoMath
namespace Go.Proofs.Ytfloihegggkonaa
open Go.ChangeShapes Go.WideShapes Go.ChangeAt Go.RowKit Go.PlainAid
set_option linter.unusedVariables false

/-- Reading these buckets from s leaves r. -/
def PrB : ByteArray → List Pnt → ByteArray → Prop
  | s, [], r => r = s
  | s, x :: l, r => ∃ n, Rd s 2 [x.t, x.v] n ∧ PrB (s.extract n s.size) l r
theorem PrB.snoc : ∀ {l : List Pnt} {s r : ByteArray} {x : Pnt} {n : Nat}, PrB s l r → Rd r 2 [x.t, x.v] n → PrB s (l ++ [x]) (r.extract n r.size)
  | [], s, r, x, n, h, h2 => by
    cases h
    exact ⟨n, h2, rfl⟩
  | y :: l, s, r, x, n, ⟨m, h1, h2⟩, h3 => ⟨m, h1, PrB.snoc h2 h3⟩
theorem PrB.rest : ∀ {l m : List Pnt} {s r e : ByteArray}, PrB s l r → PrB s m e → e.size = 0 → ∃ m', m = l ++ m' ∧ PrB r m' e
  | [], m, s, r, e, h, h2, _ => by
    cases h
    exact ⟨m, rfl, h2⟩
  | x :: l, [], s, r, e, ⟨n, h1, _⟩, h2, he => by
    cases h2
    have := h1.le
    omega
  | x :: l, y :: m, s, r, e, ⟨n, h1, h2⟩, ⟨n', h1', h2'⟩, he => by
    obtain ⟨e1, rfl⟩ := h1.one h1'
    obtain ⟨m', rfl, h3⟩ := PrB.rest h2 h2' he
    simp only [List.cons.injEq] at e1
    have : x = y := Pnt.same e1.1 e1.2.1
    subst this
    exact ⟨m', rfl, h3⟩
/-- The text s tells these buckets. -/
def RtA (s : ByteArray) (l : List Pnt) : Prop := ∃ e : ByteArray, e.size = 0 ∧ PrB s l e ∧ l.length ≤ 8 ∧ bokFrom 0 l = true
theorem RtA.one {s : ByteArray} {l m : List Pnt} (h : RtA s l) (h' : RtA s m) : l = m := by
  obtain ⟨e, he, hp, _⟩ := h
  obtain ⟨e', he', hp', _⟩ := h'
  obtain ⟨m1, e1, hr⟩ := hp.rest hp' he'
  cases m1 with
  | nil => rw [e1]; simp
  | cons x m1 =>
    obtain ⟨n, h1, _⟩ := hr
    have := h1.le
    omega
/-- Behind the buckets l no text is left that can be read further: then the whole is none. -/
theorem rt_cut {s r : ByteArray} {l : List Pnt} (h : PrB s l r) (hr : r.size ≠ 0) (hn : RdNo r 2) : ∀ m, ¬ RtA s m := by
  rintro m ⟨e, he, hp, _⟩
  obtain ⟨m', rfl, hr'⟩ := h.rest hp he
  cases m' with
  | nil => cases hr'; exact hr he
  | cons x m' =>
    obtain ⟨n, h1, _⟩ := hr'
    exact h1.no hn
theorem rt_many {s r : ByteArray} {l : List Pnt} (h : PrB s l r) (hr : r.size ≠ 0) (hl : 8 ≤ l.length) : ∀ m, ¬ RtA s m := by
  rintro m ⟨e, he, hp, h8, _⟩
  obtain ⟨m', rfl, hr'⟩ := h.rest hp he
  cases m' with
  | nil => cases hr'; exact hr he
  | cons x m' =>
    rw [List.length_append, List.length_cons] at h8
    omega
theorem rt_bad {s r : ByteArray} {l : List Pnt} (h : PrB s l r) (hb : bokFrom 0 l = false) : ∀ m, ¬ RtA s m := by
  rintro m ⟨e, he, hp, h8, hm⟩
  obtain ⟨m', rfl, hr'⟩ := h.rest hp he
  rw [bok_append, hb] at hm
  cases hm
end Go.Proofs.Ytfloihegggkonaa
