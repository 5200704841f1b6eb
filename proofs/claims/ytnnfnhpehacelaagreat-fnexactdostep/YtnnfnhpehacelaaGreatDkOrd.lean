/-
  The order of names, lists of links that rise by name, and what puts and strikes do to them (no program in sight, no condition).
-/
import Derived.Test.YtnnfnhpehacelaaGreatDkRow
import Derived.Lib.QuoteBits
namespace Go.Proofs.YtnnfnhpehacelaaGreat
open Go.RowKit Go.PlainAid

theorem less_irrefl : ∀ a : List UInt8, Op.bytesLess a a = false
  | [] => rfl
  | a :: x => by
    unfold Op.bytesLess
    rw [less_irrefl x]
    simp
theorem less_cons (a b : UInt8) (x y : List UInt8) : Op.bytesLess (a :: x) (b :: y) = true ↔ a < b ∨ (a = b ∧ Op.bytesLess x y = true) := by
  rw [Op.bytesLess]
  simp
theorem less_trans : ∀ {a b c : List UInt8}, Op.bytesLess a b = true → Op.bytesLess b c = true → Op.bytesLess a c = true
  | _, _, [], _, h => by
    unfold Op.bytesLess at h
    cases h
  | [], _, _ :: _, _, _ => rfl
  | _ :: _, [], _ :: _, h, _ => by
    unfold Op.bytesLess at h
    cases h
  | a :: x, b :: y, c :: z, h, k => by
    rw [less_cons] at h k ⊢
    rcases h with h | ⟨rfl, h⟩
    · rcases k with k | ⟨rfl, k⟩
      · exact .inl (UInt8.lt_trans h k)
      · exact .inl h
    · rcases k with k | ⟨rfl, k⟩
      · exact .inl k
      · exact .inr ⟨rfl, less_trans h k⟩
theorem less_tri : ∀ {a b : List UInt8}, Op.bytesLess a b = false → Op.bytesLess b a = false → a = b
  | [], [], _, _ => rfl
  | [], _ :: _, h, _ => by
    unfold Op.bytesLess at h
    cases h
  | _ :: _, [], _, h => by
    unfold Op.bytesLess at h
    cases h
  | a :: x, b :: y, h, k => by
    have h' : ¬ (a < b ∨ (a = b ∧ Op.bytesLess x y = true)) := fun e => by
      rw [← less_cons, h] at e
      cases e
    have k' : ¬ (b < a ∨ (b = a ∧ Op.bytesLess y x = true)) := fun e => by
      rw [← less_cons, k] at e
      cases e
    have hab : a = b := by
      rcases Nat.lt_trichotomy a.toNat b.toNat with e | e | e
      · exact absurd (.inl (UInt8.lt_iff_toNat_lt.2 e)) h'
      · exact UInt8.toNat_inj.1 e
      · exact absurd (.inl (UInt8.lt_iff_toNat_lt.2 e)) k'
    subst hab
    have h1 : Op.bytesLess x y = false := by
      cases e : Op.bytesLess x y with
      | false => rfl
      | true => exact absurd (.inr ⟨rfl, e⟩) h'
    have k1 : Op.bytesLess y x = false := by
      cases e : Op.bytesLess y x with
      | false => rfl
      | true => exact absurd (.inr ⟨rfl, e⟩) k'
    rw [less_tri h1 k1]
theorem ahead_irrefl (a : ByteArray) : ahead a a = false := less_irrefl _
theorem ahead_trans {a b c : ByteArray} (h : ahead a b = true) (k : ahead b c = true) : ahead a c = true := less_trans h k
theorem ahead_asymm {a b : ByteArray} (h : ahead a b = true) : ahead b a = false := by
  cases e : ahead b a with
  | false => rfl
  | true =>
    have := ahead_trans h e
    rw [ahead_irrefl] at this
    cases this
theorem ahead_ne {a b : ByteArray} (h : ahead a b = true) : a ≠ b := fun e => by
  subst e
  rw [ahead_irrefl] at h
  cases h
theorem toList_inj' {a b : ByteArray} (h : a.toList = b.toList) : a = b := by
  rw [Lib.toList_data, Lib.toList_data] at h
  apply ByteArray.ext
  exact Array.toList_inj.1 h
theorem ahead_tri {a b : ByteArray} (h : ahead a b = false) (k : a ≠ b) : ahead b a = true := by
  cases e : ahead b a with
  | true => rfl
  | false => exact absurd (toList_inj' (less_tri h e)) k
theorem ahead_empty {a : ByteArray} (h : ahead ⟨#[]⟩ a = false) : a.size = 0 := by
  unfold ahead at h
  rw [Lib.toList_data, Lib.toList_data] at h
  rcases e : a.data.toList with _ | ⟨x, r⟩
  · rw [Lib.size_eq, e]
    rfl
  · rw [e] at h
    unfold Op.bytesLess at h
    cases h

/-- Links that rise by name. -/
def Sorted (l : List Lnk) : Prop := l.Pairwise fun x y => ahead x.name y.name = true
theorem Sorted.without {l : List Lnk} (h : Sorted l) (s : ByteArray) : Sorted (without l s) := h.filter _
theorem without_none {l : List Lnk} {s : ByteArray} (h : ∀ x ∈ l, x.name ≠ s) : without l s = l := by
  unfold Go.Proofs.YtnnfnhpehacelaaGreat.without
  apply List.filter_eq_self.2
  intro x hx
  exact decide_eq_true (h x hx)
theorem ins_last {x : Lnk} : ∀ {l : List Lnk}, (∀ y ∈ l, ahead y.name x.name = true) → ins x l = l ++ [x]
  | [], _ => rfl
  | y :: r, h => by
    unfold ins
    rw [ahead_asymm (h y (by simp)), if_neg Bool.false_ne_true, ins_last fun z hz => h z (by simp [hz])]
    rfl
/-- A link whose name is behind all others comes at the end. -/
theorem withL_last {l : List Lnk} {x : Lnk} (h : ∀ y ∈ l, ahead y.name x.name = true) : withL l x = l ++ [x] := by
  unfold withL
  rw [without_none fun y hy => ahead_ne (h y hy), ins_last h]
theorem ins_mem' {x y : Lnk} : ∀ {l : List Lnk}, y ∈ ins x l → y = x ∨ y ∈ l
  | [], h => by
    rw [ins, List.mem_singleton] at h
    exact .inl h
  | z :: r, h => by
    unfold ins at h
    split at h
    · rcases List.mem_cons.1 h with h | h
      · exact .inl h
      · exact .inr h
    · rcases List.mem_cons.1 h with h | h
      · exact .inr (h ▸ List.mem_cons_self)
      · rcases ins_mem' h with h | h
        · exact .inl h
        · exact .inr (List.mem_cons_of_mem _ h)
theorem Sorted.ins {x : Lnk} : ∀ {l : List Lnk}, Sorted l → (∀ y ∈ l, y.name ≠ x.name) → Sorted (ins x l)
  | [], _, _ => by
    unfold Go.Proofs.YtnnfnhpehacelaaGreat.ins
    exact List.pairwise_singleton _ _
  | y :: r, h, hn => by
    have hp := List.pairwise_cons.1 h
    unfold Go.Proofs.YtnnfnhpehacelaaGreat.ins
    split
    · rename_i e
      refine List.pairwise_cons.2 ⟨fun z hz => ?_, h⟩
      rcases List.mem_cons.1 hz with rfl | hz
      · exact e
      · exact ahead_trans e (hp.1 z hz)
    · rename_i e
      have e' : ahead y.name x.name = true := ahead_tri (by simpa using e) fun k => hn y (by simp) k.symm
      refine List.pairwise_cons.2 ⟨fun z hz => ?_, Sorted.ins hp.2 fun z hz => hn z (by simp [hz])⟩
      rcases ins_mem' hz with rfl | hz
      · exact e'
      · exact hp.1 z hz
theorem Sorted.withL {l : List Lnk} (h : Sorted l) (x : Lnk) : Sorted (withL l x) :=
  Sorted.ins (h.without x.name) fun _ hy => of_decide_eq_true (List.mem_filter.1 hy).2
end Go.Proofs.YtnnfnhpehacelaaGreat
