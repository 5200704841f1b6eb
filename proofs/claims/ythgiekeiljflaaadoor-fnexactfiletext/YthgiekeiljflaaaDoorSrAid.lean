/-
  What right series are (no program in sight, no condition).
-/
import Derived.Test.YthgiekeiljflaaaDoorSrRow
namespace Go.Proofs.YthgiekeiljflaaaDoor
open Go.RowKit Go.PlainAid

/-- A key: 1 to 8 bytes, each a to z. -/
def KOk (s : ByteArray) : Prop := 1 ≤ s.size ∧ s.size ≤ 8 ∧ ∀ j, j < s.size → 97 ≤ bn s j ∧ bn s j ≤ 122
/-- A text stands ahead of another one. -/
def ahd (a b : ByteArray) : Bool := Op.bytesLess a.toList b.toList
theorem less_irrefl : ∀ a : List UInt8, Op.bytesLess a a = false
  | [] => rfl
  | a :: x => by
    unfold Op.bytesLess
    rw [less_irrefl x]
    simp
theorem less_cons (a b : UInt8) (x y : List UInt8) : Op.bytesLess (a :: x) (b :: y) = true ↔ a < b ∨ (a = b ∧ Op.bytesLess x y = true) := by
  rw [Op.bytesLess]
  simp
theorem less_trans : ∀ {a b c : List UInt8}, Op.bytesLess a b = true → Op.bytesLess b c = true → Op.bytesLess a c = true
  | _, _, [], _, h => by
    unfold Op.bytesLess at h
    cases h
  | [], _, _ :: _, _, _ => rfl
  | _ :: _, [], _ :: _, h, _ => by
    unfold Op.bytesLess at h
    cases h
  | a :: x, b :: y, c :: z, h, k => by
    rw [less_cons] at h k ⊢
    rcases h with h | ⟨rfl, h⟩
    · rcases k with k | ⟨rfl, k⟩
      · exact .inl (UInt8.lt_trans h k)
      · exact .inl h
    · rcases k with k | ⟨rfl, k⟩
      · exact .inl k
      · exact .inr ⟨rfl, less_trans h k⟩
theorem less_tri : ∀ {a b : List UInt8}, Op.bytesLess a b = false → Op.bytesLess b a = false → a = b
  | [], [], _, _ => rfl
  | [], _ :: _, h, _ => by
    unfold Op.bytesLess at h
    cases h
  | _ :: _, [], _, h => by
    unfold Op.bytesLess at h
    cases h
  | a :: x, b :: y, h, k => by
    have h' : ¬ (a < b ∨ (a = b ∧ Op.bytesLess x y = true)) := fun e => by
      rw [← less_cons, h] at e
      cases e
    have k' : ¬ (b < a ∨ (b = a ∧ Op.bytesLess y x = true)) := fun e => by
      rw [← less_cons, k] at e
      cases e
    have hab : a = b := by
      rcases Nat.lt_trichotomy a.toNat b.toNat with e | e | e
      · exact absurd (.inl (UInt8.lt_iff_toNat_lt.2 e)) h'
      · exact UInt8.toNat_inj.1 e
      · exact absurd (.inl (UInt8.lt_iff_toNat_lt.2 e)) k'
    subst hab
    have h1 : Op.bytesLess x y = false := by
      cases e : Op.bytesLess x y with
      | false => rfl
      | true => exact absurd (.inr ⟨rfl, e⟩) h'
    have k1 : Op.bytesLess y x = false := by
      cases e : Op.bytesLess y x with
      | false => rfl
      | true => exact absurd (.inr ⟨rfl, e⟩) k'
    rw [less_tri h1 k1]
theorem ahd_irrefl (a : ByteArray) : ahd a a = false := less_irrefl _
theorem ahd_trans {a b c : ByteArray} (h : ahd a b = true) (k : ahd b c = true) : ahd a c = true := less_trans h k
theorem toList_inj {a b : ByteArray} (h : a.toList = b.toList) : a = b := by
  rw [Lib.toList_data, Lib.toList_data] at h
  rw [← txt_toList a, ← txt_toList b, h]
/-- Where one stands ahead of the other, the other doesn't, and they are two. -/
theorem ahd_yes {a b : ByteArray} (h : ahd a b = true) : Op.bytesLess b.toList a.toList = false ∧ (b.toList == a.toList) = false := by
  refine ⟨?_, ?_⟩
  · cases e : Op.bytesLess b.toList a.toList with
    | false => rfl
    | true =>
      have := less_trans h e
      rw [less_irrefl] at this
      cases this
  · rw [beq_eq_false_iff_ne]
    intro e
    unfold ahd at h
    rw [e, less_irrefl] at h
    cases h
/-- Where it does not, the other does, or they are one. -/
theorem ahd_no {a b : ByteArray} (h : ahd a b = false) : Op.bytesLess b.toList a.toList = true ∨ b = a := by
  cases e : Op.bytesLess b.toList a.toList with
  | true => exact .inl rfl
  | false => exact .inr (toList_inj (less_tri e h))
theorem ahd_empty (s : ByteArray) (h : 1 ≤ s.size) : ahd ⟨#[]⟩ s = true := by
  unfold ahd
  have e : (ByteArray.mk #[]).toList = [] := by rw [Lib.toList_data]
  rw [e, Lib.toList_data]
  match hl : s.data.toList with
  | [] =>
    have : s.size = 0 := by rw [ByteArray.size, ← Array.length_toList, hl]; rfl
    omega
  | a :: l => rfl
def sAt (l : List Ser) (j : Nat) : Ser := l.getD j default
/-- Right series. -/
def SOk (l : List Ser) : Prop := l.length ≤ 5 ∧ ∀ j, j < l.length → (KOk (sAt l j).key ∧ (0 < j → ahd (sAt l (j - 1)).key (sAt l j).key = true)) ∧ 1 ≤ (sAt l j).pts.length ∧ POk (sAt l j).pts
instance (s : ByteArray) : Decidable (KOk s) := by unfold KOk; infer_instance
instance (l : List Ser) : Decidable (SOk l) := by unfold SOk; infer_instance
theorem SOk.nil : SOk [] := ⟨by simp, fun j hj => by simp at hj⟩
end Go.Proofs.YthgiekeiljflaaaDoor
