/-
  Maps of names and of inodes as lists: what the kit's view of a map (puts, strikes, looks) comes to on them (no program in sight, no condition).
-/
import Derived.Test.YtnnfnhpehacelaaGreatDkRow
import Derived.Maps.OwnSet
import Derived.Maps.Ext
import Derived.Maps.RangeWalk
namespace Go.Proofs.YtnnfnhpehacelaaGreat
open Go.RowKit Go.PlainAid Go.Maps

/-- A name as a key. -/
def nameK (s : ByteArray) : Lit := .string s.data.toList
/-- Links as a map's datum. -/
def linkD (l : List Lnk) : DataW Unit := .map (l.map fun x => (nameK x.name, .lit (.int .i64 x.id)))
/-- Numbers that lead to places as a map's datum. -/
def ptrD (l : List (Int × Nat)) : DataW Unit := .map (l.map fun p => (.int .i64 p.1, .lit (.int .i64 (p.2 : Int))))

theorem bytes_eq {a b : ByteArray} (h : a.data.toList = b.data.toList) : a = b := by
  apply ByteArray.ext
  exact Array.toList_inj.1 h
theorem nameK_same (a b : ByteArray) : (nameK a).sameKey (nameK b) = decide (a = b) := by
  unfold nameK Lit.sameKey
  by_cases h : a = b
  · subst h; simp
  · rw [decide_eq_false h]
    exact beq_eq_false_iff_ne.2 fun e => h (bytes_eq e)
theorem before_less : ∀ a b : List UInt8, bytesBefore a b = Op.bytesLess a b
  | [], [] => rfl
  | _ :: _, [] => rfl
  | [], _ :: _ => rfl
  | a :: x, b :: y => by
    unfold bytesBefore Op.bytesLess
    rw [before_less x y]
theorem nameK_before (a b : ByteArray) : (nameK a).before (nameK b) = ahead a b := by
  show bytesBefore a.data.toList b.data.toList = Op.bytesLess a.toList b.toList
  rw [before_less, Lib.toList_data, Lib.toList_data]
theorem linkD_isMap (l : List Lnk) : IsMap (linkD l) := ⟨_, rfl⟩
theorem ins_insert (x : Lnk) : ∀ l : List Lnk, (ins x l).map (fun y => ((nameK y.name, .lit (.int .i64 y.id)) : Lit × DataW Unit)) = DataW.insert (nameK x.name, .lit (.int .i64 x.id)) (l.map fun y => (nameK y.name, .lit (.int .i64 y.id)))
  | [] => rfl
  | y :: r => by
    unfold ins
    rw [List.map_cons]
    unfold DataW.insert
    rw [nameK_before]
    by_cases h : ahead x.name y.name = true
    · rw [if_pos h, if_pos h]; rfl
    · rw [if_neg h, if_neg h, List.map_cons, ins_insert x r]
theorem filter_links (l : List Lnk) (name : ByteArray) : (l.map fun y => ((nameK y.name, .lit (.int .i64 y.id)) : Lit × DataW Unit)).filter (fun p => !p.1.sameKey (nameK name)) = (without l name).map fun y => (nameK y.name, .lit (.int .i64 y.id)) := by
  unfold without
  rw [List.filter_map]
  congr 1
  apply List.filter_congr
  intro x _
  simp only [Function.comp, nameK_same]
  by_cases h : x.name = name <;> simp [h]
/-- A link that comes in. -/
theorem linkD_put (l : List Lnk) (x : Lnk) : (linkD l).put (nameK x.name) (.lit (.int .i64 x.id)) = linkD (withL l x) := by
  unfold linkD DataW.put withL
  simp only
  rw [filter_links, ins_insert]
/-- A link that goes. -/
theorem linkD_del (l : List Lnk) (name : ByteArray) : (linkD l).del (nameK name) = linkD (without l name) := by
  unfold linkD DataW.del
  simp only
  rw [filter_links]
theorem linkD_has (l : List Lnk) (name : ByteArray) : has (linkD l) (nameK name) = (linkAt l name).isSome := by
  unfold linkD linkAt
  rw [has_eq, List.any_map, List.findIdx?_isSome]
  congr 1
  funext x
  simp only [Function.comp, nameK_same]
theorem linkD_at (l : List Lnk) (name : ByteArray) (i : Nat) (h : linkAt l name = some i) (z : DataW Unit) : (linkD l).atKey (nameK name) z = .lit (.int .i64 (l.getD i default).id) := by
  unfold linkAt at h
  rw [List.findIdx?_eq_some_iff_getElem] at h
  obtain ⟨hi, hp, hn⟩ := h
  have hf : l.find? (fun x => decide (x.name = name)) = some l[i] := by
    rw [List.find?_eq_some_iff_getElem]
    exact ⟨hp, i, hi, rfl, fun j hj => by simpa using hn j hj⟩
  unfold linkD DataW.atKey
  simp only
  rw [List.find?_map]
  have e : ((fun p : Lit × DataW Unit => p.1.sameKey (nameK name)) ∘ fun y : Lnk => (nameK y.name, .lit (.int .i64 y.id))) = fun x : Lnk => decide (x.name = name) := by
    funext x
    simp only [Function.comp, nameK_same]
  rw [e, hf, ← getD_at l i hi]
  rfl
theorem linkD_none (l : List Lnk) (name : ByteArray) (h : linkAt l name = none) (z : DataW Unit) : (linkD l).atKey (nameK name) z = z := by
  refine atKey_of_not_has ?_ z
  rw [linkD_has, h]
  rfl
theorem linkD_size (l : List Lnk) : Maps.size (linkD l) = l.length := by
  unfold linkD
  rw [size_eq, List.length_map]

/-! ### numbers that lead to places -/
/-- The place that a number leads to. -/
def ptrAt (l : List (Int × Nat)) (id : Int) : Option Nat := (l.find? fun p => decide (p.1 = id)).map (·.2)
def ptrDel (l : List (Int × Nat)) (id : Int) : List (Int × Nat) := l.filter fun p => decide (p.1 ≠ id)
theorem intK_same (a b : Int) : (Lit.int .i64 a).sameKey (.int .i64 b) = decide (a = b) := by
  unfold Lit.sameKey
  simp
theorem ptrD_isMap (l : List (Int × Nat)) : IsMap (ptrD l) := ⟨_, rfl⟩
theorem ptrD_del (l : List (Int × Nat)) (id : Int) : (ptrD l).del (.int .i64 id) = ptrD (ptrDel l id) := by
  unfold ptrD DataW.del ptrDel
  simp only
  rw [List.filter_map]
  congr 2
  apply List.filter_congr
  intro x _
  simp only [Function.comp, intK_same]
  by_cases h : x.1 = id <;> simp [h]
theorem ptrD_has (l : List (Int × Nat)) (id : Int) : has (ptrD l) (.int .i64 id) = (ptrAt l id).isSome := by
  unfold ptrD ptrAt
  rw [has_eq, List.any_map, Option.isSome_map, Bool.eq_iff_iff, List.find?_isSome, List.any_eq_true]
  simp only [Function.comp, intK_same]
theorem ptrD_at (l : List (Int × Nat)) (id : Int) (z : DataW Unit) : (ptrD l).atKey (.int .i64 id) z = match ptrAt l id with | some g => .lit (.int .i64 (g : Int)) | none => z := by
  unfold ptrD DataW.atKey ptrAt
  simp only
  rw [List.find?_map]
  have e : ((fun p : Lit × DataW Unit => p.1.sameKey (.int .i64 id)) ∘ fun y : Int × Nat => ((.int .i64 y.1 : Lit), (.lit (.int .i64 (y.2 : Int)) : DataW Unit))) = fun x : Int × Nat => decide (x.1 = id) := by
    funext x
    simp only [Function.comp, intK_same]
  rw [e]
  cases l.find? fun p => decide (p.1 = id) <;> rfl
theorem ptrD_size (l : List (Int × Nat)) : Maps.size (ptrD l) = l.length := by
  unfold ptrD
  rw [size_eq, List.length_map]
theorem insert_last (k : Int) (d : DataW Unit) : ∀ l : List (Int × Nat), (∀ p ∈ l, p.1 < k) → DataW.insert (.int .i64 k, d) (l.map fun p => ((.int .i64 p.1 : Lit), (.lit (.int .i64 (p.2 : Int)) : DataW Unit))) = (l.map fun p => (.int .i64 p.1, .lit (.int .i64 (p.2 : Int)))) ++ [(.int .i64 k, d)]
  | [], _ => rfl
  | p :: r, h => by
    rw [List.map_cons]
    unfold DataW.insert
    have h1 := h p (by simp)
    have e : (Lit.int .i64 k).before (.int .i64 p.1) = false := by
      unfold Lit.before
      exact decide_eq_false (by omega)
    rw [e, insert_last k d r fun q hq => h q (by simp [hq])]
    rfl
/-- A number above all others comes in at the end. -/
theorem ptrD_put (l : List (Int × Nat)) (id : Int) (g : Nat) (h : ∀ p ∈ l, p.1 < id) : (ptrD l).put (.int .i64 id) (.lit (.int .i64 (g : Int))) = ptrD (l ++ [(id, g)]) := by
  unfold ptrD DataW.put
  simp only
  have e : (l.map fun p => ((.int .i64 p.1 : Lit), (.lit (.int .i64 (p.2 : Int)) : DataW Unit))).filter (fun p => !p.1.sameKey (.int .i64 id)) = l.map fun p => (.int .i64 p.1, .lit (.int .i64 (p.2 : Int))) := by
    apply List.filter_eq_self.2
    intro p hp
    obtain ⟨q, hq, rfl⟩ := List.mem_map.1 hp
    have := h q hq
    simp only [intK_same]
    rw [decide_eq_false (by omega)]
    rfl
  rw [e, insert_last id _ l h, List.map_append]
  rfl
/-- How a pointer to a whole block, or nil, reads. -/
def ptrElem : Value → Option (DataW Unit × List MemPlace)
  | .pointer none => some (.nil, [])
  | .pointer (some ⟨g, 0, none⟩) => some (.lit (.int .i64 (g : Int)), [])
  | _ => none
theorem ptrElem_mk (g : Nat) : ptrElem (.pointer (some ⟨g, 0, none⟩)) = some (.lit (.int .i64 (g : Int)), []) := rfl
theorem ptrElem_nil : ptrElem (.pointer none) = some (.nil, []) := rfl
theorem ptrElem_inv {v : Value} {g : Nat} {ps : List MemPlace} (h : ptrElem v = some (.lit (.int .i64 (g : Int)), ps)) : v = .pointer (some ⟨g, 0, none⟩) := by
  unfold ptrElem at h
  split at h
  · cases h
  · rename_i g' 
    cases h
    rfl
  · cases h
theorem ptrElem_inv_nil {v : Value} {ps : List MemPlace} (h : ptrElem v = some (.nil, ps)) : v = .pointer none := by
  unfold ptrElem at h
  split at h
  · rfl
  · cases h
  · cases h
end Go.Proofs.YtnnfnhpehacelaaGreat
