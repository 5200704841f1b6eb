/-
  Name tables and tables of inodes at this program: looks, puts and strikes, as equations on the operations' runs.
-/
import Derived.Test.YtnnfnhpehacelaaGreatRows
import Derived.Test.YtnnfnhpehacelaaGreatDkMap
import Derived.Test.YtnnfnhpehacelaaGreatDkBlk
import Derived.Maps.OwnSet
import Derived.Maps.RangeWalk
import Derived.StringKeys
namespace Go.Proofs.YtnnfnhpehacelaaGreat
open Go.RowKit Go.PlainAid Go.Maps Go.ChangeMaps Go.WideMaps

/-- The world has turned in these blocks alone (and new ones). -/
structure But (S : Nat → Prop) (w w' : World) : Prop where
  os : w'.os = w.os
  tape : w'.tape = w.tape
  output : w'.output = w.output
  size : w.heap.size ≤ w'.heap.size
  block : ∀ k, k < w.heap.size → ¬ S k → w'.heap[k]? = w.heap[k]?
theorem But.refl (S : Nat → Prop) (w : World) : But S w w := ⟨rfl, rfl, rfl, Nat.le_refl _, fun _ _ _ => rfl⟩
theorem But.trans {S T : Nat → Prop} {a b c : World} (h : But S a b) (k : But T b c) (hs : ∀ i, i < a.heap.size → T i → S i) : But S a c :=
  ⟨k.os.trans h.os, k.tape.trans h.tape, k.output.trans h.output, Nat.le_trans h.size k.size, fun i hi hn => (k.block i (Nat.lt_of_lt_of_le hi h.size) (fun ht => hn (hs i hi ht))).trans (h.block i hi hn)⟩
theorem But.below {S : Nat → Prop} {w w' : World} (h : But S w w') (B : Nat) (hB : B ≤ w.heap.size) (hs : ∀ i, i < B → ¬ S i) : Below B w w' :=
  ⟨h.os, h.tape, h.output, h.size, fun i hi => h.block i (Nat.lt_of_lt_of_le hi hB) (hs i hi)⟩
theorem But.mono {S T : Nat → Prop} {w w' : World} (h : But S w w') (hs : ∀ i, i < w.heap.size → S i → T i) : But T w w' :=
  ⟨h.os, h.tape, h.output, h.size, fun i hi hn => h.block i hi fun k => hn (hs i hi k)⟩
theorem But.of_below {w w' : World} (S : Nat → Prop) (h : Below w.heap.size w w') : But S w w' := ⟨h.os, h.tape, h.output, h.size, fun i hi _ => h.block i hi⟩
theorem But.of_grown {w w' : World} {b : Nat} (h : w.grownBy w' (some b)) : But (fun i => i = b) w w' := ⟨h.os, h.tape, h.output, h.size, fun i hi hn => h.block i hi fun e => hn (by cases e; rfl)⟩
theorem But.alloc {S : Nat → Prop} {a w : World} (h : But S a w) (o : Obj) : But S a (w.alloc o) := h.trans (But.of_below (fun _ => False) ((Below.refl _ w).alloc (Nat.le_refl _) o)) (fun _ _ k => k.elim)
theorem But.drew {S : Nat → Prop} {a w : World} (h : But S a w) : But S a w.drew := ⟨h.os, h.tape, h.output, h.size, h.block⟩
theorem But.drewN {S : Nat → Prop} {a w : World} (h : But S a w) (n : Nat) : But S a (w.drewN n) := ⟨h.os, h.tape, h.output, h.size, h.block⟩
theorem But.setCell {S : Nat → Prop} {a w : World} (h : But S a w) {p : Addr} (hp : p.block < a.heap.size → S p.block) (u : Value) : But S a (w.setCell p u) :=
  ⟨h.os, h.tape, h.output, by
    have : (w.setCell p u).heap.size = w.heap.size := by simp [World.setCell]
    rw [this]
    exact h.size, fun i hi hn => by
    rw [Below.heap_setCell _ _ _ _ (fun e : i = p.block => hn (by subst e; exact hp hi))]
    exact h.block i hi hn⟩
theorem But.blk {S : Nat → Prop} {w w' : World} {g : Nat} {cs : Array Value} {t : TypeId} (h : But S w w') (hb : Blk w g cs t) (hn : ¬ S g) : Blk w' g cs t := by
  unfold Blk
  rw [h.block g hb.lt hn]
  exact hb
theorem But.lies {S : Nat → Prop} {w w' : World} {B sz : Nat} {v : Value} {rows : List (List Value)} (h : But S w w') (hv : Lies w B sz v rows) (hB : B ≤ w.heap.size) (hs : ∀ i, i < B → ¬ S i) : Lies w' B sz v rows := hv.on (h.below B hB hs)

/-- How an element that is an int reads. -/
def intElem : Value → Option (DataW Unit × List MemPlace)
  | .int .i64 a => some (.lit (.int .i64 a), [])
  | _ => none
theorem intElem_inv {v : Value} {a : Int} {ps : List MemPlace} (h : intElem v = some (.lit (.int .i64 a), ps)) : v = .int .i64 a := by
  unfold intElem at h
  split at h
  · cases h; rfl
  · cases h

/-- Block b is the table of these names. -/
def NT (w : World) (b : Nat) (l : List Lnk) : Prop := ∃ n, w.ownsMap Tryz.prog 9 intElem b n (linkD l)
theorem NT.lt {w : World} {b : Nat} {l : List Lnk} (h : NT w b l) : b < w.heap.size := let ⟨_, h⟩ := h; h.lt
theorem NT.kept {w w' : World} {b : Nat} {l : List Lnk} (h : NT w b l) (hb : w'.heap[b]? = w.heap[b]?) : NT w' b l := by
  obtain ⟨n, es, clock, h1, h2⟩ := h
  exact ⟨n, es, clock, hb.trans h1, h2⟩
theorem NT.on {w w' : World} {b B : Nat} {l : List Lnk} (h : NT w b l) (hb : Below B w w') (hB : b < B) : NT w' b l := h.kept (hb.block b hB)
theorem NT.but {S : Nat → Prop} {w w' : World} {b : Nat} {l : List Lnk} (h : NT w b l) (hb : But S w w') (hn : ¬ S b) : NT w' b l := h.kept (hb.block b h.lt hn)
theorem NT.tight {w : World} {b : Nat} {l : List Lnk} (h : NT w b l) : w.ownsMap Tryz.prog 9 intElem b l.length (linkD l) := by
  obtain ⟨n, es, clock, hb, F, hs, hD⟩ := h
  refine ⟨es, clock, hb, F, ?_, hD⟩
  have := congrArg Maps.size hD
  rw [linkD_size] at this
  rw [this]
  simp [Maps.size, length_sorted]
theorem NT.made (w : World) : NT (w.alloc (.map #[] 0)) w.heap.size [] := ⟨0, World.ownsMap_made w _ _ _⟩
theorem nameK_of {s : ByteArray} (hs : s.size ≤ maxLen) : keyOf Tryz.prog 9 (.string s) = some (nameK s) := keyOf_string_mk Tryz.underlying9 hs
theorem zero_int (w : World) : (zeroValue 3).run Tryz.prog w = .ok (.int .i64 0) w := by simp [Tryz.zeroValue3]
theorem NT.look {w : World} {b : Nat} {l : List Lnk} (h : NT w b l) (s : ByteArray) (hs : s.size ≤ maxLen) :
    (linkAt l s = none → (Instr.lookup 106 (.map (some b)) (.string s) true).run Tryz.prog w = .ok (.tuple #[.int .i64 0, .bool false]) w) ∧
    (∀ i, linkAt l s = some i → (Instr.lookup 106 (.map (some b)) (.string s) true).run Tryz.prog w = .ok (.tuple #[.int .i64 (l.getD i default).id, .bool true]) w) := by
  obtain ⟨n, h⟩ := h
  obtain ⟨v, ps, hrun, hv⟩ := h.look_ok (string_keyed Tryz.underlying9) Tryz.underlying106 (zero_int w) (zd := .lit (.int .i64 0)) (zp := []) rfl (nameK_of hs)
  rw [linkD_has] at hrun
  constructor
  · intro e
    rw [linkD_none l s e] at hv
    rw [hrun, e, intElem_inv hv]
    rfl
  · intro i e
    rw [linkD_at l s i e] at hv
    rw [hrun, e, intElem_inv hv]
    rfl
theorem NT.val {w : World} {b : Nat} {l : List Lnk} (h : NT w b l) (s : ByteArray) (hs : s.size ≤ maxLen) (i : Nat) (hi : linkAt l s = some i) :
    (Instr.lookup 106 (.map (some b)) (.string s) false).run Tryz.prog w = .ok (.int .i64 (l.getD i default).id) w := by
  obtain ⟨n, h⟩ := h
  obtain ⟨v, ps, hrun, hv⟩ := h.lookup (string_keyed Tryz.underlying9) Tryz.underlying106 (zero_int w) (zd := .lit (.int .i64 0)) (zp := []) rfl (nameK_of hs)
  rw [linkD_at l s i hi] at hv
  rw [hrun, intElem_inv hv]
theorem NT.put {w : World} {b : Nat} {l : List Lnk} (h : NT w b l) (s : ByteArray) (id : Int) (hs : s.size ≤ maxLen) (hl : l.length < maxLen) :
    ∃ w', (Instr.mapUpdate 106 (.map (some b)) (.string s) (.int .i64 id)).run Tryz.prog w = .ok () w' ∧ NT w' b (withL l ⟨s, id⟩) ∧ But (fun i => i = b) w w' ∧ w'.heap.size = w.heap.size := by
  obtain ⟨w', hrun, h1, h2⟩ := h.tight.store (string_keyed Tryz.underlying9) Tryz.underlying106 hl (nameK_of hs) (show intElem (.int .i64 id) = some (.lit (.int .i64 id), []) from rfl)
  rw [linkD_put l ⟨s, id⟩] at h1
  refine ⟨w', hrun, ⟨_, h1⟩, But.of_grown h2.grown, ?_⟩
  obtain ⟨_, _, _, _, _, rfl⟩ := h2
  simp [setBlock]
theorem NT.del {w : World} {b : Nat} {l : List Lnk} (h : NT w b l) (s : ByteArray) (hs : s.size ≤ maxLen) (ty : TypeId) :
    ∃ w', (Builtin.delete_ #[106, 9] ty #[.map (some b), .string s]).run Tryz.prog w = .ok (.tuple #[]) w' ∧ NT w' b (without l s) ∧ But (fun i => i = b) w w' ∧ w'.heap.size = w.heap.size := by
  obtain ⟨n, h⟩ := h
  obtain ⟨w', hrun, h1, h2⟩ := h.drop (string_keyed Tryz.underlying9) Tryz.underlying106 (nameK_of hs) ty
  rw [linkD_del l s] at h1
  refine ⟨w', hrun, ⟨_, h1⟩, But.of_grown h2.grown, ?_⟩
  obtain ⟨_, _, _, _, _, rfl⟩ := h2
  simp [setBlock]

/-- Block b is the table of these places by number. -/
def IT (w : World) (b : Nat) (l : List (Int × Nat)) : Prop := ∃ n, w.ownsMap Tryz.prog 3 ptrElem b n (ptrD l)
theorem IT.lt {w : World} {b : Nat} {l : List (Int × Nat)} (h : IT w b l) : b < w.heap.size := let ⟨_, h⟩ := h; h.lt
theorem IT.kept {w w' : World} {b : Nat} {l : List (Int × Nat)} (h : IT w b l) (hb : w'.heap[b]? = w.heap[b]?) : IT w' b l := by
  obtain ⟨n, es, clock, h1, h2⟩ := h
  exact ⟨n, es, clock, hb.trans h1, h2⟩
theorem IT.on {w w' : World} {b B : Nat} {l : List (Int × Nat)} (h : IT w b l) (hb : Below B w w') (hB : b < B) : IT w' b l := h.kept (hb.block b hB)
theorem IT.but {S : Nat → Prop} {w w' : World} {b : Nat} {l : List (Int × Nat)} (h : IT w b l) (hb : But S w w') (hn : ¬ S b) : IT w' b l := h.kept (hb.block b h.lt hn)
theorem IT.tight {w : World} {b : Nat} {l : List (Int × Nat)} (h : IT w b l) : w.ownsMap Tryz.prog 3 ptrElem b l.length (ptrD l) := by
  obtain ⟨n, es, clock, hb, F, hs, hD⟩ := h
  refine ⟨es, clock, hb, F, ?_, hD⟩
  have := congrArg Maps.size hD
  rw [ptrD_size] at this
  rw [this]
  simp [Maps.size, length_sorted]
theorem IT.made (w : World) : IT (w.alloc (.map #[] 0)) w.heap.size [] := ⟨0, World.ownsMap_made w _ _ _⟩
/-- An int that an int can be. -/
def IntOk (a : Int) : Prop := -9223372036854775808 ≤ a ∧ a ≤ 9223372036854775807
theorem wf_int {a : Int} (h : IntOk a) : (Lit.int .i64 a).wf = true := by
  exact WalkArith.wf_i64 h
theorem intK_of {a : Int} (h : IntOk a) : keyOf Tryz.prog 3 (.int .i64 a) = some (.int .i64 a) := keyOf_int_mk Tryz.underlying3 (wf_int h)
theorem zero_ptr (w : World) : (zeroValue 111).run Tryz.prog w = .ok (.pointer none) w := by simp [Tryz.zeroValue111]
theorem IT.val {w : World} {b : Nat} {l : List (Int × Nat)} (h : IT w b l) (id : Int) (hs : IntOk id) :
    (ptrAt l id = none → (Instr.lookup 104 (.map (some b)) (.int .i64 id) false).run Tryz.prog w = .ok (.pointer none) w) ∧
    (∀ g, ptrAt l id = some g → (Instr.lookup 104 (.map (some b)) (.int .i64 id) false).run Tryz.prog w = .ok (.pointer (some ⟨g, 0, none⟩)) w) := by
  obtain ⟨n, h⟩ := h
  obtain ⟨v, ps, hrun, hv⟩ := h.lookup (int_keyed Tryz.underlying3) Tryz.underlying104 (zero_ptr w) (zd := .nil) (zp := []) rfl (intK_of hs)
  rw [ptrD_at] at hv
  constructor
  · intro e
    rw [e] at hv
    rw [hrun, ptrElem_inv_nil hv]
  · intro g e
    rw [e] at hv
    rw [hrun, ptrElem_inv hv]
theorem IT.put {w : World} {b : Nat} {l : List (Int × Nat)} (h : IT w b l) (id : Int) (g : Nat) (hs : IntOk id) (hl : l.length < maxLen) (hlast : ∀ p ∈ l, p.1 < id) :
    ∃ w', (Instr.mapUpdate 104 (.map (some b)) (.int .i64 id) (.pointer (some ⟨g, 0, none⟩))).run Tryz.prog w = .ok () w' ∧ IT w' b (l ++ [(id, g)]) ∧ But (fun i => i = b) w w' ∧ w'.heap.size = w.heap.size := by
  obtain ⟨w', hrun, h1, h2⟩ := h.tight.store (int_keyed Tryz.underlying3) Tryz.underlying104 hl (intK_of hs) (ptrElem_mk g)
  rw [ptrD_put l id g hlast] at h1
  refine ⟨w', hrun, ⟨_, h1⟩, But.of_grown h2.grown, ?_⟩
  obtain ⟨_, _, _, _, _, rfl⟩ := h2
  simp [setBlock]
theorem IT.del {w : World} {b : Nat} {l : List (Int × Nat)} (h : IT w b l) (id : Int) (hs : IntOk id) (ty : TypeId) :
    ∃ w', (Builtin.delete_ #[104, 3] ty #[.map (some b), .int .i64 id]).run Tryz.prog w = .ok (.tuple #[]) w' ∧ IT w' b (ptrDel l id) ∧ But (fun i => i = b) w w' ∧ w'.heap.size = w.heap.size := by
  obtain ⟨n, h⟩ := h
  obtain ⟨w', hrun, h1, h2⟩ := h.drop (int_keyed Tryz.underlying3) Tryz.underlying104 (intK_of hs) ty
  rw [ptrD_del l id] at h1
  refine ⟨w', hrun, ⟨_, h1⟩, But.of_grown h2.grown, ?_⟩
  obtain ⟨_, _, _, _, _, rfl⟩ := h2
  simp [setBlock]
theorem IT.len {w : World} {b : Nat} {l : List (Int × Nat)} (h : IT w b l) (ty : TypeId) : (Builtin.len_ #[104] ty #[.map (some b)]).run Tryz.prog w = .ok (.int .i64 (l.length : Int)) w := by
  obtain ⟨n, h⟩ := h
  have := h.len Tryz.underlying104 ty
  rw [ptrD_size] at this
  exact this
end Go.Proofs.YtnnfnhpehacelaaGreat
