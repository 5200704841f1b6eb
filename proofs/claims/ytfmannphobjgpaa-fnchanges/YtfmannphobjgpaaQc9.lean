/- CurAid CodeArg WlMath ChMath StCopy OwnBlk Cursor CurNew CurOnce NmAid CurTx -/
import Derived.Test.YtfmannphobjgpaaQc0
import Derived.OneCell
import Derived.WalkSmall
import Derived.Test.YtfmannphobjgpaaRows
import Derived.ChangeSlices
import Derived.ChangeArms
import Derived.OpenShut
import Derived.Test.YtfmannphobjgpaaQc6
import Derived.Test.YtfmannphobjgpaaQc3
import Derived.Handy
import Derived.Deep.RegionHeld3
import Derived.Lib.OwnKind
import Derived.WalkKit
import Derived.ProofKit
import Derived.Below
import Derived.WalkLawsBesides
import Derived.Outline
import Derived.BigQuiet
import Derived.Deep.QuietTactic
import Derived.Laws.OwnMore
import Derived.OwnWalk
import Derived.Shelf.Strings.BuilderK
import Derived.Test.YtfmannphobjgpaaQc2
namespace Go.Proofs.Ytfmannphobjgpaa
open Go.RowKit Go.PlainAid
structure Mod (B p : Nat) (w w' : World) : Prop where
 os : w'.os = w.os
 tape : w'.tape = w.tape
 output : w'.output = w.output
 size : w.heap.size ≤ w'.heap.size
 block : ∀ b, b < B → b ≠ p → w'.heap[b]? = w.heap[b]?
theorem Mod.refl (B p : Nat) (w : World) : Mod B p w w := ⟨rfl, rfl, rfl, Nat.le_refl _, fun _ _ _ => rfl⟩
theorem Mod.trans {B p : Nat} {a b c : World} (h : Mod B p a b) (k : Mod B p b c) : Mod B p a c :=
 ⟨k.os.trans h.os, k.tape.trans h.tape, k.output.trans h.output, Nat.le_trans h.size k.size, fun i hi hp => (k.block i hi hp).trans (h.block i hi hp)⟩
theorem Mod.mono {B C p : Nat} {a b : World} (h : Mod C p a b) (hB : B ≤ C) : Mod B p a b := ⟨h.os, h.tape, h.output, h.size, fun i hi hp => h.block i (Nat.lt_of_lt_of_le hi hB) hp⟩
theorem Mod.of_below {B p : Nat} {a b : World} (h : Below B a b) : Mod B p a b := ⟨h.os, h.tape, h.output, h.size, fun i hi _ => h.block i hi⟩
theorem Mod.below {B p : Nat} {a b : World} (h : Mod B p a b) (hB : B ≤ p) : Below B a b := ⟨h.os, h.tape, h.output, h.size, fun i hi => h.block i hi (by omega)⟩
theorem Mod.setCell {B p i : Nat} {a b : World} (h : Mod B p a b) (v : Value) : Mod B p a (b.setCell ⟨p, i, none⟩ v) := by
 refine h.trans ⟨rfl, rfl, rfl, ?_, fun j _ hj => ?_⟩
 ·simp
 ·exact Below.heap_setCell _ _ _ _ hj
theorem Mod.drewN {B p : Nat} {a b : World} (h : Mod B p a b) (k : Nat) : Mod B p a (b.drewN k) := by
 have hd := (⟨rfl, rfl, rfl, Nat.le_refl _, fun _ _ => rfl⟩ : Below B b (b.drewN k))
 exact h.trans (Mod.of_below hd)
theorem Mod.drew {B p : Nat} {a b : World} (h : Mod B p a b) : Mod B p a b.drew := h.trans (Mod.of_below (Below.refl B b).drew)
theorem Mod.alloc {B p : Nat} {a b : World} (h : Mod B p a b) (hB : B ≤ b.heap.size) (o : Obj) : Mod B p a (b.alloc o) := h.trans (Mod.of_below ((Below.refl B b).alloc hB o))
def CodeIs (w : World) (p : Nat) (ao : Option Addr) (len : Nat) (cs : Nat → Nat) : Prop :=
 len = 0 ∨ ∃ cb co, ao = some ⟨cb, co, none⟩ ∧ cb < p ∧ ∀ j, j < len → cs j < 256 ∧ w.cell? ⟨cb, co + j, none⟩ = some (.int .u8 (cs j : Int))
theorem CodeIs.kept {w w' : World} {B p : Nat} {ao : Option Addr} {len : Nat} {cs : Nat → Nat} (h : CodeIs w p ao len cs) (hm : Mod B p w w') (hp : p ≤ B) : CodeIs w' p ao len cs := by
 rcases h with h | ⟨cb, co, rfl, hcb, hj⟩
 ·exact .inl h
 ·refine .inr ⟨cb, co, rfl, hcb, fun j hj' => ⟨(hj j hj').1, ?_⟩⟩
  rw [← (hj j hj').2]
  exact World.cell?_of_block (w := w) (hm.block cb (by omega) (by omega))
theorem CodeIs.at {w : World} {p : Nat} {ao : Option Addr} {len : Nat} {cs : Nat → Nat} (h : CodeIs w p ao len cs) {i : Nat} (hi : i < len) :
  ∃ cb co, ao = some ⟨cb, co, none⟩ ∧ cb < p ∧ cs i < 256 ∧ w.cell? ⟨cb, co + i, none⟩ = some (.int .u8 (cs i : Int)) := by
 rcases h with h | ⟨cb, co, rfl, hcb, hj⟩
 ·omega
 ·exact ⟨cb, co, rfl, hcb, (hj i hi).1, (hj i hi).2⟩
def Cur (T : TypeId) (w : World) (p : Nat) (ao : Option Addr) (len cap i : Nat) (h : Int) : Prop := w.heap[p]? = some (.cells #[.slice ao len cap, .int .i64 (i : Int), .int .i64 h] T (0, 0))
theorem Cur.lt {T : TypeId} {w : World} {p : Nat} {ao : Option Addr} {len cap i : Nat} {h : Int} (c : Cur T w p ao len cap i h) : p < w.heap.size := lt_of_block c
theorem Cur.c0 {T : TypeId} {w : World} {p : Nat} {ao : Option Addr} {len cap i : Nat} {h : Int} (c : Cur T w p ao len cap i h) : w.cell? ⟨p, 0, none⟩ = some (.slice ao len cap) := by unfold Cur at c; simp [World.cell?, c]
theorem Cur.c1 {T : TypeId} {w : World} {p : Nat} {ao : Option Addr} {len cap i : Nat} {h : Int} (c : Cur T w p ao len cap i h) : w.cell? ⟨p, 1, none⟩ = some (.int .i64 (i : Int)) := by unfold Cur at c; simp [World.cell?, c]
theorem Cur.c2 {T : TypeId} {w : World} {p : Nat} {ao : Option Addr} {len cap i : Nat} {h : Int} (c : Cur T w p ao len cap i h) : w.cell? ⟨p, 2, none⟩ = some (.int .i64 h) := by unfold Cur at c; simp [World.cell?, c]
theorem Cur.free {T : TypeId} {w : World} {p : Nat} {ao : Option Addr} {len cap i : Nat} {h : Int} (c : Cur T w p ao len cap i h) (j : Nat) : w.frozen? ⟨p, j, none⟩ = false := by unfold Cur at c; simp [World.frozen?, c]
theorem Cur.set2 {T : TypeId} {w : World} {p : Nat} {ao : Option Addr} {len cap i : Nat} {h : Int} (c : Cur T w p ao len cap i h) (h' : Int) : Cur T (w.setCell ⟨p, 2, none⟩ (.int .i64 h')) p ao len cap i h' := by
 have hlt := c.lt
 unfold Cur at c ⊢
 have e : w.heap[p] = .cells #[.slice ao len cap, .int .i64 (i : Int), .int .i64 h] T (0, 0) := by simpa [Array.getElem?_eq_getElem hlt] using c
 show (w.heap.modify p _)[p]? = _
 rw [Array.getElem?_eq_getElem (by simpa using hlt), Array.getElem_modify_self, e]
 rfl
theorem Cur.set1 {T : TypeId} {w : World} {p : Nat} {ao : Option Addr} {len cap i : Nat} {h : Int} (c : Cur T w p ao len cap i h) (k : Nat) : Cur T (w.setCell ⟨p, 1, none⟩ (.int .i64 (k : Int))) p ao len cap k h := by
 have hlt := c.lt
 unfold Cur at c ⊢
 have e : w.heap[p] = .cells #[.slice ao len cap, .int .i64 (i : Int), .int .i64 h] T (0, 0) := by simpa [Array.getElem?_eq_getElem hlt] using c
 show (w.heap.modify p _)[p]? = _
 rw [Array.getElem?_eq_getElem (by simpa using hlt), Array.getElem_modify_self, e]
 rfl
theorem Cur.below {T : TypeId} {w w' : World} {B p : Nat} {ao : Option Addr} {len cap i : Nat} {h : Int} (c : Cur T w p ao len cap i h) (hb : Below B w w') (hp : p < B) : Cur T w' p ao len cap i h := by
 unfold Cur at c ⊢
 rw [hb.block p hp, c]
theorem Cur.drewN {T : TypeId} {w : World} {p : Nat} {ao : Option Addr} {len cap i : Nat} {h : Int} (c : Cur T w p ao len cap i h) (k : Nat) : Cur T (w.drewN k) p ao len cap i h :=
 c.below (⟨rfl, rfl, rfl, Nat.le_refl _, fun _ _ => rfl⟩ : Below (p + 1) w (w.drewN k)) (by omega)
def curH (h : Int) : Int := wrap64 (wrap64 (h * 6364136223846793005) + 1442695040888963407)
def curX (h : Int) : Int := bits .and .i64 (bits .xor .i64 (h / 8589934592) (h / 35184372088832)) 255
theorem and255 (x : Int) : 0 ≤ bits .and .i64 x 255 ∧ bits .and .i64 x 255 ≤ 255 := by
 have e : bits .and .i64 x 255 = IntKind.i64.wrap ((BitVec.ofInt 64 x &&& BitVec.ofInt 64 ((255 : Nat) : Int)).toNat : Int) := rfl
 rw [e, BitVec.toNat_and, ofInt_u64 255 (by omega), nat_mask8]
 have h : (BitVec.ofInt 64 x).toNat % 256 < 256 := Nat.mod_lt _ (by omega)
 rw [Lib.wrap_i64_small _ (by omega)]
 omega
theorem curX_bd (h : Int) : 0 ≤ curX h ∧ curX h ≤ 255 := and255 _
structure Pos where
 i : Nat
 h : Int
def byteV (len : Nat) (cs : Nat → Nat) (s : Pos) : Int := if s.i < len then bits .and .i64 (curX (curH s.h) + (cs s.i : Int)) 255 else curX (curH s.h)
def byteP (len : Nat) (s : Pos) : Pos := if s.i < len then ⟨s.i + 1, curH s.h⟩ else ⟨s.i, curH s.h⟩
theorem byteV_bd (len : Nat) (cs : Nat → Nat) (s : Pos) : 0 ≤ byteV len cs s ∧ byteV len cs s ≤ 255 := by
 unfold byteV
 split
 ·exact and255 _
 ·exact curX_bd _
end Go.Proofs.Ytfmannphobjgpaa
namespace Go.Proofs.Ytfmannphobjgpaa
open Go.ChangeShapes Go.WideShapes Go.ChangeAt Go.RowKit Go.PlainAid
set_option linter.unusedVariables false
theorem code_of {W : World} {a : Option Addr} {len cap : Nat} {zs : List Int} {x : Addr} (ha : a = some x) (hl : len ≤ cap) (hz : zs.length = cap) (hcell : ∀ i, i < zs.length → W.cell? (x.add i) = some (.int .u8 (zs.getD i 0))) (hwz : ∀ n ∈ zs, (Lit.int .u8 n).wf = true) :
  ∃ cs, CodeIs W W.heap.size a len cs := by
 refine ⟨fun j => (zs.getD j 0).toNat, ?_⟩
 by_cases h0 : len = 0
 ·exact .inl h0
 ·right
  obtain ⟨b, off, spot⟩ := x
  have hc := hcell 0 (by omega)
  have hspot : spot = none := by simpa [Addr.add] using World.cell?_spot hc
  subst hspot
  have hadd : ∀ j, (⟨b, off, none⟩ : Addr).add j = ⟨b, off + j, none⟩ := by intro j; cases j <;> simp [Addr.add]
  refine ⟨b, off, ha, ?_, ?_⟩
  ·rw [hadd] at hc
   rcases Nat.lt_or_ge b W.heap.size with h | h
   ·exact h
   ·simp [World.cell?, Array.getElem?_eq_none h] at hc
  ·intro j hj
   have hj' : j < zs.length := by omega
   have hm : zs.getD j 0 ∈ zs := by
    rw [List.getD_eq_getElem?_getD, List.getElem?_eq_getElem hj']
    exact List.getElem_mem hj'
   have hb := bounds_u8 (hwz _ hm)
   have hcj := hcell j hj'
   rw [hadd] at hcj
   refine ⟨by show (zs.getD j 0).toNat < 256; omega, ?_⟩
   rw [hcj, show (((zs.getD j 0).toNat : Nat) : Int) = zs.getD j 0 by omega]
theorem cByte : Try.prog.cellsOf 5 = 1 := by kernel_rfl
theorem open_code {H : Type} {enc : TypeId × Value → H} {w : World} {base : Nat} {held : Bool} {r : Reach} {b0 : Nat} {v : Value} {dd : DataW H} {ps : List MemPlace} (hval : Value.okWide Try.prog w r b0 22 v) (hd : DataW.Trod enc Try.prog w base (fun _ => true) held 22 v dd ps) :
  ∃ a len cap cs, v = .slice a len cap ∧ len ≤ 9223372036854775807 ∧ CodeIs w w.heap.size a len cs := by
 obtain ⟨a0, len0, cap0, rfl⟩ := okWide_slice Try.underlying22 hval
 obtain ⟨fuel, hf⟩ := hd
 rcases open_ints Try.underlying22 Try.underlying5 cByte hf with ⟨hcs, _⟩ | ⟨x, l, c, zs, hcs, _, hl, hm, hz, _, hcell, hwz⟩
 ·simp [Value.cells] at hcs
  obtain ⟨rfl, rfl, rfl⟩ := hcs
  exact ⟨_, _, _, fun _ => 0, rfl, by omega, .inl rfl⟩
 ·simp [Value.cells] at hcs
  obtain ⟨rfl, rfl, rfl⟩ := hcs
  unfold maxLen at hm
  obtain ⟨cs, hc⟩ := code_of rfl hl (by simpa using hz) hcell hwz
  exact ⟨_, _, _, cs, rfl, by omega, hc⟩
end Go.Proofs.Ytfmannphobjgpaa
namespace Go.Proofs.Ytfmannphobjgpaa
set_option linter.unusedVariables false
def lastOf (last : Int) (l : List Ent) : Int := match l.getLast? with | some e => e.term | none => last
theorem lastOf_cons (last : Int) (e : Ent) (l : List Ent) : lastOf last (e :: l) = lastOf e.term l := by
 unfold lastOf
 rw [List.getLast?_cons]
 cases l.getLast? <;> rfl
theorem ents_take (top : Int) : ∀ (l : List Ent) (last : Int) (k : Nat), entsOk top last l = true → entsOk top last (l.take k) = true
 | [], _, k, h => by simpa using h
 | e :: r, last, 0, h => rfl
 | e :: r, last, k + 1, h => by
  rw [List.take_succ_cons]
  unfold entsOk at h ⊢
  simp only [Bool.and_eq_true] at h ⊢
  exact ⟨h.1, ents_take top r _ k h.2⟩
theorem ents_top (top top' : Int) (ht : top ≤ top') : ∀ (l : List Ent) (last : Int), entsOk top last l = true → entsOk top' last l = true
 | [], _, h => rfl
 | e :: r, last, h => by
  unfold entsOk at h ⊢
  simp only [Bool.and_eq_true, decide_eq_true_eq] at h ⊢
  exact ⟨⟨⟨h.1.1.1, by omega⟩, h.1.2⟩, ents_top top top' ht r _ h.2⟩
theorem ents_at (top : Int) : ∀ (l : List Ent) (last : Int) (k : Nat), entsOk top last l = true → k < l.length →
  1 ≤ (l.getD k default).term ∧ (l.getD k default).term ≤ top ∧ (l.getD k default).data.size ≤ 900 ∧ lastOf last (l.take k) ≤ (l.getD k default).term
 | [], _, k, h, hk => by simp at hk
 | e :: r, last, 0, h, hk => by
  unfold entsOk at h
  simp only [Bool.and_eq_true, decide_eq_true_eq] at h
  exact ⟨h.1.1.1.1, h.1.1.2, h.1.2, h.1.1.1.2⟩
 | e :: r, last, k + 1, h, hk => by
  unfold entsOk at h
  simp only [Bool.and_eq_true, decide_eq_true_eq] at h
  rw [List.take_succ_cons, lastOf_cons]
  exact ents_at top r e.term k h.2 (by simpa using hk)
structure WOk (x : Wl) : Prop where
 t0 : 0 ≤ x.term
 t1 : x.term ≤ 100000
 v0 : -1 ≤ x.vote
 v1 : x.vote ≤ 4
 b : based x.base x.bterm = true
 bt : x.bterm ≤ x.term
 n : x.ents.length ≤ 60
 s : x.base + x.ents.length ≤ 100000
 e : entsOk x.term x.bterm x.ents = true
theorem wOk_of {x : Wl} (h : walOk x = true) : WOk x := by
 unfold walOk inIt at h
 simp only [Bool.and_eq_true, decide_eq_true_eq] at h
 obtain ⟨⟨⟨⟨⟨⟨h1, h2⟩, h3⟩, h4⟩, h5⟩, h6⟩, h7⟩ := h
 exact ⟨h1.1, h1.2, h2.1, h2.2, h3, h4, h5, h6, h7⟩
theorem WOk.ok {x : Wl} (h : WOk x) : walOk x = true := by
 unfold walOk inIt
 simp only [Bool.and_eq_true, decide_eq_true_eq]
 exact ⟨⟨⟨⟨⟨⟨⟨h.t0, h.t1⟩, ⟨h.v0, h.v1⟩⟩, h.b⟩, h.bt⟩, h.n⟩, h.s⟩, h.e⟩
theorem based0 {i t : Int} (h : based i t = true) : 0 ≤ i := by
 unfold based inIt at h
 split at h
 ·omega
 ·simp only [Bool.and_eq_true, decide_eq_true_eq] at h
  omega
theorem WOk.take {x : Wl} (h : WOk x) (k : Nat) : WOk { x with ents := x.ents.take k } :=
 ⟨h.t0, h.t1, h.v0, h.v1, h.b, h.bt, by show (x.ents.take k).length ≤ 60; rw [List.length_take]; have := h.n; omega, by show x.base + ((x.ents.take k).length : Int) ≤ 100000; rw [List.length_take]; have := h.s; omega, ents_take _ _ _ _ h.e⟩
theorem recOk_data (r : Rcd) (h : recOk r = true) : r.data.size ≤ 900 := by
 have z : ByteArray.empty.size = 0 := rfl
 unfold recOk at h
 split at h
 ·simp only [Bool.and_eq_true, decide_eq_true_eq] at h
  rw [h.2, z]
  omega
 split at h
 ·simp only [Bool.and_eq_true, decide_eq_true_eq] at h
  exact h.2
 split at h
 ·simp only [Bool.and_eq_true, decide_eq_true_eq] at h
  rw [h.2, z]
  omega
 split at h
 ·simp only [Bool.and_eq_true, decide_eq_true_eq] at h
  rw [h.2, z]
  omega
 ·cases h
end Go.Proofs.Ytfmannphobjgpaa
namespace Go.Proofs.Ytfmannphobjgpaa
set_option linter.unusedVariables false
def runs : Wl → List Rcd → Prop
 | _, [] => True
 | x, r :: l => walOk x = true ∧ recOk r = true ∧ recFits x r = true ∧ runs (stepTo x r) l
def ends (x : Wl) (l : List Rcd) : Wl := l.foldl stepTo x
theorem ends_append (x : Wl) (l m : List Rcd) : ends x (l ++ m) = ends (ends x l) m := by simp [ends, List.foldl_append]
theorem runs_append (l m : List Rcd) : ∀ x, runs x l → runs (ends x l) m → runs x (l ++ m) := by
 induction l with
 | nil => intro x _ h; exact h
 | cons r l ih =>
  intro x h hm
  exact ⟨h.1, h.2.1, h.2.2.1, ih _ h.2.2.2 hm⟩
theorem runs_ents (b : Wl) (hb : WOk b) (k : Nat) : ∀ m, k + m ≤ b.ents.length → runs { b with ents := b.ents.take k } (entFrom b k m) ∧ ends { b with ents := b.ents.take k } (entFrom b k m) = { b with ents := b.ents.take (k + m) }
 | 0, _ => ⟨trivial, rfl⟩
 | m + 1, hm => by
  obtain ⟨h1, h2⟩ := runs_ents b hb k m (by omega)
  have hlt : k + m < b.ents.length := by omega
  have ha := ents_at _ _ _ _ hb.e hlt
  have hb0 := based0 hb.b
  have hs := hb.s
  have hn := hb.n
  have ht1 := hb.t1
  have hw := (hb.take (k + m)).ok
  have hlen : (b.ents.take (k + m)).length = k + m := by rw [List.length_take]; omega
  have hr : recOk (recAt b (k + m)) = true := by
   unfold recOk recAt inIt
   simp only [show ¬ (2 : Int) = 1 by decide, if_false, if_true, Bool.and_eq_true, decide_eq_true_eq]
   exact ⟨⟨⟨⟨ha.1, by omega⟩, by omega, by omega⟩, trivial⟩, ha.2.2.1⟩
  have hf : recFits { b with ents := b.ents.take (k + m) } (recAt b (k + m)) = true := by
   unfold recFits recAt
   simp only [show ¬ (2 : Int) = 1 by decide, if_false, if_true, Bool.and_eq_true, decide_eq_true_eq]
   refine ⟨⟨⟨by rw [hlen]; omega, by rw [hlen]; omega⟩, ?_⟩, ha.2.1⟩
   exact ha.2.2.2
  have hst : stepTo { b with ents := b.ents.take (k + m) } (recAt b (k + m)) = { b with ents := b.ents.take (k + (m + 1)) } := by
   unfold stepTo recAt
   simp only [show ¬ (2 : Int) = 1 by decide, if_false, if_true]
   rw [show k + (m + 1) = k + m + 1 by omega, List.take_succ_eq_append_getElem hlt, List.getD_eq_getElem?_getD, List.getElem?_eq_getElem hlt]
   rfl
  rw [entFrom_succ]
  refine ⟨runs_append _ _ _ h1 ?_, ?_⟩
  ·rw [h2]
   exact ⟨hw, hr, hf, trivial⟩
  ·rw [ends_append, h2]
   exact hst
theorem ch_runs (a b : Wl) (k : Nat) (h : chOk a b) (hp : Pre a.ents b.ents k) : runs a (chList a b k) ∧ ends a (chList a b k) = b := by
 obtain ⟨hoa, hob, e1, e2, h3⟩ := h
 have wa := wOk_of hoa
 have wb := wOk_of hob
 have ht : a.term ≤ b.term := by
  rcases h3 with h | h
  ·exact Int.le_of_eq h.1
  ·unfold recFits at h
   simp only [if_true, Bool.or_eq_true, Bool.and_eq_true, decide_eq_true_eq] at h
   rcases h with h | h
   ·omega
   ·omega
 have w1 : WOk { a with term := b.term, vote := b.vote } := ⟨wb.t0, wb.t1, wb.v0, wb.v1, wa.b, by show a.bterm ≤ b.term; have := wa.bt; omega, wa.n, wa.s, ents_top _ _ ht _ _ wa.e⟩
 have p1 : runs a (hardR a b) ∧ ends a (hardR a b) = { a with term := b.term, vote := b.vote } := by
  unfold hardR
  split
  ·rename_i hs
   refine ⟨trivial, ?_⟩
   show a = _
   rw [← hs.1, ← hs.2]
  ·rename_i hs
   have hf := h3.resolve_left hs
   refine ⟨⟨hoa, ?_, hf, trivial⟩, rfl⟩
   unfold recOk inIt
   simp only [if_true, Bool.and_eq_true, decide_eq_true_eq]
   exact ⟨⟨⟨⟨wb.t0, wb.t1⟩, wb.v0, wb.v1⟩, trivial⟩, rfl⟩
 have p2 : runs { a with term := b.term, vote := b.vote } (cutR a k) ∧ ends { a with term := b.term, vote := b.vote } (cutR a k) = { a with term := b.term, vote := b.vote, ents := a.ents.take k } := by
  unfold cutR
  have hb0 := based0 wa.b
  have hs := wa.s
  split
  ·rename_i hk
   refine ⟨⟨w1.ok, ?_, ?_, trivial⟩, ?_⟩
   ·unfold recOk inIt
    simp only [show ¬ (3 : Int) = 1 by decide, show ¬ (3 : Int) = 2 by decide, if_false, if_true, Bool.and_eq_true, decide_eq_true_eq]
    exact ⟨⟨⟨trivial, by omega, by omega⟩, trivial⟩, rfl⟩
   ·unfold recFits
    simp only [show ¬ (3 : Int) = 1 by decide, show ¬ (3 : Int) = 2 by decide, if_false, if_true, Bool.and_eq_true, decide_eq_true_eq]
    omega
   ·simp only [ends, List.foldl_cons, List.foldl_nil]
    unfold stepTo
    simp only [show ¬ (3 : Int) = 1 by decide, show ¬ (3 : Int) = 2 by decide, if_false]
    rw [show (a.base + (k : Int) + 1 - a.base - 1).toNat = k by omega]
  ·rename_i hk
   refine ⟨trivial, ?_⟩
   show _ = _
   rw [List.take_of_length_le (by omega)]
   rfl
 have hpre : a.ents.take k = b.ents.take k := by
  apply List.ext_getElem
  ·rw [List.length_take, List.length_take]
   have := hp.ka
   have := hp.kb
   omega
  ·intro i h1 h2
   rw [List.length_take] at h1
   have hs := hp.same i (by omega)
   have := hp.ka
   have := hp.kb
   rw [List.getD_eq_getElem?_getD, List.getD_eq_getElem?_getD, List.getElem?_eq_getElem (by omega), List.getElem?_eq_getElem (by omega)] at hs
   simpa using hs
 have hx : ({ a with term := b.term, vote := b.vote, ents := a.ents.take k } : Wl) = { b with ents := b.ents.take k } := by rw [hpre, e1, e2]
 have p3 := runs_ents b wb k (b.ents.length - k) (by have := hp.kb; omega)
 unfold chList
 have p12 : runs a (hardR a b ++ cutR a k) ∧ ends a (hardR a b ++ cutR a k) = { b with ents := b.ents.take k } := by
  refine ⟨runs_append _ _ _ p1.1 (by rw [p1.2]; exact p2.1), ?_⟩
  rw [ends_append, p1.2, p2.2, hx]
 refine ⟨runs_append _ _ _ p12.1 (by rw [p12.2]; exact p3.1), ?_⟩
 rw [ends_append, p12.2, p3.2, show k + (b.ents.length - k) = b.ents.length by have := hp.kb; omega, List.take_of_length_le (Nat.le_refl _)]
theorem ch_leads {a b : Wl} {l : List Rcd} (h : ChAns a b l true) : runs a l ∧ ends a l = b := by
 rcases h with ⟨_, h, k, hp, rfl⟩ | ⟨h, _⟩
 ·exact ch_runs a b k h hp
 ·cases h
end Go.Proofs.Ytfmannphobjgpaa
namespace Go.Proofs.Ytfmannphobjgpaa
open Go.ChangeShapes Go.WideShapes Go.ChangeAt Go.RowKit Go.PlainAid
set_option linter.unusedVariables false
theorem below_alloc2'' (w : World) (a b : Obj) : Below w.heap.size w ((w.alloc a).alloc b) := ((Below.refl _ w).alloc (Nat.le_refl _) a).alloc (by simp) b
set_option maxRecDepth 20000 in
set_option maxHeartbeats 2000000 in
theorem copyS (x : Wl) (v : Value) (w : World) (B : Nat) (hv : WalV w B v x) (hn : x.ents.length ≤ 1048576) (hB : B ≤ w.heap.size) :
  Calls Try.prog 34 #[v] w fun e w' => ∃ u, e = .returned u ∧ WalO w' w.heap.size u x ∧ Below w.heap.size w w' := by
 obtain ⟨u, rfl, hl⟩ := hv
 have HB : Hid (B ≤ w.heap.size) := hB
 have HL : Hid (Lies w B 2 u (entR x.ents)) := hl
 have L1 : Hid (x.ents.length ≤ 1048576) := hn
 clear hl hB hn
 go_enter Try.func34, Try.ntmps34
 go_wp2_with (at_builtin; refine Shut.out ?_)
 have hb0 := below_alloc2'' w (.cells #[.int .i64 x.term, .int .i64 x.vote, .int .i64 x.base, .int .i64 x.bterm, u] 26) (.cells #[.int .i64 0, .int .i64 0, .int .i64 0, .int .i64 0, .slice none 0 0] 26)
 have bA := (Blk.new w #[.int .i64 x.term, .int .i64 x.vote, .int .i64 x.base, .int .i64 x.bterm, u] 26).alloc (.cells #[.int .i64 0, .int .i64 0, .int .i64 0, .int .i64 0, .slice none 0 0] 26)
 have bR := Blk.new (w.alloc (.cells #[.int .i64 x.term, .int .i64 x.vote, .int .i64 x.base, .int .i64 x.bterm, u] 26)) #[.int .i64 0, .int .i64 0, .int .i64 0, .int .i64 0, .slice none 0 0] 26
 have hsz : ((w.alloc (.cells #[.int .i64 x.term, .int .i64 x.vote, .int .i64 x.base, .int .i64 x.bterm, u] 26)).alloc (.cells #[.int .i64 0, .int .i64 0, .int .i64 0, .int .i64 0, .slice none 0 0] 26)).heap.size = w.heap.size + 1 + 1 := by simp
 simp only [World.size_alloc] at bR
 generalize (w.alloc (.cells #[.int .i64 x.term, .int .i64 x.vote, .int .i64 x.base, .int .i64 x.bterm, u] 26)).alloc (.cells #[.int .i64 0, .int .i64 0, .int .i64 0, .int .i64 0, .slice none 0 0] 26) = W at *
 have B0 : Hid (Below w.heap.size w W) := hb0
 have KA0 : Hid (Blk W w.heap.size #[.int .i64 x.term, .int .i64 x.vote, .int .i64 x.base, .int .i64 x.bterm, u] 26) := bA
 have KR0 : Hid (Blk W (w.heap.size + 1) #[.int .i64 0, .int .i64 0, .int .i64 0, .int .i64 0, .slice none 0 0] 26) := bR
 have Z0 : Hid (w.heap.size + 1 + 1 ≤ W.heap.size) := by unfold Hid; omega
 clear hb0 bA bR
 unfold Shut
 have hE := Owns.empty W (w.heap.size + 1 + 1) 58 2 Z0.out
 rw [hsz] at hE
 have hb := B0.out.alloc B0.out.size (.cells #[] 58)
 have hLs := HL.out.on (hb.mono HB.out)
 have s1 : ([] : List (List Value)).length + (entR x.ents).length ≤ 2097152 := by rw [entR_length]; have := L1.out; simp; omega
 have s2 : w.heap.size + 1 + 1 ≤ (W.alloc (.cells #[] 58)).heap.size := by rw [World.size_alloc]; have := Z0.out; omega
 refine wpList_append_all (w := W.alloc (.cells #[] 58)) rfl (.tmp 3) (.tmp 5) 24 58 (.agg #[.int .i64 0, .string ⟨#[]⟩]) 2 24 rfl Try.underlying24 Try.infoEnt rfl (by omega) (w.heap.size + 1 + 1) (.slice (some ⟨w.heap.size + 1 + 1, 0, none⟩) 0 0) u [] (entR x.ents) B rfl hE hLs (ent_one x.ents) rfl s1 (by omega) s2 ?_
 intro u1 w1 hO hb1 hk _
 obtain ⟨A1, m1, k1, rfl⟩ := hO.shape
 have O1 : Hid (Owns w1 (w.heap.size + 1 + 1) 58 2 (.slice A1 m1 k1) (entR x.ents)) := hO
 have hA : Blk w1 w.heap.size #[.int .i64 x.term, .int .i64 x.vote, .int .i64 x.base, .int .i64 x.bterm, u] 26 := (KA0.out.alloc _).on hb1 (by omega)
 have hR : Blk w1 (w.heap.size + 1) #[.int .i64 0, .int .i64 0, .int .i64 0, .int .i64 0, .slice none 0 0] 26 := (KR0.out.alloc _).on hb1 (by omega)
 have B1 : Hid (Below w.heap.size w w1) := hb.trans (hb1.mono (by omega))
 have KA1 : Hid (Blk w1 w.heap.size #[.int .i64 x.term, .int .i64 x.vote, .int .i64 x.base, .int .i64 x.bterm, u] 26) := hA
 have KR1 : Hid (Blk w1 (w.heap.size + 1) #[.int .i64 0, .int .i64 0, .int .i64 0, .int .i64 0, .slice none 0 0] 26) := hR
 have e0 := hA.cell 0 (.int .i64 x.term) rfl
 have f0 := hA.free 0
 have e1 := hA.cell 1 (.int .i64 x.vote) rfl
 have f1 := hA.free 1
 have e2 := hA.cell 2 (.int .i64 x.base) rfl
 have f2 := hA.free 2
 have e3 := hA.cell 3 (.int .i64 x.bterm) rfl
 have f3 := hA.free 3
 have e4 := hA.cell 4 (u) rfl
 have f4 := hA.free 4
 have r0 := hR.cell 0 (.int .i64 0) rfl
 have g0 := hR.free 0
 have r1 := hR.cell 1 (.int .i64 0) rfl
 have g1 := hR.free 1
 have r2 := hR.cell 2 (.int .i64 0) rfl
 have g2 := hR.free 2
 have r3 := hR.cell 3 (.int .i64 0) rfl
 have g3 := hR.free 3
 have r4 := hR.cell 4 (.slice none 0 0) rfl
 have g4 := hR.free 4
 have zl := hA.lt
 have zr := hR.lt
 clear hA hR hE hb hLs s1 s2 hO hb1 hk
 go_wp2_with fail
 have hF := (((((KR1.out.other (show w.heap.size + 1 ≠ w.heap.size by omega) 4 (.slice A1 m1 k1)).set 0 (.int .i64 x.term)).set 1 (.int .i64 x.vote)).set 2 (.int .i64 x.base)).set 3 (.int .i64 x.bterm)).set 4 (.slice A1 m1 k1)
 have OF := (((((O1.out.other (O1.out.below (show w.heap.size < _ by omega)) 4 (.slice A1 m1 k1)).other (O1.out.below (show w.heap.size + 1 < _ by omega)) 0 (.int .i64 x.term)).other (O1.out.below (show w.heap.size + 1 < _ by omega)) 1 (.int .i64 x.vote)).other (O1.out.below (show w.heap.size + 1 < _ by omega)) 2 (.int .i64 x.base)).other (O1.out.below (show w.heap.size + 1 < _ by omega)) 3 (.int .i64 x.bterm)).other (O1.out.below (show w.heap.size + 1 < _ by omega)) 4 (.slice A1 m1 k1)
 have FB := (((((B1.out.setCell (Nat.le_refl _) (.slice A1 m1 k1) (p := ⟨_, 4, none⟩)).setCell (show w.heap.size ≤ w.heap.size + 1 by omega) (.int .i64 x.term) (p := ⟨_, 0, none⟩)).setCell (show w.heap.size ≤ w.heap.size + 1 by omega) (.int .i64 x.vote) (p := ⟨_, 1, none⟩)).setCell (show w.heap.size ≤ w.heap.size + 1 by omega) (.int .i64 x.base) (p := ⟨_, 2, none⟩)).setCell (show w.heap.size ≤ w.heap.size + 1 by omega) (.int .i64 x.bterm) (p := ⟨_, 3, none⟩)).setCell (show w.heap.size ≤ w.heap.size + 1 by omega) (.slice A1 m1 k1) (p := ⟨_, 4, none⟩)
 clear e0 f0 e1 f1 e2 f2 e3 f3 e4 f4 r0 g0 r1 g1 r2 g2 r3 g3 r4 g4
 generalize (((((w1.setCell ⟨w.heap.size, 4, none⟩ (.slice A1 m1 k1)).setCell ⟨w.heap.size + 1, 0, none⟩ (.int .i64 x.term)).setCell ⟨w.heap.size + 1, 1, none⟩ (.int .i64 x.vote)).setCell ⟨w.heap.size + 1, 2, none⟩ (.int .i64 x.base)).setCell ⟨w.heap.size + 1, 3, none⟩ (.int .i64 x.bterm)).setCell ⟨w.heap.size + 1, 4, none⟩ (.slice A1 m1 k1) = WF at *
 have hG : Blk WF (w.heap.size + 1) #[.int .i64 x.term, .int .i64 x.vote, .int .i64 x.base, .int .i64 x.bterm, .slice A1 m1 k1] 26 := hF
 have mm0 := hG.cell 0 (.int .i64 x.term) rfl
 have mm1 := hG.cell 1 (.int .i64 x.vote) rfl
 have mm2 := hG.cell 2 (.int .i64 x.base) rfl
 have mm3 := hG.cell 3 (.int .i64 x.bterm) rfl
 have mm4 := hG.cell 4 (.slice A1 m1 k1) rfl
 exact bodyPost_ret (v := .agg #[.int .i64 x.term, .int .i64 x.vote, .int .i64 x.base, .int .i64 x.bterm, .slice A1 m1 k1]) (by simp [results, go_sem, mm0, mm1, mm2, mm3, mm4]) rfl ⟨_, rfl, ⟨_, rfl, OF.mono (by omega)⟩, FB⟩
end Go.Proofs.Ytfmannphobjgpaa
namespace Go.Proofs.Ytfmannphobjgpaa
open Go.ChangeShapes Go.WideShapes Go.ChangeAt Go.RowKit Go.PlainAid
theorem Owns.notBlk {w : World} {base : Nat} {e t : TypeId} {sz g : Nat} {v : Value} {R : List (List Value)} {cs : Array Value} (h : Owns w base e sz v R) (hb : Blk w g cs t) (hne : e ≠ t) : v.ownBlock ≠ some g := by
 intro hg
 obtain ⟨c, fz, e1⟩ := Lib.ownsRow_kind h.2 g hg
 unfold Blk at hb
 rw [e1] at hb
 cases hb
 exact hne rfl
end Go.Proofs.Ytfmannphobjgpaa
namespace Go.Proofs.Ytfmannphobjgpaa
open Go.ChangeShapes Go.WideShapes Go.ChangeAt Go.RowKit Go.PlainAid
set_option linter.unusedVariables false
set_option maxHeartbeats 1000000 in
theorem byte_in (w : World) (p : Nat) (cb co len cap : Nat) (c i : Nat) (h : Int) (hc : Cur 68 w p (some ⟨cb, co, none⟩) len cap i h) (hcb : cb < p) (hi : i < len) (hl : len ≤ 1048576) (hc255 : c < 256)
  (hcell : w.cell? ⟨cb, co + i, none⟩ = some (.int .u8 (c : Int))) :
  Calls Try.prog 50 #[.pointer (some ⟨p, 0, none⟩)] w fun e w' => e = .returned (.int .i64 (bits .and .i64 (curX (curH h) + (c : Int)) 255)) ∧ Cur 68 w' p (some ⟨cb, co, none⟩) len cap (i + 1) (curH h) ∧ Mod w.heap.size p w w' := by
 have c0 := hc.c0
 have c1 := hc.c1
 have c2 := hc.c2
 have f1 := hc.free 1
 have f2 := hc.free 2
 have q1 : (i : Int) < (len : Int) := by omega
 have q2 : (len : Int) ≤ 1048576 := by omega
 go_enter Try.func50, Try.ntmps50
 go_wp2
 have eH : wrap64 (wrap64 (h * 6364136223846793005) + 1442695040888963407) = curH h := rfl
 rw [eH]
 have hc1 := hc.set2 (curH h)
 have hm1 : Mod w.heap.size p w (w.setCell ⟨p, 2, none⟩ (.int .i64 (curH h))) := (Mod.refl _ _ _).setCell _
 have hcell1 : (w.setCell ⟨p, 2, none⟩ (.int .i64 (curH h))).cell? ⟨cb, co + i, none⟩ = some (.int .u8 (c : Int)) := by
  rw [← hcell]
  exact World.cell?_of_block (w := w) (hm1.block cb (by have := hc.lt; omega) (by omega))
 generalize w.setCell ⟨p, 2, none⟩ (.int .i64 (curH h)) = w1 at *
 generalize hH : curH h = H at *
 have HH : Hid (curH h = H) := hH
 clear hH
 clear eH c0 c1 c2 f1 f2 hcell
 have c0 := hc1.c0
 have c1 := hc1.c1
 have c2 := hc1.c2
 have f1 := hc1.free 1
 have hx := curX_bd H
 obtain ⟨hx1, hx2⟩ := hx
 have eX : bits .and .i64 (bits .xor .i64 (H / 8589934592) (H / 35184372088832)) 255 = curX H := rfl
 go_quiet (fail)
 go_wp2
 go_quiet (fail)
 go_wp2
 go_quiet (fail)
 go_wp2
 go_ret
 have e1 : ((i : Int) + 1) = ((i + 1 : Nat) : Int) := by omega
 rw [HH.out, e1]
 exact ⟨rfl, (hc1.drewN _).set1 (i + 1), (hm1.drewN _).setCell _⟩
set_option maxHeartbeats 1000000 in
theorem byte_out (w : World) (p : Nat) (ao : Option Addr) (len cap : Nat) (i : Nat) (h : Int) (hc : Cur 68 w p ao len cap i h) (hi : len ≤ i) (hi2 : i ≤ 1048576) (hl : len ≤ 1048576) :
  Calls Try.prog 50 #[.pointer (some ⟨p, 0, none⟩)] w fun e w' => e = .returned (.int .i64 (curX (curH h))) ∧ Cur 68 w' p ao len cap i (curH h) ∧ Mod w.heap.size p w w' := by
 have c0 := hc.c0
 have c1 := hc.c1
 have c2 := hc.c2
 have f1 := hc.free 1
 have f2 := hc.free 2
 have q1 : (len : Int) ≤ (i : Int) := by omega
 have q2 : (len : Int) ≤ 1048576 := by omega
 have q3 : (i : Int) ≤ 1048576 := by omega
 go_enter Try.func50, Try.ntmps50
 go_wp2
 have eH : wrap64 (wrap64 (h * 6364136223846793005) + 1442695040888963407) = curH h := rfl
 rw [eH]
 have hc1 := hc.set2 (curH h)
 have hm1 : Mod w.heap.size p w (w.setCell ⟨p, 2, none⟩ (.int .i64 (curH h))) := (Mod.refl _ _ _).setCell _
 generalize w.setCell ⟨p, 2, none⟩ (.int .i64 (curH h)) = w1 at *
 generalize hH : curH h = H at *
 have HH : Hid (curH h = H) := hH
 clear hH
 clear eH c0 c1 c2 f1 f2
 have c0 := hc1.c0
 have c1 := hc1.c1
 have c2 := hc1.c2
 have f1 := hc1.free 1
 have hx := curX_bd H
 obtain ⟨hx1, hx2⟩ := hx
 have eX : bits .and .i64 (bits .xor .i64 (H / 8589934592) (H / 35184372088832)) 255 = curX H := rfl
 go_quiet (fail)
 go_wp2
 go_quiet (fail)
 go_wp2
 go_ret
 rw [HH.out]
 exact ⟨rfl, (hc1.drewN _).drewN _, (hm1.drewN _).drewN _⟩
def At (w : World) (p : Nat) (ao : Option Addr) (len cap : Nat) (cs : Nat → Nat) (s : Pos) : Prop := Cur 68 w p ao len cap s.i s.h ∧ CodeIs w p ao len cs ∧ len ≤ 1048576 ∧ s.i ≤ len
theorem At.lt {w : World} {p : Nat} {ao : Option Addr} {len cap : Nat} {cs : Nat → Nat} {s : Pos} (h : At w p ao len cap cs s) : p < w.heap.size := h.1.lt
theorem At.below {w w' : World} {B p : Nat} {ao : Option Addr} {len cap : Nat} {cs : Nat → Nat} {s : Pos} (h : At w p ao len cap cs s) (hb : Below B w w') (hp : p < B) : At w' p ao len cap cs s :=
 ⟨h.1.below hb hp, h.2.1.kept (Mod.of_below (p := p) hb) (by omega), h.2.2⟩
theorem byte_any (w : World) (p : Nat) (ao : Option Addr) (len cap : Nat) (cs : Nat → Nat) (s : Pos) (h : At w p ao len cap cs s) :
  Calls Try.prog 50 #[.pointer (some ⟨p, 0, none⟩)] w fun e w' => e = .returned (.int .i64 (byteV len cs s)) ∧ At w' p ao len cap cs (byteP len s) ∧ Mod w.heap.size p w w' := by
 have hlt := h.lt
 obtain ⟨h1, h2, h3, h4⟩ := h
 by_cases hi : s.i < len
 ·obtain ⟨cb, co, rfl, hcb, hc5, hcell⟩ := h2.at hi
  refine (byte_in w p cb co len cap (cs s.i) s.i s.h h1 hcb hi h3 hc5 hcell).mono ?_
  rintro e w' ⟨he, hc', hm⟩
  refine ⟨by rw [he, byteV, if_pos hi], ?_, hm⟩
  rw [byteP, if_pos hi]
  exact ⟨hc', h2.kept hm (by omega), h3, by show s.i + 1 ≤ len; omega⟩
 ·refine (byte_out w p ao len cap s.i s.h h1 (by omega) (by omega) h3).mono ?_
  rintro e w' ⟨he, hc', hm⟩
  refine ⟨by rw [he, byteV, if_neg hi], ?_, hm⟩
  rw [byteP, if_neg hi]
  exact ⟨hc', h2.kept hm (by omega), h3, h4⟩
def belowV (len : Nat) (cs : Nat → Nat) (n : Int) (s : Pos) : Int :=
 if n ≤ 0 then 0 else if n ≤ 256 then byteV len cs s % n
 else (byteV len cs s * 16777216 + byteV len cs (byteP len s) * 65536 + byteV len cs (byteP len (byteP len s)) * 256 + byteV len cs (byteP len (byteP len (byteP len s)))) % n
def belowP (len : Nat) (n : Int) (s : Pos) : Pos := if n ≤ 0 then s else if n ≤ 256 then byteP len s else byteP len (byteP len (byteP len (byteP len s)))
theorem belowV_bd (len : Nat) (cs : Nat → Nat) (n : Int) (s : Pos) : 0 ≤ belowV len cs n s ∧ (0 < n → belowV len cs n s < n) := by
 unfold belowV
 split
 ·exact ⟨by omega, fun h => by omega⟩
 ·split
  ·exact ⟨Int.emod_nonneg _ (by omega), fun h => Int.emod_lt_of_pos _ h⟩
  ·exact ⟨Int.emod_nonneg _ (by omega), fun h => Int.emod_lt_of_pos _ h⟩
set_option maxHeartbeats 1000000 in
theorem below_any (w : World) (p : Nat) (ao : Option Addr) (len cap : Nat) (cs : Nat → Nat) (s : Pos) (n : Int) (hn : n ≤ 9223372036854775807) (h : At w p ao len cap cs s) :
  Calls Try.prog 32 #[.pointer (some ⟨p, 0, none⟩), .int .i64 n] w fun e w' => e = .returned (.int .i64 (belowV len cs n s)) ∧ At w' p ao len cap cs (belowP len n s) ∧ Mod w.heap.size p w w' := by
 by_cases h0 : n ≤ 0
 ·have HV : Hid (belowV len cs n s = 0) := by show belowV len cs n s = 0; rw [belowV, if_pos h0]
  have HP : Hid (belowP len n s = s) := by show belowP len n s = s; rw [belowP, if_pos h0]
  have HA : Hid (At w p ao len cap cs s) := h
  clear h
  go_enter Try.func32, Try.ntmps32
  go_wp2_with fail
  go_ret
  rw [HV.out, HP.out]
  exact ⟨rfl, HA.out, Mod.refl _ _ _⟩
 ·by_cases h256 : n ≤ 256
  ·have HV : Hid (belowV len cs n s = byteV len cs s % n) := by show belowV len cs n s = _; rw [belowV, if_neg h0, if_pos h256]
   have HP : Hid (belowP len n s = byteP len s) := by show belowP len n s = _; rw [belowP, if_neg h0, if_pos h256]
   have HA : Hid (At w p ao len cap cs s) := h
   clear h
   have hb := byteV_bd len cs s
   obtain ⟨hb1, hb2⟩ := hb
   go_enter Try.func32, Try.ntmps32
   go_wp2_with fail
   refine (byte_any _ p ao len cap cs s HA.out).mono ?_
   rintro e w1 ⟨rfl, hA1, hm1⟩
   go_wp2_with fail
   go_ret
   rw [HV.out, HP.out]
   exact ⟨rfl, hA1, hm1⟩
  ·have HV : Hid (belowV len cs n s = (byteV len cs s * 16777216 + byteV len cs (byteP len s) * 65536 + byteV len cs (byteP len (byteP len s)) * 256 + byteV len cs (byteP len (byteP len (byteP len s)))) % n) := by
    show belowV len cs n s = _; rw [belowV, if_neg h0, if_neg h256]
   have HP : Hid (belowP len n s = byteP len (byteP len (byteP len (byteP len s)))) := by show belowP len n s = _; rw [belowP, if_neg h0, if_neg h256]
   have HA : Hid (At w p ao len cap cs s) := h
   clear h
   have hb := byteV_bd len cs s
   have hb' := byteV_bd len cs (byteP len s)
   have hb'' := byteV_bd len cs (byteP len (byteP len s))
   have hb3 := byteV_bd len cs (byteP len (byteP len (byteP len s)))
   obtain ⟨a1, a2⟩ := hb
   obtain ⟨a3, a4⟩ := hb'
   obtain ⟨a5, a6⟩ := hb''
   obtain ⟨a7, a8⟩ := hb3
   go_enter Try.func32, Try.ntmps32
   go_wp2_with fail
   refine (byte_any _ p ao len cap cs s HA.out).mono ?_
   rintro e w1 ⟨rfl, hA1, hm1⟩
   go_wp2_with fail
   refine (byte_any _ p ao len cap cs _ hA1).mono ?_
   rintro e w2 ⟨rfl, hA2, hm2⟩
   go_wp2_with fail
   refine (byte_any _ p ao len cap cs _ hA2).mono ?_
   rintro e w3 ⟨rfl, hA3, hm3⟩
   go_wp2_with fail
   refine (byte_any _ p ao len cap cs _ hA3).mono ?_
   rintro e w4 ⟨rfl, hA4, hm4⟩
   go_wp2_with fail
   go_ret
   rw [HV.out, HP.out]
   exact ⟨rfl, hA4, hm1.trans ((hm2.mono hm1.size).trans ((hm3.mono (Nat.le_trans hm1.size hm2.size)).trans (hm4.mono (Nat.le_trans hm1.size (Nat.le_trans hm2.size hm3.size)))))⟩
end Go.Proofs.Ytfmannphobjgpaa
namespace Go.Proofs.Ytfmannphobjgpaa
open Go.ChangeShapes Go.WideShapes Go.ChangeAt Go.RowKit Go.PlainAid
set_option linter.unusedVariables false
theorem and30 (x : Int) : 0 ≤ bits .and .i64 x 1073741823 ∧ bits .and .i64 x 1073741823 ≤ 1073741823 := by
 have e : bits .and .i64 x 1073741823 = IntKind.i64.wrap ((BitVec.ofInt 64 x &&& BitVec.ofInt 64 ((1073741823 : Nat) : Int)).toNat : Int) := rfl
 have m : ∀ y : Nat, y &&& 1073741823 = y % 1073741824 := fun y => Nat.and_two_pow_sub_one_eq_mod y 30
 rw [e, BitVec.toNat_and, ofInt_u64 1073741823 (by omega), m]
 have h : (BitVec.ofInt 64 x).toNat % 1073741824 < 1073741824 := Nat.mod_lt _ (by omega)
 rw [Lib.wrap_i64_small _ (by omega)]
 omega
def newH (len : Nat) (cs : Nat → Nat) : Nat → Int
 | 0 => 10101 + (len : Int)
 | k + 1 => bits .and .i64 (newH len cs k * 131 + (cs k : Int) + 7) 1073741823
theorem newH_bd (len : Nat) (cs : Nat → Nat) (hl : len ≤ 1048576) (k : Nat) : 0 ≤ newH len cs k ∧ newH len cs k ≤ 1073741823 := by
 cases k with
 | zero => simp only [newH]; omega
 | succ k => exact and30 _
def newP (len : Nat) (cs : Nat → Nat) : Pos := ⟨0, newH len cs (min len 4000)⟩
set_option maxHeartbeats 1000000 in
theorem new_some (w : World) (cb co len cap : Nat) (cs : Nat → Nat) (hl : len ≤ 1048576) (hc : ∀ j, j < len → cs j < 256 ∧ w.cell? ⟨cb, co + j, none⟩ = some (.int .u8 (cs j : Int))) :
  Calls Try.prog 12 #[.slice (some ⟨cb, co, none⟩) len cap] w fun e w' => e = .returned (.pointer (some ⟨w.heap.size, 0, none⟩)) ∧ w' = w.alloc (.cells #[.slice (some ⟨cb, co, none⟩) len cap, .int .i64 0, .int .i64 (newH len cs (min len 4000))] 68) := by
 have q1 : (len : Int) ≤ 1048576 := by omega
 have HC : Hid (∀ j, j < len → cs j < 256 ∧ w.cell? ⟨cb, co + j, none⟩ = some (.int .u8 (cs j : Int))) := hc
 clear hc
 go_enter Try.func12, Try.ntmps12
 go_wp2
 go_loop [3, 4] (fun v3 v4 => ∃ k : Nat, k ≤ len ∧ k ≤ 4000 ∧ v4 = .int .i64 k ∧ v3 = .int .i64 (newH len cs k)) (fun _ i => 4000 - (intOf i).toNat)
 case atStart => exact ⟨0, by omega, by omega, rfl, rfl⟩
 case round =>
  obtain ⟨k, hk, hk4, rfl, rfl⟩ := hrel
  have hb := newH_bd len cs hl k
  obtain ⟨hb1, hb2⟩ := hb
  by_cases hlt : (k : Int) < (len : Int)
  ·by_cases h4 : (k : Int) < 4000
   ·have hck := HC.out k (by omega)
    obtain ⟨hck1, hck2⟩ := hck
    go_wp2
    go_round
    case rel => exact ⟨k + 1, by omega, by omega, by go_num, rfl⟩
    case measure => simp [intOf]; omega
   ·have z : decide ((k : Int) < 4000) = false := by simp; omega
    have hkk : min len 4000 = k := by omega
    have HK : Hid (min len 4000 = k) := hkk
    clear hkk
    go_wp2
    go_ret
    exact ⟨rfl, by rw [HK.out]⟩
  ·have z : (len : Int) ≤ (k : Int) := by omega
   have hkk : min len 4000 = k := by omega
   have HK : Hid (min len 4000 = k) := hkk
   clear hkk
   go_wp2
   go_ret
   exact ⟨rfl, by rw [HK.out]⟩
set_option maxHeartbeats 1000000 in
theorem new_nil (w : World) (ao : Option Addr) (cap : Nat) (cs : Nat → Nat) :
  Calls Try.prog 12 #[.slice ao 0 cap] w fun e w' => e = .returned (.pointer (some ⟨w.heap.size, 0, none⟩)) ∧ w' = w.alloc (.cells #[.slice ao 0 cap, .int .i64 0, .int .i64 (newH 0 cs (min 0 4000))] 68) := by
 go_enter Try.func12, Try.ntmps12
 go_wp2
 refine wp_loop_rounds 1 ?_
 rw [rounds_succ]
 go_wp2
 go_ret
 exact ⟨rfl, rfl⟩
theorem new_any (w : World) (ao : Option Addr) (len cap : Nat) (cs : Nat → Nat) (hl : len ≤ 1048576) (h : CodeIs w w.heap.size ao len cs) :
  Calls Try.prog 12 #[.slice ao len cap] w fun e w' => e = .returned (.pointer (some ⟨w.heap.size, 0, none⟩)) ∧ At w' w.heap.size ao len cap cs (newP len cs) ∧ Below w.heap.size w w' := by
 have fin : ∀ (e : Ending) (w' : World), (e = .returned (.pointer (some ⟨w.heap.size, 0, none⟩)) ∧ w' = w.alloc (.cells #[.slice ao len cap, .int .i64 0, .int .i64 (newH len cs (min len 4000))] 68)) → e = .returned (.pointer (some ⟨w.heap.size, 0, none⟩)) ∧ At w' w.heap.size ao len cap cs (newP len cs) ∧ Below w.heap.size w w' := by
  rintro e w' ⟨he, rfl⟩
  have hb : Below w.heap.size w (w.alloc (.cells #[.slice ao len cap, .int .i64 0, .int .i64 (newH len cs (min len 4000))] 68)) := (Below.refl _ _).alloc (Nat.le_refl _) _
  refine ⟨he, ⟨heap_alloc_new w _, h.kept (Mod.of_below (p := w.heap.size) hb) (Nat.le_refl _), hl, Nat.zero_le _⟩, hb⟩
 have h' := h
 rcases h with rfl | ⟨cb, co, rfl, hcb, hj⟩
 ·exact (new_nil w ao cap cs).mono fin
 ·exact (new_some w cb co len cap cs hl hj).mono fin
end Go.Proofs.Ytfmannphobjgpaa
namespace Go.Proofs.Ytfmannphobjgpaa
open Go.ChangeShapes Go.WideShapes Go.ChangeAt Go.RowKit Go.PlainAid
set_option linter.unusedVariables false
set_option maxHeartbeats 400000 in
theorem once_any (w : World) (p : Nat) (ao : Option Addr) (len cap : Nat) (cs : Nat → Nat) (s : Pos) (n : Int) (hn : n ≤ 9223372036854775807) (h : At w p ao len cap cs s) :
  Calls Try.prog 14 #[.pointer (some ⟨p, 0, none⟩), .int .i64 n] w fun e w' => e = .returned (.bool (belowV len cs n s == 0)) ∧ At w' p ao len cap cs (belowP len n s) ∧ Mod w.heap.size p w w' := by
 have HA : Hid (At w p ao len cap cs s) := h
 clear h
 go_enter Try.func14, Try.ntmps14
 go_wp2_with fail
 refine (below_any _ p ao len cap cs s n hn HA.out).mono ?_
 rintro e w1 ⟨rfl, hA1, hm1⟩
 go_wp2_with fail
 go_ret
 exact ⟨rfl, hA1, hm1⟩
end Go.Proofs.Ytfmannphobjgpaa
namespace Go.Proofs.Ytfmannphobjgpaa
open Go.RowKit Go.PlainAid
def numCells (l : List Int) : List Value := l.map fun z => Value.int .i64 z
def Nums (w : World) (base : Nat) (v : Value) (l : List Int) : Prop := w.ownsRow base 3 1 v l.length (numCells l)
def NumsV (w : World) (B : Nat) (v : Value) (l : List Int) : Prop :=
 ∃ A cap, v = .slice A l.length cap ∧ l.length ≤ cap ∧ cap ≤ maxLen ∧ ∀ j, j < l.length → ∃ g off, A = some ⟨g, off, none⟩ ∧ g < B ∧ w.cell? ⟨g, off + j, none⟩ = some (.int .i64 (l.getD j 0))
theorem Nums.nil (w : World) (base : Nat) : Nums w base (.slice none 0 0) [] := World.ownsRow_nil w base 3 1
theorem Nums.empty (w : World) (base : Nat) (hb : base ≤ w.heap.size) : Nums (w.alloc (.cells #[] 3)) base (.slice (some ⟨w.heap.size, 0, none⟩) 0 0) [] :=
 World.ownsRow_lit w #[] 0 hb (by unfold maxLen; omega) rfl
theorem Nums.one (w : World) (base : Nat) (z : Int) (hb : base ≤ w.heap.size) : Nums (w.alloc (.cells #[.int .i64 z] 3)) base (.slice (some ⟨w.heap.size, 0, none⟩) 1 1) [z] :=
 World.ownsRow_lit w #[.int .i64 z] 1 hb (by unfold maxLen; omega) rfl
theorem Nums.mono {w : World} {base base' : Nat} {v : Value} {l : List Int} (h : Nums w base v l) (hb : base' ≤ base) : Nums w base' v l :=
 ⟨h.1, h.2.imp id fun ⟨g, cap, cur, e, hg, r⟩ => ⟨g, cap, cur, e, Nat.le_trans hb hg, r⟩⟩
theorem Nums.lt {w : World} {base : Nat} {v : Value} {l : List Int} (h : Nums w base v l) : ∀ k, v.ownBlock = some k → base ≤ k ∧ k < w.heap.size := World.ownsRow.lt h
theorem Nums.kept {w w' : World} {base : Nat} {v : Value} {l : List Int} (h : Nums w base v l) (hk : ∀ g, g < w.heap.size → v.ownBlock = some g → w'.heap[g]? = w.heap[g]?) : Nums w' base v l := by
 have hl := World.ownsRow.lt h
 refine ⟨h.1, h.2.imp id ?_⟩
 rintro ⟨g, cap, cur, rfl, hg, hh, r⟩
 refine ⟨g, cap, cur, rfl, hg, ?_, r⟩
 rw [hk g (hl g rfl).2 rfl]
 exact hh
theorem Nums.on {w w' : World} {base : Nat} {v : Value} {l : List Int} (h : Nums w base v l) (hb : Below w.heap.size w w') : Nums w' base v l := h.kept fun g hg _ => hb.block g hg
theorem Nums.heap {w w' : World} {base : Nat} {v : Value} {l : List Int} (h : Nums w base v l) (hh : w'.heap = w.heap) : Nums w' base v l := h.kept fun g _ _ => by rw [hh]
theorem Nums.alloc {w : World} {base : Nat} {v : Value} {l : List Int} (h : Nums w base v l) (o : Obj) : Nums (w.alloc o) base v l := World.ownsRow.alloc h o
theorem Nums.other {w : World} {base : Nat} {v : Value} {l : List Int} (h : Nums w base v l) {g : Nat} (hne : v.ownBlock ≠ some g) (i : Nat) (x : Value) : Nums (w.setCell ⟨g, i, none⟩ x) base v l :=
 h.kept fun k _ hk => Below.heap_setCell _ _ _ _ (fun e => hne (by rw [hk]; exact congrArg some e))
theorem Nums.others {w w' : World} {base b : Nat} {v : Value} {l : List Int} (h : Nums w base v l) (hk : Lib.OthersKept 5 (some b) w w') (hb : v.ownBlock ≠ some b) : Nums w' base v l :=
 h.kept fun g hg ho => by
  obtain ⟨c, fz, e1⟩ := Lib.ownsRow_kind h g ho
  rw [hk g _ e1 (fun e => hb (by rw [ho]; exact e)) (fun c fz e => by cases e), e1]
theorem Nums.form {w : World} {base : Nat} {v : Value} {l : List Int} (h : Nums w base v l) : (v = .slice none 0 0 ∧ l = []) ∨ ∃ g cap, v = .slice (some ⟨g, 0, none⟩) l.length cap ∧ l.length ≤ cap ∧ cap ≤ maxLen ∧ base ≤ g ∧ g < w.heap.size := by
 have hl := World.ownsRow.lt h
 rcases h.2 with ⟨rfl, h0⟩ | ⟨g, cap, cur, rfl, hg, _, hc, hm, _⟩
 ·exact .inl ⟨rfl, List.eq_nil_of_length_eq_zero h0⟩
 ·exact .inr ⟨g, cap, rfl, hc, hm, hg, (hl g rfl).2⟩
theorem Nums.shape {w : World} {base : Nat} {v : Value} {l : List Int} (h : Nums w base v l) : ∃ A c, v = .slice A l.length c ∧ l.length ≤ c ∧ c ≤ maxLen := by
 rcases h.form with ⟨rfl, rfl⟩ | ⟨g, c, rfl, h1, h2, _⟩
 ·exact ⟨_, _, rfl, by simp, by unfold maxLen; omega⟩
 ·exact ⟨_, _, rfl, h1, h2⟩
theorem Nums.len {w : World} {base n cap : Nat} {A : Option Addr} {l : List Int} (h : Nums w base (.slice A n cap) l) : n = l.length := by
 rcases h.form with ⟨e, e2⟩ | ⟨g', c', e, _⟩
 ·injection e with _ e1; rw [e1, e2]; rfl
 ·injection e
theorem Nums.cell {w : World} {base g cap n : Nat} {l : List Int} (h : Nums w base (.slice (some ⟨g, 0, none⟩) n cap) l) (j : Nat) (hj : j < l.length) : w.cell? ⟨g, j, none⟩ = some (.int .i64 (l.getD j 0)) := by
 have hn := h.len
 subst hn
 rw [World.ownsRow.cellAt h j (by omega)]
 simp [numCells, hj]
theorem Nums.block {w : World} {base n cap : Nat} {A : Option Addr} {l : List Int} (h : Nums w base (.slice A n cap) l) (hn : 0 < l.length) : ∃ g, A = some ⟨g, 0, none⟩ ∧ base ≤ g ∧ g < w.heap.size := by
 rcases h.form with ⟨e, e2⟩ | ⟨g', c', e, _, _, h3, h4⟩
 ·rw [e2] at hn; simp at hn
 ·injection e with e1; exact ⟨g', e1, h3, h4⟩
theorem Nums.lies {w : World} {base : Nat} {v : Value} {l : List Int} (h : Nums w base v l) : NumsV w w.heap.size v l := by
 rcases h.form with ⟨rfl, rfl⟩ | ⟨g, c, rfl, h1, h2, h3, h4⟩
 ·exact ⟨none, 0, rfl, Nat.zero_le _, by unfold maxLen; omega, fun j hj => by simp at hj⟩
 ·exact ⟨_, c, rfl, h1, h2, fun j hj => ⟨g, 0, rfl, h4, by rw [Nat.zero_add]; exact h.cell j hj⟩⟩
theorem NumsV.on {w w' : World} {B : Nat} {v : Value} {l : List Int} (h : NumsV w B v l) (hb : Below B w w') : NumsV w' B v l := by
 obtain ⟨A, cap, rfl, h1, h2, h3⟩ := h
 refine ⟨A, cap, rfl, h1, h2, fun j hj => ?_⟩
 obtain ⟨g, off, rfl, hg, hc⟩ := h3 j hj
 exact ⟨g, off, rfl, hg, by rw [hb.cell (p := ⟨_, _, none⟩) hg]; exact hc⟩
theorem NumsV.mono {w : World} {B C : Nat} {v : Value} {l : List Int} (h : NumsV w B v l) (hB : B ≤ C) : NumsV w C v l := by
 obtain ⟨A, cap, rfl, h1, h2, h3⟩ := h
 refine ⟨A, cap, rfl, h1, h2, fun j hj => ?_⟩
 obtain ⟨g, off, rfl, hg, hc⟩ := h3 j hj
 exact ⟨g, off, rfl, Nat.lt_of_lt_of_le hg hB, hc⟩
theorem NumsV.heap {w w' : World} {B : Nat} {v : Value} {l : List Int} (h : NumsV w B v l) (hh : w'.heap = w.heap) : NumsV w' B v l := by
 obtain ⟨A, cap, rfl, h1, h2, h3⟩ := h
 refine ⟨A, cap, rfl, h1, h2, fun j hj => ?_⟩
 obtain ⟨g, off, rfl, hg, hc⟩ := h3 j hj
 exact ⟨g, off, rfl, hg, by unfold World.cell? at *; rw [hh]; exact hc⟩
theorem getD_set_ne (l : List Int) (j k : Nat) (x : Int) (h : j ≠ k) : (l.set j x).getD k 0 = l.getD k 0 := by simp [List.getD, List.getElem?_set_ne h]
end Go.Proofs.Ytfmannphobjgpaa
namespace Go.Proofs.Ytfmannphobjgpaa
open Go.ChangeShapes Go.WideShapes Go.ChangeAt Go.RowKit Go.PlainAid
set_option linter.unusedVariables false
theorem Buf.mod {w w' : World} {B C p : Nat} {v : Value} {l : List UInt8} (h : Buf w B v l) (hm : Mod C p w w') (hp : p < B) (hC : w.heap.size ≤ C) : Buf w' B v l := by
 obtain ⟨h1, h2⟩ := h
 refine ⟨h1, ?_⟩
 rcases h2 with h2 | ⟨g, cap, cur, hv, hg, hh, r⟩
 ·exact .inl h2
 ·refine .inr ⟨g, cap, cur, hv, hg, ?_, r⟩
  rw [hm.block g (by have := lt_of_block hh; omega) (by omega), hh]
def posN (len : Nat) : Nat → Pos → Pos
 | 0, s => s
 | k + 1, s => byteP len (posN len k s)
def txB (style x : Int) : Int := if style = 1 then x % 2 else if style = 2 then 97 + x % 4 else x
def txL (len : Nat) (cs : Nat → Nat) (style : Int) (s : Pos) : Nat → List UInt8
 | 0 => []
 | k + 1 => txL len cs style s k ++ [byt (txB style (byteV len cs (posN len k s))).toNat]
theorem txL_length (len : Nat) (cs : Nat → Nat) (style : Int) (s : Pos) (k : Nat) : (txL len cs style s k).length = k := by
 induction k with
 | zero => rfl
 | succ k ih => simp [txL, ih]
def textV (len : Nat) (cs : Nat → Nat) (most : Int) (s : Pos) : List UInt8 := txL len cs (belowV len cs 4 s) (belowP len (most + 1) (belowP len 4 s)) (belowV len cs (most + 1) (belowP len 4 s)).toNat
def textP (len : Nat) (cs : Nat → Nat) (most : Int) (s : Pos) : Pos := posN len (belowV len cs (most + 1) (belowP len 4 s)).toNat (belowP len (most + 1) (belowP len 4 s))
theorem textV_length (len : Nat) (cs : Nat → Nat) (most : Int) (s : Pos) (h : 0 ≤ most) : ((textV len cs most s).length : Int) ≤ most := by
 unfold textV
 rw [txL_length]
 have hb := belowV_bd len cs (most + 1) (belowP len 4 s)
 have := hb.2 (by omega)
 omega
set_option maxHeartbeats 2000000 in
theorem text_any (w : World) (p : Nat) (ao : Option Addr) (len cap : Nat) (cs : Nat → Nat) (s : Pos) (most : Int) (hm0 : 0 ≤ most) (hm1 : most ≤ 1000) (h : At w p ao len cap cs s) :
  Calls Try.prog 35 #[.pointer (some ⟨p, 0, none⟩), .int .i64 most] w fun e w' => e = .returned (.string (txt (textV len cs most s))) ∧ At w' p ao len cap cs (textP len cs most s) ∧ Mod w.heap.size p w w' := by
 have HA : Hid (At w p ao len cap cs s) := h
 have hlt := h.lt
 clear h
 have hb := belowV_bd len cs (most + 1) (belowP len 4 s)
 have HV : Hid (textV len cs most s = txL len cs (belowV len cs 4 s) (belowP len (most + 1) (belowP len 4 s)) (belowV len cs (most + 1) (belowP len 4 s)).toNat) := rfl
 have HP : Hid (textP len cs most s = posN len (belowV len cs (most + 1) (belowP len 4 s)).toNat (belowP len (most + 1) (belowP len 4 s))) := rfl
 go_enter Try.func35, Try.ntmps35
 go_wp2_with fail
 have hal : Below w.heap.size w (w.alloc (.cells #[] 5)) := (Below.refl _ _).alloc (Nat.le_refl _) _
 refine (below_any _ p ao len cap cs s 4 (by omega) (HA.out.below hal hlt)).mono ?_
 rintro e w1 ⟨rfl, hA1, hmd1⟩
 have hbuf1 : Buf w1 w.heap.size (.slice (some ⟨w.heap.size, 0, none⟩) 0 0) [] := (Buf.made w w.heap.size 0 #[] (Nat.le_refl _) (by simp [maxLen]) rfl).mod hmd1 hlt (Nat.le_refl _)
 have hM1 : Mod w.heap.size p w w1 := (Mod.of_below hal).trans (hmd1.mono (by simp))
 clear hmd1 hal
 go_wp2_with fail
 refine (below_any _ p ao len cap cs _ (most + 1) (by omega) hA1).mono ?_
 rintro e w2 ⟨rfl, hA2, hmd2⟩
 have hbuf2 := hbuf1.mod hmd2 hlt (Nat.le_refl _)
 have hM2 : Mod w.heap.size p w w2 := hM1.trans (hmd2.mono hM1.size)
 clear hmd2 hM1 hbuf1 hA1
 generalize hS : belowV len cs 4 s = style at *
 generalize hQ : belowP len (most + 1) (belowP len 4 s) = s2 at *
 generalize hN : belowV len cs (most + 1) (belowP len 4 s) = NN at *
 obtain ⟨N, rfl⟩ := Int.eq_ofNat_of_zero_le hb.1
 have hN2 : (N : Int) ≤ 1000 := by have := hb.2 (by omega); omega
 clear hb hS hQ hN
 rw [Int.toNat_natCast] at HV HP
 go_wp2_with fail
 go_loopw [5, 7] (fun v5 v7 wr => ∃ k : Nat, k ≤ N ∧ v7 = .int .i64 ((N : Int) - (k : Int)) ∧ Buf wr w.heap.size v5 (txL len cs style s2 k) ∧ At wr p ao len cap cs (posN len k s2) ∧ Mod w.heap.size p w wr) (fun _ i _ => (intOf i).toNat)
 case atStart => exact ⟨0, by omega, by go_num, hbuf2, hA2, hM2⟩
 case round =>
  obtain ⟨k, hk, rfl, hbuf, hAt, hM⟩ := hrel
  have HAt : Hid (At wr p ao len cap cs (posN len k s2)) := hAt
  clear hAt hA2 hM2 hbuf2
  by_cases hkN : k < N
  ·obtain ⟨X, hX⟩ : ∃ X, byteV len cs (posN len k s2) = X := ⟨_, rfl⟩
   have hxb := byteV_bd len cs (posN len k s2)
   rw [hX] at hxb
   obtain ⟨x1, x2⟩ := hxb
   have HX : Hid (byteV len cs (posN len k s2) = X) := hX
   clear hX
   by_cases st1 : style = 1
   ·have st2 : ¬ style = 2 := by omega
    have z1 : (style == 1) = true := by simpa using st1
    have z2 : (style == 2) = false := by simpa using st2
    have HT : Hid (txB style X = X % 2) := by show txB style X = _; rw [txB, if_pos st1]
    have HC : Hid (#[Value.int .u8 (X % 2)] = byteCells [byt (txB style X).toNat]) := one_cell _ _ (by rw [HT.out]; omega) (by rw [HT.out]; omega)
    clear st1 st2
    go_wp2_with fail
    refine (byte_any _ p ao len cap cs _ HAt.out).mono ?_
    rintro e w3 ⟨rfl, hA3, hmd3⟩
    rw [HX.out]
    have hbuf3 := hbuf.mod hmd3 hlt (Nat.le_refl _)
    have hM3 : Mod w.heap.size p w w3 := hM.trans (hmd3.mono hM.size)
    have hsz := hM3.size
    clear hmd3 hbuf
    go_wp2_with (at_builtin; refine wpList_append_bytes rfl (.tmp 31) (.tmp 34) 22 rfl Try.underlying22 Try.info5 w.heap.size _ (txL len cs style s2 k) rfl hbuf3 _ [byt (txB style X).toNat] HC.out 1 1 rfl rfl (by rw [txL_length]; simp; omega) hsz ?_; intro v' w4 hbuf4 hb4)
    have hA4 := hA3.below hb4 hlt
    have hM4 : Mod w.heap.size p w w4 := hM3.trans (Mod.of_below hb4)
    go_roundw
    case rel => exact ⟨k + 1, by omega, by go_num, by rw [txL, HX.out]; exact hbuf4, hA4, hM4⟩
    case measure => simp [intOf]; omega
   ·by_cases st2 : style = 2
    ·have z1 : (style == 1) = false := by simpa using st1
     have z2 : (style == 2) = true := by simpa using st2
     have HT : Hid (txB style X = 97 + X % 4) := by show txB style X = _; rw [txB, if_neg st1, if_pos st2]
     have HC : Hid (#[Value.int .u8 (97 + X % 4)] = byteCells [byt (txB style X).toNat]) := one_cell _ _ (by rw [HT.out]; omega) (by rw [HT.out]; omega)
     clear st1 st2
     go_wp2_with fail
     refine (byte_any _ p ao len cap cs _ HAt.out).mono ?_
     rintro e w3 ⟨rfl, hA3, hmd3⟩
     rw [HX.out]
     have hbuf3 := hbuf.mod hmd3 hlt (Nat.le_refl _)
     have hM3 : Mod w.heap.size p w w3 := hM.trans (hmd3.mono hM.size)
     have hsz := hM3.size
     clear hmd3 hbuf
     go_wp2_with (at_builtin; refine wpList_append_bytes rfl (.tmp 31) (.tmp 34) 22 rfl Try.underlying22 Try.info5 w.heap.size _ (txL len cs style s2 k) rfl hbuf3 _ [byt (txB style X).toNat] HC.out 1 1 rfl rfl (by rw [txL_length]; simp; omega) hsz ?_; intro v' w4 hbuf4 hb4)
     have hA4 := hA3.below hb4 hlt
     have hM4 : Mod w.heap.size p w w4 := hM3.trans (Mod.of_below hb4)
     go_roundw
     case rel => exact ⟨k + 1, by omega, by go_num, by rw [txL, HX.out]; exact hbuf4, hA4, hM4⟩
     case measure => simp [intOf]; omega
    ·have z1 : (style == 1) = false := by simpa using st1
     have z2 : (style == 2) = false := by simpa using st2
     have HT : Hid (txB style X = X) := by show txB style X = _; rw [txB, if_neg st1, if_neg st2]
     have HC : Hid (#[Value.int .u8 (X)] = byteCells [byt (txB style X).toNat]) := one_cell _ _ (by rw [HT.out]; omega) (by rw [HT.out]; omega)
     clear st1 st2
     go_wp2_with fail
     refine (byte_any _ p ao len cap cs _ HAt.out).mono ?_
     rintro e w3 ⟨rfl, hA3, hmd3⟩
     rw [HX.out]
     have hbuf3 := hbuf.mod hmd3 hlt (Nat.le_refl _)
     have hM3 : Mod w.heap.size p w w3 := hM.trans (hmd3.mono hM.size)
     have hsz := hM3.size
     clear hmd3 hbuf
     go_wp2_with (at_builtin; refine wpList_append_bytes rfl (.tmp 31) (.tmp 34) 22 rfl Try.underlying22 Try.info5 w.heap.size _ (txL len cs style s2 k) rfl hbuf3 _ [byt (txB style X).toNat] HC.out 1 1 rfl rfl (by rw [txL_length]; simp; omega) hsz ?_; intro v' w4 hbuf4 hb4)
     have hA4 := hA3.below hb4 hlt
     have hM4 : Mod w.heap.size p w w4 := hM3.trans (Mod.of_below hb4)
     go_roundw
     case rel => exact ⟨k + 1, by omega, by go_num, by rw [txL, HX.out]; exact hbuf4, hA4, hM4⟩
     case measure => simp [intOf]; omega
  ·have hkk : k = N := by omega
   have HK : Hid (k = N) := hkk
   have z : (N : Int) - (k : Int) ≤ 0 := by omega
   clear hkk
   have hcv := hbuf.string (P := Try.prog) 22 9 Try.underlying22 Try.underlying5 Try.underlying9
   go_wp2_with fail
   go_ret
   rw [HV.out, HP.out, ← HK.out]
   exact ⟨rfl, HAt.out, hM⟩
end Go.Proofs.Ytfmannphobjgpaa
