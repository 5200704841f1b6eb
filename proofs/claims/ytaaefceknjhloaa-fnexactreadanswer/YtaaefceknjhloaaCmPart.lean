/-
  Contracts of impl's reader of parts: need, takeText, takeRest, takeVar, and the closure that recovers: what they answer, and when they panic.
-/
import Derived.Test.YtaaefceknjhloaaRows
import Derived.Test.YtaaefceknjhloaaAid
import Derived.Test.YtaaefceknjhloaaNumR
import Derived.Test.YtaaefceknjhloaaCmMath
import Derived.Test.YtaaefceknjhloaaCmRes
import Derived.WalkKit
import Derived.ProofKit
import Derived.OpenShut
import Derived.Below
import Derived.WalkSmall
import Derived.WalkLawsBesides
import Derived.Laws.DeepStrings4
import Derived.Outline
import Derived.Handy
import Derived.Defers
import Derived.Recover
namespace Go.Proofs.Ytaaefceknjhloaa
open Go.ChangeShapes Go.WideShapes Go.ChangeAt Go.RowKit Go.PlainAid
set_option linter.unusedVariables false

/-- What is raised where a part lacks. -/
def lackP : List PanicEntry := [{ v := .iface 9 (.string ⟨#[97, 32, 112, 97, 114, 116, 32, 108, 97, 99, 107, 115]⟩), recovered := false }]
/-- All blocks but g stay. -/
def PKeep (g : Nat) (w w' : World) : Prop := Below g w w' ∧ ∀ b, b ≠ g → b < w.heap.size → w'.heap[b]? = w.heap[b]?
theorem PKeep.of {g : Nat} {w w' : World} (h : Below w.heap.size w w') (hg : g ≤ w.heap.size) : PKeep g w w' := ⟨h.mono hg, fun b _ hb => h.block b hb⟩
theorem PKeep.refl (g : Nat) (w : World) : PKeep g w w := ⟨Below.refl _ _, fun _ _ _ => rfl⟩
theorem PKeep.trans {g : Nat} {w w' w'' : World} (h : PKeep g w w') (h' : PKeep g w' w'') : PKeep g w w'' := ⟨h.1.trans h'.1, fun b hb hl => by rw [h'.2 b hb (Nat.lt_of_lt_of_le hl h.1.size), h.2 b hb hl]⟩
theorem PKeep.set {g : Nat} {w w' : World} (h : PKeep g w w') (i : Nat) (x : Value) : PKeep g w (w'.setCell ⟨g, i, none⟩ x) := ⟨h.1.setCell (Nat.le_refl _) _, fun b hb hl => by rw [Below.heap_setCell _ _ _ _ hb]; exact h.2 b hb hl⟩
theorem PKeep.setNew {g k : Nat} {w w' : World} (h : PKeep g w w') (hk : w.heap.size ≤ k) (hg : g ≤ k) (i : Nat) (x : Value) : PKeep g w (w'.setCell ⟨k, i, none⟩ x) := ⟨h.1.setCell hg _, fun b hb hl => by rw [Below.heap_setCell _ _ _ _ (show b ≠ k by omega)]; exact h.2 b hb hl⟩
theorem PKeep.alloc {g : Nat} {w w' : World} (h : PKeep g w w') (hg : g < w.heap.size) (o : Obj) : PKeep g w (w'.alloc o) := ⟨h.1.alloc (by have := h.1.size; omega) _, fun b hb hl => by rw [Below.heap_alloc _ _ _ (by have := h.1.size; omega)]; exact h.2 b hb hl⟩
theorem PKeep.cell {g : Nat} {w w' : World} (h : PKeep g w w') {p : Addr} (hp : p.block ≠ g) (hl : p.block < w.heap.size) : w'.cell? p = w.cell? p := World.cell?_of_block (w := w) (h.2 p.block hp hl)
theorem PKeep.frozen {g : Nat} {w w' : World} (h : PKeep g w w') {p : Addr} (hp : p.block ≠ g) (hl : p.block < w.heap.size) : w'.frozen? p = w.frozen? p := World.frozen?_of_block (w := w) (h.2 p.block hp hl)
/-- A reader of parts that has this text left. -/
def Prt (w : World) (g : Nat) (t : ByteArray) : Prop := w.heap[g]? = some (.cells #[.string t] 47 (0, 0))
theorem Prt.lt {w : World} {g : Nat} {t : ByteArray} (h : Prt w g t) : g < w.heap.size := lt_of_block h
theorem Prt.cell {w : World} {g : Nat} {t : ByteArray} (h : Prt w g t) : w.cell? ⟨g, 0, none⟩ = some (.string t) := by
  rw [cell_of_row _ _ 0 _ _ _ h]; rfl
theorem Prt.free {w : World} {g : Nat} {t : ByteArray} (h : Prt w g t) : w.frozen? ⟨g, 0, none⟩ = false := frozen_of_row w g 0 _ _ h
theorem Prt.put {w : World} {g : Nat} {t : ByteArray} (h : Prt w g t) (u : ByteArray) : Prt (w.setCell ⟨g, 0, none⟩ (.string u)) g u := heap_setCell_same w g 0 _ _ (.string u) h
theorem Prt.on {w w' : World} {g : Nat} {t : ByteArray} (h : Prt w g t) (hb : Below w.heap.size w w') : Prt w' g t := (hb.block g h.lt).trans h
theorem Prt.alloc {w : World} {g : Nat} {t : ByteArray} (h : Prt w g t) (o : Obj) : Prt (w.alloc o) g t := (Below.heap_alloc w o g h.lt).trans h

theorem need_yes (w : World) : Calls Try.prog 25 #[.bool true] w fun e w' => e = .returned (.tuple #[]) ∧ w = w' := by
  go_enter Try.func25, Try.ntmps25
  go_wp2
  first | go_end0 | exact bodyPost_ret (results_none rfl _ _ _) rfl ⟨rfl, rfl⟩
  exact ⟨rfl, rfl⟩
theorem need_no (w : World) : Calls Try.prog 25 #[.bool false] w fun e w' => e = .panicked lackP ∧ w = w' := by
  go_enter Try.func25, Try.ntmps25
  go_wp2
  exact ⟨rfl, rfl, rfl⟩

set_option maxHeartbeats 1000000 in
theorem takeText_yes (g : Nat) (t : ByteArray) (m : Nat) (w : World) (hp : Prt w g t) (hm : m ≤ t.size) (ht : t.size ≤ 1048576) :
    Calls Try.prog 28 #[.pointer (some ⟨g, 0, none⟩), .int .i64 (m : Int)] w fun e w' => e = .returned (.string (t.extract 0 m)) ∧ w.setCell ⟨g, 0, none⟩ (.string (t.extract m t.size)) = w' := by
  have q1 : (m : Int) ≤ (t.size : Int) := by omega
  have q2 : (t.size : Int) ≤ 1048576 := by omega
  have hc := hp.cell
  have hf := hp.free
  clear hp hm ht
  go_enter Try.func28, Try.ntmps28
  go_wp2_with fail
  refine (need_yes _).mono ?_
  rintro e w1 ⟨rfl, rfl⟩
  go_wp2_with fail
  go_ret
  exact ⟨rfl, rfl⟩
set_option maxHeartbeats 1000000 in
theorem takeText_no (g : Nat) (t : ByteArray) (m : Int) (w : World) (hp : Prt w g t) (hm : (t.size : Int) < m) (ht : t.size ≤ 1048576) :
    Calls Try.prog 28 #[.pointer (some ⟨g, 0, none⟩), .int .i64 m] w fun e w' => e = .panicked lackP ∧ w = w' := by
  have q2 : (t.size : Int) ≤ 1048576 := by omega
  have q3 : decide (m ≤ (t.size : Int)) = false := decide_eq_false (by omega)
  have hc := hp.cell
  clear hp ht
  go_enter Try.func28, Try.ntmps28
  go_wp2_with fail
  refine (need_no _).mono ?_
  rintro e w1 ⟨rfl, rfl⟩
  go_wp2_with fail
  exact ⟨rfl, rfl, rfl⟩
set_option maxHeartbeats 1000000 in
theorem takeRest (g : Nat) (t : ByteArray) (w : World) (hp : Prt w g t) (ht : t.size ≤ 1048576) :
    Calls Try.prog 24 #[.pointer (some ⟨g, 0, none⟩)] w fun e w' => e = .returned (.string t) ∧ w.setCell ⟨g, 0, none⟩ (.string ByteArray.empty) = w' := by
  have c := takeText_yes g t t.size w hp (Nat.le_refl _) ht
  have e0 : t.extract t.size t.size = ByteArray.empty := by simp
  rw [ByteArray.extract_zero_size, e0] at c
  clear e0
  have q2 : (t.size : Int) ≤ 1048576 := by omega
  have hc := hp.cell
  clear hp ht
  go_enter Try.func24, Try.ntmps24
  go_wp2_with fail
  refine c.mono ?_
  rintro e w1 ⟨rfl, rfl⟩
  go_wp2_with fail
  go_ret
  exact ⟨rfl, rfl⟩
set_option maxHeartbeats 1000000 in
theorem takeVar (g : Nat) (t : ByteArray) (w : World) (hp : Prt w g t) (ht : t.size ≤ 1048576) :
    Calls Try.prog 23 #[.pointer (some ⟨g, 0, none⟩)] w fun e w' => (∃ k, FindV t k ∧ e = .returned (.int .i64 (vvS t 0 k : Int)) ∧ w.setCell ⟨g, 0, none⟩ (.string (t.extract k t.size)) = w') ∨ ((∀ k, ¬ FindV t k) ∧ e = .panicked lackP ∧ w = w') := by
  have c := impl_readVar t w ht
  have q2 : (t.size : Int) ≤ 1048576 := by omega
  have hc := hp.cell
  have hf := hp.free
  clear hp ht
  go_enter Try.func23, Try.ntmps23
  go_wp2_with fail
  refine c.mono ?_
  rintro e w1 ⟨hR, rfl⟩
  rcases hR with ⟨k, hk, rfl⟩ | ⟨hno, rfl⟩
  · have HK : Hid (FindV t k) := hk
    have k1 := hk.1
    have k3 := hk.2.2.1
    have q3 : (0 : Int) < (k : Int) := by omega
    have q4 : (k : Int) ≤ (t.size : Int) := by omega
    have q5 : decide (0 < k) = true := decide_eq_true (by omega)
    clear hk
    generalize hz : (vvS t 0 k : Int) = z
    have HZ : Hid ((vvS t 0 k : Int) = z) := hz
    clear hz
    go_wp2_with fail
    refine (need_yes _).mono ?_
    rintro e w1 ⟨rfl, rfl⟩
    go_wp2_with fail
    go_ret
    exact .inl ⟨k, HK.out, by rw [HZ.out]; rfl, rfl⟩
  · have HN : Hid (∀ k, ¬ FindV t k) := hno
    clear hno
    go_wp2_with fail
    refine (need_no _).mono ?_
    rintro e w1 ⟨rfl, rfl⟩
    go_wp2_with fail
    exact ⟨rfl, .inr ⟨HN.out, rfl, rfl⟩⟩
theorem PKeep.blk {g b : Nat} {w w' : World} {cs : Array Value} {t : TypeId} (h : PKeep g w w') (hb : Blk w b cs t) (hne : b ≠ g) : Blk w' b cs t := (h.2 b hne hb.lt).trans hb
theorem PKeep.below {g : Nat} {w w' w'' : World} (h : PKeep g w w') (hg : g < w.heap.size) (hb : Below w'.heap.size w' w'') : PKeep g w w'' := h.trans (PKeep.of hb (by have := h.1.size; omega))
theorem takeVarF (g : Nat) (s : ByteArray) (n : Nat) (w : World) (hp : Prt w g (lf s n)) (hs : s.size ≤ 1048576) :
    Calls Try.prog 23 #[.pointer (some ⟨g, 0, none⟩)] w fun e w' => ((∃ k, FindV (lf s n) k ∧ e = .returned (.int .i64 (vvS (lf s n) 0 k : Int)) ∧ Prt w' g (lf s (n + k))) ∨ ((∀ k, ¬ FindV (lf s n) k) ∧ e = .panicked lackP)) ∧ PKeep g w w' := by
  refine (takeVar g (lf s n) w hp (by rw [lf_size]; omega)).mono ?_
  rintro e w' (⟨k, hk, rfl, rfl⟩ | ⟨hn, rfl, rfl⟩)
  · refine ⟨.inl ⟨k, hk, rfl, ?_⟩, (PKeep.refl g w).set 0 _⟩
    rw [lf_lf]
    exact hp.put _
  · exact ⟨.inr ⟨hn, rfl⟩, PKeep.refl g w⟩
theorem takeRestF (g : Nat) (s : ByteArray) (n : Nat) (w : World) (hp : Prt w g (lf s n)) (hs : s.size ≤ 1048576) :
    Calls Try.prog 24 #[.pointer (some ⟨g, 0, none⟩)] w fun e w' => e = .returned (.string (lf s n)) ∧ PKeep g w w' := by
  refine (takeRest g (lf s n) w hp (by rw [lf_size]; omega)).mono ?_
  rintro e w' ⟨rfl, rfl⟩
  exact ⟨rfl, (PKeep.refl g w).set 0 _⟩
theorem RdF.snoc {s : ByteArray} {a k n m : Nat} {l : List Int} (h : RdF s a k l n) (hf : FindV (lf s n) m) : RdF s a (k + 1) (l ++ [(vvS (lf s n) 0 m : Int)]) (n + m) := ⟨l, n, m, h, hf, rfl, rfl⟩
end Go.Proofs.Ytaaefceknjhloaa
