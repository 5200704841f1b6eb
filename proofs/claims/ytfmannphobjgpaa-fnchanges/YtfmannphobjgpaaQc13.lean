/- StStepK -/
import Derived.Test.YtfmannphobjgpaaRows
import Derived.Test.YtfmannphobjgpaaQc6
import Derived.Test.YtfmannphobjgpaaQc12
import Derived.Test.YtfmannphobjgpaaQc2
import Derived.Test.YtfmannphobjgpaaQc0
import Derived.Handy
import Derived.Deep.RegionHeld3
open List (setIfInBounds_toArray set_cons_zero set_cons_succ)
namespace Go.Proofs.Ytfmannphobjgpaa
open Go.ChangeShapes Go.WideShapes Go.ChangeAt Go.RowKit Go.PlainAid
set_option linter.unusedVariables false
structure Oth (base : Nat) (ob : Option Nat) (w w' : World) : Prop where
 below : Below base w w'
 rest : ∀ g, g < w.heap.size → ob ≠ some g → w'.heap[g]? = w.heap[g]?
def walOwn (v : Value) : Option Nat := match v with | .agg a => (match a[4]? with | some s => s.ownBlock | none => none) | _ => none
section
variable {base : Nat} {ob : Option Nat} {w w1 w2 : World}
theorem Oth.of (h : Below w.heap.size w w1) (hB : base ≤ w.heap.size) : Oth base ob w w1 := ⟨h.mono hB, fun g hg _ => h.block g hg⟩
theorem Oth.drew (h : Oth base ob w w1) : Oth base ob w w1.drew := ⟨h.below.drew, fun g hg hn => h.rest g hg hn⟩
theorem Oth.setCell (h : Oth base ob w w1) {p : Addr} (hp : base ≤ p.block) (v : Value) (hw : w.heap.size ≤ p.block := by first | exact Nat.le_refl _ | exact Nat.le_succ _) : Oth base ob w (w1.setCell p v) :=
 ⟨h.below.setCell hp v, fun g hg hn => (((Below.refl w.heap.size w1).setCell hw v).block g hg).trans (h.rest g hg hn)⟩
theorem Oth.transB (h : Oth base ob w w1) (hb : Below w1.heap.size w1 w2) (hs : w.heap.size ≤ w1.heap.size) (hB : base ≤ w.heap.size) : Oth base ob w w2 :=
 ⟨h.below.trans (hb.mono (Nat.le_trans hB hs)), fun g hg hn => (hb.block g (Nat.lt_of_lt_of_le hg hs)).trans (h.rest g hg hn)⟩
theorem Oth.transK (h : Oth base ob w w1) (hb : Below base w1 w2) (hk : ∀ g, g < w1.heap.size → ob ≠ some g → w2.heap[g]? = w1.heap[g]?) : Oth base ob w w2 :=
 ⟨h.below.trans hb, fun g hg hn => (hk g (Nat.lt_of_lt_of_le hg h.below.size) hn).trans (h.rest g hg hn)⟩
end
set_option maxRecDepth 20000 in
set_option maxHeartbeats 4000000 in
theorem stepped_nil (x : Wl) (v : Value) (w : World) (base : Nat) (hv : WalO w base v x) (hn : x.ents.length ≤ 60) (hb1 : 0 ≤ x.base) (hb2 : x.base ≤ 100000) (hB : base ≤ w.heap.size) :
  Calls Try.prog 23 #[v, .nilIface] w fun e w' => ∃ u b, e = .returned (.tuple #[u, .bool b]) ∧ (WalO w' base u (x, false).1 ∧ b = (x, false).2) ∧ Oth base (walOwn v) w w' := by
 obtain ⟨s0, rfl, o0⟩ := hv
 obtain ⟨A, n, cap, rfl⟩ := o0.shape
 have HBS : Hid (base ≤ w.heap.size) := hB
 have HN : Hid (x.ents.length ≤ 60) := hn
 have HB1 : Hid (0 ≤ x.base) := hb1
 have HB2 : Hid (x.base ≤ 100000) := hb2
 have O0 : Hid (Owns w base 58 2 (.slice A n cap) (entR x.ents)) := o0
 have NP : Hid ((Value.slice A n cap).ownBlock ≠ some w.heap.size) := fun e => by have := (o0.lt _ e).2; omega
 have NR : Hid ((Value.slice A n cap).ownBlock ≠ some (w.heap.size + 1)) := fun e => by have := (o0.lt _ e).2; omega
 clear hn hb1 hb2 hB o0
 have tahard : ∀ wx : World, (Instr.typeAssert (.nilIface) 54 48 true).run Try.prog wx = .ok (.tuple #[.agg #[.int .i64 0, .int .i64 0], .bool false]) wx := fun wx => by kernel_rfl
 have taentry : ∀ wx : World, (Instr.typeAssert (.nilIface) 54 74 true).run Try.prog wx = .ok (.tuple #[.agg #[.int .i64 0, .int .i64 0, .string ⟨#[]⟩], .bool false]) wx := fun wx => by kernel_rfl
 have tacut : ∀ wx : World, (Instr.typeAssert (.nilIface) 54 51 true).run Try.prog wx = .ok (.tuple #[.agg #[.int .i64 0], .bool false]) wx := fun wx => by kernel_rfl
 go_enter Try.func23, Try.ntmps23
 have b0 : Below w.heap.size w ((w.alloc (.cells #[.int .i64 x.term, .int .i64 x.vote, .int .i64 x.base, .int .i64 x.bterm, .slice A n cap] 26)).alloc (.cells #[.int .i64 0, .int .i64 0, .int .i64 0, .int .i64 0, .slice none 0 0] 26)) := ((Below.refl _ w).alloc (Nat.le_refl _) _).alloc (by simp) _
 go_wp2_with fail
 exact bodyPost_ret (v := .tuple #[.agg #[.int .i64 x.term, .int .i64 x.vote, .int .i64 x.base, .int .i64 x.bterm, .slice A n cap], .bool false]) (by simp [results, go_sem]) rfl ⟨_, _, rfl, ⟨⟨_, rfl, O0.out.on (((Below.refl _ w).alloc (Nat.le_refl _) _).alloc (by simp) _)⟩, rfl⟩, Oth.of (((Below.refl _ w).alloc (Nat.le_refl _) _).alloc (by simp) _) HBS.out⟩
set_option maxRecDepth 20000 in
set_option maxHeartbeats 4000000 in
theorem stepped_base (kv : Value) (x : Wl) (v : Value) (w : World) (base : Nat) (hv : WalO w base v x) (hn : x.ents.length ≤ 60) (hb1 : 0 ≤ x.base) (hb2 : x.base ≤ 100000) (hB : base ≤ w.heap.size) :
  Calls Try.prog 23 #[v, .iface 90 kv] w fun e w' => ∃ u b, e = .returned (.tuple #[u, .bool b]) ∧ (WalO w' base u (x, false).1 ∧ b = (x, false).2) ∧ Oth base (walOwn v) w w' := by
 obtain ⟨s0, rfl, o0⟩ := hv
 obtain ⟨A, n, cap, rfl⟩ := o0.shape
 have HBS : Hid (base ≤ w.heap.size) := hB
 have HN : Hid (x.ents.length ≤ 60) := hn
 have HB1 : Hid (0 ≤ x.base) := hb1
 have HB2 : Hid (x.base ≤ 100000) := hb2
 have O0 : Hid (Owns w base 58 2 (.slice A n cap) (entR x.ents)) := o0
 have NP : Hid ((Value.slice A n cap).ownBlock ≠ some w.heap.size) := fun e => by have := (o0.lt _ e).2; omega
 have NR : Hid ((Value.slice A n cap).ownBlock ≠ some (w.heap.size + 1)) := fun e => by have := (o0.lt _ e).2; omega
 clear hn hb1 hb2 hB o0
 have tahard : ∀ wx : World, (Instr.typeAssert (.iface 90 (kv)) 54 48 true).run Try.prog wx = .ok (.tuple #[.agg #[.int .i64 0, .int .i64 0], .bool false]) wx := fun wx => by kernel_rfl
 have taentry : ∀ wx : World, (Instr.typeAssert (.iface 90 (kv)) 54 74 true).run Try.prog wx = .ok (.tuple #[.agg #[.int .i64 0, .int .i64 0, .string ⟨#[]⟩], .bool false]) wx := fun wx => by kernel_rfl
 have tacut : ∀ wx : World, (Instr.typeAssert (.iface 90 (kv)) 54 51 true).run Try.prog wx = .ok (.tuple #[.agg #[.int .i64 0], .bool false]) wx := fun wx => by kernel_rfl
 go_enter Try.func23, Try.ntmps23
 have b0 : Below w.heap.size w ((w.alloc (.cells #[.int .i64 x.term, .int .i64 x.vote, .int .i64 x.base, .int .i64 x.bterm, .slice A n cap] 26)).alloc (.cells #[.int .i64 0, .int .i64 0, .int .i64 0, .int .i64 0, .slice none 0 0] 26)) := ((Below.refl _ w).alloc (Nat.le_refl _) _).alloc (by simp) _
 go_wp2_with fail
 exact bodyPost_ret (v := .tuple #[.agg #[.int .i64 x.term, .int .i64 x.vote, .int .i64 x.base, .int .i64 x.bterm, .slice A n cap], .bool false]) (by simp [results, go_sem]) rfl ⟨_, _, rfl, ⟨⟨_, rfl, O0.out.on (((Below.refl _ w).alloc (Nat.le_refl _) _).alloc (by simp) _)⟩, rfl⟩, Oth.of (((Below.refl _ w).alloc (Nat.le_refl _) _).alloc (by simp) _) HBS.out⟩
set_option maxRecDepth 20000 in
set_option maxHeartbeats 4000000 in
theorem stepped_hard (t i v : Int) (d : ByteArray) (x : Wl) (wv : Value) (w : World) (base : Nat) (hv : WalO w base wv x) (hn : x.ents.length ≤ 60) (hb1 : 0 ≤ x.base) (hb2 : x.base ≤ 100000) (hB : base ≤ w.heap.size) :
  Calls Try.prog 23 #[wv, .iface 48 (.agg #[.int .i64 t, .int .i64 v])] w fun e w' => ∃ u b, e = .returned (.tuple #[u, .bool b]) ∧ (WalO w' base u (if recFits x ⟨1, t, i, v, d⟩ = true then ((⟨t, v, x.base, x.bterm, x.ents⟩ : Wl), true) else (x, false)).1 ∧ b = (if recFits x ⟨1, t, i, v, d⟩ = true then ((⟨t, v, x.base, x.bterm, x.ents⟩ : Wl), true) else (x, false)).2) ∧ Oth base (walOwn wv) w w' := by
 obtain ⟨s0, rfl, o0⟩ := hv
 obtain ⟨A, n, cap, rfl⟩ := o0.shape
 have HBS : Hid (base ≤ w.heap.size) := hB
 have HN : Hid (x.ents.length ≤ 60) := hn
 have HB1 : Hid (0 ≤ x.base) := hb1
 have HB2 : Hid (x.base ≤ 100000) := hb2
 have O0 : Hid (Owns w base 58 2 (.slice A n cap) (entR x.ents)) := o0
 have NP : Hid ((Value.slice A n cap).ownBlock ≠ some w.heap.size) := fun e => by have := (o0.lt _ e).2; omega
 have NR : Hid ((Value.slice A n cap).ownBlock ≠ some (w.heap.size + 1)) := fun e => by have := (o0.lt _ e).2; omega
 clear hn hb1 hb2 hB o0
 have tahard : ∀ wx : World, (Instr.typeAssert (.iface 48 (.agg #[.int .i64 t, .int .i64 v])) 54 48 true).run Try.prog wx = .ok (.tuple #[.agg #[.int .i64 t, .int .i64 v], .bool true]) wx := fun wx => by kernel_rfl
 cases hfit : recFits x ⟨1, t, i, v, d⟩
 ·rw [if_neg Bool.false_ne_true]
  go_enter Try.func23, Try.ntmps23
  go_wp2_with fail
  have b0 : Below w.heap.size w (((w.alloc (.cells #[.int .i64 x.term, .int .i64 x.vote, .int .i64 x.base, .int .i64 x.bterm, .slice A n cap] 26)).alloc (.cells #[.int .i64 0, .int .i64 0, .int .i64 0, .int .i64 0, .slice none 0 0] 26)).alloc (.cells #[.int .i64 t, .int .i64 v] 48)) := (((Below.refl _ w).alloc (Nat.le_refl _) _).alloc (by simp) _).alloc (by simp; omega) _
  have kp := ((Blk.new w #[.int .i64 x.term, .int .i64 x.vote, .int .i64 x.base, .int .i64 x.bterm, .slice A n cap] 26).alloc (.cells #[.int .i64 0, .int .i64 0, .int .i64 0, .int .i64 0, .slice none 0 0] 26)).alloc (.cells #[.int .i64 t, .int .i64 v] 48)
  have kr := (Blk.new (w.alloc (.cells #[.int .i64 x.term, .int .i64 x.vote, .int .i64 x.base, .int .i64 x.bterm, .slice A n cap] 26)) #[.int .i64 0, .int .i64 0, .int .i64 0, .int .i64 0, .slice none 0 0] 26).alloc (.cells #[.int .i64 t, .int .i64 v] 48)
  have kk := Blk.new ((w.alloc (.cells #[.int .i64 x.term, .int .i64 x.vote, .int .i64 x.base, .int .i64 x.bterm, .slice A n cap] 26)).alloc (.cells #[.int .i64 0, .int .i64 0, .int .i64 0, .int .i64 0, .slice none 0 0] 26)) #[.int .i64 t, .int .i64 v] 48
  simp only [World.size_alloc] at kr kk
  generalize ((w.alloc (.cells #[.int .i64 x.term, .int .i64 x.vote, .int .i64 x.base, .int .i64 x.bterm, .slice A n cap] 26)).alloc (.cells #[.int .i64 0, .int .i64 0, .int .i64 0, .int .i64 0, .slice none 0 0] 26)).alloc (.cells #[.int .i64 t, .int .i64 v] 48) = W at *
  have o1 := O0.out.on b0
  refine (hardFits t i v d x (.agg #[.int .i64 x.term, .int .i64 x.vote, .int .i64 x.base, .int .i64 x.bterm, .slice A n cap]) W W.heap.size ⟨_, rfl, o1.lies⟩ HN.out HB1.out HB2.out (Nat.le_refl _)).mono ?_
  rintro e w1 ⟨rfl, hb1⟩
  have B1 : Hid (Oth base (Value.slice A n cap).ownBlock w w1) := Oth.of (b0.trans (hb1.mono b0.size)) HBS.out
  have KP : Hid (Blk w1 w.heap.size #[.int .i64 x.term, .int .i64 x.vote, .int .i64 x.base, .int .i64 x.bterm, .slice A n cap] 26) := kp.on hb1 kp.lt
  have KR : Hid (Blk w1 (w.heap.size + 1) #[.int .i64 0, .int .i64 0, .int .i64 0, .int .i64 0, .slice none 0 0] 26) := kr.on hb1 kr.lt
  have KK : Hid (Blk w1 (w.heap.size + 1 + 1) #[.int .i64 t, .int .i64 v] 48) := kk.on hb1 kk.lt
  have O1 : Hid (Owns w1 base 58 2 (.slice A n cap) (entR x.ents)) := o1.on hb1
  clear b0 kp kr kk hb1 o1
  rw [hfit]
  have e0 := KP.out.cell 0 (.int .i64 x.term) rfl
  have f0 := KP.out.free 0
  have e1 := KP.out.cell 1 (.int .i64 x.vote) rfl
  have f1 := KP.out.free 1
  have e2 := KP.out.cell 2 (.int .i64 x.base) rfl
  have f2 := KP.out.free 2
  have e3 := KP.out.cell 3 (.int .i64 x.bterm) rfl
  have f3 := KP.out.free 3
  have e4 := KP.out.cell 4 (.slice A n cap) rfl
  have f4 := KP.out.free 4
  have r0 := KR.out.cell 0 (.int .i64 0) rfl
  have g0 := KR.out.free 0
  have r1 := KR.out.cell 1 (.int .i64 0) rfl
  have g1 := KR.out.free 1
  have r2 := KR.out.cell 2 (.int .i64 0) rfl
  have g2 := KR.out.free 2
  have r3 := KR.out.cell 3 (.int .i64 0) rfl
  have g3 := KR.out.free 3
  have r4 := KR.out.cell 4 (.slice none 0 0) rfl
  have g4 := KR.out.free 4
  go_wp2_with fail
  have hF := (((((KR.out.set 0 (.int .i64 x.term)).set 1 (.int .i64 x.vote)).set 2 (.int .i64 x.base)).set 3 (.int .i64 x.bterm)).set 4 (.slice A n cap))
  have FB := (((((B1.out.setCell (Nat.le_trans HBS.out (Nat.le_succ _)) (.int .i64 x.term) (p := ⟨w.heap.size + 1, 0, none⟩)).setCell (Nat.le_trans HBS.out (Nat.le_succ _)) (.int .i64 x.vote) (p := ⟨w.heap.size + 1, 1, none⟩)).setCell (Nat.le_trans HBS.out (Nat.le_succ _)) (.int .i64 x.base) (p := ⟨w.heap.size + 1, 2, none⟩)).setCell (Nat.le_trans HBS.out (Nat.le_succ _)) (.int .i64 x.bterm) (p := ⟨w.heap.size + 1, 3, none⟩)).setCell (Nat.le_trans HBS.out (Nat.le_succ _)) (.slice A n cap) (p := ⟨w.heap.size + 1, 4, none⟩))
  have OF := (((((O1.out.other NR.out 0 (.int .i64 x.term)).other NR.out 1 (.int .i64 x.vote)).other NR.out 2 (.int .i64 x.base)).other NR.out 3 (.int .i64 x.bterm)).other NR.out 4 (.slice A n cap))
  clear e0 f0 e1 f1 e2 f2 e3 f3 e4 f4 r0 g0 r1 g1 r2 g2 r3 g3 r4 g4
  generalize (((((w1.setCell ⟨w.heap.size + 1, 0, none⟩ (.int .i64 x.term)).setCell ⟨w.heap.size + 1, 1, none⟩ (.int .i64 x.vote)).setCell ⟨w.heap.size + 1, 2, none⟩ (.int .i64 x.base)).setCell ⟨w.heap.size + 1, 3, none⟩ (.int .i64 x.bterm)).setCell ⟨w.heap.size + 1, 4, none⟩ (.slice A n cap)) = WF at *
  have hG : Blk WF (w.heap.size + 1) #[.int .i64 x.term, .int .i64 x.vote, .int .i64 x.base, .int .i64 x.bterm, .slice A n cap] 26 := hF
  have mm0 := hG.cell 0 (.int .i64 x.term) rfl
  have mm1 := hG.cell 1 (.int .i64 x.vote) rfl
  have mm2 := hG.cell 2 (.int .i64 x.base) rfl
  have mm3 := hG.cell 3 (.int .i64 x.bterm) rfl
  have mm4 := hG.cell 4 (.slice A n cap) rfl
  exact bodyPost_ret (v := .tuple #[.agg #[.int .i64 x.term, .int .i64 x.vote, .int .i64 x.base, .int .i64 x.bterm, .slice A n cap], .bool false]) (by simp [results, go_sem, mm0, mm1, mm2, mm3, mm4]) rfl ⟨_, _, rfl, ⟨⟨_, rfl, OF⟩, rfl⟩, FB⟩
 ·rw [if_pos rfl]
  go_enter Try.func23, Try.ntmps23
  go_wp2_with fail
  have b0 : Below w.heap.size w (((w.alloc (.cells #[.int .i64 x.term, .int .i64 x.vote, .int .i64 x.base, .int .i64 x.bterm, .slice A n cap] 26)).alloc (.cells #[.int .i64 0, .int .i64 0, .int .i64 0, .int .i64 0, .slice none 0 0] 26)).alloc (.cells #[.int .i64 t, .int .i64 v] 48)) := (((Below.refl _ w).alloc (Nat.le_refl _) _).alloc (by simp) _).alloc (by simp; omega) _
  have kp := ((Blk.new w #[.int .i64 x.term, .int .i64 x.vote, .int .i64 x.base, .int .i64 x.bterm, .slice A n cap] 26).alloc (.cells #[.int .i64 0, .int .i64 0, .int .i64 0, .int .i64 0, .slice none 0 0] 26)).alloc (.cells #[.int .i64 t, .int .i64 v] 48)
  have kr := (Blk.new (w.alloc (.cells #[.int .i64 x.term, .int .i64 x.vote, .int .i64 x.base, .int .i64 x.bterm, .slice A n cap] 26)) #[.int .i64 0, .int .i64 0, .int .i64 0, .int .i64 0, .slice none 0 0] 26).alloc (.cells #[.int .i64 t, .int .i64 v] 48)
  have kk := Blk.new ((w.alloc (.cells #[.int .i64 x.term, .int .i64 x.vote, .int .i64 x.base, .int .i64 x.bterm, .slice A n cap] 26)).alloc (.cells #[.int .i64 0, .int .i64 0, .int .i64 0, .int .i64 0, .slice none 0 0] 26)) #[.int .i64 t, .int .i64 v] 48
  simp only [World.size_alloc] at kr kk
  generalize ((w.alloc (.cells #[.int .i64 x.term, .int .i64 x.vote, .int .i64 x.base, .int .i64 x.bterm, .slice A n cap] 26)).alloc (.cells #[.int .i64 0, .int .i64 0, .int .i64 0, .int .i64 0, .slice none 0 0] 26)).alloc (.cells #[.int .i64 t, .int .i64 v] 48) = W at *
  have o1 := O0.out.on b0
  refine (hardFits t i v d x (.agg #[.int .i64 x.term, .int .i64 x.vote, .int .i64 x.base, .int .i64 x.bterm, .slice A n cap]) W W.heap.size ⟨_, rfl, o1.lies⟩ HN.out HB1.out HB2.out (Nat.le_refl _)).mono ?_
  rintro e w1 ⟨rfl, hb1⟩
  have B1 : Hid (Oth base (Value.slice A n cap).ownBlock w w1) := Oth.of (b0.trans (hb1.mono b0.size)) HBS.out
  have KP : Hid (Blk w1 w.heap.size #[.int .i64 x.term, .int .i64 x.vote, .int .i64 x.base, .int .i64 x.bterm, .slice A n cap] 26) := kp.on hb1 kp.lt
  have KR : Hid (Blk w1 (w.heap.size + 1) #[.int .i64 0, .int .i64 0, .int .i64 0, .int .i64 0, .slice none 0 0] 26) := kr.on hb1 kr.lt
  have KK : Hid (Blk w1 (w.heap.size + 1 + 1) #[.int .i64 t, .int .i64 v] 48) := kk.on hb1 kk.lt
  have O1 : Hid (Owns w1 base 58 2 (.slice A n cap) (entR x.ents)) := o1.on hb1
  clear b0 kp kr kk hb1 o1
  rw [hfit]
  have e0 := KP.out.cell 0 (.int .i64 x.term) rfl
  have f0 := KP.out.free 0
  have e1 := KP.out.cell 1 (.int .i64 x.vote) rfl
  have f1 := KP.out.free 1
  have e2 := KP.out.cell 2 (.int .i64 x.base) rfl
  have f2 := KP.out.free 2
  have e3 := KP.out.cell 3 (.int .i64 x.bterm) rfl
  have f3 := KP.out.free 3
  have e4 := KP.out.cell 4 (.slice A n cap) rfl
  have f4 := KP.out.free 4
  have r0 := KR.out.cell 0 (.int .i64 0) rfl
  have g0 := KR.out.free 0
  have r1 := KR.out.cell 1 (.int .i64 0) rfl
  have g1 := KR.out.free 1
  have r2 := KR.out.cell 2 (.int .i64 0) rfl
  have g2 := KR.out.free 2
  have r3 := KR.out.cell 3 (.int .i64 0) rfl
  have g3 := KR.out.free 3
  have r4 := KR.out.cell 4 (.slice none 0 0) rfl
  have g4 := KR.out.free 4
  have S0 : Hid (w1.drew.cell? ⟨w.heap.size + 1 + 1, 0, none⟩ = some (.int .i64 t) ∧ w1.drew.cell? ⟨w.heap.size + 1 + 1, 1, none⟩ = some (.int .i64 v)) := ⟨KK.out.cell 0 _ rfl, KK.out.cell 1 _ rfl⟩
  go_wp2_with fail
  refine wp_region_until (fun w' => w'.cell? ⟨w.heap.size + 1 + 1, 0, none⟩ = some (.int .i64 t) ∧ w'.cell? ⟨w.heap.size + 1 + 1, 1, none⟩ = some (.int .i64 v)) (fun i => false) 8 (by rfl) (by kernel_rfl) ?_
  have KPX : Hid (Blk w1.drew w.heap.size #[.int .i64 x.term, .int .i64 x.vote, .int .i64 x.base, .int .i64 x.bterm, .slice A n cap] 26) := KP.out
  have KRX : Hid (Blk w1.drew (w.heap.size + 1) #[.int .i64 0, .int .i64 0, .int .i64 0, .int .i64 0, .slice none 0 0] 26) := KR.out
  have KKX : Hid (Blk w1.drew (w.heap.size + 1 + 1) #[.int .i64 t, .int .i64 v] 48) := KK.out
  have OX : Hid (Owns w1.drew base 58 2 (.slice A n cap) (entR x.ents)) := O1.out
  have BX : Hid (Oth base (Value.slice A n cap).ownBlock w w1.drew) := B1.out.drew
  clear e0 f0 e1 f1 e2 f2 e3 f3 e4 f4 r0 g0 r1 g1 r2 g2 r3 g3 r4 g4 KP KR KK O1 B1
  generalize w1.drew = X at *
  refine until_take 0 (v := ?vsh1) (by rfl) (by kernel_rfl) (by exact fun _ _ _ h => h) (by rfl) ?hysh1 S0.out ?rsh1
  case hysh1 =>
   intro w hSw
   try dsimp only at hSw
   go_simp
   try with_reducible rfl
  try simp only [Act.put, setIfInBounds_toArray, set_cons_zero, set_cons_succ]
  refine until_take 1 (v := ?vsh2) (by rfl) (by kernel_rfl) (by exact fun _ _ _ h => h) (by rfl) ?hysh2 S0.out ?rsh2
  case hysh2 =>
   intro w hSw
   try dsimp only at hSw
   go_simp
   try with_reducible rfl
  try simp only [Act.put, setIfInBounds_toArray, set_cons_zero, set_cons_succ]
  refine until_take 2 (v := ?vsh3) (by rfl) (by kernel_rfl) (by exact fun _ _ _ h => h) (by rfl) ?hysh3 S0.out ?rsh3
  case hysh3 =>
   intro w hSw
   try dsimp only at hSw
   go_simp
   try with_reducible rfl
  try simp only [Act.put, setIfInBounds_toArray, set_cons_zero, set_cons_succ]
  refine until_take 3 (v := ?vsh4) (by rfl) (by kernel_rfl) (by exact fun _ _ _ h => h) (by rfl) ?hysh4 S0.out ?rsh4
  case hysh4 =>
   intro w hSw
   try dsimp only at hSw
   go_simp
   try with_reducible rfl
  try simp only [Act.put, setIfInBounds_toArray, set_cons_zero, set_cons_succ]
  refine until_pure 4 (v := ?vsh5) (by rfl) (by kernel_rfl) (by exact fun _ _ _ h => h) (by rfl) ?hysh5 ?rsh5
  case hysh5 =>
   intro w
   go_simp
   try with_reducible rfl
  try simp only [Act.put, setIfInBounds_toArray, set_cons_zero, set_cons_succ]
  refine until_one 5 (by rfl) (by kernel_rfl) (fun K hK => ?_)
  have ee0 : X.cell? ⟨w.heap.size, 0, none⟩ = some (.int .i64 x.term) := KPX.out.cell 0 _ rfl
  have ff0 : X.frozen? ⟨w.heap.size, 0, none⟩ = false := KPX.out.free 0
  go_simp
  have kk2 := KKX.out.other (show w.heap.size + 1 + 1 ≠ w.heap.size by omega) 0 (.int .i64 t)
  refine hK.out _ _ (fun _ _ => ⟨kk2.cell 0 _ rfl, kk2.cell 1 _ rfl⟩) ?_
  clear hK K
  try simp only [Act.put, setIfInBounds_toArray, set_cons_zero, set_cons_succ]
  refine until_pure 6 (v := ?vsh6) (by rfl) (by kernel_rfl) (by exact fun _ _ _ h => h) (by rfl) ?hysh6 ?rsh6
  case hysh6 =>
   intro w
   go_simp
   try with_reducible rfl
  try simp only [Act.put, setIfInBounds_toArray, set_cons_zero, set_cons_succ]
  refine until_one 7 (by rfl) (by kernel_rfl) (fun K hK => ?_)
  have kp2 := KPX.out.set 0 (.int .i64 t)
  have ee1 : (X.setCell ⟨w.heap.size, 0, none⟩ (.int .i64 t)).cell? ⟨w.heap.size, 1, none⟩ = some (.int .i64 x.vote) := kp2.cell 1 _ rfl
  have ff1 : (X.setCell ⟨w.heap.size, 0, none⟩ (.int .i64 t)).frozen? ⟨w.heap.size, 1, none⟩ = false := kp2.free 1
  go_simp
  have kk3 := kk2.other (show w.heap.size + 1 + 1 ≠ w.heap.size by omega) 1 (.int .i64 v)
  refine hK.out _ _ (fun _ _ => ⟨kk3.cell 0 _ rfl, kk3.cell 1 _ rfl⟩) ?_
  clear hK K
  try simp only [Act.put, setIfInBounds_toArray, set_cons_zero, set_cons_succ]
  refine until_done (by kernel_rfl) ?_ _
  have BD : Hid (Oth base (Value.slice A n cap).ownBlock w ((X.setCell ⟨w.heap.size, 0, none⟩ (.int .i64 t)).setCell ⟨w.heap.size, 1, none⟩ (.int .i64 v))) := (BX.out.setCell HBS.out (.int .i64 t) (p := ⟨w.heap.size, 0, none⟩)).setCell HBS.out (.int .i64 v) (p := ⟨w.heap.size, 1, none⟩)
  have KPD : Hid (Blk ((X.setCell ⟨w.heap.size, 0, none⟩ (.int .i64 t)).setCell ⟨w.heap.size, 1, none⟩ (.int .i64 v)) w.heap.size #[.int .i64 t, .int .i64 v, .int .i64 x.base, .int .i64 x.bterm, .slice A n cap] 26) := kp2.set 1 (.int .i64 v)
  have KRD : Hid (Blk ((X.setCell ⟨w.heap.size, 0, none⟩ (.int .i64 t)).setCell ⟨w.heap.size, 1, none⟩ (.int .i64 v)) (w.heap.size + 1) #[.int .i64 0, .int .i64 0, .int .i64 0, .int .i64 0, .slice none 0 0] 26) := (Blk.other (w := X) KRX.out (show w.heap.size + 1 ≠ w.heap.size by omega) 0 (.int .i64 t)).other (show w.heap.size + 1 ≠ w.heap.size by omega) 1 (.int .i64 v)
  have OD : Hid (Owns ((X.setCell ⟨w.heap.size, 0, none⟩ (.int .i64 t)).setCell ⟨w.heap.size, 1, none⟩ (.int .i64 v)) base 58 2 (.slice A n cap) (entR x.ents)) := (Owns.other (w := X) OX.out NP.out 0 (.int .i64 t)).other NP.out 1 (.int .i64 v)
  clear ee0 ee1 ff0 ff1 kp2 kk2 kk3 S0
  generalize (X.setCell ⟨w.heap.size, 0, none⟩ (.int .i64 t)).setCell ⟨w.heap.size, 1, none⟩ (.int .i64 v) = w2 at *
  have e0 := KPD.out.cell 0 (.int .i64 t) rfl
  have f0 := KPD.out.free 0
  have e1 := KPD.out.cell 1 (.int .i64 v) rfl
  have f1 := KPD.out.free 1
  have e2 := KPD.out.cell 2 (.int .i64 x.base) rfl
  have f2 := KPD.out.free 2
  have e3 := KPD.out.cell 3 (.int .i64 x.bterm) rfl
  have f3 := KPD.out.free 3
  have e4 := KPD.out.cell 4 (.slice A n cap) rfl
  have f4 := KPD.out.free 4
  have r0 := KRD.out.cell 0 (.int .i64 0) rfl
  have g0 := KRD.out.free 0
  have r1 := KRD.out.cell 1 (.int .i64 0) rfl
  have g1 := KRD.out.free 1
  have r2 := KRD.out.cell 2 (.int .i64 0) rfl
  have g2 := KRD.out.free 2
  have r3 := KRD.out.cell 3 (.int .i64 0) rfl
  have g3 := KRD.out.free 3
  have r4 := KRD.out.cell 4 (.slice none 0 0) rfl
  have g4 := KRD.out.free 4
  go_wp2_with fail
  have hF := (((((KRD.out.set 0 (.int .i64 t)).set 1 (.int .i64 v)).set 2 (.int .i64 x.base)).set 3 (.int .i64 x.bterm)).set 4 (.slice A n cap))
  have FB := (((((BD.out.setCell (Nat.le_trans HBS.out (Nat.le_succ _)) (.int .i64 t) (p := ⟨w.heap.size + 1, 0, none⟩)).setCell (Nat.le_trans HBS.out (Nat.le_succ _)) (.int .i64 v) (p := ⟨w.heap.size + 1, 1, none⟩)).setCell (Nat.le_trans HBS.out (Nat.le_succ _)) (.int .i64 x.base) (p := ⟨w.heap.size + 1, 2, none⟩)).setCell (Nat.le_trans HBS.out (Nat.le_succ _)) (.int .i64 x.bterm) (p := ⟨w.heap.size + 1, 3, none⟩)).setCell (Nat.le_trans HBS.out (Nat.le_succ _)) (.slice A n cap) (p := ⟨w.heap.size + 1, 4, none⟩))
  have OF := (((((OD.out.other NR.out 0 (.int .i64 t)).other NR.out 1 (.int .i64 v)).other NR.out 2 (.int .i64 x.base)).other NR.out 3 (.int .i64 x.bterm)).other NR.out 4 (.slice A n cap))
  clear e0 f0 e1 f1 e2 f2 e3 f3 e4 f4 r0 g0 r1 g1 r2 g2 r3 g3 r4 g4
  generalize (((((w2.setCell ⟨w.heap.size + 1, 0, none⟩ (.int .i64 t)).setCell ⟨w.heap.size + 1, 1, none⟩ (.int .i64 v)).setCell ⟨w.heap.size + 1, 2, none⟩ (.int .i64 x.base)).setCell ⟨w.heap.size + 1, 3, none⟩ (.int .i64 x.bterm)).setCell ⟨w.heap.size + 1, 4, none⟩ (.slice A n cap)) = WF at *
  have hG : Blk WF (w.heap.size + 1) #[.int .i64 t, .int .i64 v, .int .i64 x.base, .int .i64 x.bterm, .slice A n cap] 26 := hF
  have mm0 := hG.cell 0 (.int .i64 t) rfl
  have mm1 := hG.cell 1 (.int .i64 v) rfl
  have mm2 := hG.cell 2 (.int .i64 x.base) rfl
  have mm3 := hG.cell 3 (.int .i64 x.bterm) rfl
  have mm4 := hG.cell 4 (.slice A n cap) rfl
  exact bodyPost_ret (v := .tuple #[.agg #[.int .i64 t, .int .i64 v, .int .i64 x.base, .int .i64 x.bterm, .slice A n cap], .bool true]) (by simp [results, go_sem, mm0, mm1, mm2, mm3, mm4]) rfl ⟨_, _, rfl, ⟨⟨_, rfl, OF⟩, rfl⟩, FB⟩
theorem fits_cut' (x : Wl) (r : Rcd) (hk : r.kind = 3) (h : recFits x r = true) : x.base < r.index ∧ r.index ≤ x.base + x.ents.length := by
 unfold recFits at h
 rw [if_neg (by omega), if_neg (by omega), if_pos hk] at h
 simpa using h
set_option maxRecDepth 20000 in
set_option maxHeartbeats 4000000 in
theorem stepped_cut (t i v : Int) (d : ByteArray) (x : Wl) (wv : Value) (w : World) (base : Nat) (hv : WalO w base wv x) (hn : x.ents.length ≤ 60) (hb1 : 0 ≤ x.base) (hb2 : x.base ≤ 100000) (hB : base ≤ w.heap.size) :
  Calls Try.prog 23 #[wv, .iface 51 (.agg #[.int .i64 i])] w fun e w' => ∃ u b, e = .returned (.tuple #[u, .bool b]) ∧ (WalO w' base u (if recFits x ⟨3, t, i, v, d⟩ = true then ((⟨x.term, x.vote, x.base, x.bterm, x.ents.take (i - x.base - 1).toNat⟩ : Wl), true) else (x, false)).1 ∧ b = (if recFits x ⟨3, t, i, v, d⟩ = true then ((⟨x.term, x.vote, x.base, x.bterm, x.ents.take (i - x.base - 1).toNat⟩ : Wl), true) else (x, false)).2) ∧ Oth base (walOwn wv) w w' := by
 obtain ⟨s0, rfl, o0⟩ := hv
 obtain ⟨A, n, cap, rfl⟩ := o0.shape
 have HBS : Hid (base ≤ w.heap.size) := hB
 have HN : Hid (x.ents.length ≤ 60) := hn
 have HB1 : Hid (0 ≤ x.base) := hb1
 have HB2 : Hid (x.base ≤ 100000) := hb2
 have O0 : Hid (Owns w base 58 2 (.slice A n cap) (entR x.ents)) := o0
 have NP : Hid ((Value.slice A n cap).ownBlock ≠ some w.heap.size) := fun e => by have := (o0.lt _ e).2; omega
 have NR : Hid ((Value.slice A n cap).ownBlock ≠ some (w.heap.size + 1)) := fun e => by have := (o0.lt _ e).2; omega
 clear hn hb1 hb2 hB o0
 have tahard : ∀ wx : World, (Instr.typeAssert (.iface 51 (.agg #[.int .i64 i])) 54 48 true).run Try.prog wx = .ok (.tuple #[.agg #[.int .i64 0, .int .i64 0], .bool false]) wx := fun wx => by kernel_rfl
 have taentry : ∀ wx : World, (Instr.typeAssert (.iface 51 (.agg #[.int .i64 i])) 54 74 true).run Try.prog wx = .ok (.tuple #[.agg #[.int .i64 0, .int .i64 0, .string ⟨#[]⟩], .bool false]) wx := fun wx => by kernel_rfl
 have tacut : ∀ wx : World, (Instr.typeAssert (.iface 51 (.agg #[.int .i64 i])) 54 51 true).run Try.prog wx = .ok (.tuple #[.agg #[.int .i64 i], .bool true]) wx := fun wx => by kernel_rfl
 cases hfit : recFits x ⟨3, t, i, v, d⟩
 ·rw [if_neg Bool.false_ne_true]
  go_enter Try.func23, Try.ntmps23
  go_wp2_with fail
  have b0 : Below w.heap.size w (((w.alloc (.cells #[.int .i64 x.term, .int .i64 x.vote, .int .i64 x.base, .int .i64 x.bterm, .slice A n cap] 26)).alloc (.cells #[.int .i64 0, .int .i64 0, .int .i64 0, .int .i64 0, .slice none 0 0] 26)).alloc (.cells #[.int .i64 i] 51)) := (((Below.refl _ w).alloc (Nat.le_refl _) _).alloc (by simp) _).alloc (by simp; omega) _
  have kp := ((Blk.new w #[.int .i64 x.term, .int .i64 x.vote, .int .i64 x.base, .int .i64 x.bterm, .slice A n cap] 26).alloc (.cells #[.int .i64 0, .int .i64 0, .int .i64 0, .int .i64 0, .slice none 0 0] 26)).alloc (.cells #[.int .i64 i] 51)
  have kr := (Blk.new (w.alloc (.cells #[.int .i64 x.term, .int .i64 x.vote, .int .i64 x.base, .int .i64 x.bterm, .slice A n cap] 26)) #[.int .i64 0, .int .i64 0, .int .i64 0, .int .i64 0, .slice none 0 0] 26).alloc (.cells #[.int .i64 i] 51)
  have kk := Blk.new ((w.alloc (.cells #[.int .i64 x.term, .int .i64 x.vote, .int .i64 x.base, .int .i64 x.bterm, .slice A n cap] 26)).alloc (.cells #[.int .i64 0, .int .i64 0, .int .i64 0, .int .i64 0, .slice none 0 0] 26)) #[.int .i64 i] 51
  simp only [World.size_alloc] at kr kk
  generalize ((w.alloc (.cells #[.int .i64 x.term, .int .i64 x.vote, .int .i64 x.base, .int .i64 x.bterm, .slice A n cap] 26)).alloc (.cells #[.int .i64 0, .int .i64 0, .int .i64 0, .int .i64 0, .slice none 0 0] 26)).alloc (.cells #[.int .i64 i] 51) = W at *
  have o1 := O0.out.on b0
  refine (cutFits t i v d x (.agg #[.int .i64 x.term, .int .i64 x.vote, .int .i64 x.base, .int .i64 x.bterm, .slice A n cap]) W W.heap.size ⟨_, rfl, o1.lies⟩ HN.out HB1.out HB2.out (Nat.le_refl _)).mono ?_
  rintro e w1 ⟨rfl, hb1⟩
  have B1 : Hid (Oth base (Value.slice A n cap).ownBlock w w1) := Oth.of (b0.trans (hb1.mono b0.size)) HBS.out
  have KP : Hid (Blk w1 w.heap.size #[.int .i64 x.term, .int .i64 x.vote, .int .i64 x.base, .int .i64 x.bterm, .slice A n cap] 26) := kp.on hb1 kp.lt
  have KR : Hid (Blk w1 (w.heap.size + 1) #[.int .i64 0, .int .i64 0, .int .i64 0, .int .i64 0, .slice none 0 0] 26) := kr.on hb1 kr.lt
  have KK : Hid (Blk w1 (w.heap.size + 1 + 1) #[.int .i64 i] 51) := kk.on hb1 kk.lt
  have O1 : Hid (Owns w1 base 58 2 (.slice A n cap) (entR x.ents)) := o1.on hb1
  clear b0 kp kr kk hb1 o1
  rw [hfit]
  have e0 := KP.out.cell 0 (.int .i64 x.term) rfl
  have f0 := KP.out.free 0
  have e1 := KP.out.cell 1 (.int .i64 x.vote) rfl
  have f1 := KP.out.free 1
  have e2 := KP.out.cell 2 (.int .i64 x.base) rfl
  have f2 := KP.out.free 2
  have e3 := KP.out.cell 3 (.int .i64 x.bterm) rfl
  have f3 := KP.out.free 3
  have e4 := KP.out.cell 4 (.slice A n cap) rfl
  have f4 := KP.out.free 4
  have r0 := KR.out.cell 0 (.int .i64 0) rfl
  have g0 := KR.out.free 0
  have r1 := KR.out.cell 1 (.int .i64 0) rfl
  have g1 := KR.out.free 1
  have r2 := KR.out.cell 2 (.int .i64 0) rfl
  have g2 := KR.out.free 2
  have r3 := KR.out.cell 3 (.int .i64 0) rfl
  have g3 := KR.out.free 3
  have r4 := KR.out.cell 4 (.slice none 0 0) rfl
  have g4 := KR.out.free 4
  go_wp2_with fail
  have hF := (((((KR.out.set 0 (.int .i64 x.term)).set 1 (.int .i64 x.vote)).set 2 (.int .i64 x.base)).set 3 (.int .i64 x.bterm)).set 4 (.slice A n cap))
  have FB := (((((B1.out.setCell (Nat.le_trans HBS.out (Nat.le_succ _)) (.int .i64 x.term) (p := ⟨w.heap.size + 1, 0, none⟩)).setCell (Nat.le_trans HBS.out (Nat.le_succ _)) (.int .i64 x.vote) (p := ⟨w.heap.size + 1, 1, none⟩)).setCell (Nat.le_trans HBS.out (Nat.le_succ _)) (.int .i64 x.base) (p := ⟨w.heap.size + 1, 2, none⟩)).setCell (Nat.le_trans HBS.out (Nat.le_succ _)) (.int .i64 x.bterm) (p := ⟨w.heap.size + 1, 3, none⟩)).setCell (Nat.le_trans HBS.out (Nat.le_succ _)) (.slice A n cap) (p := ⟨w.heap.size + 1, 4, none⟩))
  have OF := (((((O1.out.other NR.out 0 (.int .i64 x.term)).other NR.out 1 (.int .i64 x.vote)).other NR.out 2 (.int .i64 x.base)).other NR.out 3 (.int .i64 x.bterm)).other NR.out 4 (.slice A n cap))
  clear e0 f0 e1 f1 e2 f2 e3 f3 e4 f4 r0 g0 r1 g1 r2 g2 r3 g3 r4 g4
  generalize (((((w1.setCell ⟨w.heap.size + 1, 0, none⟩ (.int .i64 x.term)).setCell ⟨w.heap.size + 1, 1, none⟩ (.int .i64 x.vote)).setCell ⟨w.heap.size + 1, 2, none⟩ (.int .i64 x.base)).setCell ⟨w.heap.size + 1, 3, none⟩ (.int .i64 x.bterm)).setCell ⟨w.heap.size + 1, 4, none⟩ (.slice A n cap)) = WF at *
  have hG : Blk WF (w.heap.size + 1) #[.int .i64 x.term, .int .i64 x.vote, .int .i64 x.base, .int .i64 x.bterm, .slice A n cap] 26 := hF
  have mm0 := hG.cell 0 (.int .i64 x.term) rfl
  have mm1 := hG.cell 1 (.int .i64 x.vote) rfl
  have mm2 := hG.cell 2 (.int .i64 x.base) rfl
  have mm3 := hG.cell 3 (.int .i64 x.bterm) rfl
  have mm4 := hG.cell 4 (.slice A n cap) rfl
  exact bodyPost_ret (v := .tuple #[.agg #[.int .i64 x.term, .int .i64 x.vote, .int .i64 x.base, .int .i64 x.bterm, .slice A n cap], .bool false]) (by simp [results, go_sem, mm0, mm1, mm2, mm3, mm4]) rfl ⟨_, _, rfl, ⟨⟨_, rfl, OF⟩, rfl⟩, FB⟩
 ·rw [if_pos rfl]
  obtain ⟨f1, f2⟩ := fits_cut' x ⟨3, t, i, v, d⟩ rfl hfit
  simp only at f1 f2
  obtain ⟨j, hj⟩ : ∃ j : Nat, i - x.base - 1 = (j : Int) := ⟨(i - x.base - 1).toNat, by omega⟩
  have hjn : j < x.ents.length := by omega
  rw [hj, Int.toNat_natCast]
  have hw1 : IntKind.i64.wrap (i - x.base) = i - x.base := by rw [IntKind.wrap_i64]; have := HN.out; have := HB1.out; have := HB2.out; omega
  have hw2 : IntKind.i64.wrap (i - x.base - 1) = (j : Int) := by rw [IntKind.wrap_i64, hj]; have := HN.out; omega
  clear f1 f2 hj
  go_enter Try.func23, Try.ntmps23
  go_wp2_with fail
  have b0 : Below w.heap.size w (((w.alloc (.cells #[.int .i64 x.term, .int .i64 x.vote, .int .i64 x.base, .int .i64 x.bterm, .slice A n cap] 26)).alloc (.cells #[.int .i64 0, .int .i64 0, .int .i64 0, .int .i64 0, .slice none 0 0] 26)).alloc (.cells #[.int .i64 i] 51)) := (((Below.refl _ w).alloc (Nat.le_refl _) _).alloc (by simp) _).alloc (by simp; omega) _
  have kp := ((Blk.new w #[.int .i64 x.term, .int .i64 x.vote, .int .i64 x.base, .int .i64 x.bterm, .slice A n cap] 26).alloc (.cells #[.int .i64 0, .int .i64 0, .int .i64 0, .int .i64 0, .slice none 0 0] 26)).alloc (.cells #[.int .i64 i] 51)
  have kr := (Blk.new (w.alloc (.cells #[.int .i64 x.term, .int .i64 x.vote, .int .i64 x.base, .int .i64 x.bterm, .slice A n cap] 26)) #[.int .i64 0, .int .i64 0, .int .i64 0, .int .i64 0, .slice none 0 0] 26).alloc (.cells #[.int .i64 i] 51)
  have kk := Blk.new ((w.alloc (.cells #[.int .i64 x.term, .int .i64 x.vote, .int .i64 x.base, .int .i64 x.bterm, .slice A n cap] 26)).alloc (.cells #[.int .i64 0, .int .i64 0, .int .i64 0, .int .i64 0, .slice none 0 0] 26)) #[.int .i64 i] 51
  simp only [World.size_alloc] at kr kk
  generalize ((w.alloc (.cells #[.int .i64 x.term, .int .i64 x.vote, .int .i64 x.base, .int .i64 x.bterm, .slice A n cap] 26)).alloc (.cells #[.int .i64 0, .int .i64 0, .int .i64 0, .int .i64 0, .slice none 0 0] 26)).alloc (.cells #[.int .i64 i] 51) = W at *
  have o1 := O0.out.on b0
  refine (cutFits t i v d x (.agg #[.int .i64 x.term, .int .i64 x.vote, .int .i64 x.base, .int .i64 x.bterm, .slice A n cap]) W W.heap.size ⟨_, rfl, o1.lies⟩ HN.out HB1.out HB2.out (Nat.le_refl _)).mono ?_
  rintro e w1 ⟨rfl, hb1⟩
  have B1 : Hid (Oth base (Value.slice A n cap).ownBlock w w1) := Oth.of (b0.trans (hb1.mono b0.size)) HBS.out
  have KP : Hid (Blk w1 w.heap.size #[.int .i64 x.term, .int .i64 x.vote, .int .i64 x.base, .int .i64 x.bterm, .slice A n cap] 26) := kp.on hb1 kp.lt
  have KR : Hid (Blk w1 (w.heap.size + 1) #[.int .i64 0, .int .i64 0, .int .i64 0, .int .i64 0, .slice none 0 0] 26) := kr.on hb1 kr.lt
  have KK : Hid (Blk w1 (w.heap.size + 1 + 1) #[.int .i64 i] 51) := kk.on hb1 kk.lt
  have O1 : Hid (Owns w1 base 58 2 (.slice A n cap) (entR x.ents)) := o1.on hb1
  clear b0 kp kr kk hb1 o1
  rw [hfit]
  have e0 := KP.out.cell 0 (.int .i64 x.term) rfl
  have f0 := KP.out.free 0
  have e1 := KP.out.cell 1 (.int .i64 x.vote) rfl
  have f1 := KP.out.free 1
  have e2 := KP.out.cell 2 (.int .i64 x.base) rfl
  have f2 := KP.out.free 2
  have e3 := KP.out.cell 3 (.int .i64 x.bterm) rfl
  have f3 := KP.out.free 3
  have e4 := KP.out.cell 4 (.slice A n cap) rfl
  have f4 := KP.out.free 4
  have r0 := KR.out.cell 0 (.int .i64 0) rfl
  have g0 := KR.out.free 0
  have r1 := KR.out.cell 1 (.int .i64 0) rfl
  have g1 := KR.out.free 1
  have r2 := KR.out.cell 2 (.int .i64 0) rfl
  have g2 := KR.out.free 2
  have r3 := KR.out.cell 3 (.int .i64 0) rfl
  have g3 := KR.out.free 3
  have r4 := KR.out.cell 4 (.slice none 0 0) rfl
  have g4 := KR.out.free 4
  have kk0 := KK.out.cell 0 (.int .i64 i) rfl
  have hroom : n = (entR x.ents).length ∧ n ≤ cap := Lies.room (O1.out.lies)
  have hel := entR_length x.ents
  have cF := firstV A n cap j w1 (by omega) hroom.2
  obtain ⟨sv, hsv⟩ : ∃ sv, (if j = 0 then Value.slice none 0 0 else .slice A j cap) = sv := ⟨_, rfl⟩
  have OJ : Owns w1 base 58 2 sv (entR (x.ents.take j)) := by
   rw [← hsv]
   by_cases h0 : j = 0
   ·rw [if_pos h0, h0, List.take_zero]
    exact Owns.nil _ _ _ _
   ·rw [if_neg h0]
    have := O1.out.first j (by omega)
    unfold entR at this ⊢
    rw [← List.map_take] at this
    exact this
  have hob : ∀ g, sv.ownBlock = some g → (Value.slice A n cap).ownBlock = some g := by
   intro g hg
   rw [← hsv] at hg
   split at hg
   ·cases hg
   ·revert hg
    cases A <;> exact id
  obtain ⟨sA, sn, sc, rfl⟩ := OJ.shape
  rw [hsv] at cF
  have HOJ : Hid (Owns w1 base 58 2 (.slice sA sn sc) (entR (x.ents.take j))) := OJ
  have NPJ : Hid ((Value.slice sA sn sc).ownBlock ≠ some w.heap.size) := fun e => NP.out (hob _ e)
  have NRJ : Hid ((Value.slice sA sn sc).ownBlock ≠ some (w.heap.size + 1)) := fun e => NR.out (hob _ e)
  clear hroom hel OJ hob hsv
  go_wp2_with fail
  refine cF.mono ?_
  rintro e w2 ⟨rfl, rfl⟩
  go_wp2_with fail
  have hF := ((((((KR.out.other (show w.heap.size + 1 ≠ w.heap.size by omega) 4 (.slice sA sn sc)).set 0 (.int .i64 x.term)).set 1 (.int .i64 x.vote)).set 2 (.int .i64 x.base)).set 3 (.int .i64 x.bterm)).set 4 (.slice sA sn sc))
  have FB := ((((((B1.out.setCell HBS.out (.slice sA sn sc) (p := ⟨w.heap.size, 4, none⟩)).setCell (Nat.le_trans HBS.out (Nat.le_succ _)) (.int .i64 x.term) (p := ⟨w.heap.size + 1, 0, none⟩)).setCell (Nat.le_trans HBS.out (Nat.le_succ _)) (.int .i64 x.vote) (p := ⟨w.heap.size + 1, 1, none⟩)).setCell (Nat.le_trans HBS.out (Nat.le_succ _)) (.int .i64 x.base) (p := ⟨w.heap.size + 1, 2, none⟩)).setCell (Nat.le_trans HBS.out (Nat.le_succ _)) (.int .i64 x.bterm) (p := ⟨w.heap.size + 1, 3, none⟩)).setCell (Nat.le_trans HBS.out (Nat.le_succ _)) (.slice sA sn sc) (p := ⟨w.heap.size + 1, 4, none⟩))
  have OF := ((((((HOJ.out.other NPJ.out 4 (.slice sA sn sc)).other NRJ.out 0 (.int .i64 x.term)).other NRJ.out 1 (.int .i64 x.vote)).other NRJ.out 2 (.int .i64 x.base)).other NRJ.out 3 (.int .i64 x.bterm)).other NRJ.out 4 (.slice sA sn sc))
  clear e0 f0 e1 f1 e2 f2 e3 f3 e4 f4 r0 g0 r1 g1 r2 g2 r3 g3 r4 g4 kk0 cF
  generalize ((((((w1.setCell ⟨w.heap.size, 4, none⟩ (.slice sA sn sc)).setCell ⟨w.heap.size + 1, 0, none⟩ (.int .i64 x.term)).setCell ⟨w.heap.size + 1, 1, none⟩ (.int .i64 x.vote)).setCell ⟨w.heap.size + 1, 2, none⟩ (.int .i64 x.base)).setCell ⟨w.heap.size + 1, 3, none⟩ (.int .i64 x.bterm)).setCell ⟨w.heap.size + 1, 4, none⟩ (.slice sA sn sc)) = WF at *
  have hG : Blk WF (w.heap.size + 1) #[.int .i64 x.term, .int .i64 x.vote, .int .i64 x.base, .int .i64 x.bterm, .slice sA sn sc] 26 := hF
  have mm0 := hG.cell 0 (.int .i64 x.term) rfl
  have mm1 := hG.cell 1 (.int .i64 x.vote) rfl
  have mm2 := hG.cell 2 (.int .i64 x.base) rfl
  have mm3 := hG.cell 3 (.int .i64 x.bterm) rfl
  have mm4 := hG.cell 4 (.slice sA sn sc) rfl
  exact bodyPost_ret (v := .tuple #[.agg #[.int .i64 x.term, .int .i64 x.vote, .int .i64 x.base, .int .i64 x.bterm, .slice sA sn sc], .bool true]) (by simp [results, go_sem, mm0, mm1, mm2, mm3, mm4]) rfl ⟨_, _, rfl, ⟨⟨_, rfl, OF⟩, rfl⟩, FB⟩
set_option maxRecDepth 20000 in
set_option maxHeartbeats 4000000 in
theorem stepped_entry (t i v : Int) (d : ByteArray) (x : Wl) (wv : Value) (w : World) (base : Nat) (hv : WalO w base wv x) (hn : x.ents.length ≤ 60) (hb1 : 0 ≤ x.base) (hb2 : x.base ≤ 100000) (hB : base ≤ w.heap.size) (hd : d.size ≤ 1048576) :
  Calls Try.prog 23 #[wv, .iface 74 (.agg #[.int .i64 i, .int .i64 t, .string d])] w fun e w' => ∃ u b, e = .returned (.tuple #[u, .bool b]) ∧ (WalO w' base u (if recFits x ⟨2, t, i, v, d⟩ = true then ((⟨x.term, x.vote, x.base, x.bterm, x.ents ++ [⟨t, d⟩]⟩ : Wl), true) else (x, false)).1 ∧ b = (if recFits x ⟨2, t, i, v, d⟩ = true then ((⟨x.term, x.vote, x.base, x.bterm, x.ents ++ [⟨t, d⟩]⟩ : Wl), true) else (x, false)).2) ∧ Oth base (walOwn wv) w w' := by
 obtain ⟨s0, rfl, o0⟩ := hv
 obtain ⟨A, n, cap, rfl⟩ := o0.shape
 have HBS : Hid (base ≤ w.heap.size) := hB
 have HN : Hid (x.ents.length ≤ 60) := hn
 have HB1 : Hid (0 ≤ x.base) := hb1
 have HB2 : Hid (x.base ≤ 100000) := hb2
 have O0 : Hid (Owns w base 58 2 (.slice A n cap) (entR x.ents)) := o0
 have NP : Hid ((Value.slice A n cap).ownBlock ≠ some w.heap.size) := fun e => by have := (o0.lt _ e).2; omega
 have NR : Hid ((Value.slice A n cap).ownBlock ≠ some (w.heap.size + 1)) := fun e => by have := (o0.lt _ e).2; omega
 clear hn hb1 hb2 hB o0
 have tahard : ∀ wx : World, (Instr.typeAssert (.iface 74 (.agg #[.int .i64 i, .int .i64 t, .string d])) 54 48 true).run Try.prog wx = .ok (.tuple #[.agg #[.int .i64 0, .int .i64 0], .bool false]) wx := fun wx => by kernel_rfl
 have taentry : ∀ wx : World, (Instr.typeAssert (.iface 74 (.agg #[.int .i64 i, .int .i64 t, .string d])) 54 74 true).run Try.prog wx = .ok (.tuple #[.agg #[.int .i64 i, .int .i64 t, .string d], .bool true]) wx := fun wx => by kernel_rfl
 cases hfit : recFits x ⟨2, t, i, v, d⟩
 ·rw [if_neg Bool.false_ne_true]
  go_enter Try.func23, Try.ntmps23
  go_wp2_with fail
  have b0 : Below w.heap.size w (((w.alloc (.cells #[.int .i64 x.term, .int .i64 x.vote, .int .i64 x.base, .int .i64 x.bterm, .slice A n cap] 26)).alloc (.cells #[.int .i64 0, .int .i64 0, .int .i64 0, .int .i64 0, .slice none 0 0] 26)).alloc (.cells #[.int .i64 i, .int .i64 t, .string d] 74)) := (((Below.refl _ w).alloc (Nat.le_refl _) _).alloc (by simp) _).alloc (by simp; omega) _
  have kp := ((Blk.new w #[.int .i64 x.term, .int .i64 x.vote, .int .i64 x.base, .int .i64 x.bterm, .slice A n cap] 26).alloc (.cells #[.int .i64 0, .int .i64 0, .int .i64 0, .int .i64 0, .slice none 0 0] 26)).alloc (.cells #[.int .i64 i, .int .i64 t, .string d] 74)
  have kr := (Blk.new (w.alloc (.cells #[.int .i64 x.term, .int .i64 x.vote, .int .i64 x.base, .int .i64 x.bterm, .slice A n cap] 26)) #[.int .i64 0, .int .i64 0, .int .i64 0, .int .i64 0, .slice none 0 0] 26).alloc (.cells #[.int .i64 i, .int .i64 t, .string d] 74)
  have kk := Blk.new ((w.alloc (.cells #[.int .i64 x.term, .int .i64 x.vote, .int .i64 x.base, .int .i64 x.bterm, .slice A n cap] 26)).alloc (.cells #[.int .i64 0, .int .i64 0, .int .i64 0, .int .i64 0, .slice none 0 0] 26)) #[.int .i64 i, .int .i64 t, .string d] 74
  simp only [World.size_alloc] at kr kk
  generalize ((w.alloc (.cells #[.int .i64 x.term, .int .i64 x.vote, .int .i64 x.base, .int .i64 x.bterm, .slice A n cap] 26)).alloc (.cells #[.int .i64 0, .int .i64 0, .int .i64 0, .int .i64 0, .slice none 0 0] 26)).alloc (.cells #[.int .i64 i, .int .i64 t, .string d] 74) = W at *
  have o1 := O0.out.on b0
  refine (entryFits t i v d x (.agg #[.int .i64 x.term, .int .i64 x.vote, .int .i64 x.base, .int .i64 x.bterm, .slice A n cap]) W W.heap.size ⟨_, rfl, o1.lies⟩ HN.out HB1.out HB2.out (Nat.le_refl _)).mono ?_
  rintro e w1 ⟨rfl, hb1⟩
  have B1 : Hid (Oth base (Value.slice A n cap).ownBlock w w1) := Oth.of (b0.trans (hb1.mono b0.size)) HBS.out
  have KP : Hid (Blk w1 w.heap.size #[.int .i64 x.term, .int .i64 x.vote, .int .i64 x.base, .int .i64 x.bterm, .slice A n cap] 26) := kp.on hb1 kp.lt
  have KR : Hid (Blk w1 (w.heap.size + 1) #[.int .i64 0, .int .i64 0, .int .i64 0, .int .i64 0, .slice none 0 0] 26) := kr.on hb1 kr.lt
  have KK : Hid (Blk w1 (w.heap.size + 1 + 1) #[.int .i64 i, .int .i64 t, .string d] 74) := kk.on hb1 kk.lt
  have O1 : Hid (Owns w1 base 58 2 (.slice A n cap) (entR x.ents)) := o1.on hb1
  clear b0 kp kr kk hb1 o1
  rw [hfit]
  have e0 := KP.out.cell 0 (.int .i64 x.term) rfl
  have f0 := KP.out.free 0
  have e1 := KP.out.cell 1 (.int .i64 x.vote) rfl
  have f1 := KP.out.free 1
  have e2 := KP.out.cell 2 (.int .i64 x.base) rfl
  have f2 := KP.out.free 2
  have e3 := KP.out.cell 3 (.int .i64 x.bterm) rfl
  have f3 := KP.out.free 3
  have e4 := KP.out.cell 4 (.slice A n cap) rfl
  have f4 := KP.out.free 4
  have r0 := KR.out.cell 0 (.int .i64 0) rfl
  have g0 := KR.out.free 0
  have r1 := KR.out.cell 1 (.int .i64 0) rfl
  have g1 := KR.out.free 1
  have r2 := KR.out.cell 2 (.int .i64 0) rfl
  have g2 := KR.out.free 2
  have r3 := KR.out.cell 3 (.int .i64 0) rfl
  have g3 := KR.out.free 3
  have r4 := KR.out.cell 4 (.slice none 0 0) rfl
  have g4 := KR.out.free 4
  go_wp2_with fail
  have hF := (((((KR.out.set 0 (.int .i64 x.term)).set 1 (.int .i64 x.vote)).set 2 (.int .i64 x.base)).set 3 (.int .i64 x.bterm)).set 4 (.slice A n cap))
  have FB := (((((B1.out.setCell (Nat.le_trans HBS.out (Nat.le_succ _)) (.int .i64 x.term) (p := ⟨w.heap.size + 1, 0, none⟩)).setCell (Nat.le_trans HBS.out (Nat.le_succ _)) (.int .i64 x.vote) (p := ⟨w.heap.size + 1, 1, none⟩)).setCell (Nat.le_trans HBS.out (Nat.le_succ _)) (.int .i64 x.base) (p := ⟨w.heap.size + 1, 2, none⟩)).setCell (Nat.le_trans HBS.out (Nat.le_succ _)) (.int .i64 x.bterm) (p := ⟨w.heap.size + 1, 3, none⟩)).setCell (Nat.le_trans HBS.out (Nat.le_succ _)) (.slice A n cap) (p := ⟨w.heap.size + 1, 4, none⟩))
  have OF := (((((O1.out.other NR.out 0 (.int .i64 x.term)).other NR.out 1 (.int .i64 x.vote)).other NR.out 2 (.int .i64 x.base)).other NR.out 3 (.int .i64 x.bterm)).other NR.out 4 (.slice A n cap))
  clear e0 f0 e1 f1 e2 f2 e3 f3 e4 f4 r0 g0 r1 g1 r2 g2 r3 g3 r4 g4
  generalize (((((w1.setCell ⟨w.heap.size + 1, 0, none⟩ (.int .i64 x.term)).setCell ⟨w.heap.size + 1, 1, none⟩ (.int .i64 x.vote)).setCell ⟨w.heap.size + 1, 2, none⟩ (.int .i64 x.base)).setCell ⟨w.heap.size + 1, 3, none⟩ (.int .i64 x.bterm)).setCell ⟨w.heap.size + 1, 4, none⟩ (.slice A n cap)) = WF at *
  have hG : Blk WF (w.heap.size + 1) #[.int .i64 x.term, .int .i64 x.vote, .int .i64 x.base, .int .i64 x.bterm, .slice A n cap] 26 := hF
  have mm0 := hG.cell 0 (.int .i64 x.term) rfl
  have mm1 := hG.cell 1 (.int .i64 x.vote) rfl
  have mm2 := hG.cell 2 (.int .i64 x.base) rfl
  have mm3 := hG.cell 3 (.int .i64 x.bterm) rfl
  have mm4 := hG.cell 4 (.slice A n cap) rfl
  exact bodyPost_ret (v := .tuple #[.agg #[.int .i64 x.term, .int .i64 x.vote, .int .i64 x.base, .int .i64 x.bterm, .slice A n cap], .bool false]) (by simp [results, go_sem, mm0, mm1, mm2, mm3, mm4]) rfl ⟨_, _, rfl, ⟨⟨_, rfl, OF⟩, rfl⟩, FB⟩
 ·rw [if_pos rfl]
  go_enter Try.func23, Try.ntmps23
  go_wp2_with fail
  have b0 : Below w.heap.size w (((w.alloc (.cells #[.int .i64 x.term, .int .i64 x.vote, .int .i64 x.base, .int .i64 x.bterm, .slice A n cap] 26)).alloc (.cells #[.int .i64 0, .int .i64 0, .int .i64 0, .int .i64 0, .slice none 0 0] 26)).alloc (.cells #[.int .i64 i, .int .i64 t, .string d] 74)) := (((Below.refl _ w).alloc (Nat.le_refl _) _).alloc (by simp) _).alloc (by simp; omega) _
  have kp := ((Blk.new w #[.int .i64 x.term, .int .i64 x.vote, .int .i64 x.base, .int .i64 x.bterm, .slice A n cap] 26).alloc (.cells #[.int .i64 0, .int .i64 0, .int .i64 0, .int .i64 0, .slice none 0 0] 26)).alloc (.cells #[.int .i64 i, .int .i64 t, .string d] 74)
  have kr := (Blk.new (w.alloc (.cells #[.int .i64 x.term, .int .i64 x.vote, .int .i64 x.base, .int .i64 x.bterm, .slice A n cap] 26)) #[.int .i64 0, .int .i64 0, .int .i64 0, .int .i64 0, .slice none 0 0] 26).alloc (.cells #[.int .i64 i, .int .i64 t, .string d] 74)
  have kk := Blk.new ((w.alloc (.cells #[.int .i64 x.term, .int .i64 x.vote, .int .i64 x.base, .int .i64 x.bterm, .slice A n cap] 26)).alloc (.cells #[.int .i64 0, .int .i64 0, .int .i64 0, .int .i64 0, .slice none 0 0] 26)) #[.int .i64 i, .int .i64 t, .string d] 74
  simp only [World.size_alloc] at kr kk
  generalize ((w.alloc (.cells #[.int .i64 x.term, .int .i64 x.vote, .int .i64 x.base, .int .i64 x.bterm, .slice A n cap] 26)).alloc (.cells #[.int .i64 0, .int .i64 0, .int .i64 0, .int .i64 0, .slice none 0 0] 26)).alloc (.cells #[.int .i64 i, .int .i64 t, .string d] 74) = W at *
  have o1 := O0.out.on b0
  refine (entryFits t i v d x (.agg #[.int .i64 x.term, .int .i64 x.vote, .int .i64 x.base, .int .i64 x.bterm, .slice A n cap]) W W.heap.size ⟨_, rfl, o1.lies⟩ HN.out HB1.out HB2.out (Nat.le_refl _)).mono ?_
  rintro e w1 ⟨rfl, hb1⟩
  have B1 : Hid (Oth base (Value.slice A n cap).ownBlock w w1) := Oth.of (b0.trans (hb1.mono b0.size)) HBS.out
  have KP : Hid (Blk w1 w.heap.size #[.int .i64 x.term, .int .i64 x.vote, .int .i64 x.base, .int .i64 x.bterm, .slice A n cap] 26) := kp.on hb1 kp.lt
  have KR : Hid (Blk w1 (w.heap.size + 1) #[.int .i64 0, .int .i64 0, .int .i64 0, .int .i64 0, .slice none 0 0] 26) := kr.on hb1 kr.lt
  have KK : Hid (Blk w1 (w.heap.size + 1 + 1) #[.int .i64 i, .int .i64 t, .string d] 74) := kk.on hb1 kk.lt
  have O1 : Hid (Owns w1 base 58 2 (.slice A n cap) (entR x.ents)) := o1.on hb1
  clear b0 kp kr kk hb1 o1
  rw [hfit]
  have e0 := KP.out.cell 0 (.int .i64 x.term) rfl
  have f0 := KP.out.free 0
  have e1 := KP.out.cell 1 (.int .i64 x.vote) rfl
  have f1 := KP.out.free 1
  have e2 := KP.out.cell 2 (.int .i64 x.base) rfl
  have f2 := KP.out.free 2
  have e3 := KP.out.cell 3 (.int .i64 x.bterm) rfl
  have f3 := KP.out.free 3
  have e4 := KP.out.cell 4 (.slice A n cap) rfl
  have f4 := KP.out.free 4
  have r0 := KR.out.cell 0 (.int .i64 0) rfl
  have g0 := KR.out.free 0
  have r1 := KR.out.cell 1 (.int .i64 0) rfl
  have g1 := KR.out.free 1
  have r2 := KR.out.cell 2 (.int .i64 0) rfl
  have g2 := KR.out.free 2
  have r3 := KR.out.cell 3 (.int .i64 0) rfl
  have g3 := KR.out.free 3
  have r4 := KR.out.cell 4 (.slice none 0 0) rfl
  have g4 := KR.out.free 4
  have S0 : Hid (w1.drew.cell? ⟨w.heap.size + 1 + 1, 0, none⟩ = some (.int .i64 i) ∧ w1.drew.cell? ⟨w.heap.size + 1 + 1, 1, none⟩ = some (.int .i64 t) ∧ w1.drew.cell? ⟨w.heap.size + 1 + 1, 2, none⟩ = some (.string d) ∧ w1.drew.cell? ⟨w.heap.size, 4, none⟩ = some (.slice A n cap)) := ⟨KK.out.cell 0 _ rfl, KK.out.cell 1 _ rfl, KK.out.cell 2 _ rfl, KP.out.cell 4 _ rfl⟩
  go_wp2_with fail
  refine wp_region_until (fun w' => w'.cell? ⟨w.heap.size + 1 + 1, 0, none⟩ = some (.int .i64 i) ∧ w'.cell? ⟨w.heap.size + 1 + 1, 1, none⟩ = some (.int .i64 t) ∧ w'.cell? ⟨w.heap.size + 1 + 1, 2, none⟩ = some (.string d) ∧ w'.cell? ⟨w.heap.size, 4, none⟩ = some (.slice A n cap)) (fun i => i == 13) 14 (by rfl) (by kernel_rfl) ?_
  have KPX : Hid (Blk w1.drew w.heap.size #[.int .i64 x.term, .int .i64 x.vote, .int .i64 x.base, .int .i64 x.bterm, .slice A n cap] 26) := KP.out
  have KRX : Hid (Blk w1.drew (w.heap.size + 1) #[.int .i64 0, .int .i64 0, .int .i64 0, .int .i64 0, .slice none 0 0] 26) := KR.out
  have KKX : Hid (Blk w1.drew (w.heap.size + 1 + 1) #[.int .i64 i, .int .i64 t, .string d] 74) := KK.out
  have OX : Hid (Owns w1.drew base 58 2 (.slice A n cap) (entR x.ents)) := O1.out
  have BX : Hid (Oth base (Value.slice A n cap).ownBlock w w1.drew) := B1.out.drew
  clear e0 f0 e1 f1 e2 f2 e3 f3 e4 f4 r0 g0 r1 g1 r2 g2 r3 g3 r4 g4 KP KR KK O1 B1
  generalize w1.drew = X at *
  refine until_take 0 (v := ?vse1) (by rfl) (by kernel_rfl) (by exact fun _ _ _ h => h) (by rfl) ?hyse1 S0.out ?rse1
  case hyse1 =>
   intro w hSw
   try dsimp only at hSw
   go_simp
   try with_reducible rfl
  try simp only [Act.put, setIfInBounds_toArray, set_cons_zero, set_cons_succ]
  refine until_take 1 (v := ?vse2) (by rfl) (by kernel_rfl) (by exact fun _ _ _ h => h) (by rfl) ?hyse2 S0.out ?rse2
  case hyse2 =>
   intro w hSw
   try dsimp only at hSw
   go_simp
   try with_reducible rfl
  try simp only [Act.put, setIfInBounds_toArray, set_cons_zero, set_cons_succ]
  refine until_take 2 (v := ?vse3) (by rfl) (by kernel_rfl) (by exact fun _ _ _ h => h) (by rfl) ?hyse3 S0.out ?rse3
  case hyse3 =>
   intro w hSw
   try dsimp only at hSw
   go_simp
   try with_reducible rfl
  try simp only [Act.put, setIfInBounds_toArray, set_cons_zero, set_cons_succ]
  refine until_take 3 (v := ?vse4) (by rfl) (by kernel_rfl) (by exact fun _ _ _ h => h) (by rfl) ?hyse4 S0.out ?rse4
  case hyse4 =>
   intro w hSw
   try dsimp only at hSw
   go_simp
   try with_reducible rfl
  try simp only [Act.put, setIfInBounds_toArray, set_cons_zero, set_cons_succ]
  refine until_take 4 (v := ?vse5) (by rfl) (by kernel_rfl) (by exact fun _ _ _ h => h) (by rfl) ?hyse5 S0.out ?rse5
  case hyse5 =>
   intro w hSw
   try dsimp only at hSw
   go_simp
   try with_reducible rfl
  try simp only [Act.put, setIfInBounds_toArray, set_cons_zero, set_cons_succ]
  refine until_take 5 (v := ?vse6) (by rfl) (by kernel_rfl) (by exact fun _ _ _ h => h) (by rfl) ?hyse6 S0.out ?rse6
  case hyse6 =>
   intro w hSw
   try dsimp only at hSw
   go_simp
   try with_reducible rfl
  try simp only [Act.put, setIfInBounds_toArray, set_cons_zero, set_cons_succ]
  refine until_take 6 (v := ?vse7) (by rfl) (by kernel_rfl) (by exact fun _ _ _ h => h) (by rfl) ?hyse7 S0.out ?rse7
  case hyse7 =>
   intro w hSw
   try dsimp only at hSw
   go_simp
   try with_reducible rfl
  try simp only [Act.put, setIfInBounds_toArray, set_cons_zero, set_cons_succ]
  refine until_take 7 (v := ?vse8) (by rfl) (by kernel_rfl) (by exact fun _ _ _ h => h) (by rfl) ?hyse8 S0.out ?rse8
  case hyse8 =>
   intro w hSw
   try dsimp only at hSw
   go_simp
   try with_reducible rfl
  try simp only [Act.put, setIfInBounds_toArray, set_cons_zero, set_cons_succ]
  refine until_one 8 (by rfl) (by kernel_rfl) (fun K hK => ?_)
  go_simp
  refine (clone d X (by omega)).mono ?_
  rintro e w2 ⟨rfl, hb2⟩
  have hb21 : Below X.heap.size X w2 := hb2
  have KP2 : Hid (Blk w2 w.heap.size #[.int .i64 x.term, .int .i64 x.vote, .int .i64 x.base, .int .i64 x.bterm, .slice A n cap] 26) := KPX.out.on hb21 KPX.out.lt
  have KR2 : Hid (Blk w2 (w.heap.size + 1) #[.int .i64 0, .int .i64 0, .int .i64 0, .int .i64 0, .slice none 0 0] 26) := KRX.out.on hb21 KRX.out.lt
  have KK2 : Hid (Blk w2 (w.heap.size + 1 + 1) #[.int .i64 i, .int .i64 t, .string d] 74) := KKX.out.on hb21 KKX.out.lt
  have O2 : Hid (Owns w2 base 58 2 (.slice A n cap) (entR x.ents)) := OX.out.on hb21
  have B2 : Hid (Oth base (Value.slice A n cap).ownBlock w w2) := BX.out.transB hb21 (Nat.le_of_lt KPX.out.lt) HBS.out
  clear hb2 hb21
  go_wp2_with fail
  refine hK.out _ _ (fun _ _ => ⟨KK2.out.cell 0 _ rfl, KK2.out.cell 1 _ rfl, KK2.out.cell 2 _ rfl, KP2.out.cell 4 _ rfl⟩) ?_
  clear hK K
  try simp only [Act.put, setIfInBounds_toArray, set_cons_zero, set_cons_succ]
  refine until_pure 9 (v := ?vse9) (by rfl) (by kernel_rfl) (by exact fun _ _ _ h => h) (by rfl) ?hyse9 ?rse9
  case hyse9 =>
   intro w
   go_simp
   try with_reducible rfl
  try simp only [Act.put, setIfInBounds_toArray, set_cons_zero, set_cons_succ]
  obtain ⟨nA, nm, nc, w4, r4, hO4, hb4, hk4, hw4⟩ := run_append_row (P := Try.prog) w2 24 24 58 (.agg #[.int .i64 0, .string ⟨#[]⟩]) 2 24 Try.underlying24 Try.infoEnt rfl (by omega) base (.slice A n cap) (entR x.ents) O2.out [.int .i64 t, .string d] rfl (by intro y hy; simp at hy; rcases hy with rfl | rfl <;> rfl) (by rw [entR_length]; have := HN.out; omega) (by omega) (Nat.le_trans HBS.out (Nat.le_of_lt KP2.out.lt))
  refine until_one 10 (by rfl) (by kernel_rfl) (fun K hK => ?_)
  go_simp
  refine hK.out _ _ (fun _ _ => ⟨(KK2.out.alloc _).cell 0 _ rfl, (KK2.out.alloc _).cell 1 _ rfl, (KK2.out.alloc _).cell 2 _ rfl, (KP2.out.alloc _).cell 4 _ rfl⟩) ?_
  clear hK K
  try simp only [Act.put, setIfInBounds_toArray, set_cons_zero, set_cons_succ]
  refine until_one 11 (by rfl) (by kernel_rfl) (fun K hK => ?_)
  refine step_append_run (by rfl) (.tmp 30) (.tmp 39) 24 (by rfl) _ _ _ _ (by rfl) (by rfl) r4 ?_
  have kp4 : Blk w4 w.heap.size #[.int .i64 x.term, .int .i64 x.vote, .int .i64 x.base, .int .i64 x.bterm, .slice A n cap] 26 := by
   unfold Blk
   rw [hk4 _ KP2.out.lt NP.out]
   exact KP2.out
  have kr4 : Blk w4 (w.heap.size + 1) #[.int .i64 0, .int .i64 0, .int .i64 0, .int .i64 0, .slice none 0 0] 26 := by
   unfold Blk
   rw [hk4 _ KR2.out.lt NR.out]
   exact KR2.out
  have kk4 : Blk w4 (w.heap.size + 1 + 1) #[.int .i64 i, .int .i64 t, .string d] 74 := by
   unfold Blk
   rw [hk4 _ KK2.out.lt (fun e => by have := (O0.out.lt _ e).2; omega)]
   exact KK2.out
  refine hK.out _ _ (fun _ _ => ⟨kk4.cell 0 _ rfl, kk4.cell 1 _ rfl, kk4.cell 2 _ rfl, kp4.cell 4 _ rfl⟩) ?_
  clear hK K
  try simp only [Act.put, setIfInBounds_toArray, set_cons_zero, set_cons_succ]
  refine until_pure 12 (v := ?vse10) (by rfl) (by kernel_rfl) (by exact fun _ _ _ h => h) (by rfl) ?hyse10 ?rse10
  case hyse10 =>
   intro w
   go_simp
   try with_reducible rfl
  try simp only [Act.put, setIfInBounds_toArray, set_cons_zero, set_cons_succ]
  refine until_one 13 (by rfl) (by kernel_rfl) (fun K hK => ?_)
  have ee4 := kp4.cell 4 (.slice A n cap) rfl
  have ff4 := kp4.free 4
  go_simp
  refine hK.out _ _ (fun h => by cases h) ?_
  clear hK K
  refine until_done (by kernel_rfl) ?_ _
  have hrow : entR x.ents ++ [[.int .i64 t, .string d]] = entR (x.ents ++ [⟨t, d⟩]) := by rw [entR_append]; rfl
  rw [hrow] at hO4
  have NP4 : Hid ((Value.slice nA nm nc).ownBlock ≠ some w.heap.size) := by
   rcases hw4 with h | h
   ·unfold Hid; rw [h]; exact NP.out
   ·exact fun e => by have := h _ e; have := KP2.out.lt; omega
  have NR4 : Hid ((Value.slice nA nm nc).ownBlock ≠ some (w.heap.size + 1)) := by
   rcases hw4 with h | h
   ·unfold Hid; rw [h]; exact NR.out
   ·exact fun e => by have := h _ e; have := KR2.out.lt; omega
  have BD : Hid (Oth base (Value.slice A n cap).ownBlock w (w4.setCell ⟨w.heap.size, 4, none⟩ (.slice nA nm nc))) := (B2.out.transK hb4 hk4).setCell HBS.out (.slice nA nm nc) (p := ⟨w.heap.size, 4, none⟩)
  have KPD : Hid (Blk (w4.setCell ⟨w.heap.size, 4, none⟩ (.slice nA nm nc)) w.heap.size #[.int .i64 x.term, .int .i64 x.vote, .int .i64 x.base, .int .i64 x.bterm, .slice nA nm nc] 26) := kp4.set 4 _
  have KRD : Hid (Blk (w4.setCell ⟨w.heap.size, 4, none⟩ (.slice nA nm nc)) (w.heap.size + 1) #[.int .i64 0, .int .i64 0, .int .i64 0, .int .i64 0, .slice none 0 0] 26) := kr4.other (by omega) 4 _
  have OD : Hid (Owns (w4.setCell ⟨w.heap.size, 4, none⟩ (.slice nA nm nc)) base 58 2 (.slice nA nm nc) (entR (x.ents ++ [⟨t, d⟩]))) := hO4.other NP4.out 4 _
  clear ee4 ff4 kp4 kr4 kk4 hO4 hb4 hk4 hw4 r4 hrow S0
  generalize w4.setCell ⟨w.heap.size, 4, none⟩ (.slice nA nm nc) = w5 at *
  have e0 := KPD.out.cell 0 (.int .i64 x.term) rfl
  have f0 := KPD.out.free 0
  have e1 := KPD.out.cell 1 (.int .i64 x.vote) rfl
  have f1 := KPD.out.free 1
  have e2 := KPD.out.cell 2 (.int .i64 x.base) rfl
  have f2 := KPD.out.free 2
  have e3 := KPD.out.cell 3 (.int .i64 x.bterm) rfl
  have f3 := KPD.out.free 3
  have e4 := KPD.out.cell 4 (.slice nA nm nc) rfl
  have f4 := KPD.out.free 4
  have r0 := KRD.out.cell 0 (.int .i64 0) rfl
  have g0 := KRD.out.free 0
  have r1 := KRD.out.cell 1 (.int .i64 0) rfl
  have g1 := KRD.out.free 1
  have r2 := KRD.out.cell 2 (.int .i64 0) rfl
  have g2 := KRD.out.free 2
  have r3 := KRD.out.cell 3 (.int .i64 0) rfl
  have g3 := KRD.out.free 3
  have r4 := KRD.out.cell 4 (.slice none 0 0) rfl
  have g4 := KRD.out.free 4
  go_wp2_with fail
  have hF := (((((KRD.out.set 0 (.int .i64 x.term)).set 1 (.int .i64 x.vote)).set 2 (.int .i64 x.base)).set 3 (.int .i64 x.bterm)).set 4 (.slice nA nm nc))
  have FB := (((((BD.out.setCell (Nat.le_trans HBS.out (Nat.le_succ _)) (.int .i64 x.term) (p := ⟨w.heap.size + 1, 0, none⟩)).setCell (Nat.le_trans HBS.out (Nat.le_succ _)) (.int .i64 x.vote) (p := ⟨w.heap.size + 1, 1, none⟩)).setCell (Nat.le_trans HBS.out (Nat.le_succ _)) (.int .i64 x.base) (p := ⟨w.heap.size + 1, 2, none⟩)).setCell (Nat.le_trans HBS.out (Nat.le_succ _)) (.int .i64 x.bterm) (p := ⟨w.heap.size + 1, 3, none⟩)).setCell (Nat.le_trans HBS.out (Nat.le_succ _)) (.slice nA nm nc) (p := ⟨w.heap.size + 1, 4, none⟩))
  have OF := (((((OD.out.other NR4.out 0 (.int .i64 x.term)).other NR4.out 1 (.int .i64 x.vote)).other NR4.out 2 (.int .i64 x.base)).other NR4.out 3 (.int .i64 x.bterm)).other NR4.out 4 (.slice nA nm nc))
  clear e0 f0 e1 f1 e2 f2 e3 f3 e4 f4 r0 g0 r1 g1 r2 g2 r3 g3 r4 g4
  generalize (((((w5.setCell ⟨w.heap.size + 1, 0, none⟩ (.int .i64 x.term)).setCell ⟨w.heap.size + 1, 1, none⟩ (.int .i64 x.vote)).setCell ⟨w.heap.size + 1, 2, none⟩ (.int .i64 x.base)).setCell ⟨w.heap.size + 1, 3, none⟩ (.int .i64 x.bterm)).setCell ⟨w.heap.size + 1, 4, none⟩ (.slice nA nm nc)) = WF at *
  have hG : Blk WF (w.heap.size + 1) #[.int .i64 x.term, .int .i64 x.vote, .int .i64 x.base, .int .i64 x.bterm, .slice nA nm nc] 26 := hF
  have mm0 := hG.cell 0 (.int .i64 x.term) rfl
  have mm1 := hG.cell 1 (.int .i64 x.vote) rfl
  have mm2 := hG.cell 2 (.int .i64 x.base) rfl
  have mm3 := hG.cell 3 (.int .i64 x.bterm) rfl
  have mm4 := hG.cell 4 (.slice nA nm nc) rfl
  exact bodyPost_ret (v := .tuple #[.agg #[.int .i64 x.term, .int .i64 x.vote, .int .i64 x.base, .int .i64 x.bterm, .slice nA nm nc], .bool true]) (by simp [results, go_sem, mm0, mm1, mm2, mm3, mm4]) rfl ⟨_, _, rfl, ⟨⟨_, rfl, OF⟩, rfl⟩, FB⟩
end Go.Proofs.Ytfmannphobjgpaa
