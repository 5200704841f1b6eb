/-
  Plain lemmas on the cursor that the specification draws by: its block in memory, what a step leaves alone, the numbers it reckons (no program in sight).
-/
import Derived.Test.YtlknemfnacnleaaDoorAid
import Derived.OneCell
import Derived.WalkSmall
import Derived.Test.YtlknemfnacnleaaDoorRows
import Derived.WalkKit
import Derived.ProofKit
import Derived.OpenShut
import Derived.Below
import Derived.Handy
import Derived.WalkLawsBesides
import Derived.Outline
import Derived.BigQuiet
import Derived.Deep.QuietTactic
import Derived.Test.YtlknemfnacnleaaDoorNumAll
import Derived.Deep.RegionHeld3
import Derived.Test.YtlknemfnacnleaaDoorBtAll
import Derived.Test.YtlknemfnacnleaaDoorPtAll
namespace Go.Proofs.YtlknemfnacnleaaDoor
open Go.RowKit Go.PlainAid

/-- Below B all blocks but p are as they were. -/
structure Mod (B p : Nat) (w w' : World) : Prop where
  os : w'.os = w.os
  tape : w'.tape = w.tape
  output : w'.output = w.output
  size : w.heap.size ≤ w'.heap.size
  block : ∀ b, b < B → b ≠ p → w'.heap[b]? = w.heap[b]?
theorem Mod.refl (B p : Nat) (w : World) : Mod B p w w := ⟨rfl, rfl, rfl, Nat.le_refl _, fun _ _ _ => rfl⟩
theorem Mod.trans {B p : Nat} {a b c : World} (h : Mod B p a b) (k : Mod B p b c) : Mod B p a c :=
  ⟨k.os.trans h.os, k.tape.trans h.tape, k.output.trans h.output, Nat.le_trans h.size k.size, fun i hi hp => (k.block i hi hp).trans (h.block i hi hp)⟩
theorem Mod.mono {B C p : Nat} {a b : World} (h : Mod C p a b) (hB : B ≤ C) : Mod B p a b := ⟨h.os, h.tape, h.output, h.size, fun i hi hp => h.block i (Nat.lt_of_lt_of_le hi hB) hp⟩
theorem Mod.of_below {B p : Nat} {a b : World} (h : Below B a b) : Mod B p a b := ⟨h.os, h.tape, h.output, h.size, fun i hi _ => h.block i hi⟩
theorem Mod.below {B p : Nat} {a b : World} (h : Mod B p a b) (hB : B ≤ p) : Below B a b := ⟨h.os, h.tape, h.output, h.size, fun i hi => h.block i hi (by omega)⟩
theorem Mod.setCell {B p i : Nat} {a b : World} (h : Mod B p a b) (v : Value) : Mod B p a (b.setCell ⟨p, i, none⟩ v) := by
  refine h.trans ⟨rfl, rfl, rfl, ?_, fun j _ hj => ?_⟩
  · simp
  · exact Below.heap_setCell _ _ _ _ hj
theorem Mod.drewN {B p : Nat} {a b : World} (h : Mod B p a b) (k : Nat) : Mod B p a (b.drewN k) := by
  have hd := below_drewN (Below.refl B b) k
  exact h.trans (Mod.of_below hd)
theorem Mod.drew {B p : Nat} {a b : World} (h : Mod B p a b) : Mod B p a b.drew := h.trans (Mod.of_below (Below.refl B b).drew)
theorem Mod.alloc {B p : Nat} {a b : World} (h : Mod B p a b) (hB : B ≤ b.heap.size) (o : Obj) : Mod B p a (b.alloc o) := h.trans (Mod.of_below ((Below.refl B b).alloc hB o))

/-- The code's bytes are cs. -/
def CodeIs (w : World) (p : Nat) (ao : Option Addr) (len : Nat) (cs : Nat → Nat) : Prop :=
  len = 0 ∨ ∃ cb co, ao = some ⟨cb, co, none⟩ ∧ cb < p ∧ ∀ j, j < len → cs j < 256 ∧ w.cell? ⟨cb, co + j, none⟩ = some (.int .u8 (cs j : Int))
theorem CodeIs.kept {w w' : World} {B p : Nat} {ao : Option Addr} {len : Nat} {cs : Nat → Nat} (h : CodeIs w p ao len cs) (hm : Mod B p w w') (hp : p ≤ B) : CodeIs w' p ao len cs := by
  rcases h with h | ⟨cb, co, rfl, hcb, hj⟩
  · exact .inl h
  · refine .inr ⟨cb, co, rfl, hcb, fun j hj' => ⟨(hj j hj').1, ?_⟩⟩
    rw [← (hj j hj').2]
    exact World.cell?_of_block (w := w) (hm.block cb (by omega) (by omega))
theorem CodeIs.at {w : World} {p : Nat} {ao : Option Addr} {len : Nat} {cs : Nat → Nat} (h : CodeIs w p ao len cs) {i : Nat} (hi : i < len) :
    ∃ cb co, ao = some ⟨cb, co, none⟩ ∧ cb < p ∧ cs i < 256 ∧ w.cell? ⟨cb, co + i, none⟩ = some (.int .u8 (cs i : Int)) := by
  rcases h with h | ⟨cb, co, rfl, hcb, hj⟩
  · omega
  · exact ⟨cb, co, rfl, hcb, (hj i hi).1, (hj i hi).2⟩

/-- The cursor's block. -/
def Cur (T : TypeId) (w : World) (p : Nat) (ao : Option Addr) (len cap i : Nat) (h : Int) : Prop := w.heap[p]? = some (.cells #[.slice ao len cap, .int .i64 (i : Int), .int .i64 h] T (0, 0))
theorem Cur.lt {T : TypeId} {w : World} {p : Nat} {ao : Option Addr} {len cap i : Nat} {h : Int} (c : Cur T w p ao len cap i h) : p < w.heap.size := lt_of_block c
theorem Cur.c0 {T : TypeId} {w : World} {p : Nat} {ao : Option Addr} {len cap i : Nat} {h : Int} (c : Cur T w p ao len cap i h) : w.cell? ⟨p, 0, none⟩ = some (.slice ao len cap) := by unfold Cur at c; simp [World.cell?, c]
theorem Cur.c1 {T : TypeId} {w : World} {p : Nat} {ao : Option Addr} {len cap i : Nat} {h : Int} (c : Cur T w p ao len cap i h) : w.cell? ⟨p, 1, none⟩ = some (.int .i64 (i : Int)) := by unfold Cur at c; simp [World.cell?, c]
theorem Cur.c2 {T : TypeId} {w : World} {p : Nat} {ao : Option Addr} {len cap i : Nat} {h : Int} (c : Cur T w p ao len cap i h) : w.cell? ⟨p, 2, none⟩ = some (.int .i64 h) := by unfold Cur at c; simp [World.cell?, c]
theorem Cur.free {T : TypeId} {w : World} {p : Nat} {ao : Option Addr} {len cap i : Nat} {h : Int} (c : Cur T w p ao len cap i h) (j : Nat) : w.frozen? ⟨p, j, none⟩ = false := by unfold Cur at c; simp [World.frozen?, c]
theorem Cur.set2 {T : TypeId} {w : World} {p : Nat} {ao : Option Addr} {len cap i : Nat} {h : Int} (c : Cur T w p ao len cap i h) (h' : Int) : Cur T (w.setCell ⟨p, 2, none⟩ (.int .i64 h')) p ao len cap i h' := by
  have hlt := c.lt
  unfold Cur at c ⊢
  have e : w.heap[p] = .cells #[.slice ao len cap, .int .i64 (i : Int), .int .i64 h] T (0, 0) := by simpa [Array.getElem?_eq_getElem hlt] using c
  show (w.heap.modify p _)[p]? = _
  rw [Array.getElem?_eq_getElem (by simpa using hlt), Array.getElem_modify_self, e]
  rfl
theorem Cur.set1 {T : TypeId} {w : World} {p : Nat} {ao : Option Addr} {len cap i : Nat} {h : Int} (c : Cur T w p ao len cap i h) (k : Nat) : Cur T (w.setCell ⟨p, 1, none⟩ (.int .i64 (k : Int))) p ao len cap k h := by
  have hlt := c.lt
  unfold Cur at c ⊢
  have e : w.heap[p] = .cells #[.slice ao len cap, .int .i64 (i : Int), .int .i64 h] T (0, 0) := by simpa [Array.getElem?_eq_getElem hlt] using c
  show (w.heap.modify p _)[p]? = _
  rw [Array.getElem?_eq_getElem (by simpa using hlt), Array.getElem_modify_self, e]
  rfl
theorem Cur.below {T : TypeId} {w w' : World} {B p : Nat} {ao : Option Addr} {len cap i : Nat} {h : Int} (c : Cur T w p ao len cap i h) (hb : Below B w w') (hp : p < B) : Cur T w' p ao len cap i h := by
  unfold Cur at c ⊢
  rw [hb.block p hp, c]
theorem Cur.drewN {T : TypeId} {w : World} {p : Nat} {ao : Option Addr} {len cap i : Nat} {h : Int} (c : Cur T w p ao len cap i h) (k : Nat) : Cur T (w.drewN k) p ao len cap i h :=
  c.below (below_drewN (Below.refl (p + 1) w) k) (by omega)

/-- The numbers of a step. -/
def curH (h : Int) : Int := wrap64 (wrap64 (h * 6364136223846793005) + 1442695040888963407)
def curX (h : Int) : Int := bits .and .i64 (bits .xor .i64 (h / 8589934592) (h / 35184372088832)) 255
theorem and255 (x : Int) : 0 ≤ bits .and .i64 x 255 ∧ bits .and .i64 x 255 ≤ 255 := by
  have e : bits .and .i64 x 255 = IntKind.i64.wrap ((BitVec.ofInt 64 x &&& BitVec.ofInt 64 ((255 : Nat) : Int)).toNat : Int) := rfl
  rw [e, BitVec.toNat_and, ofInt_u64 255 (by omega), nat_mask8]
  have h : (BitVec.ofInt 64 x).toNat % 256 < 256 := Nat.mod_lt _ (by omega)
  rw [Lib.wrap_i64_small _ (by omega)]
  omega
theorem curX_bd (h : Int) : 0 ≤ curX h ∧ curX h ≤ 255 := and255 _
/-- Where a cursor stands. -/
structure Pos where
  i : Nat
  h : Int
/-- One byte drawn. -/
def byteV (len : Nat) (cs : Nat → Nat) (s : Pos) : Int := if s.i < len then bits .and .i64 (curX (curH s.h) + (cs s.i : Int)) 255 else curX (curH s.h)
def byteP (len : Nat) (s : Pos) : Pos := if s.i < len then ⟨s.i + 1, curH s.h⟩ else ⟨s.i, curH s.h⟩
theorem byteV_bd (len : Nat) (cs : Nat → Nat) (s : Pos) : 0 ≤ byteV len cs s ∧ byteV len cs s ≤ 255 := by
  unfold byteV
  split
  · exact and255 _
  · exact curX_bd _
end Go.Proofs.YtlknemfnacnleaaDoor

/-
  Contracts of the cursor's functions of the specification (l1New, l1Byte, l1Below, l1Once): what each returns and leaves, as functions of the code's bytes.
-/
namespace Go.Proofs.YtlknemfnacnleaaDoor
open Go.ChangeShapes Go.WideShapes Go.ChangeAt Go.RowKit Go.PlainAid
set_option linter.unusedVariables false

set_option maxHeartbeats 1000000 in
theorem byte_in (w : World) (p : Nat) (cb co len cap : Nat) (c i : Nat) (h : Int) (hc : Cur 85 w p (some ⟨cb, co, none⟩) len cap i h) (hcb : cb < p) (hi : i < len) (hl : len ≤ 1048576) (hc255 : c < 256)
    (hcell : w.cell? ⟨cb, co + i, none⟩ = some (.int .u8 (c : Int))) :
    Calls Tryd.prog 76 #[.pointer (some ⟨p, 0, none⟩)] w fun e w' => e = .returned (.int .i64 (bits .and .i64 (curX (curH h) + (c : Int)) 255)) ∧ Cur 85 w' p (some ⟨cb, co, none⟩) len cap (i + 1) (curH h) ∧ Mod w.heap.size p w w' := by
  have c0 := hc.c0
  have c1 := hc.c1
  have c2 := hc.c2
  have f1 := hc.free 1
  have f2 := hc.free 2
  have q1 : (i : Int) < (len : Int) := by omega
  have q2 : (len : Int) ≤ 1048576 := by omega
  go_enter Tryd.func76, Tryd.ntmps76
  go_wp2
  have eH : wrap64 (wrap64 (h * 6364136223846793005) + 1442695040888963407) = curH h := rfl
  rw [eH]
  have hc1 := hc.set2 (curH h)
  have hm1 : Mod w.heap.size p w (w.setCell ⟨p, 2, none⟩ (.int .i64 (curH h))) := (Mod.refl _ _ _).setCell _
  have hcell1 : (w.setCell ⟨p, 2, none⟩ (.int .i64 (curH h))).cell? ⟨cb, co + i, none⟩ = some (.int .u8 (c : Int)) := by
    rw [← hcell]
    exact World.cell?_of_block (w := w) (hm1.block cb (by have := hc.lt; omega) (by omega))
  generalize w.setCell ⟨p, 2, none⟩ (.int .i64 (curH h)) = w1 at *
  generalize hH : curH h = H at *
  have HH : Hid (curH h = H) := hH
  clear hH
  clear eH c0 c1 c2 f1 f2 hcell
  have c0 := hc1.c0
  have c1 := hc1.c1
  have c2 := hc1.c2
  have f1 := hc1.free 1
  have hx := curX_bd H
  obtain ⟨hx1, hx2⟩ := hx
  have eX : bits .and .i64 (bits .xor .i64 (H / 8589934592) (H / 35184372088832)) 255 = curX H := rfl
  go_quiet (fail)
  go_wp2
  go_quiet (fail)
  go_wp2
  go_quiet (fail)
  go_wp2
  go_ret
  have e1 : ((i : Int) + 1) = ((i + 1 : Nat) : Int) := by omega
  rw [HH.out, e1]
  exact ⟨rfl, (hc1.drewN _).set1 (i + 1), (hm1.drewN _).setCell _⟩

set_option maxHeartbeats 1000000 in
theorem byte_out (w : World) (p : Nat) (ao : Option Addr) (len cap : Nat) (i : Nat) (h : Int) (hc : Cur 85 w p ao len cap i h) (hi : len ≤ i) (hi2 : i ≤ 1048576) (hl : len ≤ 1048576) :
    Calls Tryd.prog 76 #[.pointer (some ⟨p, 0, none⟩)] w fun e w' => e = .returned (.int .i64 (curX (curH h))) ∧ Cur 85 w' p ao len cap i (curH h) ∧ Mod w.heap.size p w w' := by
  have c0 := hc.c0
  have c1 := hc.c1
  have c2 := hc.c2
  have f1 := hc.free 1
  have f2 := hc.free 2
  have q1 : (len : Int) ≤ (i : Int) := by omega
  have q2 : (len : Int) ≤ 1048576 := by omega
  have q3 : (i : Int) ≤ 1048576 := by omega
  go_enter Tryd.func76, Tryd.ntmps76
  go_wp2
  have eH : wrap64 (wrap64 (h * 6364136223846793005) + 1442695040888963407) = curH h := rfl
  rw [eH]
  have hc1 := hc.set2 (curH h)
  have hm1 : Mod w.heap.size p w (w.setCell ⟨p, 2, none⟩ (.int .i64 (curH h))) := (Mod.refl _ _ _).setCell _
  generalize w.setCell ⟨p, 2, none⟩ (.int .i64 (curH h)) = w1 at *
  generalize hH : curH h = H at *
  have HH : Hid (curH h = H) := hH
  clear hH
  clear eH c0 c1 c2 f1 f2
  have c0 := hc1.c0
  have c1 := hc1.c1
  have c2 := hc1.c2
  have f1 := hc1.free 1
  have hx := curX_bd H
  obtain ⟨hx1, hx2⟩ := hx
  have eX : bits .and .i64 (bits .xor .i64 (H / 8589934592) (H / 35184372088832)) 255 = curX H := rfl
  go_quiet (fail)
  go_wp2
  go_quiet (fail)
  go_wp2
  go_ret
  rw [HH.out]
  exact ⟨rfl, (hc1.drewN _).drewN _, (hm1.drewN _).drewN _⟩

/-- A cursor that stands at s, over the code's bytes cs. -/
def At (w : World) (p : Nat) (ao : Option Addr) (len cap : Nat) (cs : Nat → Nat) (s : Pos) : Prop := Cur 85 w p ao len cap s.i s.h ∧ CodeIs w p ao len cs ∧ len ≤ 1048576 ∧ s.i ≤ len
theorem At.lt {w : World} {p : Nat} {ao : Option Addr} {len cap : Nat} {cs : Nat → Nat} {s : Pos} (h : At w p ao len cap cs s) : p < w.heap.size := h.1.lt
theorem At.below {w w' : World} {B p : Nat} {ao : Option Addr} {len cap : Nat} {cs : Nat → Nat} {s : Pos} (h : At w p ao len cap cs s) (hb : Below B w w') (hp : p < B) : At w' p ao len cap cs s :=
  ⟨h.1.below hb hp, h.2.1.kept (Mod.of_below (p := p) hb) (by omega), h.2.2⟩

theorem byte_any (w : World) (p : Nat) (ao : Option Addr) (len cap : Nat) (cs : Nat → Nat) (s : Pos) (h : At w p ao len cap cs s) :
    Calls Tryd.prog 76 #[.pointer (some ⟨p, 0, none⟩)] w fun e w' => e = .returned (.int .i64 (byteV len cs s)) ∧ At w' p ao len cap cs (byteP len s) ∧ Mod w.heap.size p w w' := by
  have hlt := h.lt
  obtain ⟨h1, h2, h3, h4⟩ := h
  by_cases hi : s.i < len
  · obtain ⟨cb, co, rfl, hcb, hc5, hcell⟩ := h2.at hi
    refine (byte_in w p cb co len cap (cs s.i) s.i s.h h1 hcb hi h3 hc5 hcell).mono ?_
    rintro e w' ⟨he, hc', hm⟩
    refine ⟨by rw [he, byteV, if_pos hi], ?_, hm⟩
    rw [byteP, if_pos hi]
    exact ⟨hc', h2.kept hm (by omega), h3, by show s.i + 1 ≤ len; omega⟩
  · refine (byte_out w p ao len cap s.i s.h h1 (by omega) (by omega) h3).mono ?_
    rintro e w' ⟨he, hc', hm⟩
    refine ⟨by rw [he, byteV, if_neg hi], ?_, hm⟩
    rw [byteP, if_neg hi]
    exact ⟨hc', h2.kept hm (by omega), h3, h4⟩

/-- What l1Below answers, and where the cursor stands then. -/
def belowV (len : Nat) (cs : Nat → Nat) (n : Int) (s : Pos) : Int :=
  if n ≤ 0 then 0 else if n ≤ 256 then byteV len cs s % n
  else (byteV len cs s * 16777216 + byteV len cs (byteP len s) * 65536 + byteV len cs (byteP len (byteP len s)) * 256 + byteV len cs (byteP len (byteP len (byteP len s)))) % n
def belowP (len : Nat) (n : Int) (s : Pos) : Pos := if n ≤ 0 then s else if n ≤ 256 then byteP len s else byteP len (byteP len (byteP len (byteP len s)))
theorem belowV_bd (len : Nat) (cs : Nat → Nat) (n : Int) (s : Pos) : 0 ≤ belowV len cs n s ∧ (0 < n → belowV len cs n s < n) := by
  unfold belowV
  split
  · exact ⟨by omega, fun h => by omega⟩
  · split
    · exact ⟨Int.emod_nonneg _ (by omega), fun h => Int.emod_lt_of_pos _ h⟩
    · exact ⟨Int.emod_nonneg _ (by omega), fun h => Int.emod_lt_of_pos _ h⟩

set_option maxHeartbeats 1000000 in
theorem below_any (w : World) (p : Nat) (ao : Option Addr) (len cap : Nat) (cs : Nat → Nat) (s : Pos) (n : Int) (hn : n ≤ 9223372036854775807) (h : At w p ao len cap cs s) :
    Calls Tryd.prog 72 #[.pointer (some ⟨p, 0, none⟩), .int .i64 n] w fun e w' => e = .returned (.int .i64 (belowV len cs n s)) ∧ At w' p ao len cap cs (belowP len n s) ∧ Mod w.heap.size p w w' := by
  by_cases h0 : n ≤ 0
  · have HV : Hid (belowV len cs n s = 0) := by show belowV len cs n s = 0; rw [belowV, if_pos h0]
    have HP : Hid (belowP len n s = s) := by show belowP len n s = s; rw [belowP, if_pos h0]
    have HA : Hid (At w p ao len cap cs s) := h
    clear h
    go_enter Tryd.func72, Tryd.ntmps72
    go_wp2_with fail
    go_ret
    rw [HV.out, HP.out]
    exact ⟨rfl, HA.out, Mod.refl _ _ _⟩
  · by_cases h256 : n ≤ 256
    · have HV : Hid (belowV len cs n s = byteV len cs s % n) := by show belowV len cs n s = _; rw [belowV, if_neg h0, if_pos h256]
      have HP : Hid (belowP len n s = byteP len s) := by show belowP len n s = _; rw [belowP, if_neg h0, if_pos h256]
      have HA : Hid (At w p ao len cap cs s) := h
      clear h
      have hb := byteV_bd len cs s
      obtain ⟨hb1, hb2⟩ := hb
      go_enter Tryd.func72, Tryd.ntmps72
      go_wp2_with fail
      refine (byte_any _ p ao len cap cs s HA.out).mono ?_
      rintro e w1 ⟨rfl, hA1, hm1⟩
      go_wp2_with fail
      go_ret
      rw [HV.out, HP.out]
      exact ⟨rfl, hA1, hm1⟩
    · have HV : Hid (belowV len cs n s = (byteV len cs s * 16777216 + byteV len cs (byteP len s) * 65536 + byteV len cs (byteP len (byteP len s)) * 256 + byteV len cs (byteP len (byteP len (byteP len s)))) % n) := by
        show belowV len cs n s = _; rw [belowV, if_neg h0, if_neg h256]
      have HP : Hid (belowP len n s = byteP len (byteP len (byteP len (byteP len s)))) := by show belowP len n s = _; rw [belowP, if_neg h0, if_neg h256]
      have HA : Hid (At w p ao len cap cs s) := h
      clear h
      have hb := byteV_bd len cs s
      have hb' := byteV_bd len cs (byteP len s)
      have hb'' := byteV_bd len cs (byteP len (byteP len s))
      have hb3 := byteV_bd len cs (byteP len (byteP len (byteP len s)))
      obtain ⟨a1, a2⟩ := hb
      obtain ⟨a3, a4⟩ := hb'
      obtain ⟨a5, a6⟩ := hb''
      obtain ⟨a7, a8⟩ := hb3
      go_enter Tryd.func72, Tryd.ntmps72
      go_wp2_with fail
      refine (byte_any _ p ao len cap cs s HA.out).mono ?_
      rintro e w1 ⟨rfl, hA1, hm1⟩
      go_wp2_with fail
      refine (byte_any _ p ao len cap cs _ hA1).mono ?_
      rintro e w2 ⟨rfl, hA2, hm2⟩
      go_wp2_with fail
      refine (byte_any _ p ao len cap cs _ hA2).mono ?_
      rintro e w3 ⟨rfl, hA3, hm3⟩
      go_wp2_with fail
      refine (byte_any _ p ao len cap cs _ hA3).mono ?_
      rintro e w4 ⟨rfl, hA4, hm4⟩
      go_wp2_with fail
      go_ret
      rw [HV.out, HP.out]
      exact ⟨rfl, hA4, hm1.trans ((hm2.mono hm1.size).trans ((hm3.mono (Nat.le_trans hm1.size hm2.size)).trans (hm4.mono (Nat.le_trans hm1.size (Nat.le_trans hm2.size hm3.size)))))⟩

end Go.Proofs.YtlknemfnacnleaaDoor

/-
  The contract of spec.l1Once.
-/
namespace Go.Proofs.YtlknemfnacnleaaDoor
open Go.ChangeShapes Go.WideShapes Go.ChangeAt Go.RowKit Go.PlainAid
set_option linter.unusedVariables false

set_option maxHeartbeats 400000 in
theorem once_any (w : World) (p : Nat) (ao : Option Addr) (len cap : Nat) (cs : Nat → Nat) (s : Pos) (n : Int) (hn : n ≤ 9223372036854775807) (h : At w p ao len cap cs s) :
    Calls Tryd.prog 43 #[.pointer (some ⟨p, 0, none⟩), .int .i64 n] w fun e w' => e = .returned (.bool (belowV len cs n s == 0)) ∧ At w' p ao len cap cs (belowP len n s) ∧ Mod w.heap.size p w w' := by
  have HA : Hid (At w p ao len cap cs s) := h
  clear h
  go_enter Tryd.func43, Tryd.ntmps43
  go_wp2_with fail
  refine (below_any _ p ao len cap cs s n hn HA.out).mono ?_
  rintro e w1 ⟨rfl, hA1, hm1⟩
  go_wp2_with fail
  go_ret
  exact ⟨rfl, hA1, hm1⟩
end Go.Proofs.YtlknemfnacnleaaDoor

/-
  The contract of spec.l1New: a new cursor over the code, its number a function of the code's bytes.
-/
namespace Go.Proofs.YtlknemfnacnleaaDoor
open Go.ChangeShapes Go.WideShapes Go.ChangeAt Go.RowKit Go.PlainAid
set_option linter.unusedVariables false

theorem and30 (x : Int) : 0 ≤ bits .and .i64 x 1073741823 ∧ bits .and .i64 x 1073741823 ≤ 1073741823 := by
  have e : bits .and .i64 x 1073741823 = IntKind.i64.wrap ((BitVec.ofInt 64 x &&& BitVec.ofInt 64 ((1073741823 : Nat) : Int)).toNat : Int) := rfl
  have m : ∀ y : Nat, y &&& 1073741823 = y % 1073741824 := fun y => Nat.and_two_pow_sub_one_eq_mod y 30
  rw [e, BitVec.toNat_and, ofInt_u64 1073741823 (by omega), m]
  have h : (BitVec.ofInt 64 x).toNat % 1073741824 < 1073741824 := Nat.mod_lt _ (by omega)
  rw [Lib.wrap_i64_small _ (by omega)]
  omega
/-- The number behind k bytes. -/
def newH (len : Nat) (cs : Nat → Nat) : Nat → Int
  | 0 => 10101 + (len : Int)
  | k + 1 => bits .and .i64 (newH len cs k * 131 + (cs k : Int) + 7) 1073741823
theorem newH_bd (len : Nat) (cs : Nat → Nat) (hl : len ≤ 1048576) (k : Nat) : 0 ≤ newH len cs k ∧ newH len cs k ≤ 1073741823 := by
  cases k with
  | zero => simp only [newH]; omega
  | succ k => exact and30 _
/-- Where a new cursor stands. -/
def newP (len : Nat) (cs : Nat → Nat) : Pos := ⟨0, newH len cs (min len 4000)⟩

set_option maxHeartbeats 1000000 in
theorem new_some (w : World) (cb co len cap : Nat) (cs : Nat → Nat) (hl : len ≤ 1048576) (hc : ∀ j, j < len → cs j < 256 ∧ w.cell? ⟨cb, co + j, none⟩ = some (.int .u8 (cs j : Int))) :
    Calls Tryd.prog 42 #[.slice (some ⟨cb, co, none⟩) len cap] w fun e w' => e = .returned (.pointer (some ⟨w.heap.size, 0, none⟩)) ∧ w' = w.alloc (.cells #[.slice (some ⟨cb, co, none⟩) len cap, .int .i64 0, .int .i64 (newH len cs (min len 4000))] 85) := by
  have q1 : (len : Int) ≤ 1048576 := by omega
  have HC : Hid (∀ j, j < len → cs j < 256 ∧ w.cell? ⟨cb, co + j, none⟩ = some (.int .u8 (cs j : Int))) := hc
  clear hc
  go_enter Tryd.func42, Tryd.ntmps42
  go_wp2
  go_loop [3, 4] (fun v3 v4 => ∃ k : Nat, k ≤ len ∧ k ≤ 4000 ∧ v4 = .int .i64 k ∧ v3 = .int .i64 (newH len cs k)) (fun _ i => 4000 - (intOf i).toNat)
  case atStart => exact ⟨0, by omega, by omega, rfl, rfl⟩
  case round =>
    obtain ⟨k, hk, hk4, rfl, rfl⟩ := hrel
    have hb := newH_bd len cs hl k
    obtain ⟨hb1, hb2⟩ := hb
    by_cases hlt : (k : Int) < (len : Int)
    · by_cases h4 : (k : Int) < 4000
      · have hck := HC.out k (by omega)
        obtain ⟨hck1, hck2⟩ := hck
        go_wp2
        go_round
        case rel => exact ⟨k + 1, by omega, by omega, by go_num, rfl⟩
        case measure => simp [intOf]; omega
      · have z : decide ((k : Int) < 4000) = false := by simp; omega
        have hkk : min len 4000 = k := by omega
        have HK : Hid (min len 4000 = k) := hkk
        clear hkk
        go_wp2
        go_ret
        exact ⟨rfl, by rw [HK.out]⟩
    · have z : (len : Int) ≤ (k : Int) := by omega
      have hkk : min len 4000 = k := by omega
      have HK : Hid (min len 4000 = k) := hkk
      clear hkk
      go_wp2
      go_ret
      exact ⟨rfl, by rw [HK.out]⟩

set_option maxHeartbeats 1000000 in
theorem new_nil (w : World) (ao : Option Addr) (cap : Nat) (cs : Nat → Nat) :
    Calls Tryd.prog 42 #[.slice ao 0 cap] w fun e w' => e = .returned (.pointer (some ⟨w.heap.size, 0, none⟩)) ∧ w' = w.alloc (.cells #[.slice ao 0 cap, .int .i64 0, .int .i64 (newH 0 cs (min 0 4000))] 85) := by
  go_enter Tryd.func42, Tryd.ntmps42
  go_wp2
  refine wp_loop_rounds 1 ?_
  rw [rounds_succ]
  go_wp2
  go_ret
  exact ⟨rfl, rfl⟩

theorem new_any (w : World) (ao : Option Addr) (len cap : Nat) (cs : Nat → Nat) (hl : len ≤ 1048576) (h : CodeIs w w.heap.size ao len cs) :
    Calls Tryd.prog 42 #[.slice ao len cap] w fun e w' => e = .returned (.pointer (some ⟨w.heap.size, 0, none⟩)) ∧ At w' w.heap.size ao len cap cs (newP len cs) ∧ Below w.heap.size w w' := by
  have fin : ∀ (e : Ending) (w' : World), (e = .returned (.pointer (some ⟨w.heap.size, 0, none⟩)) ∧ w' = w.alloc (.cells #[.slice ao len cap, .int .i64 0, .int .i64 (newH len cs (min len 4000))] 85)) → e = .returned (.pointer (some ⟨w.heap.size, 0, none⟩)) ∧ At w' w.heap.size ao len cap cs (newP len cs) ∧ Below w.heap.size w w' := by
    rintro e w' ⟨he, rfl⟩
    have hb : Below w.heap.size w (w.alloc (.cells #[.slice ao len cap, .int .i64 0, .int .i64 (newH len cs (min len 4000))] 85)) := (Below.refl _ _).alloc (Nat.le_refl _) _
    refine ⟨he, ⟨heap_alloc_new w _, h.kept (Mod.of_below (p := w.heap.size) hb) (Nat.le_refl _), hl, Nat.zero_le _⟩, hb⟩
  have h' := h
  rcases h with rfl | ⟨cb, co, rfl, hcb, hj⟩
  · exact (new_nil w ao cap cs).mono fin
  · exact (new_some w cb co len cap cs hl hj).mono fin
end Go.Proofs.YtlknemfnacnleaaDoor

/-
  Contracts of spec.l1Text: the text that is drawn, as a function of the code's bytes and of where the cursor stands.
-/
namespace Go.Proofs.YtlknemfnacnleaaDoor
open Go.ChangeShapes Go.WideShapes Go.ChangeAt Go.RowKit Go.PlainAid
set_option linter.unusedVariables false

theorem Buf.mod {w w' : World} {B C p : Nat} {v : Value} {l : List UInt8} (h : Buf w B v l) (hm : Mod C p w w') (hp : p < B) (hC : w.heap.size ≤ C) : Buf w' B v l := by
  obtain ⟨h1, h2⟩ := h
  refine ⟨h1, ?_⟩
  rcases h2 with h2 | ⟨g, cap, cur, hv, hg, hh, r⟩
  · exact .inl h2
  · refine .inr ⟨g, cap, cur, hv, hg, ?_, r⟩
    rw [hm.block g (by have := lt_of_block hh; omega) (by omega), hh]

/-- Where the cursor stands behind k bytes. -/
def posN (len : Nat) : Nat → Pos → Pos
  | 0, s => s
  | k + 1, s => byteP len (posN len k s)
/-- A byte in its style. -/
def txB (style x : Int) : Int := if style = 1 then x % 2 else if style = 2 then 97 + x % 4 else x
theorem txB_bd (style x : Int) (h0 : 0 ≤ x) (h1 : x ≤ 255) : 0 ≤ txB style x ∧ txB style x ≤ 255 := by unfold txB; split <;> (try split) <;> omega
/-- The first k bytes of the text. -/
def txL (len : Nat) (cs : Nat → Nat) (style : Int) (s : Pos) : Nat → List UInt8
  | 0 => []
  | k + 1 => txL len cs style s k ++ [byt (txB style (byteV len cs (posN len k s))).toNat]
theorem txL_length (len : Nat) (cs : Nat → Nat) (style : Int) (s : Pos) (k : Nat) : (txL len cs style s k).length = k := by
  induction k with
  | zero => rfl
  | succ k ih => simp [txL, ih]
/-- The text, and where the cursor stands then. -/
def textV (len : Nat) (cs : Nat → Nat) (most : Int) (s : Pos) : List UInt8 := txL len cs (belowV len cs 4 s) (belowP len (most + 1) (belowP len 4 s)) (belowV len cs (most + 1) (belowP len 4 s)).toNat
def textP (len : Nat) (cs : Nat → Nat) (most : Int) (s : Pos) : Pos := posN len (belowV len cs (most + 1) (belowP len 4 s)).toNat (belowP len (most + 1) (belowP len 4 s))
theorem textV_length (len : Nat) (cs : Nat → Nat) (most : Int) (s : Pos) (h : 0 ≤ most) : ((textV len cs most s).length : Int) ≤ most := by
  unfold textV
  rw [txL_length]
  have hb := belowV_bd len cs (most + 1) (belowP len 4 s)
  have := hb.2 (by omega)
  omega

set_option maxHeartbeats 2000000 in
theorem text_any (w : World) (p : Nat) (ao : Option Addr) (len cap : Nat) (cs : Nat → Nat) (s : Pos) (most : Int) (hm0 : 0 ≤ most) (hm1 : most ≤ 1000) (h : At w p ao len cap cs s) :
    Calls Tryd.prog 75 #[.pointer (some ⟨p, 0, none⟩), .int .i64 most] w fun e w' => e = .returned (.string (txt (textV len cs most s))) ∧ At w' p ao len cap cs (textP len cs most s) ∧ Mod w.heap.size p w w' := by
  have HA : Hid (At w p ao len cap cs s) := h
  have hlt := h.lt
  clear h
  have hb := belowV_bd len cs (most + 1) (belowP len 4 s)
  have HV : Hid (textV len cs most s = txL len cs (belowV len cs 4 s) (belowP len (most + 1) (belowP len 4 s)) (belowV len cs (most + 1) (belowP len 4 s)).toNat) := rfl
  have HP : Hid (textP len cs most s = posN len (belowV len cs (most + 1) (belowP len 4 s)).toNat (belowP len (most + 1) (belowP len 4 s))) := rfl
  go_enter Tryd.func75, Tryd.ntmps75
  go_wp2_with fail
  have hal : Below w.heap.size w (w.alloc (.cells #[] 5)) := (Below.refl _ _).alloc (Nat.le_refl _) _
  refine (below_any _ p ao len cap cs s 4 (by omega) (HA.out.below hal hlt)).mono ?_
  rintro e w1 ⟨rfl, hA1, hmd1⟩
  have hbuf1 : Buf w1 w.heap.size (.slice (some ⟨w.heap.size, 0, none⟩) 0 0) [] := (Buf.made w w.heap.size 0 #[] (Nat.le_refl _) (by simp [maxLen]) rfl).mod hmd1 hlt (Nat.le_refl _)
  have hM1 : Mod w.heap.size p w w1 := (Mod.of_below hal).trans (hmd1.mono (by simp))
  clear hmd1 hal
  go_wp2_with fail
  refine (below_any _ p ao len cap cs _ (most + 1) (by omega) hA1).mono ?_
  rintro e w2 ⟨rfl, hA2, hmd2⟩
  have hbuf2 := hbuf1.mod hmd2 hlt (Nat.le_refl _)
  have hM2 : Mod w.heap.size p w w2 := hM1.trans (hmd2.mono hM1.size)
  clear hmd2 hM1 hbuf1 hA1
  generalize hS : belowV len cs 4 s = style at *
  generalize hQ : belowP len (most + 1) (belowP len 4 s) = s2 at *
  generalize hN : belowV len cs (most + 1) (belowP len 4 s) = NN at *
  obtain ⟨N, rfl⟩ := Int.eq_ofNat_of_zero_le hb.1
  have hN2 : (N : Int) ≤ 1000 := by have := hb.2 (by omega); omega
  clear hb hS hQ hN
  rw [Int.toNat_natCast] at HV HP
  go_wp2_with fail
  go_loopw [5, 7] (fun v5 v7 wr => ∃ k : Nat, k ≤ N ∧ v7 = .int .i64 ((N : Int) - (k : Int)) ∧ Buf wr w.heap.size v5 (txL len cs style s2 k) ∧ At wr p ao len cap cs (posN len k s2) ∧ Mod w.heap.size p w wr) (fun _ i _ => (intOf i).toNat)
  case atStart => exact ⟨0, by omega, by go_num, hbuf2, hA2, hM2⟩
  case round =>
    obtain ⟨k, hk, rfl, hbuf, hAt, hM⟩ := hrel
    have HAt : Hid (At wr p ao len cap cs (posN len k s2)) := hAt
    clear hAt hA2 hM2 hbuf2
    by_cases hkN : k < N
    · obtain ⟨X, hX⟩ : ∃ X, byteV len cs (posN len k s2) = X := ⟨_, rfl⟩
      have hxb := byteV_bd len cs (posN len k s2)
      rw [hX] at hxb
      obtain ⟨x1, x2⟩ := hxb
      have HX : Hid (byteV len cs (posN len k s2) = X) := hX
      clear hX
      by_cases st1 : style = 1
      · have st2 : ¬ style = 2 := by omega
        have z1 : (style == 1) = true := by simpa using st1
        have z2 : (style == 2) = false := by simpa using st2
        have HT : Hid (txB style X = X % 2) := by show txB style X = _; rw [txB, if_pos st1]
        have HC : Hid (#[Value.int .u8 (X % 2)] = byteCells [byt (txB style X).toNat]) := one_cell _ _ (by rw [HT.out]; omega) (by rw [HT.out]; omega)
        clear st1 st2
        go_wp2_with fail
        refine (byte_any _ p ao len cap cs _ HAt.out).mono ?_
        rintro e w3 ⟨rfl, hA3, hmd3⟩
        rw [HX.out]
        have hbuf3 := hbuf.mod hmd3 hlt (Nat.le_refl _)
        have hM3 : Mod w.heap.size p w w3 := hM.trans (hmd3.mono hM.size)
        have hsz := hM3.size
        clear hmd3 hbuf
        go_wp2_with (at_builtin; refine wpList_append_bytes rfl (.tmp 31) (.tmp 34) 33 rfl Tryd.underlying33 Tryd.info5 w.heap.size _ (txL len cs style s2 k) rfl hbuf3 _ [byt (txB style X).toNat] HC.out 1 1 rfl rfl (by rw [txL_length]; simp; omega) hsz ?_; intro v' w4 hbuf4 hb4)
        have hA4 := hA3.below hb4 hlt
        have hM4 : Mod w.heap.size p w w4 := hM3.trans (Mod.of_below hb4)
        go_roundw
        case rel => exact ⟨k + 1, by omega, by go_num, by rw [txL, HX.out]; exact hbuf4, hA4, hM4⟩
        case measure => simp [intOf]; omega
      · by_cases st2 : style = 2
        · have z1 : (style == 1) = false := by simpa using st1
          have z2 : (style == 2) = true := by simpa using st2
          have HT : Hid (txB style X = 97 + X % 4) := by show txB style X = _; rw [txB, if_neg st1, if_pos st2]
          have HC : Hid (#[Value.int .u8 (97 + X % 4)] = byteCells [byt (txB style X).toNat]) := one_cell _ _ (by rw [HT.out]; omega) (by rw [HT.out]; omega)
          clear st1 st2
          go_wp2_with fail
          refine (byte_any _ p ao len cap cs _ HAt.out).mono ?_
          rintro e w3 ⟨rfl, hA3, hmd3⟩
          rw [HX.out]
          have hbuf3 := hbuf.mod hmd3 hlt (Nat.le_refl _)
          have hM3 : Mod w.heap.size p w w3 := hM.trans (hmd3.mono hM.size)
          have hsz := hM3.size
          clear hmd3 hbuf
          go_wp2_with (at_builtin; refine wpList_append_bytes rfl (.tmp 31) (.tmp 34) 33 rfl Tryd.underlying33 Tryd.info5 w.heap.size _ (txL len cs style s2 k) rfl hbuf3 _ [byt (txB style X).toNat] HC.out 1 1 rfl rfl (by rw [txL_length]; simp; omega) hsz ?_; intro v' w4 hbuf4 hb4)
          have hA4 := hA3.below hb4 hlt
          have hM4 : Mod w.heap.size p w w4 := hM3.trans (Mod.of_below hb4)
          go_roundw
          case rel => exact ⟨k + 1, by omega, by go_num, by rw [txL, HX.out]; exact hbuf4, hA4, hM4⟩
          case measure => simp [intOf]; omega
        · have z1 : (style == 1) = false := by simpa using st1
          have z2 : (style == 2) = false := by simpa using st2
          have HT : Hid (txB style X = X) := by show txB style X = _; rw [txB, if_neg st1, if_neg st2]
          have HC : Hid (#[Value.int .u8 (X)] = byteCells [byt (txB style X).toNat]) := one_cell _ _ (by rw [HT.out]; omega) (by rw [HT.out]; omega)
          clear st1 st2
          go_wp2_with fail
          refine (byte_any _ p ao len cap cs _ HAt.out).mono ?_
          rintro e w3 ⟨rfl, hA3, hmd3⟩
          rw [HX.out]
          have hbuf3 := hbuf.mod hmd3 hlt (Nat.le_refl _)
          have hM3 : Mod w.heap.size p w w3 := hM.trans (hmd3.mono hM.size)
          have hsz := hM3.size
          clear hmd3 hbuf
          go_wp2_with (at_builtin; refine wpList_append_bytes rfl (.tmp 31) (.tmp 34) 33 rfl Tryd.underlying33 Tryd.info5 w.heap.size _ (txL len cs style s2 k) rfl hbuf3 _ [byt (txB style X).toNat] HC.out 1 1 rfl rfl (by rw [txL_length]; simp; omega) hsz ?_; intro v' w4 hbuf4 hb4)
          have hA4 := hA3.below hb4 hlt
          have hM4 : Mod w.heap.size p w w4 := hM3.trans (Mod.of_below hb4)
          go_roundw
          case rel => exact ⟨k + 1, by omega, by go_num, by rw [txL, HX.out]; exact hbuf4, hA4, hM4⟩
          case measure => simp [intOf]; omega
    · have hkk : k = N := by omega
      have HK : Hid (k = N) := hkk
      have z : (N : Int) - (k : Int) ≤ 0 := by omega
      clear hkk
      have hcv := hbuf.string (P := Tryd.prog) 33 9 Tryd.underlying33 Tryd.underlying5 Tryd.underlying9
      go_wp2_with fail
      go_ret
      rw [HV.out, HP.out, ← HK.out]
      exact ⟨rfl, HAt.out, hM⟩
end Go.Proofs.YtlknemfnacnleaaDoor

/-
  Contracts of spec.l1Spoil: the spoilt text, as a function of the text, of the code's bytes and of where the cursor stands.
-/
namespace Go.Proofs.YtlknemfnacnleaaDoor
open Go.ChangeShapes Go.WideShapes Go.ChangeAt Go.RowKit Go.PlainAid
set_option linter.unusedVariables false

theorem run_byte_cell {P : Program} (w : World) (src dst e : TypeId) (hs : P.underlying src = some (.slice e)) (he : P.underlying e = some (.int .u8)) (hd : P.underlying dst = some .string) (z : Int) (h0 : 0 ≤ z) (h1 : z ≤ 255) (cap : Nat) :
    (convert src dst (.slice (some ⟨w.heap.size, 0, none⟩) 1 cap)).run P (w.alloc (.cells #[.int .u8 z] e)) = .ok (.string (txt [byt z.toNat])) (w.alloc (.cells #[.int .u8 z] e)) := by
  have := run_one_byte (P := P) w src dst e hs he hd z.toNat cap
  rw [Nat.mod_eq_of_lt (show z.toNat < 256 by omega), show ((z.toNat : Nat) : Int) = z by omega] at this
  exact this
theorem extract_size (s : ByteArray) (a b : Nat) (h : a ≤ b) (hb : b ≤ s.size) : (s.extract a b).size = b - a := by
  rw [ByteArray.size_extract]
  omega

/-- What l1Spoil makes of a text that has a byte: the place, the way, the text. -/
def spK (len : Nat) (cs : Nat → Nat) (t : ByteArray) (s : Pos) : Nat := (belowV len cs (t.size : Int) s).toNat
def sp1 (len : Nat) (t : ByteArray) (s : Pos) : Pos := belowP len (t.size : Int) s
def spM (len : Nat) (cs : Nat → Nat) (t : ByteArray) (s : Pos) : Int := belowV len cs 4 (sp1 len t s)
def sp2 (len : Nat) (t : ByteArray) (s : Pos) : Pos := belowP len 4 (sp1 len t s)
def spT (len : Nat) (cs : Nat → Nat) (t : ByteArray) (s : Pos) : ByteArray :=
  if spM len cs t s = 0 then t.extract 0 (spK len cs t s) ++ t.extract (spK len cs t s + 1) t.size
  else if spM len cs t s = 1 then t.extract 0 (spK len cs t s) ++ txt [byt (byteV len cs (sp2 len t s)).toNat] ++ t.extract (spK len cs t s) t.size
  else if spM len cs t s = 2 then t.extract 0 (spK len cs t s)
  else t.extract 0 (spK len cs t s) ++ txt [byt (bits .xor .i64 (bn t (spK len cs t s) : Int) (1 + belowV len cs 255 (sp2 len t s)) % 256).toNat] ++ t.extract (spK len cs t s + 1) t.size
def spP (len : Nat) (cs : Nat → Nat) (t : ByteArray) (s : Pos) : Pos :=
  if spM len cs t s = 0 then sp2 len t s else if spM len cs t s = 1 then byteP len (sp2 len t s) else if spM len cs t s = 2 then sp2 len t s else belowP len 255 (sp2 len t s)
theorem spK_lt (len : Nat) (cs : Nat → Nat) (t : ByteArray) (s : Pos) (h : 1 ≤ t.size) : spK len cs t s < t.size := by
  have hb := belowV_bd len cs (t.size : Int) s
  have := hb.2 (by omega)
  unfold spK
  omega
theorem spT_size (len : Nat) (cs : Nat → Nat) (t : ByteArray) (s : Pos) (h : 1 ≤ t.size) : (spT len cs t s).size ≤ t.size + 1 := by
  have hk := spK_lt len cs t s h
  unfold spT
  split
  · rw [ByteArray.size_append, extract_size _ _ _ (by omega) (by omega), extract_size _ _ _ (by omega) (by omega)]
    omega
  · split
    · rw [ByteArray.size_append, ByteArray.size_append, extract_size _ _ _ (by omega) (by omega), extract_size _ _ _ (by omega) (by omega), txt_size]
      simp
      omega
    · split
      · rw [extract_size _ _ _ (by omega) (by omega)]
        omega
      · rw [ByteArray.size_append, ByteArray.size_append, extract_size _ _ _ (by omega) (by omega), extract_size _ _ _ (by omega) (by omega), txt_size]
        simp
        omega

set_option maxHeartbeats 2000000 in
theorem spoil_some (w : World) (p : Nat) (ao : Option Addr) (len cap : Nat) (cs : Nat → Nat) (s : Pos) (t : ByteArray) (ht1 : 1 ≤ t.size) (ht2 : t.size ≤ 1000) (h : At w p ao len cap cs s) :
    Calls Tryd.prog 47 #[.pointer (some ⟨p, 0, none⟩), .string t] w fun e w' => e = .returned (.string (spT len cs t s)) ∧ At w' p ao len cap cs (spP len cs t s) ∧ Mod w.heap.size p w w' := by
  have HA : Hid (At w p ao len cap cs s) := h
  clear h
  have hbt := get_bn t
  have q1 : (t.size : Int) ≤ 1000 := by omega
  have q0 : (1 : Int) ≤ (t.size : Int) := by omega
  have z0 : ((t.size : Int) == 0) = false := beq_eq_false_iff_ne.2 (by omega)
  have hb := belowV_bd len cs (t.size : Int) s
  have hkk := spK_lt len cs t s ht1
  go_enter Tryd.func47, Tryd.ntmps47
  go_wp2_with fail
  refine (below_any _ p ao len cap cs s (t.size : Int) (by omega) HA.out).mono ?_
  rintro e w1 ⟨rfl, hA1, hm1⟩
  have ek : belowV len cs (t.size : Int) s = ((spK len cs t s : Nat) : Int) := by unfold spK; have := hb.1; omega
  rw [ek]
  clear ek hb
  go_wp2_with fail
  refine (below_any _ p ao len cap cs _ 4 (by omega) hA1).mono ?_
  rintro e w2 ⟨rfl, hA2, hm2⟩
  have hM2 : Mod w.heap.size p w w2 := hm1.trans (hm2.mono hm1.size)
  clear hm1 hm2 hA1
  have hA2' : At w2 p ao len cap cs (sp2 len t s) := hA2
  clear hA2
  have eM : belowV len cs 4 (belowP len (t.size : Int) s) = spM len cs t s := rfl
  rw [eM]
  clear eM
  generalize hK : spK len cs t s = k at *
  have HK : Hid (spK len cs t s = k) := hK
  clear hK
  have e1 := extract_size t 0 k (by omega) (by omega)
  have e2 := extract_size t (k + 1) t.size (by omega) (by omega)
  have e3 := extract_size t k t.size (by omega) (by omega)
  have s1 : ¬ (9223372036854775807 < (t.extract 0 k).size + (t.extract (k + 1) t.size).size) := by rw [e1, e2]; omega
  have r1 : (k : Int) < (t.size : Int) := by omega
  have HA2 : Hid (At w2 p ao len cap cs (sp2 len t s)) := hA2'
  clear hA2'
  clear e1 e2 e3
  by_cases c0 : spM len cs t s = 0
  · have y0 : (spM len cs t s == 0) = true := by rw [c0]; rfl
    have HT : Hid (spT len cs t s = t.extract 0 k ++ t.extract (k + 1) t.size) := by show spT len cs t s = _; rw [spT, if_pos c0, HK.out]
    have HP : Hid (spP len cs t s = sp2 len t s) := by show spP len cs t s = _; rw [spP, if_pos c0]
    clear c0
    go_wp2_with fail
    go_quiet (fail)
    go_wp2_with fail
    go_ret
    rw [HT.out, HP.out]
    exact ⟨rfl, HA2.out.below (below_drewN (Below.refl (p + 1) _) _) (by omega), hM2.drewN _⟩
  · have y0 : (spM len cs t s == 0) = false := beq_eq_false_iff_ne.2 c0
    by_cases c1 : spM len cs t s = 1
    · have y1 : (spM len cs t s == 1) = true := by rw [c1]; rfl
      have HT : Hid (spT len cs t s = t.extract 0 k ++ txt [byt (byteV len cs (sp2 len t s)).toNat] ++ t.extract k t.size) := by show spT len cs t s = _; rw [spT, if_neg c0, if_pos c1, HK.out]
      have HP : Hid (spP len cs t s = byteP len (sp2 len t s)) := by show spP len cs t s = _; rw [spP, if_neg c0, if_pos c1]
      clear c0 c1
      obtain ⟨X, hX⟩ : ∃ X, byteV len cs (sp2 len t s) = X := ⟨_, rfl⟩
      have hxb := byteV_bd len cs (sp2 len t s)
      rw [hX] at hxb
      have HX : Hid (byteV len cs (sp2 len t s) = X) := hX
      clear hX
      obtain ⟨x1, x2⟩ := hxb
      have hcv := fun wx => run_byte_cell (P := Tryd.prog) wx 33 9 5 Tryd.underlying33 Tryd.underlying5 Tryd.underlying9 X x1 x2 1
      have ew : IntKind.u8.wrap X = X := by rw [IntKind.wrap_u8']; omega
      have eb : (txt [byt X.toNat]).size ≤ 1 := Nat.le_refl _
      go_wp2_with fail
      have r2 : (k : Int) ≤ (t.size : Int) := by omega
      have r3 : (0 : Int) ≤ (k : Int) := by omega
      go_region_with (go_at_call 76; refine (byte_any _ p ao len cap cs _ (by exact HA2.out)).mono ?_; rintro e w3 ⟨rfl, hA3, hm3⟩; rw [HX.out])
      all_goals
        go_wp2_with fail
        go_ret
        rw [HT.out, HP.out, HX.out]
        have hal : Below w3.heap.size w3 (w3.alloc (.cells #[.int .u8 X] 5)) := (Below.refl _ _).alloc (Nat.le_refl _) _
        have hM3 : Mod w.heap.size p w w3 := hM2.drew.trans (hm3.mono hM2.size)
        exact ⟨rfl, hA3.below hal hA3.lt, hM3.trans (Mod.of_below (hal.mono hM3.size))⟩
    · have y1 : (spM len cs t s == 1) = false := beq_eq_false_iff_ne.2 c1
      by_cases c2 : spM len cs t s = 2
      · have y2 : (spM len cs t s == 2) = true := by rw [c2]; rfl
        have HT : Hid (spT len cs t s = t.extract 0 k) := by show spT len cs t s = _; rw [spT, if_neg c0, if_neg c1, if_pos c2, HK.out]
        have HP : Hid (spP len cs t s = sp2 len t s) := by show spP len cs t s = _; rw [spP, if_neg c0, if_neg c1, if_pos c2]
        clear c0 c1 c2
        have r2 : (k : Int) ≤ (t.size : Int) := by omega
        go_wp2_with fail
        go_ret
        rw [HT.out, HP.out]
        exact ⟨rfl, HA2.out, hM2⟩
      · have y2 : (spM len cs t s == 2) = false := beq_eq_false_iff_ne.2 c2
        have HT : Hid (spT len cs t s = t.extract 0 k ++ txt [byt (bits .xor .i64 (bn t k : Int) (1 + belowV len cs 255 (sp2 len t s)) % 256).toNat] ++ t.extract (k + 1) t.size) := by show spT len cs t s = _; rw [spT, if_neg c0, if_neg c1, if_neg c2, HK.out]
        have HP : Hid (spP len cs t s = belowP len 255 (sp2 len t s)) := by show spP len cs t s = _; rw [spP, if_neg c0, if_neg c1, if_neg c2]
        clear c0 c1 c2
        obtain ⟨X, hX⟩ : ∃ X, belowV len cs 255 (sp2 len t s) = X := ⟨_, rfl⟩
        have hxb := belowV_bd len cs 255 (sp2 len t s)
        rw [hX] at hxb
        have HX : Hid (belowV len cs 255 (sp2 len t s) = X) := hX
        clear hX
        have x1 := hxb.1
        have x2 := hxb.2 (by omega)
        clear hxb
        obtain ⟨Z, hZ⟩ : ∃ Z, bits .xor .i64 (bn t k : Int) (1 + X) % 256 = Z := ⟨_, rfl⟩
        have z1 : 0 ≤ Z := by rw [← hZ]; exact Int.emod_nonneg _ (by omega)
        have z2 : Z ≤ 255 := by have := Int.emod_lt_of_pos (bits .xor .i64 (bn t k : Int) (1 + X)) (show (0 : Int) < 256 by omega); omega
        have HZ : Hid (bits .xor .i64 (bn t k : Int) (1 + X) % 256 = Z) := hZ
        have wz : IntKind.u8.wrap (bits .xor .i64 (bn t k : Int) (1 + X)) = Z := by rw [IntKind.wrap_u8']; exact hZ
        have hcv := fun wx => run_byte_cell (P := Tryd.prog) wx 33 9 5 Tryd.underlying33 Tryd.underlying5 Tryd.underlying9 Z z1 z2 1
        have eb : (txt [byt Z.toNat]).size ≤ 1 := Nat.le_refl _
        have hbk := bn_lt t k
        have f1 : IntKind.i64.wrap (bn t k : Int) = (bn t k : Int) := Lib.wrap_i64_small _ (by omega)
        have f2 : IntKind.i64.wrap (1 + X) = 1 + X := by
          obtain ⟨n, rfl⟩ := Int.eq_ofNat_of_zero_le x1
          rw [show (1 + (n : Int)) = ((1 + n : Nat) : Int) by omega]
          exact Lib.wrap_i64_small _ (by omega)
        have f3 : IntKind.i64.wrap ((k : Int) + 1) = (k : Int) + 1 := by
          rw [show ((k : Int) + 1) = ((k + 1 : Nat) : Int) by omega]
          exact Lib.wrap_i64_small _ (by omega)
        have r2 : (k : Int) ≤ (t.size : Int) := by omega
        have r3 : (0 : Int) ≤ (k : Int) := by omega
        have r4 : (k : Int) + 1 ≤ (t.size : Int) := by omega
        go_wp2_with fail
        go_region_with (go_at_call 72; refine (below_any _ p ao len cap cs _ 255 (by omega) (by exact HA2.out)).mono ?_; rintro e w3 ⟨rfl, hA3, hm3⟩; rw [HX.out])
        all_goals
          go_wp2_with fail
          go_ret
          rw [HT.out, HP.out, HX.out, HZ.out]
          have hal : Below w3.heap.size w3 (w3.alloc (.cells #[.int .u8 Z] 5)) := (Below.refl _ _).alloc (Nat.le_refl _) _
          have hM3 : Mod w.heap.size p w w3 := hM2.drew.trans (hm3.mono hM2.size)
          exact ⟨rfl, hA3.below hal hA3.lt, hM3.trans (Mod.of_below (hal.mono hM3.size))⟩

/-- What l1Spoil makes of a text. -/
def spoilV (len : Nat) (cs : Nat → Nat) (t : ByteArray) (s : Pos) : ByteArray := if t.size = 0 then txt (textV len cs 3 s) else spT len cs t s
theorem spoilV_size (len : Nat) (cs : Nat → Nat) (t : ByteArray) (s : Pos) : (spoilV len cs t s).size ≤ t.size + 3 := by
  unfold spoilV
  split
  · rw [txt_size]
    have := textV_length len cs 3 s (by omega)
    omega
  · have := spT_size len cs t s (by omega)
    omega
set_option maxHeartbeats 400000 in
theorem spoil_any (w : World) (p : Nat) (ao : Option Addr) (len cap : Nat) (cs : Nat → Nat) (s : Pos) (t : ByteArray) (ht2 : t.size ≤ 1000) (hB : w.heap.size ≤ w.heap.size) (h : At w p ao len cap cs s) :
    Calls Tryd.prog 47 #[.pointer (some ⟨p, 0, none⟩), .string t] w fun e w' => e = .returned (.string (spoilV len cs t s)) ∧ Mod w.heap.size p w w' := by
  by_cases h0 : t.size = 0
  · have HV : Hid (spoilV len cs t s = txt (textV len cs 3 s)) := by show spoilV len cs t s = _; rw [spoilV, if_pos h0]
    have HA : Hid (At w p ao len cap cs s) := h
    clear h
    have z0 : ((t.size : Int) == 0) = true := beq_iff_eq.2 (by omega)
    clear h0
    go_enter Tryd.func47, Tryd.ntmps47
    go_wp2_with fail
    refine (text_any _ p ao len cap cs s 3 (by omega) (by omega) HA.out).mono ?_
    rintro e w1 ⟨rfl, hA1, hm1⟩
    go_wp2_with fail
    go_ret
    rw [HV.out]
    exact ⟨rfl, hm1⟩
  · refine (spoil_some w p ao len cap cs s t (by omega) ht2 h).mono ?_
    rintro e w' ⟨he, _, hm⟩
    exact ⟨by rw [he, spoilV, if_neg h0], hm⟩
end Go.Proofs.YtlknemfnacnleaaDoor

/-
  The cursor's calls without their values.
-/
namespace Go.Proofs.YtlknemfnacnleaaDoor
open Go.ChangeShapes Go.WideShapes Go.ChangeAt Go.RowKit Go.PlainAid
set_option linter.unusedVariables false

theorem CodeIs.on {w w' : World} {ao : Option Addr} {len : Nat} {cs : Nat → Nat} (h : CodeIs w w.heap.size ao len cs) (hb : Below w.heap.size w w') : CodeIs w' w'.heap.size ao len cs := by
  rcases h with h | ⟨cb, co, rfl, hcb, hj⟩
  · exact .inl h
  · exact .inr ⟨cb, co, rfl, Nat.lt_of_lt_of_le hcb hb.size, fun j hj' => ⟨(hj j hj').1, by rw [← (hj j hj').2]; exact World.cell?_of_block (w := w) (hb.block cb hcb)⟩⟩
set_option maxHeartbeats 400000 in
theorem big_no (w : World) (ao : Option Addr) (len cap : Nat) (hl : len ≤ 1048576) : Calls Tryd.prog 15 #[.slice ao len cap] w fun e w' => e = .returned (.bool false) ∧ w = w' := by
  have q : (len : Int) ≤ 1048576 := by omega
  have q2 : decide ((1048576 : Int) < (len : Int)) = false := by simp; omega
  go_enter Tryd.func15, Tryd.ntmps15
  go_wp2
  go_ret
  exact ⟨rfl, rfl⟩
set_option maxHeartbeats 400000 in
theorem big_yes (w : World) (ao : Option Addr) (len cap : Nat) (hl : 1048576 < len) (h2 : len ≤ 9223372036854775807) : Calls Tryd.prog 15 #[.slice ao len cap] w fun e w' => e = .returned (.bool true) ∧ w = w' := by
  have q : (1048576 : Int) < (len : Int) := by omega
  go_enter Tryd.func15, Tryd.ntmps15
  go_wp2
  go_ret
  exact ⟨rfl, rfl⟩
set_option maxHeartbeats 1000000 in
theorem pick_any (w : World) (p : Nat) (ao : Option Addr) (len cap : Nat) (cs : Nat → Nat) (s : Pos) (g : Nat) (xs : List Int) (hn : 0 < xs.length) (hn2 : xs.length ≤ 1000) (h : At w p ao len cap cs s) (hgp : g ≠ p) (hg : g < w.heap.size)
    (hcell : ∀ j, j < xs.length → w.cell? ⟨g, j, none⟩ = some (.int .i64 (xs.getD j 0))) :
    Calls Tryd.prog 84 #[.pointer (some ⟨p, 0, none⟩), .slice (some ⟨g, 0, none⟩) xs.length xs.length] w fun e w' =>
      e = .returned (.int .i64 (xs.getD (belowV len cs (xs.length : Int) s).toNat 0)) ∧ At w' p ao len cap cs (belowP len (xs.length : Int) s) ∧ Mod w.heap.size p w w' := by
  have HA : Hid (At w p ao len cap cs s) := h
  clear h
  have HC : Hid (∀ j, j < xs.length → w.cell? ⟨g, j, none⟩ = some (.int .i64 (xs.getD j 0))) := hcell
  clear hcell
  have hb := belowV_bd len cs (xs.length : Int) s
  have q0 : (xs.length : Int) ≤ 1000 := by omega
  go_enter Tryd.func84, Tryd.ntmps84
  go_wp2_with fail
  refine (below_any _ p ao len cap cs s (xs.length : Int) (by omega) HA.out).mono ?_
  rintro e w1 ⟨rfl, hA1, hm1⟩
  obtain ⟨k, hk⟩ := Int.eq_ofNat_of_zero_le hb.1
  have hk2 : k < xs.length := by have := hb.2 (by omega); omega
  have HB : Hid (belowV len cs (xs.length : Int) s = (k : Int)) := hk
  rw [hk]
  clear hk hb
  have hc1 : w1.cell? ⟨g, k, none⟩ = some (.int .i64 (xs.getD k 0)) := by
    rw [← HC.out k hk2]
    exact World.cell?_of_block (w := w) (hm1.block g hg hgp)
  have q1 : (k : Int) < (xs.length : Int) := by omega
  go_wp2_with fail
  go_ret
  have ev : xs.getD ((k : Int)).toNat 0 = xs[k] := by simp [hk2]
  rw [HB.out, ev]
  exact ⟨rfl, hA1, hm1⟩
/-- A cursor lies in block p, wherever it stands. -/
def AtS (w : World) (p : Nat) : Prop := ∃ ao len cap cs s, At w p ao len cap cs s
theorem AtS.lt {w : World} {p : Nat} (h : AtS w p) : p < w.heap.size := by obtain ⟨_, _, _, _, _, h⟩ := h; exact h.lt
theorem AtS.below {w w' : World} {B p : Nat} (h : AtS w p) (hb : Below B w w') (hp : p < B) : AtS w' p := by
  obtain ⟨ao, len, cap, cs, s, h⟩ := h
  exact ⟨ao, len, cap, cs, s, h.below hb hp⟩
theorem Blk.mod {w w' : World} {C p g : Nat} {cs : Array Value} {t : TypeId} (h : Blk w g cs t) (hm : Mod C p w w') (hg : g < C) (hp : g ≠ p) : Blk w' g cs t := by
  unfold Blk
  rw [hm.block g hg hp]
  exact h
theorem once_some (w : World) (p : Nat) (n : Int) (h1 : n ≤ 1000) (h : AtS w p) :
    Calls Tryd.prog 43 #[.pointer (some ⟨p, 0, none⟩), .int .i64 n] w fun e w' => ∃ b : Bool, e = .returned (.bool b) ∧ AtS w' p ∧ Mod w.heap.size p w w' := by
  obtain ⟨ao, len, cap, cs, s, h⟩ := h
  exact (once_any w p ao len cap cs s n (by omega) h).mono fun e w' k => ⟨_, k.1, ⟨_, _, _, _, _, k.2.1⟩, k.2.2⟩
theorem Nums.mod {w w' : World} {C p base : Nat} {v : Value} {l : List Int} (h : Nums w base v l) (hm : Mod C p w w') (hp : p < base) (hC : w.heap.size ≤ C) : Nums w' base v l :=
  h.kept fun g hg ho => hm.block g (Nat.lt_of_lt_of_le hg hC) (by have := (h.lt g ho).1; omega)
theorem belowS (w : World) (p : Nat) (n : Int) (h0 : 0 < n) (h1 : n ≤ 1000000) (h : AtS w p) :
    Calls Tryd.prog 72 #[.pointer (some ⟨p, 0, none⟩), .int .i64 n] w fun e w' => ∃ v : Int, e = .returned (.int .i64 v) ∧ (0 ≤ v ∧ v < n) ∧ AtS w' p ∧ Mod w.heap.size p w w' := by
  obtain ⟨ao, len, cap, cs, s, h⟩ := h
  have bd := belowV_bd len cs n s
  exact (below_any w p ao len cap cs s n (by omega) h).mono fun e w' k => ⟨_, k.1, ⟨bd.1, bd.2 h0⟩, ⟨_, _, _, _, _, k.2.1⟩, k.2.2⟩
theorem getD_all (xs : List Int) (P : Int → Prop) (h0 : P 0) (h : ∀ z ∈ xs, P z) (j : Nat) : P (xs.getD j 0) := by
  by_cases hj : j < xs.length
  · refine h _ ?_
    simp [List.getD, hj]
  · simpa [List.getD, hj] using h0
theorem pickS (w : World) (p g : Nat) (xs : List Int) (n : Nat) (hn : xs.length = n) (h0 : 0 < n) (h1 : n ≤ 1000) (P : Int → Prop) (hP0 : P 0) (hP : ∀ z ∈ xs, P z) (h : AtS w p) (hgp : g ≠ p) (hB : Blk w g (numCells xs).toArray 3) :
    Calls Tryd.prog 84 #[.pointer (some ⟨p, 0, none⟩), .slice (some ⟨g, 0, none⟩) n n] w fun e w' => ∃ v : Int, e = .returned (.int .i64 v) ∧ P v ∧ AtS w' p ∧ Mod w.heap.size p w w' := by
  obtain ⟨ao, len, cap, cs, s, h⟩ := h
  subst hn
  refine (pick_any w p ao len cap cs s g xs h0 h1 h hgp hB.lt ?_).mono fun e w' k => ⟨_, k.1, getD_all xs P hP0 hP _, ⟨_, _, _, _, _, k.2.1⟩, k.2.2⟩
  intro j hj
  refine hB.cell _ _ ?_
  simp [numCells, hj]
/-- What is drawn: some row, one number at least. -/
def DrawnL (w : World) (p : Nat) (e : Ending) (w' : World) : Prop := ∃ u l, e = .returned u ∧ Nums w' w.heap.size u l ∧ (1 ≤ l.length ∧ l.length ≤ 600) ∧ AtS w' p ∧ Mod w.heap.size p w w'
theorem Owns.mod {w w' : World} {C p base : Nat} {e : TypeId} {sz : Nat} {v : Value} {rows : List (List Value)} (h : Owns w base e sz v rows) (hm : Mod C p w w') (hp : p < base) (hC : w.heap.size ≤ C) : Owns w' base e sz v rows :=
  h.kept fun g hg ho => hm.block g (Nat.lt_of_lt_of_le hg hC) (by have := (h.lt g ho).1; omega)
set_option maxHeartbeats 400000 in
theorem size_any (w : World) (ao : Option Addr) (len cap : Nat) (most : Nat) (hl : len ≤ 1048576) (h1 : 2 ≤ most) (h2 : most ≤ 500) :
    Calls Tryd.prog 45 #[.slice ao len cap, .int .i64 (most : Int)] w fun e w' => (∃ v : Int, e = .returned (.int .i64 v) ∧ 1 ≤ v ∧ v ≤ 500) ∧ w = w' := by
  have q1 : (len : Int) ≤ 1048576 := by omega
  have q2 : (most : Int) ≤ 500 := by omega
  by_cases hc : (most : Int) < 2 + (len : Int) / 20
  · go_enter Tryd.func45, Tryd.ntmps45
    go_wp2_with fail
    go_ret
    exact ⟨⟨_, rfl, by omega, by omega⟩, rfl⟩
  · go_enter Tryd.func45, Tryd.ntmps45
    go_wp2_with fail
    go_ret
    exact ⟨⟨2 + (len : Int) / 20, by go_num, by omega, by omega⟩, rfl⟩
end Go.Proofs.YtlknemfnacnleaaDoor

/-
  The cursor: some text, a text spoilt; contract of laws.at.
-/
namespace Go.Proofs.YtlknemfnacnleaaDoor
open Go.ChangeShapes Go.WideShapes Go.ChangeAt Go.RowKit Go.PlainAid
set_option linter.unusedVariables false

theorem text_some (w : World) (p : Nat) (n : Int) (h0 : 0 ≤ n) (h1 : n ≤ 1000) (h : AtS w p) :
    Calls Tryd.prog 75 #[.pointer (some ⟨p, 0, none⟩), .int .i64 n] w fun e w' => ∃ d : ByteArray, e = .returned (.string d) ∧ d.size ≤ 1000 ∧ AtS w' p ∧ Mod w.heap.size p w w' := by
  obtain ⟨ao, len, cap, cs, s, h⟩ := h
  have hl := textV_length len cs n s h0
  exact (text_any w p ao len cap cs s n h0 h1 h).mono fun e w' k => ⟨_, k.1, by rw [txt_size]; omega, ⟨_, _, _, _, _, k.2.1⟩, k.2.2⟩
/-- spec.l1Spoil: some text that is little longer. -/
theorem spoilS (w : World) (p : Nat) (t : ByteArray) (ht : t.size ≤ 1000) (h : AtS w p) :
    Calls Tryd.prog 47 #[.pointer (some ⟨p, 0, none⟩), .string t] w fun e w' => ∃ d : ByteArray, e = .returned (.string d) ∧ d.size ≤ 1003 ∧ AtS w' p ∧ Mod w.heap.size p w w' := by
  by_cases h0 : t.size = 0
  · have HA : Hid (AtS w p) := h
    clear h
    have z0 : ((t.size : Int) == 0) = true := beq_iff_eq.2 (by omega)
    clear h0
    go_enter Tryd.func47, Tryd.ntmps47
    go_wp2_with fail
    refine (text_some _ p 3 (by omega) (by omega) HA.out).mono ?_
    rintro e w1 ⟨d, rfl, hd, hA1, hm1⟩
    go_wp2_with fail
    go_ret
    exact ⟨d, rfl, by omega, hA1, hm1⟩
  · obtain ⟨ao, len, cap, cs, s, h⟩ := h
    refine (spoil_some w p ao len cap cs s t (by omega) ht h).mono ?_
    rintro e w' ⟨he, hA, hm⟩
    have := spT_size len cs t s (by omega)
    exact ⟨_, he, by omega, ⟨_, _, _, _, _, hA⟩, hm⟩
/-- Byte i of the code, or one that follows from it. -/
def atV (len : Nat) (cs : Nat → Nat) (i : Nat) : Nat := if i < len then cs i else (i * 37 + len * 11) % 256
theorem atV_lt {w : World} {p : Nat} {ao : Option Addr} {len : Nat} {cs : Nat → Nat} (h : CodeIs w p ao len cs) (i : Nat) : atV len cs i < 256 := by
  unfold atV
  split
  · rename_i hi
    obtain ⟨_, _, _, _, h, _⟩ := h.at hi
    exact h
  · omega
set_option maxHeartbeats 400000 in
theorem at_any (w : World) (ao : Option Addr) (len cap : Nat) (cs : Nat → Nat) (i : Nat) (hl : len ≤ 1048576) (hi : i ≤ 100000) (h : CodeIs w w.heap.size ao len cs) :
    Calls Tryd.prog 21 #[.slice ao len cap, .int .i64 (i : Int)] w fun e w' => e = .returned (.int .i64 (atV len cs i : Int)) ∧ w = w' := by
  have q : (len : Int) ≤ 1048576 := by omega
  have q2 : (i : Int) ≤ 100000 := by omega
  by_cases hlt : i < len
  · obtain ⟨cb, co, rfl, _, hb, hc⟩ := h.at hlt
    have q3 : (i : Int) < (len : Int) := by omega
    have EV : Hid (atV len cs i = cs i) := by unfold Hid; rw [atV, if_pos hlt]
    have w1 : IntKind.i64.wrap (cs i : Int) = (cs i : Int) := by rw [IntKind.wrap_i64]; omega
    generalize cs i = x at *
    clear h
    go_enter Tryd.func21, Tryd.ntmps21
    go_wp2
    go_ret
    exact ⟨by rw [EV.out]; rfl, rfl⟩
  · have q3 : (len : Int) ≤ (i : Int) := by omega
    have EV : Hid ((atV len cs i : Int) = ((i : Int) * 37 + (len : Int) * 11) % 256) := by unfold Hid; rw [atV, if_neg hlt]; omega
    clear h
    go_enter Tryd.func21, Tryd.ntmps21
    go_wp2
    go_ret
    exact ⟨by rw [EV.out]; rfl, rfl⟩
end Go.Proofs.YtlknemfnacnleaaDoor

/-
  What is drawn: contract of spec.l7Ints: some row of one number at least, whatever the code.
-/
namespace Go.Proofs.YtlknemfnacnleaaDoor
open Go.ChangeShapes Go.WideShapes Go.ChangeAt Go.RowKit Go.PlainAid
set_option linter.unusedVariables false

set_option maxHeartbeats 2000000 in
theorem ints_any (w : World) (p : Nat) (most : Int) (hm0 : 1 ≤ most) (hm1 : most ≤ 600) (h : AtS w p) : Calls Tryd.prog 74 #[.pointer (some ⟨p, 0, none⟩), .int .i64 most] w (DrawnL w p) := by
  have HP : Hid (p < w.heap.size) := h.lt
  have hal : Below w.heap.size w (w.alloc (.cells #[] 3)) := (Below.refl _ _).alloc (Nat.le_refl _) _
  have N0 : Hid (Nums (w.alloc (.cells #[] 3)) w.heap.size (.slice (some ⟨w.heap.size, 0, none⟩) 0 0) []) := Nums.empty w w.heap.size (Nat.le_refl _)
  have A0 : Hid (AtS (w.alloc (.cells #[] 3)) p) := h.below hal h.lt
  have M0 : Hid (Mod w.heap.size p w (w.alloc (.cells #[] 3))) := Mod.of_below hal
  clear hal h
  go_enter Tryd.func74, Tryd.ntmps74
  go_wp2_with fail
  generalize w.alloc (.cells #[] 3) = w0 at *
  refine (belowS w0 p 100 (by omega) (by omega) A0.out).mono ?_
  rintro e w1 ⟨v1, rfl, ⟨v10, v11⟩, hA, hm⟩
  have A1 : Hid (AtS w1 p) := hA
  have M1 : Hid (Mod w.heap.size p w w1) := M0.out.trans (hm.mono M0.out.size)
  have N1 : Hid (Nums w1 w.heap.size (.slice (some ⟨w.heap.size, 0, none⟩) 0 0) []) := N0.out.mod hm HP.out (Nat.le_refl _)
  clear hA hm A0 M0 N0
  go_wp2_with fail
  refine (belowS w1 p most (by omega) (by omega) A1.out).mono ?_
  rintro e w2 ⟨v2, rfl, ⟨v20, v21⟩, hA, hm⟩
  have A2 : Hid (AtS w2 p) := hA
  have M2 : Hid (Mod w.heap.size p w w2) := M1.out.trans (hm.mono M1.out.size)
  have N2 : Hid (Nums w2 w.heap.size (.slice (some ⟨w.heap.size, 0, none⟩) 0 0) []) := N1.out.mod hm HP.out (Nat.le_refl _)
  obtain ⟨n2, rfl⟩ : ∃ n : Nat, v2 = (n : Int) := ⟨v2.toNat, by omega⟩
  clear hA hm A1 M1 N1
  go_wp2_with fail
  go_loopw [5, 6, 7] (fun v5 v6 v7 wr => ∃ (k : Nat) (t : Int) (l : List Int), (l.length + k ≤ 600 ∧ 1 ≤ l.length + k) ∧ v7 = .int .i64 (k : Int) ∧ v6 = .int .i64 t ∧ Nums wr w.heap.size v5 l ∧ AtS wr p ∧ Mod w.heap.size p w wr) (fun _ _ i _ => (intOf i).toNat)
  case atStart => exact ⟨n2 + 1, _, [], ⟨by simp; omega, by simp⟩, by go_num, rfl, N2.out, A2.out, M2.out⟩
  case round =>
    obtain ⟨k, t, l, hk, rfl, rfl, hN, hA, hM⟩ := hrel
    have HN : Hid (Nums wr w.heap.size _ l) := hN
    obtain ⟨A, c, rfl, _, _⟩ := hN.shape
    have AR : Hid (AtS wr p) := hA
    have MR : Hid (Mod w.heap.size p w wr) := hM
    have HK : Hid (l.length + k ≤ 600 ∧ 1 ≤ l.length + k) := hk
    have q1 : (k : Int) ≤ 600 := by omega
    clear hN hA hM hk
    by_cases hlt : 0 < k
    · have q2 : (0 : Int) < (k : Int) := by omega
      go_wp2_with (at_builtin; refine wpList_append_num rfl (.tmp 20) (.tmp 22) 41 rfl Tryd.underlying41 Tryd.infoInt w.heap.size _ l rfl HN.out t rfl (by have := HK.out; omega) MR.out.size ?_; intro v' w3 hN3 hb3 hk3)
      have A3 : Hid (AtS w3 p) := AR.out.below hb3 HP.out
      have M3 : Hid (Mod w.heap.size p w w3) := MR.out.trans (Mod.of_below hb3)
      have N3 : Hid (Nums w3 w.heap.size v' (l ++ [t])) := hN3
      clear hN3 hb3 hk3 AR MR HN
      refine (belowS w3 p 21 (by omega) (by omega) A3.out).mono ?_
      rintro e w4 ⟨v4, rfl, ⟨v40, v41⟩, hA, hm⟩
      have A4 : Hid (AtS w4 p) := hA
      have M4 : Hid (Mod w.heap.size p w w4) := M3.out.trans (hm.mono M3.out.size)
      have N4 : Hid (Nums w4 w.heap.size v' (l ++ [t])) := N3.out.mod hm HP.out (Nat.le_refl _)
      clear hA hm A3 M3 N3
      go_wp2_with fail
      refine (once_some w4 p 20 (by omega) A4.out).mono ?_
      rintro e w5 ⟨b5, rfl, hA, hm⟩
      have A5 : Hid (AtS w5 p) := hA
      have M5 : Hid (Mod w.heap.size p w w5) := M4.out.trans (hm.mono M4.out.size)
      have N5 : Hid (Nums w5 w.heap.size v' (l ++ [t])) := N4.out.mod hm HP.out (Nat.le_refl _)
      clear hA hm A4 M4 N4
      cases b5
      · go_wp2_with fail
        go_roundw
        case rel => exact ⟨k - 1, _, l ++ [t], ⟨by have := HK.out; simp; omega, by simp; omega⟩, by go_num, rfl, N5.out, A5.out, M5.out⟩
        case measure => simp [intOf]; omega
      · have hal : Below w5.heap.size w5 (w5.alloc (.cells #[.int .i64 1099511627776, .int .i64 (-1099511627776), .int .i64 1099511627777, .int .i64 0] 3)) := (Below.refl _ _).alloc (Nat.le_refl _) _
        have K6 : Hid (Blk (w5.alloc (.cells #[.int .i64 1099511627776, .int .i64 (-1099511627776), .int .i64 1099511627777, .int .i64 0] 3)) w5.heap.size #[.int .i64 1099511627776, .int .i64 (-1099511627776), .int .i64 1099511627777, .int .i64 0] 3) := Blk.new _ _ _
        have A6 : Hid (AtS (w5.alloc (.cells #[.int .i64 1099511627776, .int .i64 (-1099511627776), .int .i64 1099511627777, .int .i64 0] 3)) p) := A5.out.below hal A5.out.lt
        have M6 : Hid (Mod w.heap.size p w (w5.alloc (.cells #[.int .i64 1099511627776, .int .i64 (-1099511627776), .int .i64 1099511627777, .int .i64 0] 3))) := M5.out.alloc M5.out.size _
        have N6 : Hid (Nums (w5.alloc (.cells #[.int .i64 1099511627776, .int .i64 (-1099511627776), .int .i64 1099511627777, .int .i64 0] 3)) w.heap.size v' (l ++ [t])) := N5.out.alloc _
        have Z6 : Hid (w5.heap.size ≠ p) := by have := A5.out.lt; unfold Hid; omega
        go_wp2_with fail
        generalize w5.alloc (.cells #[.int .i64 1099511627776, .int .i64 (-1099511627776), .int .i64 1099511627777, .int .i64 0] 3) = w6 at *
        refine (pickS w6 p w5.heap.size [1099511627776, -1099511627776, 1099511627777, 0] 4 rfl (by omega) (by omega) (fun _ => True) True.intro (fun _ _ => True.intro) A6.out Z6.out K6.out).mono ?_
        rintro e w7 ⟨v7, rfl, _, hA, hm⟩
        have A7 : Hid (AtS w7 p) := hA
        have M7 : Hid (Mod w.heap.size p w w7) := M6.out.trans (hm.mono M6.out.size)
        have N7 : Hid (Nums w7 w.heap.size v' (l ++ [t])) := N6.out.mod hm HP.out (Nat.le_refl _)
        clear hA hm A6 M6 N6 K6 A5 M5 N5 hal
        go_wp2_with fail
        go_roundw
        case rel => exact ⟨k - 1, _, l ++ [t], ⟨by have := HK.out; simp; omega, by simp; omega⟩, by go_num, rfl, N7.out, A7.out, M7.out⟩
        case measure => simp [intOf]; omega
    · obtain rfl : k = 0 := by omega
      go_wp2_with fail
      go_ret
      exact ⟨_, l, rfl, HN.out, by have := HK.out; omega, AR.out, MR.out⟩
end Go.Proofs.YtlknemfnacnleaaDoor

/-
  What is drawn: contract of spec.l7Times: some row of one number at least, whatever the code.
-/
namespace Go.Proofs.YtlknemfnacnleaaDoor
open Go.ChangeShapes Go.WideShapes Go.ChangeAt Go.RowKit Go.PlainAid
set_option linter.unusedVariables false

/-- A slice's length. -/
def lenV : Value → Nat
  | .slice _ l _ => l
  | _ => 0
set_option maxHeartbeats 16000000 in
theorem times_any (w : World) (p : Nat) (most : Int) (hm0 : 1 ≤ most) (hm1 : most ≤ 500) (h : AtS w p) : Calls Tryd.prog 73 #[.pointer (some ⟨p, 0, none⟩), .int .i64 most] w (DrawnL w p) := by
  have HP : Hid (p < w.heap.size) := h.lt
  have hal : Below w.heap.size w (w.alloc (.cells #[] 3)) := (Below.refl _ _).alloc (Nat.le_refl _) _
  have N0 : Hid (Nums (w.alloc (.cells #[] 3)) w.heap.size (.slice (some ⟨w.heap.size, 0, none⟩) 0 0) []) := Nums.empty w w.heap.size (Nat.le_refl _)
  have A0 : Hid (AtS (w.alloc (.cells #[] 3)) p) := h.below hal h.lt
  have M0 : Hid (Mod w.heap.size p w (w.alloc (.cells #[] 3))) := Mod.of_below hal
  clear hal h
  go_enter Tryd.func73, Tryd.ntmps73
  go_wp2_with fail
  generalize w.alloc (.cells #[] 3) = w0 at *
  refine (belowS w0 p 400 (by omega) (by omega) A0.out).mono ?_
  rintro e w1 ⟨t1, rfl, ⟨v10, v11⟩, hA, hm⟩
  have A1 : Hid (AtS w1 p) := hA
  have M1 : Hid (Mod w.heap.size p w w1) := M0.out.trans (hm.mono M0.out.size)
  have N1 : Hid (Nums w1 w.heap.size (.slice (some ⟨w.heap.size, 0, none⟩) 0 0) []) := N0.out.mod hm HP.out (Nat.le_refl _)
  clear hA hm A0 M0 N0 v10 v11
  go_wp2_with fail
  refine (once_some w1 p 12 (by omega) A1.out).mono ?_
  rintro e w2 ⟨b2, rfl, hA, hm⟩
  have A2 : Hid (AtS w2 p) := hA
  have M2 : Hid (Mod w.heap.size p w w2) := M1.out.trans (hm.mono M1.out.size)
  have N2 : Hid (Nums w2 w.heap.size (.slice (some ⟨w.heap.size, 0, none⟩) 0 0) []) := N1.out.mod hm HP.out (Nat.le_refl _)
  clear hA hm A1 M1 N1
  cases b2
  rotate_left
  · go_wp2_with fail
    refine (belowS w2 p 300 (by omega) (by omega) A2.out).mono ?_
    rintro e w2' ⟨t2, rfl, _, hA, hm⟩
    have A2' : Hid (AtS w2' p) := hA
    have M2' : Hid (Mod w.heap.size p w w2') := M2.out.trans (hm.mono M2.out.size)
    have N2' : Hid (Nums w2' w.heap.size (.slice (some ⟨w.heap.size, 0, none⟩) 0 0) []) := N2.out.mod hm HP.out (Nat.le_refl _)
    clear hA hm A2 M2 N2
    go_wp2_with fail
    refine (belowS w2' p 40 (by omega) (by omega) A2'.out).mono ?_
    rintro e w3 ⟨v3, rfl, _, hA, hm⟩
    have A3 : Hid (AtS w3 p) := hA
    have M3 : Hid (Mod w.heap.size p w w3) := M2'.out.trans (hm.mono M2'.out.size)
    have N3 : Hid (Nums w3 w.heap.size (.slice (some ⟨w.heap.size, 0, none⟩) 0 0) []) := N2'.out.mod hm HP.out (Nat.le_refl _)
    clear hA hm A2' M2' N2'
    go_wp2_with fail
    refine (belowS w3 p most (by omega) (by omega) A3.out).mono ?_
    rintro e w4 ⟨v4, rfl, ⟨v40, v41⟩, hA, hm⟩
    have A4 : Hid (AtS w4 p) := hA
    have M4 : Hid (Mod w.heap.size p w w4) := M3.out.trans (hm.mono M3.out.size)
    have N4 : Hid (Nums w4 w.heap.size (.slice (some ⟨w.heap.size, 0, none⟩) 0 0) []) := N3.out.mod hm HP.out (Nat.le_refl _)
    obtain ⟨n4, rfl⟩ : ∃ n : Nat, v4 = (n : Int) := ⟨v4.toNat, by omega⟩
    clear hA hm A3 M3 N3
    go_wp2_with fail
    go_loopw [5, 6, 8] (fun v5 v6 v8 wr => ∃ (k : Nat) (t : Int) (l : List Int), l.length + k ≤ 501 ∧ 1 ≤ l.length + k ∧ v8 = .int .i64 (k : Int) ∧ v6 = .int .i64 t ∧ Nums wr w.heap.size v5 l ∧ AtS wr p ∧ Mod w.heap.size p w wr) (fun _ _ i _ => (intOf i).toNat)
    case atStart => exact ⟨n4 + 1, _, [], by simp; omega, by simp, by go_num, rfl, N4.out, A4.out, M4.out⟩
    case round =>
      obtain ⟨k, t, l, hk, hk1, rfl, rfl, hN, hA, hM⟩ := hrel
      have HN : Hid (Nums wr w.heap.size _ l) := hN
      obtain ⟨A, c, rfl, _, _⟩ := hN.shape
      have AR : Hid (AtS wr p) := hA
      have MR : Hid (Mod w.heap.size p w wr) := hM
      have HK : Hid (l.length + k ≤ 501 ∧ 1 ≤ l.length + k) := ⟨hk, hk1⟩
      have q1 : (k : Int) ≤ 501 := by omega
      clear hN hA hM hk hk1
      by_cases hlt : 0 < k
      · have q2 : (0 : Int) < (k : Int) := by omega
        go_wp2_with (at_builtin; refine wpList_append_num rfl (.tmp 29) (.tmp 31) 41 rfl Tryd.underlying41 Tryd.infoInt w.heap.size _ l rfl HN.out t rfl (by have := HK.out; omega) MR.out.size ?_; intro v' w5 hN5 hb5 hk5)
        have A5 : Hid (AtS w5 p) := AR.out.below hb5 HP.out
        have M5 : Hid (Mod w.heap.size p w w5) := MR.out.trans (Mod.of_below hb5)
        have N5 : Hid (Nums w5 w.heap.size v' (l ++ [t])) := hN5
        clear hN5 hb5 hk5 AR MR HN
        refine (once_some w5 p 3 (by omega) A5.out).mono ?_
        rintro e w6 ⟨b6, rfl, hA, hm⟩
        have A6 : Hid (AtS w6 p) := hA
        have M6 : Hid (Mod w.heap.size p w w6) := M5.out.trans (hm.mono M5.out.size)
        have N6 : Hid (Nums w6 w.heap.size v' (l ++ [t])) := N5.out.mod hm HP.out (Nat.le_refl _)
        clear hA hm A5 M5 N5
        cases b6
        · go_wp2_with fail
          go_roundw
          case rel => exact ⟨k - 1, _, l ++ [t], by have := HK.out; simp; omega, by simp; omega, by go_num, rfl, N6.out, A6.out, M6.out⟩
          case measure => simp [intOf]; omega
        · go_wp2_with fail
          refine (belowS w6 p 60 (by omega) (by omega) A6.out).mono ?_
          rintro e w7 ⟨v7, rfl, _, hA, hm⟩
          have A7 : Hid (AtS w7 p) := hA
          have M7 : Hid (Mod w.heap.size p w w7) := M6.out.trans (hm.mono M6.out.size)
          have N7 : Hid (Nums w7 w.heap.size v' (l ++ [t])) := N6.out.mod hm HP.out (Nat.le_refl _)
          clear hA hm A6 M6 N6
          go_wp2_with fail
          go_roundw
          case rel => exact ⟨k - 1, _, l ++ [t], by have := HK.out; simp; omega, by simp; omega, by go_num, rfl, N7.out, A7.out, M7.out⟩
          case measure => simp [intOf]; omega
      · obtain rfl : k = 0 := by omega
        have HL : Hid (1 ≤ l.length ∧ l.length ≤ 501) := ⟨by have := HK.out; omega, by have := HK.out; omega⟩
        clear HK hlt q1
        obtain ⟨gl, rfl, hgl, hgl2⟩ := HN.out.block (by have := HL.out; omega)
        have HGL : Hid (w.heap.size ≤ gl) := hgl
        clear hgl hgl2
        have q3 : (1 : Int) ≤ (l.length : Int) := by have := HL.out; omega
        have q4 : (l.length : Int) ≤ 501 := by have := HL.out; omega
        go_wp2_with fail
        refine (once_some wr p 10 (by omega) AR.out).mono ?_
        rintro e w8 ⟨b8, rfl, hA, hm⟩
        have A8 : Hid (AtS w8 p) := hA
        have M8 : Hid (Mod w.heap.size p w w8) := MR.out.trans (hm.mono MR.out.size)
        have N8 : Hid (Nums w8 w.heap.size (.slice (some ⟨gl, 0, none⟩) l.length c) l) := HN.out.mod hm HP.out (Nat.le_refl _)
        clear hA hm AR MR HN
        cases b8
        rotate_left
        · have hal : Below w8.heap.size w8 (w8.alloc (.cells #[.int .i64 (-1), .int .i64 0, .int .i64 1099511627776, .int .i64 1099511627777, .int .i64 100] 3)) := (Below.refl _ _).alloc (Nat.le_refl _) _
          have K9 : Hid (Blk (w8.alloc (.cells #[.int .i64 (-1), .int .i64 0, .int .i64 1099511627776, .int .i64 1099511627777, .int .i64 100] 3)) w8.heap.size #[.int .i64 (-1), .int .i64 0, .int .i64 1099511627776, .int .i64 1099511627777, .int .i64 100] 3) := Blk.new _ _ _
          have A9 : Hid (AtS (w8.alloc (.cells #[.int .i64 (-1), .int .i64 0, .int .i64 1099511627776, .int .i64 1099511627777, .int .i64 100] 3)) p) := A8.out.below hal A8.out.lt
          have M9 : Hid (Mod w.heap.size p w (w8.alloc (.cells #[.int .i64 (-1), .int .i64 0, .int .i64 1099511627776, .int .i64 1099511627777, .int .i64 100] 3))) := M8.out.alloc M8.out.size _
          have N9 : Hid (Nums (w8.alloc (.cells #[.int .i64 (-1), .int .i64 0, .int .i64 1099511627776, .int .i64 1099511627777, .int .i64 100] 3)) w.heap.size (.slice (some ⟨gl, 0, none⟩) l.length c) l) := N8.out.alloc _
          have Z9 : Hid (w8.heap.size ≠ p) := by have := A8.out.lt; unfold Hid; omega
          go_wp2_with fail
          generalize w8.alloc (.cells #[.int .i64 (-1), .int .i64 0, .int .i64 1099511627776, .int .i64 1099511627777, .int .i64 100] 3) = w9 at *
          refine (pickS w9 p w8.heap.size [-1, 0, 1099511627776, 1099511627777, 100] 5 rfl (by omega) (by omega) (fun _ => True) True.intro (fun _ _ => True.intro) A9.out Z9.out K9.out).mono ?_
          rintro e wa ⟨va, rfl, _, hA, hm⟩
          have Aa : Hid (AtS wa p) := hA
          have Ma : Hid (Mod w.heap.size p w wa) := M9.out.trans (hm.mono M9.out.size)
          have hNa := N9.out.mod hm HP.out (Nat.le_refl _)
          clear hA hm A9 M9 N9 K9 A8 M8 N8 hal
          have hl1 : l.length - 1 < l.length := by have := HL.out; omega
          have e1 := hNa.cell (l.length - 1) hl1
          have e2 := hNa.frozen (l.length - 1)
          have hS := hNa.stored (l.length - 1) va
          have e3 : ((l.length : Int) - 1).toNat = l.length - 1 := by have := HL.out; omega
          have Nb : Hid (Nums (wa.setCell ⟨gl, l.length - 1, none⟩ (.int .i64 va)) w.heap.size (.slice (some ⟨gl, 0, none⟩) l.length c) (l.set (l.length - 1) va)) := hS
          have hbb : Below w.heap.size wa (wa.setCell ⟨gl, l.length - 1, none⟩ (.int .i64 va)) := (Below.refl _ _).setCell HGL.out _
          have Ab : Hid (AtS (wa.setCell ⟨gl, l.length - 1, none⟩ (.int .i64 va)) p) := Aa.out.below hbb HP.out
          have Mb : Hid (Mod w.heap.size p w (wa.setCell ⟨gl, l.length - 1, none⟩ (.int .i64 va))) := Ma.out.trans (Mod.of_below hbb)
          have HLb : Hid (1 ≤ (l.set (l.length - 1) va).length ∧ (l.set (l.length - 1) va).length ≤ 501) := by unfold Hid; rw [List.length_set]; exact HL.out
          generalize l.getD (l.length - 1) 0 = xl at *
          clear hNa hS hbb hl1 Aa Ma
          go_wp2_with fail
          generalize wa.setCell ⟨gl, l.length - 1, none⟩ (.int .i64 va) = wb at *
          generalize l.set (l.length - 1) va = lb at *
          refine (once_some wb p 40 (by omega) Ab.out).mono ?_
          rintro e wc ⟨bc, rfl, hA, hm⟩
          have Ac : Hid (AtS wc p) := hA
          have Mc : Hid (Mod w.heap.size p w wc) := Mb.out.trans (hm.mono Mb.out.size)
          have Nc : Hid (Nums wc w.heap.size (.slice (some ⟨gl, 0, none⟩) l.length c) lb) := Nb.out.mod hm HP.out (Nat.le_refl _)
          clear hA hm
          cases bc
          · go_wp2_with fail
            go_ret
            exact ⟨_, lb, rfl, Nc.out, by have := HLb.out; omega, Ac.out, Mc.out⟩
          go_wp2_with fail
          refine (belowS wc p 2 (by omega) (by omega) Ac.out).mono ?_
          rintro e wd ⟨vd, rfl, ⟨vd0, vd1⟩, hA, hm⟩
          have Ad : Hid (AtS wd p) := hA
          have Md : Hid (Mod w.heap.size p w wd) := Mc.out.trans (hm.mono Mc.out.size)
          obtain ⟨nd, rfl⟩ : ∃ n : Nat, vd = (n : Int) := ⟨vd.toNat, by omega⟩
          clear hA hm Ac Mc Nc
          have hal : Below wd.heap.size wd (wd.alloc (.cells #[] 3)) := (Below.refl _ _).alloc (Nat.le_refl _) _
          have Ne : Hid (Nums (wd.alloc (.cells #[] 3)) w.heap.size (.slice (some ⟨wd.heap.size, 0, none⟩) 0 0) []) := Nums.empty wd w.heap.size Md.out.size
          have Ae : Hid (AtS (wd.alloc (.cells #[] 3)) p) := Ad.out.below hal Ad.out.lt
          have Me : Hid (Mod w.heap.size p w (wd.alloc (.cells #[] 3))) := Md.out.alloc Md.out.size _
          clear hal Ad Md
          go_wp2_with fail
          generalize wd.alloc (.cells #[] 3) = we at *
          go_loopw [5] (fun v5 wr => ∃ (l : List Int), l.length ≤ 60 + nd ∧ Nums wr w.heap.size v5 l ∧ AtS wr p ∧ Mod w.heap.size p w wr) (fun i _ => 100 - lenV i)
          case atStart => exact ⟨[], by simp, Ne.out, Ae.out, Me.out⟩
          case round =>
            obtain ⟨l, hl, hN, hA, hM⟩ := hrel
            have HN : Hid (Nums wr w.heap.size _ l) := hN
            obtain ⟨A, c, rfl, _, _⟩ := hN.shape
            have AR : Hid (AtS wr p) := hA
            have MR : Hid (Mod w.heap.size p w wr) := hM
            have HL2 : Hid (l.length ≤ 60 + nd) := hl
            have q7 : (l.length : Int) ≤ 62 := by omega
            have q8 : (nd : Int) ≤ 1 := by omega
            clear hN hA hM
            by_cases hlt : l.length < 60 + nd
            · have q9 : (l.length : Int) < 60 + (nd : Int) := by omega
              go_wp2_with (at_builtin; refine wpList_append_num rfl (.tmp 62) (.tmp 66) 41 rfl Tryd.underlying41 Tryd.infoInt w.heap.size _ l rfl HN.out (3 * (l.length : Int)) rfl (by have := HL2.out; omega) MR.out.size ?_; intro v' wf hNf hbf hkf)
              go_roundw
              case rel => exact ⟨l ++ [3 * (l.length : Int)], by simp; omega, hNf, AR.out.below hbf HP.out, MR.out.trans (Mod.of_below hbf)⟩
              case measure =>
                obtain ⟨Af, cf, rfl, _, _⟩ := hNf.shape
                simp [lenV]
                omega
            · have q9 : (60 : Int) + (nd : Int) ≤ (l.length : Int) := by omega
              go_wp2_with fail
              go_ret
              exact ⟨_, l, rfl, HN.out, by have := HL2.out; omega, AR.out, MR.out⟩
        · have HLb : Hid (1 ≤ l.length ∧ l.length ≤ 501) := HL.out
          go_wp2_with fail
          refine (once_some w8 p 40 (by omega) A8.out).mono ?_
          rintro e wc ⟨bc, rfl, hA, hm⟩
          have Ac : Hid (AtS wc p) := hA
          have Mc : Hid (Mod w.heap.size p w wc) := M8.out.trans (hm.mono M8.out.size)
          have Nc : Hid (Nums wc w.heap.size (.slice (some ⟨gl, 0, none⟩) l.length c) l) := N8.out.mod hm HP.out (Nat.le_refl _)
          clear hA hm
          cases bc
          · go_wp2_with fail
            go_ret
            exact ⟨_, l, rfl, Nc.out, by have := HLb.out; omega, Ac.out, Mc.out⟩
          go_wp2_with fail
          refine (belowS wc p 2 (by omega) (by omega) Ac.out).mono ?_
          rintro e wd ⟨vd, rfl, ⟨vd0, vd1⟩, hA, hm⟩
          have Ad : Hid (AtS wd p) := hA
          have Md : Hid (Mod w.heap.size p w wd) := Mc.out.trans (hm.mono Mc.out.size)
          obtain ⟨nd, rfl⟩ : ∃ n : Nat, vd = (n : Int) := ⟨vd.toNat, by omega⟩
          clear hA hm Ac Mc Nc
          have hal : Below wd.heap.size wd (wd.alloc (.cells #[] 3)) := (Below.refl _ _).alloc (Nat.le_refl _) _
          have Ne : Hid (Nums (wd.alloc (.cells #[] 3)) w.heap.size (.slice (some ⟨wd.heap.size, 0, none⟩) 0 0) []) := Nums.empty wd w.heap.size Md.out.size
          have Ae : Hid (AtS (wd.alloc (.cells #[] 3)) p) := Ad.out.below hal Ad.out.lt
          have Me : Hid (Mod w.heap.size p w (wd.alloc (.cells #[] 3))) := Md.out.alloc Md.out.size _
          clear hal Ad Md
          go_wp2_with fail
          generalize wd.alloc (.cells #[] 3) = we at *
          go_loopw [5] (fun v5 wr => ∃ (l : List Int), l.length ≤ 60 + nd ∧ Nums wr w.heap.size v5 l ∧ AtS wr p ∧ Mod w.heap.size p w wr) (fun i _ => 100 - lenV i)
          case atStart => exact ⟨[], by simp, Ne.out, Ae.out, Me.out⟩
          case round =>
            obtain ⟨l, hl, hN, hA, hM⟩ := hrel
            have HN : Hid (Nums wr w.heap.size _ l) := hN
            obtain ⟨A, c, rfl, _, _⟩ := hN.shape
            have AR : Hid (AtS wr p) := hA
            have MR : Hid (Mod w.heap.size p w wr) := hM
            have HL2 : Hid (l.length ≤ 60 + nd) := hl
            have q7 : (l.length : Int) ≤ 62 := by omega
            have q8 : (nd : Int) ≤ 1 := by omega
            clear hN hA hM
            by_cases hlt : l.length < 60 + nd
            · have q9 : (l.length : Int) < 60 + (nd : Int) := by omega
              go_wp2_with (at_builtin; refine wpList_append_num rfl (.tmp 62) (.tmp 66) 41 rfl Tryd.underlying41 Tryd.infoInt w.heap.size _ l rfl HN.out (3 * (l.length : Int)) rfl (by have := HL2.out; omega) MR.out.size ?_; intro v' wf hNf hbf hkf)
              go_roundw
              case rel => exact ⟨l ++ [3 * (l.length : Int)], by simp; omega, hNf, AR.out.below hbf HP.out, MR.out.trans (Mod.of_below hbf)⟩
              case measure =>
                obtain ⟨Af, cf, rfl, _, _⟩ := hNf.shape
                simp [lenV]
                omega
            · have q9 : (60 : Int) + (nd : Int) ≤ (l.length : Int) := by omega
              go_wp2_with fail
              go_ret
              exact ⟨_, l, rfl, HN.out, by have := HL2.out; omega, AR.out, MR.out⟩
  · go_wp2_with fail
    refine (belowS w2 p 40 (by omega) (by omega) A2.out).mono ?_
    rintro e w3 ⟨v3, rfl, _, hA, hm⟩
    have A3 : Hid (AtS w3 p) := hA
    have M3 : Hid (Mod w.heap.size p w w3) := M2.out.trans (hm.mono M2.out.size)
    have N3 : Hid (Nums w3 w.heap.size (.slice (some ⟨w.heap.size, 0, none⟩) 0 0) []) := N2.out.mod hm HP.out (Nat.le_refl _)
    clear hA hm A2 M2 N2
    go_wp2_with fail
    refine (belowS w3 p most (by omega) (by omega) A3.out).mono ?_
    rintro e w4 ⟨v4, rfl, ⟨v40, v41⟩, hA, hm⟩
    have A4 : Hid (AtS w4 p) := hA
    have M4 : Hid (Mod w.heap.size p w w4) := M3.out.trans (hm.mono M3.out.size)
    have N4 : Hid (Nums w4 w.heap.size (.slice (some ⟨w.heap.size, 0, none⟩) 0 0) []) := N3.out.mod hm HP.out (Nat.le_refl _)
    obtain ⟨n4, rfl⟩ : ∃ n : Nat, v4 = (n : Int) := ⟨v4.toNat, by omega⟩
    clear hA hm A3 M3 N3
    go_wp2_with fail
    go_loopw [5, 6, 8] (fun v5 v6 v8 wr => ∃ (k : Nat) (t : Int) (l : List Int), l.length + k ≤ 501 ∧ 1 ≤ l.length + k ∧ v8 = .int .i64 (k : Int) ∧ v6 = .int .i64 t ∧ Nums wr w.heap.size v5 l ∧ AtS wr p ∧ Mod w.heap.size p w wr) (fun _ _ i _ => (intOf i).toNat)
    case atStart => exact ⟨n4 + 1, _, [], by simp; omega, by simp, by go_num, rfl, N4.out, A4.out, M4.out⟩
    case round =>
      obtain ⟨k, t, l, hk, hk1, rfl, rfl, hN, hA, hM⟩ := hrel
      have HN : Hid (Nums wr w.heap.size _ l) := hN
      obtain ⟨A, c, rfl, _, _⟩ := hN.shape
      have AR : Hid (AtS wr p) := hA
      have MR : Hid (Mod w.heap.size p w wr) := hM
      have HK : Hid (l.length + k ≤ 501 ∧ 1 ≤ l.length + k) := ⟨hk, hk1⟩
      have q1 : (k : Int) ≤ 501 := by omega
      clear hN hA hM hk hk1
      by_cases hlt : 0 < k
      · have q2 : (0 : Int) < (k : Int) := by omega
        go_wp2_with (at_builtin; refine wpList_append_num rfl (.tmp 29) (.tmp 31) 41 rfl Tryd.underlying41 Tryd.infoInt w.heap.size _ l rfl HN.out t rfl (by have := HK.out; omega) MR.out.size ?_; intro v' w5 hN5 hb5 hk5)
        have A5 : Hid (AtS w5 p) := AR.out.below hb5 HP.out
        have M5 : Hid (Mod w.heap.size p w w5) := MR.out.trans (Mod.of_below hb5)
        have N5 : Hid (Nums w5 w.heap.size v' (l ++ [t])) := hN5
        clear hN5 hb5 hk5 AR MR HN
        refine (once_some w5 p 3 (by omega) A5.out).mono ?_
        rintro e w6 ⟨b6, rfl, hA, hm⟩
        have A6 : Hid (AtS w6 p) := hA
        have M6 : Hid (Mod w.heap.size p w w6) := M5.out.trans (hm.mono M5.out.size)
        have N6 : Hid (Nums w6 w.heap.size v' (l ++ [t])) := N5.out.mod hm HP.out (Nat.le_refl _)
        clear hA hm A5 M5 N5
        cases b6
        · go_wp2_with fail
          go_roundw
          case rel => exact ⟨k - 1, _, l ++ [t], by have := HK.out; simp; omega, by simp; omega, by go_num, rfl, N6.out, A6.out, M6.out⟩
          case measure => simp [intOf]; omega
        · go_wp2_with fail
          refine (belowS w6 p 60 (by omega) (by omega) A6.out).mono ?_
          rintro e w7 ⟨v7, rfl, _, hA, hm⟩
          have A7 : Hid (AtS w7 p) := hA
          have M7 : Hid (Mod w.heap.size p w w7) := M6.out.trans (hm.mono M6.out.size)
          have N7 : Hid (Nums w7 w.heap.size v' (l ++ [t])) := N6.out.mod hm HP.out (Nat.le_refl _)
          clear hA hm A6 M6 N6
          go_wp2_with fail
          go_roundw
          case rel => exact ⟨k - 1, _, l ++ [t], by have := HK.out; simp; omega, by simp; omega, by go_num, rfl, N7.out, A7.out, M7.out⟩
          case measure => simp [intOf]; omega
      · obtain rfl : k = 0 := by omega
        have HL : Hid (1 ≤ l.length ∧ l.length ≤ 501) := ⟨by have := HK.out; omega, by have := HK.out; omega⟩
        clear HK hlt q1
        obtain ⟨gl, rfl, hgl, hgl2⟩ := HN.out.block (by have := HL.out; omega)
        have HGL : Hid (w.heap.size ≤ gl) := hgl
        clear hgl hgl2
        have q3 : (1 : Int) ≤ (l.length : Int) := by have := HL.out; omega
        have q4 : (l.length : Int) ≤ 501 := by have := HL.out; omega
        go_wp2_with fail
        refine (once_some wr p 10 (by omega) AR.out).mono ?_
        rintro e w8 ⟨b8, rfl, hA, hm⟩
        have A8 : Hid (AtS w8 p) := hA
        have M8 : Hid (Mod w.heap.size p w w8) := MR.out.trans (hm.mono MR.out.size)
        have N8 : Hid (Nums w8 w.heap.size (.slice (some ⟨gl, 0, none⟩) l.length c) l) := HN.out.mod hm HP.out (Nat.le_refl _)
        clear hA hm AR MR HN
        cases b8
        rotate_left
        · have hal : Below w8.heap.size w8 (w8.alloc (.cells #[.int .i64 (-1), .int .i64 0, .int .i64 1099511627776, .int .i64 1099511627777, .int .i64 100] 3)) := (Below.refl _ _).alloc (Nat.le_refl _) _
          have K9 : Hid (Blk (w8.alloc (.cells #[.int .i64 (-1), .int .i64 0, .int .i64 1099511627776, .int .i64 1099511627777, .int .i64 100] 3)) w8.heap.size #[.int .i64 (-1), .int .i64 0, .int .i64 1099511627776, .int .i64 1099511627777, .int .i64 100] 3) := Blk.new _ _ _
          have A9 : Hid (AtS (w8.alloc (.cells #[.int .i64 (-1), .int .i64 0, .int .i64 1099511627776, .int .i64 1099511627777, .int .i64 100] 3)) p) := A8.out.below hal A8.out.lt
          have M9 : Hid (Mod w.heap.size p w (w8.alloc (.cells #[.int .i64 (-1), .int .i64 0, .int .i64 1099511627776, .int .i64 1099511627777, .int .i64 100] 3))) := M8.out.alloc M8.out.size _
          have N9 : Hid (Nums (w8.alloc (.cells #[.int .i64 (-1), .int .i64 0, .int .i64 1099511627776, .int .i64 1099511627777, .int .i64 100] 3)) w.heap.size (.slice (some ⟨gl, 0, none⟩) l.length c) l) := N8.out.alloc _
          have Z9 : Hid (w8.heap.size ≠ p) := by have := A8.out.lt; unfold Hid; omega
          go_wp2_with fail
          generalize w8.alloc (.cells #[.int .i64 (-1), .int .i64 0, .int .i64 1099511627776, .int .i64 1099511627777, .int .i64 100] 3) = w9 at *
          refine (pickS w9 p w8.heap.size [-1, 0, 1099511627776, 1099511627777, 100] 5 rfl (by omega) (by omega) (fun _ => True) True.intro (fun _ _ => True.intro) A9.out Z9.out K9.out).mono ?_
          rintro e wa ⟨va, rfl, _, hA, hm⟩
          have Aa : Hid (AtS wa p) := hA
          have Ma : Hid (Mod w.heap.size p w wa) := M9.out.trans (hm.mono M9.out.size)
          have hNa := N9.out.mod hm HP.out (Nat.le_refl _)
          clear hA hm A9 M9 N9 K9 A8 M8 N8 hal
          have hl1 : l.length - 1 < l.length := by have := HL.out; omega
          have e1 := hNa.cell (l.length - 1) hl1
          have e2 := hNa.frozen (l.length - 1)
          have hS := hNa.stored (l.length - 1) va
          have e3 : ((l.length : Int) - 1).toNat = l.length - 1 := by have := HL.out; omega
          have Nb : Hid (Nums (wa.setCell ⟨gl, l.length - 1, none⟩ (.int .i64 va)) w.heap.size (.slice (some ⟨gl, 0, none⟩) l.length c) (l.set (l.length - 1) va)) := hS
          have hbb : Below w.heap.size wa (wa.setCell ⟨gl, l.length - 1, none⟩ (.int .i64 va)) := (Below.refl _ _).setCell HGL.out _
          have Ab : Hid (AtS (wa.setCell ⟨gl, l.length - 1, none⟩ (.int .i64 va)) p) := Aa.out.below hbb HP.out
          have Mb : Hid (Mod w.heap.size p w (wa.setCell ⟨gl, l.length - 1, none⟩ (.int .i64 va))) := Ma.out.trans (Mod.of_below hbb)
          have HLb : Hid (1 ≤ (l.set (l.length - 1) va).length ∧ (l.set (l.length - 1) va).length ≤ 501) := by unfold Hid; rw [List.length_set]; exact HL.out
          generalize l.getD (l.length - 1) 0 = xl at *
          clear hNa hS hbb hl1 Aa Ma
          go_wp2_with fail
          generalize wa.setCell ⟨gl, l.length - 1, none⟩ (.int .i64 va) = wb at *
          generalize l.set (l.length - 1) va = lb at *
          refine (once_some wb p 40 (by omega) Ab.out).mono ?_
          rintro e wc ⟨bc, rfl, hA, hm⟩
          have Ac : Hid (AtS wc p) := hA
          have Mc : Hid (Mod w.heap.size p w wc) := Mb.out.trans (hm.mono Mb.out.size)
          have Nc : Hid (Nums wc w.heap.size (.slice (some ⟨gl, 0, none⟩) l.length c) lb) := Nb.out.mod hm HP.out (Nat.le_refl _)
          clear hA hm
          cases bc
          · go_wp2_with fail
            go_ret
            exact ⟨_, lb, rfl, Nc.out, by have := HLb.out; omega, Ac.out, Mc.out⟩
          go_wp2_with fail
          refine (belowS wc p 2 (by omega) (by omega) Ac.out).mono ?_
          rintro e wd ⟨vd, rfl, ⟨vd0, vd1⟩, hA, hm⟩
          have Ad : Hid (AtS wd p) := hA
          have Md : Hid (Mod w.heap.size p w wd) := Mc.out.trans (hm.mono Mc.out.size)
          obtain ⟨nd, rfl⟩ : ∃ n : Nat, vd = (n : Int) := ⟨vd.toNat, by omega⟩
          clear hA hm Ac Mc Nc
          have hal : Below wd.heap.size wd (wd.alloc (.cells #[] 3)) := (Below.refl _ _).alloc (Nat.le_refl _) _
          have Ne : Hid (Nums (wd.alloc (.cells #[] 3)) w.heap.size (.slice (some ⟨wd.heap.size, 0, none⟩) 0 0) []) := Nums.empty wd w.heap.size Md.out.size
          have Ae : Hid (AtS (wd.alloc (.cells #[] 3)) p) := Ad.out.below hal Ad.out.lt
          have Me : Hid (Mod w.heap.size p w (wd.alloc (.cells #[] 3))) := Md.out.alloc Md.out.size _
          clear hal Ad Md
          go_wp2_with fail
          generalize wd.alloc (.cells #[] 3) = we at *
          go_loopw [5] (fun v5 wr => ∃ (l : List Int), l.length ≤ 60 + nd ∧ Nums wr w.heap.size v5 l ∧ AtS wr p ∧ Mod w.heap.size p w wr) (fun i _ => 100 - lenV i)
          case atStart => exact ⟨[], by simp, Ne.out, Ae.out, Me.out⟩
          case round =>
            obtain ⟨l, hl, hN, hA, hM⟩ := hrel
            have HN : Hid (Nums wr w.heap.size _ l) := hN
            obtain ⟨A, c, rfl, _, _⟩ := hN.shape
            have AR : Hid (AtS wr p) := hA
            have MR : Hid (Mod w.heap.size p w wr) := hM
            have HL2 : Hid (l.length ≤ 60 + nd) := hl
            have q7 : (l.length : Int) ≤ 62 := by omega
            have q8 : (nd : Int) ≤ 1 := by omega
            clear hN hA hM
            by_cases hlt : l.length < 60 + nd
            · have q9 : (l.length : Int) < 60 + (nd : Int) := by omega
              go_wp2_with (at_builtin; refine wpList_append_num rfl (.tmp 62) (.tmp 66) 41 rfl Tryd.underlying41 Tryd.infoInt w.heap.size _ l rfl HN.out (3 * (l.length : Int)) rfl (by have := HL2.out; omega) MR.out.size ?_; intro v' wf hNf hbf hkf)
              go_roundw
              case rel => exact ⟨l ++ [3 * (l.length : Int)], by simp; omega, hNf, AR.out.below hbf HP.out, MR.out.trans (Mod.of_below hbf)⟩
              case measure =>
                obtain ⟨Af, cf, rfl, _, _⟩ := hNf.shape
                simp [lenV]
                omega
            · have q9 : (60 : Int) + (nd : Int) ≤ (l.length : Int) := by omega
              go_wp2_with fail
              go_ret
              exact ⟨_, l, rfl, HN.out, by have := HL2.out; omega, AR.out, MR.out⟩
        · have HLb : Hid (1 ≤ l.length ∧ l.length ≤ 501) := HL.out
          go_wp2_with fail
          refine (once_some w8 p 40 (by omega) A8.out).mono ?_
          rintro e wc ⟨bc, rfl, hA, hm⟩
          have Ac : Hid (AtS wc p) := hA
          have Mc : Hid (Mod w.heap.size p w wc) := M8.out.trans (hm.mono M8.out.size)
          have Nc : Hid (Nums wc w.heap.size (.slice (some ⟨gl, 0, none⟩) l.length c) l) := N8.out.mod hm HP.out (Nat.le_refl _)
          clear hA hm
          cases bc
          · go_wp2_with fail
            go_ret
            exact ⟨_, l, rfl, Nc.out, by have := HLb.out; omega, Ac.out, Mc.out⟩
          go_wp2_with fail
          refine (belowS wc p 2 (by omega) (by omega) Ac.out).mono ?_
          rintro e wd ⟨vd, rfl, ⟨vd0, vd1⟩, hA, hm⟩
          have Ad : Hid (AtS wd p) := hA
          have Md : Hid (Mod w.heap.size p w wd) := Mc.out.trans (hm.mono Mc.out.size)
          obtain ⟨nd, rfl⟩ : ∃ n : Nat, vd = (n : Int) := ⟨vd.toNat, by omega⟩
          clear hA hm Ac Mc Nc
          have hal : Below wd.heap.size wd (wd.alloc (.cells #[] 3)) := (Below.refl _ _).alloc (Nat.le_refl _) _
          have Ne : Hid (Nums (wd.alloc (.cells #[] 3)) w.heap.size (.slice (some ⟨wd.heap.size, 0, none⟩) 0 0) []) := Nums.empty wd w.heap.size Md.out.size
          have Ae : Hid (AtS (wd.alloc (.cells #[] 3)) p) := Ad.out.below hal Ad.out.lt
          have Me : Hid (Mod w.heap.size p w (wd.alloc (.cells #[] 3))) := Md.out.alloc Md.out.size _
          clear hal Ad Md
          go_wp2_with fail
          generalize wd.alloc (.cells #[] 3) = we at *
          go_loopw [5] (fun v5 wr => ∃ (l : List Int), l.length ≤ 60 + nd ∧ Nums wr w.heap.size v5 l ∧ AtS wr p ∧ Mod w.heap.size p w wr) (fun i _ => 100 - lenV i)
          case atStart => exact ⟨[], by simp, Ne.out, Ae.out, Me.out⟩
          case round =>
            obtain ⟨l, hl, hN, hA, hM⟩ := hrel
            have HN : Hid (Nums wr w.heap.size _ l) := hN
            obtain ⟨A, c, rfl, _, _⟩ := hN.shape
            have AR : Hid (AtS wr p) := hA
            have MR : Hid (Mod w.heap.size p w wr) := hM
            have HL2 : Hid (l.length ≤ 60 + nd) := hl
            have q7 : (l.length : Int) ≤ 62 := by omega
            have q8 : (nd : Int) ≤ 1 := by omega
            clear hN hA hM
            by_cases hlt : l.length < 60 + nd
            · have q9 : (l.length : Int) < 60 + (nd : Int) := by omega
              go_wp2_with (at_builtin; refine wpList_append_num rfl (.tmp 62) (.tmp 66) 41 rfl Tryd.underlying41 Tryd.infoInt w.heap.size _ l rfl HN.out (3 * (l.length : Int)) rfl (by have := HL2.out; omega) MR.out.size ?_; intro v' wf hNf hbf hkf)
              go_roundw
              case rel => exact ⟨l ++ [3 * (l.length : Int)], by simp; omega, hNf, AR.out.below hbf HP.out, MR.out.trans (Mod.of_below hbf)⟩
              case measure =>
                obtain ⟨Af, cf, rfl, _, _⟩ := hNf.shape
                simp [lenV]
                omega
            · have q9 : (60 : Int) + (nd : Int) ≤ (l.length : Int) := by omega
              go_wp2_with fail
              go_ret
              exact ⟨_, l, rfl, HN.out, by have := HL2.out; omega, AR.out, MR.out⟩
end Go.Proofs.YtlknemfnacnleaaDoor
