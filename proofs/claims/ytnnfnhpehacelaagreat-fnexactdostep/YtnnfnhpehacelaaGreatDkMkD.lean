/-
  Contracts of the laws' own markDisk and heldDisk.
-/
import Derived.Test.YtnnfnhpehacelaaGreatRows
import Derived.Test.YtnnfnhpehacelaaGreatDkHd
import Derived.Lib.OwnKind
namespace Go.Proofs.YtnnfnhpehacelaaGreat
open Go.ChangeShapes Go.WideShapes Go.ChangeAt Go.RowKit Go.PlainAid
set_option linter.unusedVariables false

theorem Owns.apart {w : World} {b b' : Nat} {e e' : TypeId} {sz sz' : Nat} {v u : Value} {R R' : List (List Value)} (h : Owns w b e sz v R) (k : Owns w b' e' sz' u R') (hne : e ≠ e') (g : Nat) (hg : v.ownBlock = some g) : u.ownBlock ≠ some g := by
  intro hu
  obtain ⟨c, fz, e1⟩ := Lib.ownsRow_kind h.2 g hg
  obtain ⟨c', fz', e2⟩ := Lib.ownsRow_kind k.2 g hu
  rw [e1] at e2
  cases e2
  exact hne rfl

/-- Three rows of the call's own, the parts of a disk, in blocks below C. -/
structure Rows3 (w : World) (base C : Nat) (v1 v2 v3 : Value) (R1 R2 R3 : List (List Value)) : Prop where
  o1 : Owns w base 76 3 v1 R1
  o2 : Owns w base 79 2 v2 R2
  o3 : Owns w base 81 4 v3 R3
  c1 : ∀ g, v1.ownBlock = some g → g < C
  c2 : ∀ g, v2.ownBlock = some g → g < C
  c3 : ∀ g, v3.ownBlock = some g → g < C
theorem Rows3.on {w w' : World} {base C : Nat} {v1 v2 v3 : Value} {R1 R2 R3 : List (List Value)} (h : Rows3 w base C v1 v2 v3 R1 R2 R3) (hb : Below w.heap.size w w') : Rows3 w' base C v1 v2 v3 R1 R2 R3 :=
  ⟨h.o1.on hb, h.o2.on hb, h.o3.on hb, h.c1, h.c2, h.c3⟩

set_option maxHeartbeats 2000000 in
theorem markDisk (k base C : Nat) (a b : Int) (v1 v2 v3 : Value) (R1 R2 R3 : List (List Value)) (w : World) (h : Rows3 w base C v1 v2 v3 R1 R2 R3) (l1 : R1.length ≤ 1048576) (l2 : R2.length ≤ 1048576) (l3 : R3.length ≤ 1048576) (h1 : 1 ≤ k) (h2 : k ≤ 1000) (hbase : base ≤ w.heap.size) :
    Calls Tryz.prog 11 #[.agg #[.int .i64 a, .int .i64 b, v1, v2, v3], .int .i64 (k : Int)] w fun e w' => e = .returned (.int .i64 ((k + 3 * R1.length + 2 * R2.length + 4 * R3.length : Nat) : Int)) ∧
      Rows3 w' base C v1 v2 v3 (newR (mkNod k) R1.length) (newR (mkLnk (k + 3 * R1.length)) R2.length) (newR (mkMov (k + 3 * R1.length + 2 * R2.length)) R3.length) ∧ Below base w w' ∧ (∀ g, C ≤ g → g < w.heap.size → w'.heap[g]? = w.heap[g]?) := by
  have H : Hid (Rows3 w base C v1 v2 v3 R1 R2 R3) := h
  have HB : Hid (base ≤ w.heap.size) := hbase
  clear h hbase
  go_enter Tryz.func11, Tryz.ntmps11
  go_wp2_with fail
  have hb0 : Below w.heap.size w (w.alloc (.cells #[.int .i64 a, .int .i64 b, v1, v2, v3] 35)) := (Below.refl _ _).alloc (Nat.le_refl _) _
  have kA := Blk.new w #[.int .i64 a, .int .i64 b, v1, v2, v3] 35
  generalize w.alloc (.cells #[.int .i64 a, .int .i64 b, v1, v2, v3] 35) = W at *
  have B0 : Hid (Below w.heap.size w W) := hb0
  have K0 : Hid (Blk W w.heap.size #[.int .i64 a, .int .i64 b, v1, v2, v3] 35) := kA
  have H0 : Hid (Rows3 W base C v1 v2 v3 R1 R2 R3) := H.out.on hb0
  clear hb0 kA
  have N1 : ∀ v : Value, (∀ g, v.ownBlock = some g → g < w.heap.size) → v.ownBlock ≠ some w.heap.size := fun v hv e => by have := hv _ e; omega
  have Z1 : Hid (v1.ownBlock ≠ some w.heap.size) := N1 _ fun g e => (H.out.o1.lt g e).2
  have Z2 : Hid (v2.ownBlock ≠ some w.heap.size) := N1 _ fun g e => (H.out.o2.lt g e).2
  have Z3 : Hid (v3.ownBlock ≠ some w.heap.size) := N1 _ fun g e => (H.out.o3.lt g e).2
  clear N1
  refine (markInodeS k base v1 R1 W H0.out.o1 l1 h1 (by omega) (Nat.le_trans HB.out B0.out.size)).mono ?_
  rintro e w2 ⟨rfl, hO, hb, hk⟩
  have O1 : Hid (Owns w2 base 76 3 v1 (newR (mkNod k) R1.length)) := hO
  have O2 : Hid (Owns w2 base 79 2 v2 R2) := H0.out.o2.kept fun g hg e => hk g hg fun e1 => H0.out.o1.apart H0.out.o2 (by decide) g e1 e
  have O3 : Hid (Owns w2 base 81 4 v3 R3) := H0.out.o3.kept fun g hg e => hk g hg fun e1 => H0.out.o1.apart H0.out.o3 (by decide) g e1 e
  have K2 : Hid (Blk w2 w.heap.size #[.int .i64 a, .int .i64 b, v1, v2, v3] 35) := by unfold Hid Blk; rw [hk _ K0.out.lt Z1.out]; exact K0.out
  have B2 : Hid (Below base w w2) := (B0.out.mono HB.out).trans hb
  have C2 : Hid (∀ g, C ≤ g → g < w.heap.size → w2.heap[g]? = w.heap[g]?) := fun g hc hg => (hk g (Nat.lt_of_lt_of_le hg B0.out.size) fun e => by have := H.out.c1 g e; omega).trans (B0.out.block g hg)
  have e2 := K2.out.cell 3 v2 rfl
  clear hO hb hk
  have q1 : ((k + 3 * R1.length : Nat) : Int) ≤ 10000000 := by omega
  have M1 : Hid (1 ≤ k + 3 * R1.length) := by unfold Hid; omega
  have M2 : Hid (k + 3 * R1.length ≤ 10000000) := by unfold Hid; omega
  have M3 : Hid (k + 3 * R1.length + 2 * R2.length ≤ 10000000) := by unfold Hid; omega
  generalize hk2 : k + 3 * R1.length = k2 at *
  go_wp2_with fail
  refine (markLinkS k2 base v2 R2 w2 O2.out l2 M1.out M2.out (Nat.le_trans HB.out B2.out.size)).mono ?_
  rintro e w3 ⟨rfl, hO, hb, hk⟩
  have P2 : Hid (Owns w3 base 79 2 v2 (newR (mkLnk k2) R2.length)) := hO
  have P1 : Hid (Owns w3 base 76 3 v1 (newR (mkNod k) R1.length)) := O1.out.kept fun g hg e => hk g hg fun e1 => O2.out.apart O1.out (by decide) g e1 e
  have P3 : Hid (Owns w3 base 81 4 v3 R3) := O3.out.kept fun g hg e => hk g hg fun e1 => O2.out.apart O3.out (by decide) g e1 e
  have K3 : Hid (Blk w3 w.heap.size #[.int .i64 a, .int .i64 b, v1, v2, v3] 35) := by unfold Hid Blk; rw [hk _ K2.out.lt Z2.out]; exact K2.out
  have B3 : Hid (Below base w w3) := B2.out.trans hb
  have C3 : Hid (∀ g, C ≤ g → g < w.heap.size → w3.heap[g]? = w.heap[g]?) := fun g hc hg => (hk g (Nat.lt_of_lt_of_le hg B2.out.size) fun e => by have := H.out.c2 g e; omega).trans (C2.out g hc hg)
  have e3 := K3.out.cell 4 v3 rfl
  clear hO hb hk e2
  have q2 : ((k2 + 2 * R2.length : Nat) : Int) ≤ 10000000 := by have := M3.out; omega
  have M4 : Hid (1 ≤ k2 + 2 * R2.length) := by unfold Hid; have := M1.out; omega
  generalize hk3 : k2 + 2 * R2.length = k3 at *
  go_wp2_with fail
  refine (markMoveS k3 base v3 R3 w3 P3.out l3 M4.out M3.out (Nat.le_trans HB.out B3.out.size)).mono ?_
  rintro e w4 ⟨rfl, hO, hb, hk⟩
  have S3 : Hid (Owns w4 base 81 4 v3 (newR (mkMov k3) R3.length)) := hO
  have S1 : Hid (Owns w4 base 76 3 v1 (newR (mkNod k) R1.length)) := P1.out.kept fun g hg e => hk g hg fun e1 => P3.out.apart P1.out (by decide) g e1 e
  have S2 : Hid (Owns w4 base 79 2 v2 (newR (mkLnk k2) R2.length)) := P2.out.kept fun g hg e => hk g hg fun e1 => P3.out.apart P2.out (by decide) g e1 e
  have B4 : Hid (Below base w w4) := B3.out.trans hb
  have C4 : Hid (∀ g, C ≤ g → g < w.heap.size → w4.heap[g]? = w.heap[g]?) := fun g hc hg => (hk g (Nat.lt_of_lt_of_le hg B3.out.size) fun e => by have := H.out.c3 g e; omega).trans (C3.out g hc hg)
  clear hO hb hk e3
  generalize hk4 : k3 + 4 * R3.length = k4 at *
  go_wp2_with fail
  go_ret
  rw [hk2, hk3, hk4]
  exact ⟨rfl, ⟨S1.out, S2.out, S3.out, H.out.c1, H.out.c2, H.out.c3⟩, B4.out, C4.out⟩

set_option maxHeartbeats 2000000 in
theorem heldDisk (k n1 n2 n3 : Nat) (a b : Int) (v1 v2 v3 : Value) (w : World) (B : Nat) (h1 : Lies w B 3 v1 (newR (mkNod k) n1)) (h2 : Lies w B 2 v2 (newR (mkLnk (k + 3 * n1)) n2)) (h3 : Lies w B 4 v3 (newR (mkMov (k + 3 * n1 + 2 * n2)) n3))
    (l1 : n1 ≤ 1048576) (l2 : n2 ≤ 1048576) (l3 : n3 ≤ 1048576) (hk1 : 1 ≤ k) (hk2 : k ≤ 1000) (hB : B ≤ w.heap.size) :
    Calls Tryz.prog 12 #[.agg #[.int .i64 a, .int .i64 b, v1, v2, v3], .int .i64 (k : Int)] w fun e w' => e = .returned (.int .i64 ((k + 3 * n1 + 2 * n2 + 4 * n3 : Nat) : Int)) ∧ Below w.heap.size w w' := by
  have HB : Hid (B ≤ w.heap.size) := hB
  have H1 : Hid (Lies w B 3 v1 (newR (mkNod k) n1)) := h1
  have H2 : Hid (Lies w B 2 v2 (newR (mkLnk (k + 3 * n1)) n2)) := h2
  have H3 : Hid (Lies w B 4 v3 (newR (mkMov (k + 3 * n1 + 2 * n2)) n3)) := h3
  have q1 : ((k + 3 * n1 : Nat) : Int) ≤ 10000000 := by omega
  have q2 : ((k + 3 * n1 + 2 * n2 : Nat) : Int) ≤ 10000000 := by omega
  have q3 : ((k + 3 * n1 + 2 * n2 + 4 * n3 : Nat) : Int) ≤ 20000000 := by omega
  have q4 : (0 : Int) ≤ ((k + 3 * n1 : Nat) : Int) := by omega
  have q5 : (0 : Int) ≤ ((k + 3 * n1 + 2 * n2 : Nat) : Int) := by omega
  have q6 : (0 : Int) ≤ ((k + 3 * n1 + 2 * n2 + 4 * n3 : Nat) : Int) := by omega
  have M1 : Hid (1 ≤ k + 3 * n1) := by unfold Hid; omega
  have M2 : Hid (k + 3 * n1 ≤ 10000000) := by unfold Hid; omega
  have M3 : Hid (1 ≤ k + 3 * n1 + 2 * n2) := by unfold Hid; omega
  have M4 : Hid (k + 3 * n1 + 2 * n2 ≤ 10000000) := by unfold Hid; omega
  clear h1 h2 h3 hB
  go_enter Tryz.func12, Tryz.ntmps12
  go_wp2_with fail
  have hb0 : Below w.heap.size w (w.alloc (.cells #[.int .i64 a, .int .i64 b, v1, v2, v3] 35)) := (Below.refl _ _).alloc (Nat.le_refl _) _
  have kA := Blk.new w #[.int .i64 a, .int .i64 b, v1, v2, v3] 35
  generalize w.alloc (.cells #[.int .i64 a, .int .i64 b, v1, v2, v3] 35) = W at *
  have B0 : Hid (Below w.heap.size w W) := hb0
  have K0 : Hid (Blk W w.heap.size #[.int .i64 a, .int .i64 b, v1, v2, v3] 35) := kA
  clear hb0 kA
  refine (heldInodeS k n1 v1 W B (H1.out.on (B0.out.mono HB.out)) l1 hk1 (by omega) (Nat.le_trans HB.out B0.out.size)).mono ?_
  rintro e w2 ⟨rfl, hb⟩
  have B2 : Hid (Below w.heap.size w w2) := B0.out.trans (hb.mono B0.out.size)
  have K2 : Hid (Blk w2 w.heap.size #[.int .i64 a, .int .i64 b, v1, v2, v3] 35) := K0.out.on hb K0.out.lt
  have e2 := K2.out.cell 3 v2 rfl
  clear hb
  generalize hk3 : k + 3 * n1 + 2 * n2 + 4 * n3 = kc at *
  generalize hkb : k + 3 * n1 + 2 * n2 = kb at *
  generalize hka : k + 3 * n1 = ka at *
  go_wp2_with fail
  refine (heldLinkS ka n2 v2 w2 B (H2.out.on (B2.out.mono HB.out)) l2 M1.out M2.out (Nat.le_trans HB.out B2.out.size)).mono ?_
  rintro e w3 ⟨rfl, hb⟩
  rw [hkb]
  have B3 : Hid (Below w.heap.size w w3) := B2.out.trans (hb.mono B2.out.size)
  have e3 := (K2.out.on hb K2.out.lt).cell 4 v3 rfl
  clear hb e2
  go_wp2_with fail
  refine (heldMoveS kb n3 v3 w3 B (H3.out.on (B3.out.mono HB.out)) l3 M3.out M4.out (Nat.le_trans HB.out B3.out.size)).mono ?_
  rintro e w4 ⟨rfl, hb⟩
  rw [hk3]
  have B4 : Hid (Below w.heap.size w w4) := B3.out.trans (hb.mono B3.out.size)
  clear hb e3
  go_wp2_with fail
  go_ret
  rw [hka, hkb, hk3]
  exact ⟨rfl, B4.out⟩
end Go.Proofs.YtnnfnhpehacelaaGreat
