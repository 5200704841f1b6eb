/-
  Contracts of the laws' own comparison of what holds the same: eqEntry, eqEntryS, eqWal, eqRec, eqRecS.
-/
import Derived.Test.YtjejcpieajeflaaRows
import Derived.Test.YtjejcpieajeflaaWkTo
import Derived.Deep.RegionWith
namespace Go.Proofs.Ytjejcpieajeflaa
open Go.ChangeShapes Go.WideShapes Go.ChangeAt Go.RowKit Go.PlainAid
set_option linter.unusedVariables false

theorem below_alloc2 (w : World) (a b : Obj) : Below w.heap.size w ((w.alloc a).alloc b) := ((Below.refl _ w).alloc (Nat.le_refl _) a).alloc (by simp) b
set_option maxHeartbeats 400000 in
theorem eqEntry (x : Ent) (w : World) : Calls Try.prog 82 #[vEnt x, vEnt x] w fun e w' => e = .returned (.bool true) ∧ Below w.heap.size w w' := by
  unfold vEnt
  go_enter Try.func82, Try.ntmps82
  go_wp2
  go_ret
  exact ⟨rfl, below_alloc2 _ _ _⟩

set_option maxHeartbeats 1000000 in
theorem eqEntryS (l : List Ent) (va vb : Value) (w : World) (B : Nat) (ha : Lies w B 2 va (entR l)) (hb : Lies w B 2 vb (entR l)) (hn : l.length ≤ 1048576) (hB : B ≤ w.heap.size) :
    Calls Try.prog 51 #[va, vb] w fun e w' => e = .returned (.bool true) ∧ Below w.heap.size w w' := by
  obtain ⟨A, cap, rfl, hl⟩ := ent_look ha
  obtain ⟨A', cap', rfl, hl'⟩ := ent_look hb
  have HL : Hid (∀ j, j < l.length → ∃ g off, A = some ⟨g, off, none⟩ ∧ g < B ∧ _) := hl
  have HL' : Hid (∀ j, j < l.length → ∃ g off, A' = some ⟨g, off, none⟩ ∧ g < B ∧ _) := hl'
  have HB : Hid (B ≤ w.heap.size) := hB
  clear hl hl' hB ha hb
  have q1 : (l.length : Int) ≤ 1048576 := by omega
  generalize hN : l.length = n at *
  go_enter Try.func51, Try.ntmps51
  go_wp2_with fail
  go_loopw [5] (fun v5 wr => ∃ k : Nat, k ≤ n ∧ v5 = .int .i64 (k : Int) ∧ Below w.heap.size w wr) (fun i _ => n - (intOf i).toNat)
  case atStart => exact ⟨0, by omega, rfl, Below.refl _ _⟩
  case round =>
    obtain ⟨k, hk, rfl, hb⟩ := hrel
    have HB1 : Hid (Below w.heap.size w wr) := hb
    clear hb
    by_cases hlt : k < n
    · have q4 : (k : Int) < (n : Int) := by omega
      obtain ⟨g, off, rfl, hg, ha0, ha1⟩ := HL.out k hlt
      obtain ⟨g', off', rfl, hg', hb0, hb1⟩ := HL'.out k hlt
      have hgw : g < w.heap.size := Nat.lt_of_lt_of_le hg HB.out
      have hgw' : g' < w.heap.size := Nat.lt_of_lt_of_le hg' HB.out
      rw [← HB1.out.cell (p := ⟨_, _, none⟩) hgw] at ha0
      rw [← HB1.out.cell (p := ⟨_, _, none⟩) hgw'] at hb0
      rw [← HB1.out.cell (p := ⟨_, _, none⟩) hgw] at ha1
      rw [← HB1.out.cell (p := ⟨_, _, none⟩) hgw'] at hb1
      have c1 := fun wx => eqEntry (l.getD k default) wx
      unfold vEnt at c1
      generalize l.getD k default = x at *
      have hsz := HB1.out.size
      go_wp2_with fail
      go_region_with (go_at_call 82; refine (c1 _).mono ?_; rintro e w1 ⟨rfl, hb1⟩)
      all_goals go_wp2_with fail
      all_goals exact ⟨⟨k + 1, by omega, by go_num, HB1.out.trans (((Below.refl _ wr).drew.trans hb1).mono hsz)⟩, by simp [intOf]; omega⟩
    · obtain rfl : k = n := by omega
      go_wp2_with fail
      go_ret
      exact ⟨rfl, HB1.out⟩
set_option maxHeartbeats 1000000 in
theorem eqWal (x : Wl) (va vb : Value) (w : World) (B : Nat) (ha : WalV w B va x) (hb : WalV w B vb x) (hn : x.ents.length ≤ 1048576) (hB : B ≤ w.heap.size) :
    Calls Try.prog 17 #[va, vb] w fun e w' => e = .returned (.bool true) ∧ Below w.heap.size w w' := by
  obtain ⟨ua, rfl, al⟩ := ha
  obtain ⟨ub, rfl, bl⟩ := hb
  have HB : Hid (B ≤ w.heap.size) := hB
  have AL : Hid (Lies w B 2 ua (entR x.ents)) := al
  have BL : Hid (Lies w B 2 ub (entR x.ents)) := bl
  have L1 : Hid (x.ents.length ≤ 1048576) := hn
  clear al bl hn hB
  go_enter Try.func17, Try.ntmps17
  go_wp2_with fail
  have hb0 := below_alloc2 w (.cells #[.int .i64 x.term, .int .i64 x.vote, .int .i64 x.base, .int .i64 x.bterm, ua] 35) (.cells #[.int .i64 x.term, .int .i64 x.vote, .int .i64 x.base, .int .i64 x.bterm, ub] 35)
  generalize (w.alloc (.cells #[.int .i64 x.term, .int .i64 x.vote, .int .i64 x.base, .int .i64 x.bterm, ua] 35)).alloc (.cells #[.int .i64 x.term, .int .i64 x.vote, .int .i64 x.base, .int .i64 x.bterm, ub] 35) = W at *
  have B0 : Hid (Below w.heap.size w W) := hb0
  clear hb0
  refine (eqEntryS x.ents ua ub W B (AL.out.on (B0.out.mono HB.out)) (BL.out.on (B0.out.mono HB.out)) L1.out (Nat.le_trans HB.out B0.out.size)).mono ?_
  rintro e w2 ⟨rfl, hb2⟩
  have B2 : Hid (Below w.heap.size w w2) := B0.out.trans (hb2.mono B0.out.size)
  clear hb2
  go_wp2_with fail
  go_ret
  exact ⟨rfl, B2.out⟩
end Go.Proofs.Ytjejcpieajeflaa
