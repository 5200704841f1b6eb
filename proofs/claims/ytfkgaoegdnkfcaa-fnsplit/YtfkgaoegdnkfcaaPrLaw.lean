/-
  Contracts of the laws' own eqPart, eqPartS.
-/
import Derived.Test.YtfkgaoegdnkfcaaPrRow
import Derived.Test.YtfkgaoegdnkfcaaPtLaw
import Derived.WalkKit
import Derived.ProofKit
import Derived.OpenShut
import Derived.Below
import Derived.WalkSmall
import Derived.BigQuiet
import Derived.Deep.QuietTactic
import Derived.Deep.RegionWith
namespace Go.Proofs.Ytfkgaoegdnkfcaa
open Go.ChangeShapes Go.WideShapes Go.ChangeAt Go.RowKit Go.PlainAid
set_option linter.unusedVariables false

/-- The parts are short. -/
def PShort (l : List Prt) : Prop := l.length ≤ 60 ∧ ∀ x ∈ l, x.pts.length ≤ 60
theorem PShort.at {l : List Prt} (h : PShort l) (k : Nat) (hk : k < l.length) : (l.getD k default).pts.length ≤ 1048576 := Nat.le_trans (h.2 _ (getD_mem l k hk)) (by omega)
/-- A series more, whose points are laid anew. -/
theorem apart_snoc {L : List (Prt × Value)} {x : Prt} {u : Value} {w w' : World} {base : Nat} {e : TypeId} {sz : Nat} {r : List (List Value)} (h : L.Pairwise fun p q => Apart p.2 q.2) (hL : ∀ p ∈ L, Owns w base 33 2 p.2 (ptR p.1.pts)) (hu : Owns w' w.heap.size e sz u r) : (L ++ [(x, u)]).Pairwise fun p q => Apart p.2 q.2 := by
  rw [List.pairwise_append]
  refine ⟨h, List.pairwise_singleton _ _, fun p hp q hq => ?_⟩
  rw [List.mem_singleton.1 hq]
  intro g h1 h2
  have := ((hL p hp).lt g h1).2
  have := (hu.lt g h2).1
  omega
set_option maxHeartbeats 1000000 in
theorem eqPart (x : Prt) (u v : Value) (w : World) (B : Nat) (hu : Lies w B 2 u (ptR x.pts)) (hv : Lies w B 2 v (ptR x.pts)) (hn : x.pts.length ≤ 1048576) (hB : B ≤ w.heap.size) : Calls Try.prog 40 #[vPr x.num u, vPr x.num v] w fun e w' => e = .returned (.bool true) ∧ Below w.heap.size w w' := by
  have HU : Hid (Lies w B 2 u (ptR x.pts)) := hu
  have HV : Hid (Lies w B 2 v (ptR x.pts)) := hv
  have HB : Hid (B ≤ w.heap.size) := hB
  have HP : Hid (x.pts.length ≤ 1048576) := hn
  unfold vPr
  obtain ⟨xk, xp⟩ := x
  simp only at HU HV HP ⊢
  clear hu hB hn hv
  obtain ⟨A, cap, rfl, _⟩ := pt_look HU.out
  obtain ⟨A', cap', rfl, _⟩ := pt_look HV.out
  go_enter Try.func40, Try.ntmps40
  go_wp2_with fail
  have hb2 : Hid (Below w.heap.size w ((w.alloc (.cells #[.int .i64 xk, .slice A xp.length cap] 30)).alloc (.cells #[.int .i64 xk, .slice A' xp.length cap'] 30))) := below_alloc2 _ _ _
  refine (eqPointS xp _ _ _ B (HU.out.on (hb2.out.mono HB.out)) (HV.out.on (hb2.out.mono HB.out)) HP.out (Nat.le_trans HB.out hb2.out.size)).mono ?_
  rintro e w1 ⟨rfl, hb⟩
  have B1 : Hid (Below w.heap.size w w1) := hb2.out.trans (hb.mono hb2.out.size)
  clear hb hb2
  go_wp2_with fail
  go_ret
  exact ⟨rfl, B1.out⟩

set_option maxHeartbeats 1000000 in
theorem eqPartS (l : List Prt) (va vb : Value) (w : World) (B : Nat) (ha : PrtV w B va l) (hb : PrtV w B vb l) (hn : PShort l) (hB : B ≤ w.heap.size) :
    Calls Try.prog 23 #[va, vb] w fun e w' => e = .returned (.bool true) ∧ Below w.heap.size w w' := by
  obtain ⟨A, cap, rfl, hl⟩ := ha.look
  obtain ⟨A', cap', rfl, hl'⟩ := hb.look
  have HL : Hid (∀ j, j < l.length → ∃ g off u, A = some ⟨g, off, none⟩ ∧ g < B ∧ _) := hl
  have HL' : Hid (∀ j, j < l.length → ∃ g off u, A' = some ⟨g, off, none⟩ ∧ g < B ∧ _) := hl'
  have HB : Hid (B ≤ w.heap.size) := hB
  have HS : Hid (PShort l) := hn
  have q1 : (l.length : Int) ≤ 1048576 := by have := hn.1; omega
  clear hl hl' hB ha hb hn
  generalize hN : l.length = n at *
  go_enter Try.func23, Try.ntmps23
  go_wp2_with fail
  go_loopw [5] (fun v5 wr => ∃ k : Nat, k ≤ n ∧ v5 = .int .i64 (k : Int) ∧ Below w.heap.size w wr) (fun i _ => n - (intOf i).toNat)
  case atStart => exact ⟨0, by omega, rfl, Below.refl _ _⟩
  case round =>
    obtain ⟨k, hk, rfl, hb⟩ := hrel
    have HB1 : Hid (Below w.heap.size w wr) := hb
    clear hb
    by_cases hlt : k < n
    · have q4 : (k : Int) < (n : Int) := by omega
      obtain ⟨g, off, u, rfl, hg, ha0, ha1, hu⟩ := HL.out k hlt
      obtain ⟨g', off', u', rfl, hg', hb0, hb1, hu'⟩ := HL'.out k hlt
      have hgw : g < w.heap.size := Nat.lt_of_lt_of_le hg HB.out
      have hgw' : g' < w.heap.size := Nat.lt_of_lt_of_le hg' HB.out
      rw [← HB1.out.cell (p := ⟨_, _, none⟩) hgw] at ha0
      rw [← HB1.out.cell (p := ⟨_, _, none⟩) hgw'] at hb0
      rw [← HB1.out.cell (p := ⟨_, _, none⟩) hgw] at ha1
      rw [← HB1.out.cell (p := ⟨_, _, none⟩) hgw'] at hb1
      have c1 := fun (wx : World) (hw : Below w.heap.size w wx) => eqPart (l.getD k default) u u' wx B (hu.on (hw.mono HB.out)) (hu'.on (hw.mono HB.out)) (HS.out.at k (by omega)) (Nat.le_trans HB.out hw.size)
      obtain ⟨A1, cap1, rfl, _⟩ := pt_look hu
      obtain ⟨A2, cap2, rfl, _⟩ := pt_look hu'
      unfold vPr at c1
      clear hu hu'
      generalize (l.getD k default).pts.length = pn at *
      generalize (l.getD k default).num = x at *
      have hsz := HB1.out.size
      go_wp2_with fail
      go_region_with (go_at_call 40; refine (c1 _ HB1.out.drew).mono ?_; rintro e w1 ⟨rfl, hb1⟩)
      all_goals go_wp2_with fail
      all_goals exact ⟨⟨k + 1, by omega, by go_num, HB1.out.trans (((Below.refl _ wr).drew.trans hb1).mono hsz)⟩, by simp [intOf]; omega⟩
    · obtain rfl : k = n := by omega
      go_wp2_with fail
      go_ret
      exact ⟨rfl, HB1.out⟩
end Go.Proofs.Ytfkgaoegdnkfcaa
