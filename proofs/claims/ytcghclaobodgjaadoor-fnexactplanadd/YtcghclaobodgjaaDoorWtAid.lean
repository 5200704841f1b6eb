/-
  The records of a log, as plain data; contract of impl.entriesFrom of a whole log.
-/
import Derived.Test.YtcghclaobodgjaaDoorRows
import Derived.Test.YtcghclaobodgjaaDoorRcImpl
import Derived.Test.YtcghclaobodgjaaDoorWkTo
import Derived.Test.YtcghclaobodgjaaDoorWkApp
import Derived.Handy
namespace Go.Proofs.YtcghclaobodgjaaDoor
open Go.ChangeShapes Go.WideShapes Go.ChangeAt Go.RowKit Go.PlainAid
set_option linter.unusedVariables false

/-- The record of an entry of a log. -/
def recAt (x : Wl) (i : Nat) : Rcd := ⟨2, (x.ents.getD i default).term, x.base + 1 + (i : Int), 0, (x.ents.getD i default).data⟩
def entRecs (x : Wl) (k : Nat) : List Rcd := (List.range k).map (recAt x)
theorem entRecs_succ (x : Wl) (k : Nat) : entRecs x (k + 1) = entRecs x k ++ [recAt x k] := by simp [entRecs, List.range_succ]
theorem entRecs_length (x : Wl) (k : Nat) : (entRecs x k).length = k := by simp [entRecs]
/-- Records behind their interface, as rows. -/
def kindR (l : List Rcd) : List (List Value) := l.map fun r => [kindV r]
theorem kindR_append (a b : List Rcd) : kindR (a ++ b) = kindR a ++ kindR b := by simp [kindR]
theorem kindR_length (l : List Rcd) : (kindR l).length = l.length := by simp [kindR]
theorem kindV_at (x : Wl) (i : Nat) : kindV (recAt x i) = .iface 88 (.agg #[.int .i64 (x.base + 1 + (i : Int)), .int .i64 (x.ents.getD i default).term, .string (x.ents.getD i default).data]) := by
  unfold kindV recAt
  simp
theorem Tryd.infoRec : (Tryd.prog.info? 79).map (fun i => (i.zero, i.size, i.bytes)) = some (some .nilIface, 1, 16) := by kernel_rfl

set_option maxRecDepth 20000 in
set_option maxHeartbeats 4000000 in
theorem entriesV (x : Wl) (v : Value) (w : World) (B : Nat) (hv : WalV w B v x) (hn : x.ents.length ≤ 60) (hb0 : 0 ≤ x.base) (hb1 : x.base ≤ 100000) (hB : B ≤ w.heap.size) :
    Calls Tryd.prog 38 #[v, .int .i64 0] w fun e w' => ∃ u, e = .returned u ∧ Owns w' w.heap.size 79 1 u (kindR (entRecs x x.ents.length)) ∧ Below w.heap.size w w' := by
  obtain ⟨u, rfl, hl⟩ := hv
  obtain ⟨A, cap, rfl, hlk⟩ := ent_look hl
  have HCAP : Hid (x.ents.length ≤ cap) := by
    obtain ⟨A', cap', e, ⟨_, h2⟩, _⟩ := hl
    injection e with _ e2 e3
    unfold Hid
    rw [e3, e2]
    exact h2
  have HL : Hid (∀ j, j < x.ents.length → ∃ g off, A = some ⟨g, off, none⟩ ∧ g < B ∧ _) := hlk
  have HB : Hid (B ≤ w.heap.size) := hB
  have q1 : (x.ents.length : Int) ≤ 60 := by omega
  have q1c : (x.ents.length : Int) ≤ (cap : Int) := by have := HCAP.out; omega
  clear hl hlk hB hn
  generalize hN : x.ents.length = n at *
  go_enter Tryd.func38, Tryd.ntmps38
  go_wp2_with fail
  have h0 : Below w.heap.size w (w.alloc (.cells #[.int .i64 x.term, .int .i64 x.vote, .int .i64 x.base, .int .i64 x.bterm, .slice A n cap] 30)) := (Below.refl _ w).alloc (Nat.le_refl _) _
  have bA := Blk.new w #[.int .i64 x.term, .int .i64 x.vote, .int .i64 x.base, .int .i64 x.bterm, .slice A n cap] 30
  generalize w.alloc (.cells #[.int .i64 x.term, .int .i64 x.vote, .int .i64 x.base, .int .i64 x.bterm, .slice A n cap] 30) = W at *
  go_loopw [5, 13] (fun v5 v13 wr => ∃ k : Nat, k ≤ n ∧ v13 = .int .i64 (k : Int) ∧ Owns wr (w.heap.size + 1) 79 1 v5 (kindR (entRecs x k)) ∧ Below w.heap.size w wr ∧ Blk wr w.heap.size #[.int .i64 x.term, .int .i64 x.vote, .int .i64 x.base, .int .i64 x.bterm, .slice A n cap] 30) (fun _ i _ => n - (intOf i).toNat)
  case atStart => exact ⟨0, by omega, rfl, Owns.nil _ _ _ _, h0, bA⟩
  case round =>
    obtain ⟨k, hk, rfl, hO, hb, hbl⟩ := hrel
    have HO : Hid (Owns wr (w.heap.size + 1) 79 1 _ (kindR (entRecs x k))) := hO
    have HB1 : Hid (Below w.heap.size w wr) := hb
    have KA : Hid (Blk wr w.heap.size #[.int .i64 x.term, .int .i64 x.vote, .int .i64 x.base, .int .i64 x.bterm, .slice A n cap] 30) := hbl
    obtain ⟨sA, sm, sc, rfl⟩ := hO.shape
    clear hO hb hbl h0 bA
    by_cases hlt : k < n
    · have q4 : (k : Int) < (n : Int) := by omega
      obtain ⟨g, off, rfl, hg, hc0, hc1⟩ := HL.out k (by omega)
      have hgw : g < w.heap.size := Nat.lt_of_lt_of_le hg HB.out
      rw [← HB1.out.cell (p := ⟨_, _, none⟩) hgw] at hc0 hc1
      have hkv := kindV_at x k
      have HR : Hid (kindR (entRecs x k) ++ [[kindV (recAt x k)]] = kindR (entRecs x (k + 1))) := by unfold Hid; rw [entRecs_succ, kindR_append]; rfl
      have HLN : Hid ((kindR (entRecs x k)).length ≤ 2097152) := by unfold Hid; rw [kindR_length, entRecs_length]; omega
      generalize x.ents.getD k default = y at *
      obtain ⟨yt, yd⟩ := y
      simp only at hc0 hc1 hkv
      have z1 : wrap64 (x.base + 0) = x.base := by unfold wrap64; omega
      have z2 : wrap64 (x.base + (k : Int)) = x.base + (k : Int) := by unfold wrap64; omega
      have z3 : wrap64 (x.base + (k : Int) + 1) = x.base + (k : Int) + 1 := by unfold wrap64; omega
      have z4 : wrap64 x.base = x.base := by unfold wrap64; omega
      have hkv2 : Hid (.iface 88 (.agg #[.int .i64 (x.base + (k : Int) + 1), .int .i64 yt, .string yd]) = kindV (recAt x k)) := by unfold Hid; rw [hkv, show x.base + (k : Int) + 1 = x.base + 1 + (k : Int) by omega]
      have kE := Blk.new wr #[.int .i64 yt, .string yd] 66
      have kW := KA.out.alloc (.cells #[.int .i64 yt, .string yd] 66)
      have e0 := kE.cell 0 (.int .i64 yt) rfl
      have e1 := kE.cell 1 (.string yd) rfl
      have e2 := kW.cell 2 (.int .i64 x.base) rfl
      have hos := HO.out.alloc (.cells #[.int .i64 yt, .string yd] 66)
      have hW1 : Below w.heap.size w (wr.alloc (.cells #[.int .i64 yt, .string yd] 66)) := HB1.out.alloc HB1.out.size _
      have hsz : w.heap.size + 1 ≤ (wr.alloc (.cells #[.int .i64 yt, .string yd] 66)).heap.size := kW.lt
      clear hkv kE
      go_wp2_with (at_builtin; refine wpList_append_row rfl (.tmp 18) (.tmp 29) 71 79 .nilIface 1 16 rfl Tryd.underlying71 Tryd.infoRec rfl (by omega) (w.heap.size + 1) _ (kindR (entRecs x k)) rfl hos [.iface 88 (.agg #[.int .i64 (x.base + (k : Int) + 1), .int .i64 yt, .string yd])] rfl (by intro y hy; simp at hy; subst hy; rfl) (by rw [World.size_alloc]; rfl) HLN.out (by omega) hsz ?_; intro v' w4 hO4 hb4 hk4 _)
      rw [hkv2.out, HR.out] at hO4
      have kW4 := kW.on hb4 (by omega)
      have hB4 : Below w.heap.size w w4 := hW1.trans (hb4.mono (by omega))
      go_roundw
      case rel => exact ⟨k + 1, by omega, by go_num, hO4, hB4, kW4⟩
      case measure => simp [intOf]; omega
    · obtain rfl : k = n := by omega
      go_wp2_with fail
      go_ret
      exact ⟨_, rfl, HO.out.mono (by omega), HB1.out⟩
end Go.Proofs.YtcghclaobodgjaaDoor
