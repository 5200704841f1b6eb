/-
  Contract of impl.entriesFrom of what is behind the first entries.
-/
import Derived.Test.YtcghclaobodgjaaDoorRows
import Derived.Test.YtcghclaobodgjaaDoorWtAid
namespace Go.Proofs.YtcghclaobodgjaaDoor
open Go.ChangeShapes Go.WideShapes Go.ChangeAt Go.RowKit Go.PlainAid
set_option linter.unusedVariables false

def entFrom (x : Wl) (k0 k : Nat) : List Rcd := (List.range k).map fun i => recAt x (k0 + i)
theorem entFrom_succ (x : Wl) (k0 k : Nat) : entFrom x k0 (k + 1) = entFrom x k0 k ++ [recAt x (k0 + k)] := by simp [entFrom, List.range_succ]
theorem entFrom_length (x : Wl) (k0 k : Nat) : (entFrom x k0 k).length = k := by simp [entFrom]
theorem entFrom_zero (x : Wl) (k : Nat) : entFrom x 0 k = entRecs x k := by simp [entFrom, entRecs]

set_option maxRecDepth 20000 in
set_option maxHeartbeats 4000000 in
theorem entriesK (x : Wl) (v : Value) (w : World) (B k0 : Nat) (hk0 : 0 < k0) (hk1 : k0 ≤ x.ents.length) (hv : WalV w B v x) (hn : x.ents.length ≤ 60) (hb0 : 0 ≤ x.base) (hb1 : x.base ≤ 100000) (hB : B ≤ w.heap.size) :
    Calls Tryd.prog 38 #[v, .int .i64 (k0 : Int)] w fun e w' => ∃ u, e = .returned u ∧ Owns w' w.heap.size 79 1 u (kindR (entFrom x k0 (x.ents.length - k0))) ∧ Below w.heap.size w w' := by
  obtain ⟨u, rfl, hl⟩ := hv
  obtain ⟨A, cap, rfl, hlk⟩ := ent_look hl
  have HCAP : Hid (x.ents.length ≤ cap) := by
    obtain ⟨A', cap', e, ⟨_, h2⟩, _⟩ := hl
    injection e with _ e2 e3
    unfold Hid
    rw [e3, e2]
    exact h2
  have HL : Hid (∀ j, j < x.ents.length → ∃ g off, A = some ⟨g, off, none⟩ ∧ g < B ∧ _) := hlk
  have HB : Hid (B ≤ w.heap.size) := hB
  have q1 : (x.ents.length : Int) ≤ 60 := by omega
  have q1c : (x.ents.length : Int) ≤ (cap : Int) := by have := HCAP.out; omega
  clear hl hlk hB hn
  generalize hN : x.ents.length = n at *
  obtain ⟨g, off, rfl, hg, _⟩ := HL.out 0 (by omega)
  have hgw : g < w.heap.size := Nat.lt_of_lt_of_le hg HB.out
  have qk : (k0 : Int) ≤ (n : Int) := by omega
  have qk1 : (k0 : Int) ≤ (cap : Int) := by omega
  have qk0 : (0 : Int) ≤ (k0 : Int) := by omega
  have qk2 : ((n - k0 : Nat) : Int) ≤ 60 := by omega
  have HCE : Hid (∀ j, j < n - k0 → w.cell? ⟨g, off + k0 * 2 + j * 2, none⟩ = some (.int .i64 (x.ents.getD (k0 + j) default).term) ∧ w.cell? ⟨g, off + k0 * 2 + j * 2 + 1, none⟩ = some (.string (x.ents.getD (k0 + j) default).data)) := by
    intro j hj
    obtain ⟨g', off', e, _, h1, h2⟩ := HL.out (k0 + j) (by omega)
    injection e with e
    injection e with e1 e2
    subst e1
    subst e2
    rw [Nat.add_mul, ← Nat.add_assoc] at h1 h2
    exact ⟨h1, h2⟩
  clear HL
  by_cases hcap : cap = k0
  · subst hcap
    have hn0 : n - cap = 0 := by have := HCAP.out; omega
    have qz : ((n - cap : Nat) : Int) = 0 := by omega
    go_enter Tryd.func38, Tryd.ntmps38
    go_wp2_with fail
    have h0 : Below w.heap.size w (w.alloc (.cells #[.int .i64 x.term, .int .i64 x.vote, .int .i64 x.base, .int .i64 x.bterm, .slice (some ⟨g, off, none⟩) n cap] 30)) := (Below.refl _ w).alloc (Nat.le_refl _) _
    have bA := Blk.new w #[.int .i64 x.term, .int .i64 x.vote, .int .i64 x.base, .int .i64 x.bterm, .slice (some ⟨g, off, none⟩) n cap] 30
    generalize w.alloc (.cells #[.int .i64 x.term, .int .i64 x.vote, .int .i64 x.base, .int .i64 x.bterm, .slice (some ⟨g, off, none⟩) n cap] 30) = W at *
    go_loopw [5, 13] (fun v5 v13 wr => ∃ k : Nat, k ≤ n - cap ∧ v13 = .int .i64 (k : Int) ∧ Owns wr (w.heap.size + 1) 79 1 v5 (kindR (entFrom x cap k)) ∧ Below w.heap.size w wr ∧ Blk wr w.heap.size #[.int .i64 x.term, .int .i64 x.vote, .int .i64 x.base, .int .i64 x.bterm, .slice (some ⟨g, off, none⟩) n cap] 30) (fun _ i _ => (n - cap) - (intOf i).toNat)
    case atStart => exact ⟨0, by omega, rfl, Owns.nil _ _ _ _, h0, bA⟩
    case round =>
      obtain ⟨k, hk, rfl, hO, hb, hbl⟩ := hrel
      have HO : Hid (Owns wr (w.heap.size + 1) 79 1 _ (kindR (entFrom x cap k))) := hO
      have HB1 : Hid (Below w.heap.size w wr) := hb
      have KA : Hid (Blk wr w.heap.size #[.int .i64 x.term, .int .i64 x.vote, .int .i64 x.base, .int .i64 x.bterm, .slice (some ⟨g, off, none⟩) n cap] 30) := hbl
      obtain ⟨sA, sm, sc, rfl⟩ := hO.shape
      clear hO hb hbl h0 bA
      obtain rfl : k = n - cap := by omega
      go_wp2_with fail
      go_ret
      exact ⟨_, rfl, HO.out.mono (by omega), HB1.out⟩
  · have hcap2 : ¬ cap = k0 := hcap
    go_enter Tryd.func38, Tryd.ntmps38
    go_wp2_with fail
    have h0 : Below w.heap.size w (w.alloc (.cells #[.int .i64 x.term, .int .i64 x.vote, .int .i64 x.base, .int .i64 x.bterm, .slice (some ⟨g, off, none⟩) n cap] 30)) := (Below.refl _ w).alloc (Nat.le_refl _) _
    have bA := Blk.new w #[.int .i64 x.term, .int .i64 x.vote, .int .i64 x.base, .int .i64 x.bterm, .slice (some ⟨g, off, none⟩) n cap] 30
    generalize w.alloc (.cells #[.int .i64 x.term, .int .i64 x.vote, .int .i64 x.base, .int .i64 x.bterm, .slice (some ⟨g, off, none⟩) n cap] 30) = W at *
    go_loopw [5, 13] (fun v5 v13 wr => ∃ k : Nat, k ≤ n - k0 ∧ v13 = .int .i64 (k : Int) ∧ Owns wr (w.heap.size + 1) 79 1 v5 (kindR (entFrom x k0 k)) ∧ Below w.heap.size w wr ∧ Blk wr w.heap.size #[.int .i64 x.term, .int .i64 x.vote, .int .i64 x.base, .int .i64 x.bterm, .slice (some ⟨g, off, none⟩) n cap] 30) (fun _ i _ => (n - k0) - (intOf i).toNat)
    case atStart => exact ⟨0, by omega, rfl, Owns.nil _ _ _ _, h0, bA⟩
    case round =>
      obtain ⟨k, hk, rfl, hO, hb, hbl⟩ := hrel
      have HO : Hid (Owns wr (w.heap.size + 1) 79 1 _ (kindR (entFrom x k0 k))) := hO
      have HB1 : Hid (Below w.heap.size w wr) := hb
      have KA : Hid (Blk wr w.heap.size #[.int .i64 x.term, .int .i64 x.vote, .int .i64 x.base, .int .i64 x.bterm, .slice (some ⟨g, off, none⟩) n cap] 30) := hbl
      obtain ⟨sA, sm, sc, rfl⟩ := hO.shape
      clear hO hb hbl h0 bA
      by_cases hlt : k < n - k0
      · have q4 : (k : Int) < ((n - k0 : Nat) : Int) := by omega
        obtain ⟨hc0, hc1⟩ := HCE.out k hlt
        rw [← HB1.out.cell (p := ⟨_, _, none⟩) hgw] at hc0 hc1
        have hkv := kindV_at x (k0 + k)
        have HR : Hid (kindR (entFrom x k0 k) ++ [[kindV (recAt x (k0 + k))]] = kindR (entFrom x k0 (k + 1))) := by unfold Hid; rw [entFrom_succ, kindR_append]; rfl
        have HLN : Hid ((kindR (entFrom x k0 k)).length ≤ 2097152) := by unfold Hid; rw [kindR_length, entFrom_length]; omega
        generalize x.ents.getD (k0 + k) default = y at *
        obtain ⟨yt, yd⟩ := y
        simp only at hc0 hc1 hkv
        have z1 : wrap64 (x.base + (k0 : Int)) = x.base + (k0 : Int) := by unfold wrap64; omega
        have z2 : wrap64 (x.base + (k0 : Int) + (k : Int)) = x.base + (k0 : Int) + (k : Int) := by unfold wrap64; omega
        have z3 : wrap64 (x.base + (k0 : Int) + (k : Int) + 1) = x.base + (k0 : Int) + (k : Int) + 1 := by unfold wrap64; omega
        have z4 : wrap64 x.base = x.base := by unfold wrap64; omega
        have hkv2 : Hid (.iface 88 (.agg #[.int .i64 (x.base + (k0 : Int) + (k : Int) + 1), .int .i64 yt, .string yd]) = kindV (recAt x (k0 + k))) := by unfold Hid; rw [hkv, show x.base + (k0 : Int) + (k : Int) + 1 = x.base + 1 + ((k0 + k : Nat) : Int) by omega]
        have kE := Blk.new wr #[.int .i64 yt, .string yd] 66
        have kW := KA.out.alloc (.cells #[.int .i64 yt, .string yd] 66)
        have e0 := kE.cell 0 (.int .i64 yt) rfl
        have e1 := kE.cell 1 (.string yd) rfl
        have e2 := kW.cell 2 (.int .i64 x.base) rfl
        have hos := HO.out.alloc (.cells #[.int .i64 yt, .string yd] 66)
        have hW1 : Below w.heap.size w (wr.alloc (.cells #[.int .i64 yt, .string yd] 66)) := HB1.out.alloc HB1.out.size _
        have hsz : w.heap.size + 1 ≤ (wr.alloc (.cells #[.int .i64 yt, .string yd] 66)).heap.size := kW.lt
        clear hkv kE
        go_wp2_with (at_builtin; refine wpList_append_row rfl (.tmp 18) (.tmp 29) 71 79 .nilIface 1 16 rfl Tryd.underlying71 Tryd.infoRec rfl (by omega) (w.heap.size + 1) _ (kindR (entFrom x k0 k)) rfl hos [.iface 88 (.agg #[.int .i64 (x.base + (k0 : Int) + (k : Int) + 1), .int .i64 yt, .string yd])] rfl (by intro y hy; simp at hy; subst hy; rfl) (by rw [World.size_alloc]; rfl) HLN.out (by omega) hsz ?_; intro v' w4 hO4 hb4 hk4 _)
        rw [hkv2.out, HR.out] at hO4
        have kW4 := kW.on hb4 (by omega)
        have hB4 : Below w.heap.size w w4 := hW1.trans (hb4.mono (by omega))
        go_roundw
        case rel => exact ⟨k + 1, by omega, by go_num, hO4, hB4, kW4⟩
        case measure => simp [intOf]; omega
      · obtain rfl : k = n - k0 := by omega
        go_wp2_with fail
        go_ret
        exact ⟨_, rfl, HO.out.mono (by omega), HB1.out⟩

theorem entriesAny (x : Wl) (v : Value) (w : World) (B k0 : Nat) (hk1 : k0 ≤ x.ents.length) (hv : WalV w B v x) (hn : x.ents.length ≤ 60) (hb0 : 0 ≤ x.base) (hb1 : x.base ≤ 100000) (hB : B ≤ w.heap.size) :
    Calls Tryd.prog 38 #[v, .int .i64 (k0 : Int)] w fun e w' => ∃ u, e = .returned u ∧ Owns w' w.heap.size 79 1 u (kindR (entFrom x k0 (x.ents.length - k0))) ∧ Below w.heap.size w w' := by
  by_cases h0 : k0 = 0
  · subst h0
    rw [Nat.sub_zero, entFrom_zero]
    exact entriesV x v w B hv hn hb0 hb1 hB
  · exact entriesK x v w B k0 (by omega) hk1 hv hn hb0 hb1 hB
end Go.Proofs.YtcghclaobodgjaaDoor
