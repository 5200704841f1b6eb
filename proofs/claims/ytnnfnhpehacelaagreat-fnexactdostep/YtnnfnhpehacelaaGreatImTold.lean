/-
  The contract of (impl.nameTable).told: the links, in order, in new memory.
-/
import Derived.Test.YtnnfnhpehacelaaGreatRows
import Derived.Test.YtnnfnhpehacelaaGreatImKeys
import Derived.Test.YtnnfnhpehacelaaGreatImFindA
import Derived.Test.YtnnfnhpehacelaaGreatClone
import Derived.Test.YtnnfnhpehacelaaGreatImTakeM
import Derived.Deep.RegionLaw
import Derived.Deep.RegionHeld3
namespace Go.Proofs.YtnnfnhpehacelaaGreat
open Go.ChangeShapes Go.WideShapes Go.ChangeAt Go.RowKit Go.PlainAid
set_option linter.unusedVariables false

theorem linkAt_own {l : List Lnk} (h : Sorted l) {k : Nat} (hk : k < l.length) : linkAt l (l.getD k default).name = some k := by
  unfold linkAt
  rw [List.findIdx?_eq_some_iff_getElem]
  refine ⟨hk, by rw [getD_at l k hk]; exact decide_eq_true rfl, fun j hj => ?_⟩
  have := List.pairwise_iff_getElem.1 h j k (by omega) hk hj
  rw [← getD_at l k hk]
  simpa using ahead_ne this
theorem name_size {s : ByteArray} (h : nameOk s = true) : s.size ≤ 12 := by
  unfold nameOk at h
  simp only [Bool.and_eq_true, decide_eq_true_eq] at h
  omega

set_option maxRecDepth 20000 in
set_option maxHeartbeats 2000000 in
theorem toldN (w : World) (b : Nat) (l : List Lnk) (h : NT w b l) (hs : Sorted l) (hn : NamesOk l) (hl : l.length ≤ 1000) :
    Calls Tryz.prog 82 #[.map (some b)] w fun e w' => ∃ u, e = .returned u ∧ Owns w' w.heap.size 79 2 u (lnkR l) ∧ Below w.heap.size w w' := by
  have cK := keysV w b
  have cS := sortedV w b l h hs hl
  have HN : Hid (NT w b l) := h
  have HS : Hid (Sorted l) := hs
  have HO : Hid (NamesOk l) := hn
  have q1 : (l.length : Int) ≤ 1000 := by omega
  clear h hs hn hl
  go_enter Tryz.func82, Tryz.ntmps82
  go_wp2_with fail
  refine cK.mono ?_
  rintro e w1 ⟨rfl, rfl⟩
  clear cK
  go_wp2_with fail
  refine cS.mono ?_
  rintro e w2 ⟨v, rfl, hO, hb⟩
  have HB2 : Hid (Below w.heap.size w w2) := hb
  have N2 : Hid (NT w2 b l) := HN.out.on hb HN.out.lt
  obtain ⟨A, cap, rfl, hlk⟩ := str_look hO.lies
  rw [List.length_map] at hlk
  have HL : Hid (∀ j, j < l.length → ∃ g off, A = some ⟨g, off, none⟩ ∧ g < w2.heap.size ∧ _) := hlk
  have e0 : (l.map (·.name)).length = l.length := List.length_map _
  rw [e0]
  clear cS hb hO hlk e0
  generalize hNN : l.length = N at *
  go_wp2_with fail
  go_loopw [3, 10] (fun v3 v10 wr => ∃ k : Nat, k ≤ N ∧ v10 = .int .i64 (k : Int) ∧ Owns wr w2.heap.size 79 2 v3 (lnkR (l.take k)) ∧ Below w2.heap.size w2 wr) (fun _ i _ => N - (intOf i).toNat)
  case atStart => exact ⟨0, by omega, rfl, by rw [List.take_zero]; exact Owns.nil _ _ _ _, Below.refl _ _⟩
  case round =>
    obtain ⟨k, hk, rfl, hO, hb⟩ := hrel
    obtain ⟨uA, um, uc, rfl⟩ := hO.shape
    have HOW : Hid (Owns wr w2.heap.size 79 2 (.slice uA um uc) (lnkR (l.take k))) := hO
    have HBB : Hid (Below w2.heap.size w2 wr) := hb
    clear hO hb
    by_cases hlt : k < N
    · have q4 : (k : Int) < (N : Int) := by omega
      obtain ⟨g, off, rfl, hg, hc⟩ := HL.out k hlt
      rw [← HBB.out.cell (p := ⟨_, _, none⟩) hg] at hc
      have hnm : (l.map (·.name)).getD k ⟨#[]⟩ = (l.getD k default).name := by
        rw [List.getD_eq_getElem?_getD, List.getElem?_map, List.getD_eq_getElem?_getD, List.getElem?_eq_getElem (by omega)]
        rfl
      rw [hnm] at hc
      have hat := linkAt_own HS.out (k := k) (by omega)
      have hsz := name_size (HO.out _ (getD_mem l k (by omega)))
      have HRS : Hid (lnkR (l.take (k + 1)) = lnkR (l.take k) ++ [lnkC (l.getD k default)]) := lnkR_snoc l k (by omega)
      have HLE : Hid ((lnkR (l.take k)).length ≤ 2097152) := by unfold Hid; rw [lnkR_length, List.length_take]; omega
      have NTd : NT wr.drew b l := (N2.out.on HBB.out N2.out.lt).kept rfl
      have hid : (l.getD k default).id = (l.getD k default).id := rfl
      have VAL : Hid (∀ wx, NT wx b l → (Instr.lookup 106 (.map (some b)) (.string (l.getD k default).name) false).run Tryz.prog wx = .ok (.int .i64 (l.getD k default).id) wx) := fun wx hx => hx.val _ (by unfold maxLen; omega) k hat
      clear hat hnm hid
      unfold lnkC at HRS
      generalize (l.getD k default).name = xn at *
      generalize (l.getD k default).id = xi at *
      generalize lnkR (l.take k) = Rk at *
      have rA := VAL.out wr.drew NTd
      have HNTd : Hid (NT wr.drew b l) := NTd
      have cC := clone xn wr.drew (by omega)
      have OD : Hid (Owns wr.drew w2.heap.size 79 2 (.slice uA um uc) Rk) := HOW.out.kept fun _ _ _ => rfl
      have ZZ : Hid (w2.heap.size ≤ wr.heap.size) := HBB.out.size
      clear NTd hsz hg
      go_wp2_with fail
      go_region_held3 (fun _ => True) (exact True.intro) ((first
        | (go_at_call 85; refine cC.mono ?_; rintro e w5 ⟨rfl, hb5⟩; have rB := VAL.out w5 (HNTd.out.on hb5 HNTd.out.lt); obtain ⟨nA, nm, nc, w6, r6, hO6, hb6, _, _⟩ := run_append_row (P := Tryz.prog) w5 32 32 79 (.agg #[.string ⟨#[]⟩, .int .i64 0]) 2 24 Tryz.underlying32 Tryz.infoLnk rfl (by omega) w2.heap.size (.slice uA um uc) Rk (OD.out.on hb5) [.string xn, .int .i64 xi] rfl (by intro y hy; simp at hy; rcases hy with rfl | rfl <;> rfl) HLE.out (by omega) (Nat.le_trans ZZ.out hb5.size))
        | (refine step_append_run (by rfl) (.tmp 14) (.tmp 21) 32 (by rfl) _ _ _ _ (by rfl) (by rfl) r6 ?_)))
      all_goals
        go_wp2_with fail
        go_roundw
        case rel => exact ⟨k + 1, by omega, by go_num, by rw [HRS.out]; exact hO6, HBB.out.trans (((Below.refl _ wr).drew.trans (hb5.mono ZZ.out)).trans hb6)⟩
        case measure => simp [intOf]; omega
    · obtain rfl : k = N := by omega
      go_wp2_with fail
      go_ret
      refine ⟨_, rfl, ?_, HB2.out.trans (HBB.out.mono HB2.out.size)⟩
      have := HOW.out
      rw [← hNN, List.take_length] at this
      exact this.mono HB2.out.size
end Go.Proofs.YtnnfnhpehacelaaGreat
