/-
  'copy(dst, src)' between slices of structs, dst a row of the call's own from some place on (after the library's law for cells of one; no program in sight, no condition).
-/
import Derived.Test.YtlekgbfopionfaaPtApp
import Derived.Laws.CopyOwn
namespace Go.Proofs.Ytlekgbfopionfaa
open Go.RowKit Go.PlainAid

theorem run_copy_rows {P : Program} (w : World) (dT sT ty elem : TypeId) (g o dLen dCap : Nat) (a : Addr) (sLen sCap : Nat) (cur : Array Value) (t : TypeId) (cs : List Value) (sz : Nat)
    (hu : P.underlying dT = some (.slice elem)) (hs : (P.info? elem).map (·.size) = some sz)
    (hg : w.heap[g]? = some (.cells cur t (0, 0))) (hn : cs.length = Nat.min sLen dLen * sz)
    (hsrc : ∀ j v, cs[j]? = some v → w.cell? (a.add j) = some v) (hfit : o + cs.length ≤ cur.size) (h1 : ∀ v ∈ cs, v.oneCell' = true) :
    (Builtin.copy_ #[dT, sT] ty #[.slice (some ⟨g, o, none⟩) dLen dCap, .slice (some a) sLen sCap]).run P w =
      .ok (goInt (Nat.min sLen dLen)) (w.setRow g (cur.toList.take o ++ cs ++ cur.toList.drop (o + cs.length)).toArray) := by
  have hl := run_loadCells_list (P := P) w a cs hsrc
  have hst := run_storeCells_at P g o t cs 0 cur w hg (by simpa using hfit) h1
  cases hq : P.info? elem with
  | none => simp [hq] at hs
  | some i =>
    have hi : i.size = sz := by simpa [hq] using hs
    simp [Builtin.copy_, run_underlying hu, Builtin.lenOf, Builtin.firstCells, sizeOf, typeInfo, hq, hi, ← hn, hl, hst]
theorem run_copy_no {P : Program} (w : World) (dT sT ty elem : TypeId) (d a : Option Addr) (dLen dCap sCap : Nat) (sz : Nat) (hu : P.underlying dT = some (.slice elem)) (hs : (P.info? elem).map (·.size) = some sz) :
    (Builtin.copy_ #[dT, sT] ty #[.slice d dLen dCap, .slice a 0 sCap]).run P w = .ok (goInt 0) w := by
  cases hq : P.info? elem with
  | none => simp [hq] at hs
  | some i =>
    have hl : ∀ (x : Addr), (loadCells x 0).run P w = .ok #[] w := fun x => by simpa using run_loadCells_list (P := P) w x [] (by simp)
    have hm : Nat.min 0 dLen = 0 := Nat.zero_min _
    cases d <;> cases a <;> simp [Builtin.copy_, run_underlying hu, Builtin.lenOf, Builtin.firstCells, sizeOf, typeInfo, hq, hm, storeCells, hl]

/-- 'copy(rows[k:], more)'. -/
theorem run_copy_own {P : Program} (w : World) (dT sT ty e : TypeId) (sz : Nat) (hu : P.underlying dT = some (.slice e)) (hs : (P.info? e).map (·.size) = some sz)
    (base g cap : Nat) (rows : List (List Value)) (hown : Owns w base e sz (.slice (some ⟨g, 0, none⟩) rows.length cap) rows)
    (k : Nat) (dp : Option Addr) (dLen dCap : Nat) (hdl : dLen = rows.length - k) (hdp : k < rows.length → dp = some ⟨g, k * sz, none⟩)
    (more : List (List Value)) (u : Value) (B : Nat) (hl : Lies w B sz u more) (h1 : ∀ r ∈ more, ∀ y ∈ r, y.oneCell' = true) (hfit : k + more.length ≤ rows.length) :
    ∃ w', (Builtin.copy_ #[dT, sT] ty #[.slice dp dLen dCap, u]).run P w = .ok (.int .i64 (more.length : Int)) w' ∧ Owns w' base e sz (.slice (some ⟨g, 0, none⟩) rows.length cap) (rows.take k ++ more ++ rows.drop (k + more.length)) ∧ Below base w w' ∧ (∀ b, b ≠ g → w'.heap[b]? = w.heap[b]?) := by
  obtain ⟨A, c, rfl, hz, hms, hm⟩ := hl
  by_cases h0 : more.length = 0
  · have hnil : more = [] := List.eq_nil_of_length_eq_zero h0
    subst hnil
    refine ⟨w, run_copy_no (P := P) w dT sT ty e dp A dLen dCap c sz hu hs, ?_, Below.refl _ _, fun _ _ => rfl⟩
    simpa using hown
  · rcases hm with hm | ⟨gs, off, rfl, hgs, hc⟩
    · exact absurd hm h0
    have hkl : k < rows.length := by omega
    have hdp' := hdp hkl
    subst hdp'
    obtain ⟨hrs, hlen, hor⟩ := hown
    rcases hor with ⟨e1, _⟩ | ⟨g', cap', cur, e1, hbg, hg, hnc, hcm, hcs, htake⟩
    · cases e1
    · cases e1
      have hfl : more.flatten.length = more.length * sz := flat_length sz more hms
      have hmin : Nat.min more.length dLen = more.length := Nat.min_eq_left (by omega)
      have hsz1 : (k + more.length) * sz ≤ rows.length * sz := Nat.mul_le_mul_right sz hfit
      have hsz2 : rows.length * sz ≤ cap * sz := Nat.mul_le_mul_right sz hnc
      have hadd : (k + more.length) * sz = k * sz + more.length * sz := Nat.add_mul _ _ _
      have hrun := run_copy_rows (P := P) w dT sT ty e g (k * sz) dLen dCap ⟨gs, off, none⟩ more.length c cur e more.flatten sz hu hs hg (by rw [hmin, hfl]) (fun j v hj => by
        have e2 : (⟨gs, off, none⟩ : Addr).add j = ⟨gs, off + j, none⟩ := by cases j <;> simp [Addr.add]
        rw [e2]
        exact hc j v hj) (by omega) (fun y hy => by
        obtain ⟨r, hr, hyr⟩ := List.mem_flatten.1 hy
        exact h1 r hr y hyr)
      rw [hmin] at hrun
      refine ⟨_, hrun, ?_, below_setRow (Below.refl _ _) hbg _, fun b hb => setRow_other w g b _ hb⟩
      have hft : rows.flatten = (rows.take k).flatten ++ (rows.drop k).flatten := by rw [← List.flatten_append, List.take_append_drop]
      have hl1 : (rows.take k).flatten.length = k * sz := by rw [flat_length sz _ (fun r hr => hrs r (List.mem_of_mem_take hr)), List.length_take, Nat.min_eq_left (by omega)]
      have hl2 : (rows.take (k + more.length)).flatten.length = (k + more.length) * sz := by rw [flat_length sz _ (fun r hr => hrs r (List.mem_of_mem_take hr)), List.length_take, Nat.min_eq_left (by omega)]
      have hft2 : rows.flatten = (rows.take (k + more.length)).flatten ++ (rows.drop (k + more.length)).flatten := by rw [← List.flatten_append, List.take_append_drop]
      have hall : ∀ r ∈ rows.take k ++ more ++ rows.drop (k + more.length), r.length = sz := by
        intro r hr
        rcases List.mem_append.1 hr with hr | hr
        · rcases List.mem_append.1 hr with hr | hr
          · exact hrs r (List.mem_of_mem_take hr)
          · exact hms r hr
        · exact hrs r (List.mem_of_mem_drop hr)
      have hnl : (rows.take k ++ more ++ rows.drop (k + more.length)).length = rows.length := by
        simp only [List.length_append, List.length_take, List.length_drop]
        omega
      have hcl : cur.toList.length = cap * sz := by rw [Array.length_toList]; exact hcs
      have hf1 : (rows.take k).flatten = cur.toList.take (k * sz) := by
        have : (rows.take k).flatten = rows.flatten.take (k * sz) := by rw [hft]; exact (List.take_left' hl1).symm
        rw [this, ← htake, List.take_take]
        congr 1
        omega
      have hf2 : (rows.drop (k + more.length)).flatten = (cur.toList.drop ((k + more.length) * sz)).take (rows.length * sz - (k + more.length) * sz) := by
        have : (rows.drop (k + more.length)).flatten = rows.flatten.drop ((k + more.length) * sz) := by rw [hft2]; exact (List.drop_left' hl2).symm
        rw [this, ← htake, List.drop_take]
      refine ⟨hall, ?_, .inr ⟨g, cap, _, by rw [hnl], hbg, setRow_heap w g cur _ e _ hg, by rw [hnl]; exact hnc, hcm, ?_, ?_⟩⟩
      · rw [flat_length sz _ hall]
      · rw [List.size_toArray]
        simp only [List.length_append, List.length_take, List.length_drop, hfl, hcl]
        omega
      · rw [hnl, List.toList_toArray, List.flatten_append, List.flatten_append, hf1, hf2, hfl, ← hadd]
        rw [List.take_append]
        have e3 : (List.take (k * sz) cur.toList ++ more.flatten).length = (k + more.length) * sz := by
          simp only [List.length_append, List.length_take, hfl, hcl]
          omega
        rw [e3, List.take_of_length_le (by omega)]
end Go.Proofs.Ytlekgbfopionfaa
