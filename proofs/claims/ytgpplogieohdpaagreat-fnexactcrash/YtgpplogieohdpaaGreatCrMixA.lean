/-
  What a crash leaves of an inode, and the contract of impl.cutOff (the inode's Sure within its Data).
-/
import Derived.Test.YtgpplogieohdpaaGreatRows
import Derived.Test.YtgpplogieohdpaaGreatImSpare
import Derived.Test.YtgpplogieohdpaaGreatUntil
import Derived.Laws.Small
import Derived.Test.YtgpplogieohdpaaGreatImSetA
import Derived.Test.YtgpplogieohdpaaGreatImChange
import Derived.Test.YtgpplogieohdpaaGreatNmAll
namespace Go.Proofs.YtgpplogieohdpaaGreat
open Go.ChangeShapes Go.WideShapes Go.ChangeAt Go.RowKit Go.PlainAid
set_option linter.unusedVariables false

/-- How many of n bytes are kept, of which sure ones are safe. -/
def cutS (n : Nat) (sure more : Int) : Int := if more < 0 then sure else if (n : Int) - sure < more then (n : Int) else sure + more
def cutN (x : Nod) (more : Int) : Nod := ⟨x.id, x.data.extract 0 (cutS x.data.size x.sure more).toNat, cutS x.data.size x.sure more⟩
theorem cutS_in {n : Nat} {sure more : Int} (h0 : 0 ≤ sure) (h1 : sure ≤ n) : sure ≤ cutS n sure more ∧ cutS n sure more ≤ n := by
  unfold cutS
  split
  · omega
  · split <;> omega
theorem wrap_in {z : Int} (h1 : -9223372036854775808 ≤ z) (h2 : z ≤ 9223372036854775807) : IntKind.i64.wrap z = z := by
  rw [IntKind.wrap_i64]; omega
theorem cutN_id (x : Nod) (more : Int) : (cutN x more).id = x.id := rfl
theorem cutN_size (x : Nod) (more : Int) : (cutN x more).data.size ≤ x.data.size := by
  unfold cutN
  simp only [ByteArray.size_extract]
  omega
theorem cutS_more (n : Nat) (sure more : Int) (h0 : 0 ≤ sure) (h1 : sure ≤ n) : (if (n : Int) - sure < (if more < 0 then 0 else more) then (n : Int) - sure else (if more < 0 then 0 else more)) = cutS n sure more - sure := by
  unfold cutS
  by_cases c1 : more < 0
  · rw [if_pos c1, if_pos c1, if_neg (by omega)]
    omega
  · rw [if_neg c1, if_neg c1]
    by_cases c2 : (n : Int) - sure < more
    · rw [if_pos c2, if_pos c2]
    · rw [if_neg c2, if_neg c2]
      omega

set_option maxRecDepth 20000 in
set_option maxHeartbeats 2000000 in
theorem cutOffV (w : World) (g : Nat) (x : Nod) (more : Int) (hk : Blk w g #[.int .i64 x.id, .string x.data, .int .i64 x.sure] 47) (h0 : 0 ≤ x.sure) (h1 : x.sure ≤ x.data.size) (h2 : x.data.size ≤ 281474976710656) :
    Calls Tryz.prog 24 #[.pointer (some ⟨g, 0, none⟩), .int .i64 more] w fun e w' => (∃ r, e = .returned r) ∧ Blk w' g #[.int .i64 (cutN x more).id, .string (cutN x more).data, .int .i64 (cutN x more).sure] 47 ∧ But (fun i => i = g) w w' := by
  obtain ⟨id, data, sure⟩ := x
  simp only at h0 h1 h2 hk
  have HK : Hid (Blk w g #[.int .i64 id, .string data, .int .i64 sure] 47) := hk
  have q : (data.size : Int) ≤ 281474976710656 := by omega
  have hS := cutS_in (n := data.size) (more := more) h0 h1
  obtain ⟨M, hM⟩ : ∃ M, M = cutS data.size sure more - sure := ⟨_, rfl⟩
  have HM : Hid ((if (data.size : Int) - sure < (if more < 0 then 0 else more) then (data.size : Int) - sure else (if more < 0 then 0 else more)) = M) := by
    unfold Hid; rw [hM]; exact cutS_more data.size sure more h0 h1
  have e1 : cutS data.size sure more = sure + M := by omega
  unfold cutN
  simp only
  rw [e1] at hS ⊢
  have m0 : 0 ≤ M := by omega
  have m1 : sure + M ≤ data.size := hS.2
  have m2 : 0 ≤ sure + M := by omega
  generalize hN : (if more < 0 then (0 : Int) else more) = N at HM
  have HN : Hid ((if more < 0 then (0 : Int) else more) = N) := hN
  clear hk hM e1 hS hN
  have S0 : Hid (w.drew.cell? ⟨g, 1, none⟩ = some (.string data) ∧ w.drew.cell? ⟨g, 2, none⟩ = some (.int .i64 sure)) := ⟨HK.out.cell 1 _ rfl, HK.out.cell 2 _ rfl⟩
  have x1 := HK.out.cell 1 _ rfl
  have x2 := HK.out.cell 2 _ rfl
  have z2 := HK.out.free 2
  have z1 := HK.out.free 1
  go_enter Tryz.func24, Tryz.ntmps24
  go_wp2_with fail
  refine wp_region_until (fun w' => w'.cell? ⟨g, 1, none⟩ = some (.string data) ∧ w'.cell? ⟨g, 2, none⟩ = some (.int .i64 sure)) (fun i => i == 20) 21 (by rfl) (by kernel_rfl) ?_
  refine until_take 0 (v := ?_) (by rfl) (by kernel_rfl) (by exact fun _ _ _ h => h) (by rfl) ?_ S0.out ?_
  rotate_left
  · intro w hSw
    try dsimp only at hSw
    go_simp
    try with_reducible rfl
  try simp only [Act.put, List.setIfInBounds_toArray, List.set_cons_zero, List.set_cons_succ]
  refine until_take 1 (v := ?_) (by rfl) (by kernel_rfl) (by exact fun _ _ _ h => h) (by rfl) ?_ S0.out ?_
  rotate_left
  · intro w hSw
    try dsimp only at hSw
    go_simp
    try with_reducible rfl
  try simp only [Act.put, List.setIfInBounds_toArray, List.set_cons_zero, List.set_cons_succ]
  refine until_take 2 (v := ?_) (by rfl) (by kernel_rfl) (by exact fun _ _ _ h => h) (by rfl) ?_ S0.out ?_
  rotate_left
  · intro w hSw
    try dsimp only at hSw
    go_simp
    try with_reducible rfl
  try simp only [Act.put, List.setIfInBounds_toArray, List.set_cons_zero, List.set_cons_succ]
  refine until_take 3 (v := ?_) (by rfl) (by kernel_rfl) (by exact fun _ _ _ h => h) (by rfl) ?_ S0.out ?_
  rotate_left
  · intro w hSw
    try dsimp only at hSw
    go_simp
    try with_reducible rfl
  try simp only [Act.put, List.setIfInBounds_toArray, List.set_cons_zero, List.set_cons_succ]
  refine until_take 4 (v := ?_) (by rfl) (by kernel_rfl) (by exact fun _ _ _ h => h) (by rfl) ?_ S0.out ?_
  rotate_left
  · intro w hSw
    try dsimp only at hSw
    go_simp
    try with_reducible rfl
  try simp only [Act.put, List.setIfInBounds_toArray, List.set_cons_zero, List.set_cons_succ]
  refine until_take 5 (v := .int .i64 N) (by rfl) (by kernel_rfl) (by exact fun _ _ _ h => h) (by rfl) ?_ S0.out ?_
  · intro w hSw
    try dsimp only at hSw
    go_simp
    try simp only [gt_iff_lt]
    try first | rw [HN.out] | (rw [← HN.out]; split <;> omega)
    try with_reducible rfl
  try simp only [Act.put, List.setIfInBounds_toArray, List.set_cons_zero, List.set_cons_succ]
  refine until_take 6 (v := ?_) (by rfl) (by kernel_rfl) (by exact fun _ _ _ h => h) (by rfl) ?_ S0.out ?_
  rotate_left
  · intro w hSw
    try dsimp only at hSw
    go_simp
    try with_reducible rfl
  try simp only [Act.put, List.setIfInBounds_toArray, List.set_cons_zero, List.set_cons_succ]
  refine until_take 7 (v := ?_) (by rfl) (by kernel_rfl) (by exact fun _ _ _ h => h) (by rfl) ?_ S0.out ?_
  rotate_left
  · intro w hSw
    try dsimp only at hSw
    go_simp
    try with_reducible rfl
  try simp only [Act.put, List.setIfInBounds_toArray, List.set_cons_zero, List.set_cons_succ]
  refine until_take 8 (v := ?_) (by rfl) (by kernel_rfl) (by exact fun _ _ _ h => h) (by rfl) ?_ S0.out ?_
  rotate_left
  · intro w hSw
    try dsimp only at hSw
    go_simp
    try with_reducible rfl
  try simp only [Act.put, List.setIfInBounds_toArray, List.set_cons_zero, List.set_cons_succ]
  refine until_take 9 (v := ?_) (by rfl) (by kernel_rfl) (by exact fun _ _ _ h => h) (by rfl) ?_ S0.out ?_
  rotate_left
  · intro w hSw
    try dsimp only at hSw
    go_simp
    try with_reducible rfl
  try simp only [Act.put, List.setIfInBounds_toArray, List.set_cons_zero, List.set_cons_succ]
  refine until_take 10 (v := ?_) (by rfl) (by kernel_rfl) (by exact fun _ _ _ h => h) (by rfl) ?_ S0.out ?_
  rotate_left
  · intro w hSw
    try dsimp only at hSw
    go_simp
    try with_reducible rfl
  try simp only [Act.put, List.setIfInBounds_toArray, List.set_cons_zero, List.set_cons_succ]
  refine until_take 11 (v := ?_) (by rfl) (by kernel_rfl) (by exact fun _ _ _ h => h) (by rfl) ?_ S0.out ?_
  rotate_left
  · intro w hSw
    try dsimp only at hSw
    go_simp
    try with_reducible rfl
  try simp only [Act.put, List.setIfInBounds_toArray, List.set_cons_zero, List.set_cons_succ]
  refine until_take 12 (v := ?_) (by rfl) (by kernel_rfl) (by exact fun _ _ _ h => h) (by rfl) ?_ S0.out ?_
  rotate_left
  · intro w hSw
    try dsimp only at hSw
    go_simp
    try with_reducible rfl
  try simp only [Act.put, List.setIfInBounds_toArray, List.set_cons_zero, List.set_cons_succ]
  refine until_take 13 (v := ?_) (by rfl) (by kernel_rfl) (by exact fun _ _ _ h => h) (by rfl) ?_ S0.out ?_
  rotate_left
  · intro w hSw
    try dsimp only at hSw
    go_simp
    try with_reducible rfl
  try simp only [Act.put, List.setIfInBounds_toArray, List.set_cons_zero, List.set_cons_succ]
  refine until_take 14 (v := ?_) (by rfl) (by kernel_rfl) (by exact fun _ _ _ h => h) (by rfl) ?_ S0.out ?_
  rotate_left
  · intro w hSw
    try dsimp only at hSw
    go_simp
    try with_reducible rfl
  try simp only [Act.put, List.setIfInBounds_toArray, List.set_cons_zero, List.set_cons_succ]
  refine until_take 15 (v := .int .i64 ((data.size : Int) - sure)) (by rfl) (by kernel_rfl) (by exact fun _ _ _ h => h) (by rfl) ?_ S0.out ?_
  · intro w hSw
    try dsimp only at hSw
    go_simp
    try rw [wrap_in (show -9223372036854775808 ≤ (data.size : Int) - sure by omega) (by omega)]
    try with_reducible rfl
  try simp only [Act.put, List.setIfInBounds_toArray, List.set_cons_zero, List.set_cons_succ]
  refine until_take 16 (v := .int .i64 M) (by rfl) (by kernel_rfl) (by exact fun _ _ _ h => h) (by rfl) ?_ S0.out ?_
  · intro w hSw
    try dsimp only at hSw
    go_simp
    try first | rw [HM.out] | (rw [← HM.out]; split <;> omega)
    try with_reducible rfl
  try simp only [Act.put, List.setIfInBounds_toArray, List.set_cons_zero, List.set_cons_succ]
  refine until_take 17 (v := .int .i64 (sure + M)) (by rfl) (by kernel_rfl) (by exact fun _ _ _ h => h) (by rfl) ?_ S0.out ?_
  · intro w hSw
    try dsimp only at hSw
    go_simp
    try rw [wrap_in (show -9223372036854775808 ≤ sure + M by omega) (by omega)]
    try with_reducible rfl
  try simp only [Act.put, List.setIfInBounds_toArray, List.set_cons_zero, List.set_cons_succ]
  refine until_take 18 (v := ?_) (by rfl) (by kernel_rfl) (by exact fun _ _ _ h => h) (by rfl) ?_ S0.out ?_
  rotate_left
  · intro w hSw
    try dsimp only at hSw
    go_simp
    try with_reducible rfl
  try simp only [Act.put, List.setIfInBounds_toArray, List.set_cons_zero, List.set_cons_succ]
  refine until_take 19 (v := ?_) (by rfl) (by kernel_rfl) (by exact fun _ _ _ h => h) (by rfl) ?_ S0.out ?_
  rotate_left
  · intro w hSw
    try dsimp only at hSw
    go_simp
    try with_reducible rfl
  try simp only [Act.put, List.setIfInBounds_toArray, List.set_cons_zero, List.set_cons_succ]
  refine until_one 20 (by rfl) (by kernel_rfl) (fun K hK => ?_)
  go_simp
  refine hK.out _ _ (fun h => by cases h) ?_
  clear hK K
  try simp only [Act.put, List.setIfInBounds_toArray, List.set_cons_zero, List.set_cons_succ]
  refine until_done (by kernel_rfl) ?_ _

  have K1 : Hid (Blk (w.setCell ⟨g, 2, none⟩ (.int .i64 (sure + M))).drew g #[.int .i64 id, .string data, .int .i64 (sure + M)] 47) := HK.out.set 2 _
  have B1 : Hid (But (fun i => i = g) w (w.setCell ⟨g, 2, none⟩ (.int .i64 (sure + M))).drew) := ((But.refl (fun i => i = g) w).setCell (p := ⟨g, 2, none⟩) (fun _ => rfl) _).drew
  generalize (w.setCell ⟨g, 2, none⟩ (.int .i64 (sure + M))).drew = w1 at *
  clear S0 x1 x2 z1 z2 HK HM HN
  have S1 : Hid (w1.drew.cell? ⟨g, 1, none⟩ = some (.string data) ∧ w1.drew.cell? ⟨g, 2, none⟩ = some (.int .i64 (sure + M))) := ⟨K1.out.cell 1 _ rfl, K1.out.cell 2 _ rfl⟩
  have z1 := K1.out.free 1
  have x1 : w1.cell? ⟨g, 1, none⟩ = some (.string data) := K1.out.cell 1 _ rfl
  go_wp2_with fail
  refine wp_region_until (fun w' => w'.cell? ⟨g, 1, none⟩ = some (.string data) ∧ w'.cell? ⟨g, 2, none⟩ = some (.int .i64 (sure + M))) (fun i => i == 12) 13 (by rfl) (by kernel_rfl) ?_
  refine until_take 0 (v := ?_) (by rfl) (by kernel_rfl) (by exact fun _ _ _ h => h) (by rfl) ?_ S1.out ?_
  rotate_left
  · intro w hSw
    try dsimp only at hSw
    go_simp
    try with_reducible rfl
  try simp only [Act.put, List.setIfInBounds_toArray, List.set_cons_zero, List.set_cons_succ]
  refine until_take 1 (v := ?_) (by rfl) (by kernel_rfl) (by exact fun _ _ _ h => h) (by rfl) ?_ S1.out ?_
  rotate_left
  · intro w hSw
    try dsimp only at hSw
    go_simp
    try with_reducible rfl
  try simp only [Act.put, List.setIfInBounds_toArray, List.set_cons_zero, List.set_cons_succ]
  refine until_take 2 (v := ?_) (by rfl) (by kernel_rfl) (by exact fun _ _ _ h => h) (by rfl) ?_ S1.out ?_
  rotate_left
  · intro w hSw
    try dsimp only at hSw
    go_simp
    try with_reducible rfl
  try simp only [Act.put, List.setIfInBounds_toArray, List.set_cons_zero, List.set_cons_succ]
  refine until_take 3 (v := ?_) (by rfl) (by kernel_rfl) (by exact fun _ _ _ h => h) (by rfl) ?_ S1.out ?_
  rotate_left
  · intro w hSw
    try dsimp only at hSw
    go_simp
    try with_reducible rfl
  try simp only [Act.put, List.setIfInBounds_toArray, List.set_cons_zero, List.set_cons_succ]
  refine until_take 4 (v := ?_) (by rfl) (by kernel_rfl) (by exact fun _ _ _ h => h) (by rfl) ?_ S1.out ?_
  rotate_left
  · intro w hSw
    try dsimp only at hSw
    go_simp
    try with_reducible rfl
  try simp only [Act.put, List.setIfInBounds_toArray, List.set_cons_zero, List.set_cons_succ]
  refine until_take 5 (v := ?_) (by rfl) (by kernel_rfl) (by exact fun _ _ _ h => h) (by rfl) ?_ S1.out ?_
  rotate_left
  · intro w hSw
    try dsimp only at hSw
    go_simp
    try with_reducible rfl
  try simp only [Act.put, List.setIfInBounds_toArray, List.set_cons_zero, List.set_cons_succ]
  refine until_take 6 (v := ?_) (by rfl) (by kernel_rfl) (by exact fun _ _ _ h => h) (by rfl) ?_ S1.out ?_
  rotate_left
  · intro w hSw
    try dsimp only at hSw
    go_simp
    try with_reducible rfl
  try simp only [Act.put, List.setIfInBounds_toArray, List.set_cons_zero, List.set_cons_succ]
  refine until_take 7 (v := ?_) (by rfl) (by kernel_rfl) (by exact fun _ _ _ h => h) (by rfl) ?_ S1.out ?_
  rotate_left
  · intro w hSw
    try dsimp only at hSw
    go_simp
    try with_reducible rfl
  try simp only [Act.put, List.setIfInBounds_toArray, List.set_cons_zero, List.set_cons_succ]
  refine until_take 8 (v := ?_) (by rfl) (by kernel_rfl) (by exact fun _ _ _ h => h) (by rfl) ?_ S1.out ?_
  rotate_left
  · intro w hSw
    try dsimp only at hSw
    go_simp
    try with_reducible rfl
  try simp only [Act.put, List.setIfInBounds_toArray, List.set_cons_zero, List.set_cons_succ]
  refine until_take 9 (v := ?_) (by rfl) (by kernel_rfl) (by exact fun _ _ _ h => h) (by rfl) ?_ S1.out ?_
  rotate_left
  · intro w hSw
    try dsimp only at hSw
    go_simp
    try with_reducible rfl
  try simp only [Act.put, List.setIfInBounds_toArray, List.set_cons_zero, List.set_cons_succ]
  refine until_take 10 (v := ?_) (by rfl) (by kernel_rfl) (by exact fun _ _ _ h => h) (by rfl) ?_ S1.out ?_
  rotate_left
  · intro w hSw
    try dsimp only at hSw
    go_simp
    try with_reducible rfl
  try simp only [Act.put, List.setIfInBounds_toArray, List.set_cons_zero, List.set_cons_succ]
  refine until_take 11 (v := ?_) (by rfl) (by kernel_rfl) (by exact fun _ _ _ h => h) (by rfl) ?_ S1.out ?_
  rotate_left
  · intro w hSw
    try dsimp only at hSw
    go_simp
    try with_reducible rfl
  try simp only [Act.put, List.setIfInBounds_toArray, List.set_cons_zero, List.set_cons_succ]
  refine until_one 12 (by rfl) (by kernel_rfl) (fun K hK => ?_)
  go_simp
  refine hK.out _ _ (fun h => by cases h) ?_
  clear hK K
  try simp only [Act.put, List.setIfInBounds_toArray, List.set_cons_zero, List.set_cons_succ]
  refine until_done (by kernel_rfl) ?_ _
  have K2 := K1.out.set 1 (.string (data.extract 0 (sure + M).toNat))
  have B2 := B1.out.setCell (p := ⟨g, 1, none⟩) (fun _ => rfl) (.string (data.extract 0 (sure + M).toNat))
  go_wp2_with fail
  exact bodyPost_end (v := .tuple #[]) (by simp [results, go_sem]) rfl ⟨⟨_, rfl⟩, K2, B2.drew⟩
end Go.Proofs.YtgpplogieohdpaaGreat

/-
  What a crash leaves of a disk; an open disk on the way to it (no program is walked, no condition).
-/
namespace Go.Proofs.YtgpplogieohdpaaGreat
open Go.ChangeShapes Go.WideShapes Go.ChangeAt Go.RowKit Go.PlainAid
set_option linter.unusedVariables false

/-- The inodes, the first k of them cut. -/
def mixN (cuts : List Int) (ns : List Nod) (k : Nat) : List Nod := ns.mapIdx fun i x => if i < k then cutN x (cuts.getD i 0) else x
/-- The inodes, all of them cut. -/
def cutL (cuts : List Int) (ns : List Nod) : List Nod := mixN cuts ns ns.length
theorem mixN_length (cuts : List Int) (ns : List Nod) (k : Nat) : (mixN cuts ns k).length = ns.length := List.length_mapIdx
theorem mixN_get (cuts : List Int) (ns : List Nod) (k j : Nat) (hj : j < ns.length) : (mixN cuts ns k).getD j default = if j < k then cutN (ns.getD j default) (cuts.getD j 0) else ns.getD j default := by
  unfold mixN
  rw [← getD_at ns j hj, List.getD_eq_getElem?_getD (l := List.mapIdx _ _), List.getElem?_mapIdx, List.getElem?_eq_getElem hj]
  rfl
theorem list_ext {l m : List Nod} (h : l.length = m.length) (hj : ∀ j, j < l.length → l.getD j default = m.getD j default) : l = m := by
  apply List.ext_getElem h
  intro j h1 h2
  have := hj j h1
  rw [List.getD_eq_getElem?_getD, List.getElem?_eq_getElem h1, List.getD_eq_getElem?_getD, List.getElem?_eq_getElem h2] at this
  exact this
theorem mixN_zero (cuts : List Int) (ns : List Nod) : mixN cuts ns 0 = ns := by
  refine list_ext (mixN_length _ _ _) fun j hj => ?_
  rw [mixN_length] at hj
  rw [mixN_get _ _ _ _ hj, if_neg (by omega)]
theorem cutL_get (cuts : List Int) (ns : List Nod) (j : Nat) (hj : j < ns.length) : (cutL cuts ns).getD j default = cutN (ns.getD j default) (cuts.getD j 0) := by
  unfold cutL
  rw [mixN_get _ _ _ _ hj, if_pos hj]
theorem cutL_length (cuts : List Int) (ns : List Nod) : (cutL cuts ns).length = ns.length := mixN_length _ _ _
theorem mixN_ids (cuts : List Int) (ns : List Nod) (k : Nat) : (mixN cuts ns k).map (·.id) = ns.map (·.id) := by
  apply List.ext_getElem (by rw [List.length_map, List.length_map, mixN_length])
  intro j h1 h2
  rw [List.length_map] at h2
  rw [List.getElem_map, List.getElem_map]
  unfold mixN
  rw [List.getElem_mapIdx]
  split <;> rfl
theorem prs_mix (cuts : List Int) (ns : List Nod) (k : Nat) (gs : List Nat) : prs (mixN cuts ns k) gs = prs ns gs := by unfold prs; rw [mixN_ids]
theorem cutL_rise {cuts : List Int} {ns : List Nod} (h : Rising ns) : Rising (cutL cuts ns) := by
  have h1 : (ns.map (·.id)).Pairwise (· < ·) := List.pairwise_map.2 h
  unfold cutL
  rw [← mixN_ids cuts ns ns.length] at h1
  exact List.pairwise_map.1 h1
theorem cutL_mem {cuts : List Int} {ns : List Nod} {x : Nod} (h : x ∈ cutL cuts ns) : ∃ y ∈ ns, x.id = y.id ∧ x.data.size ≤ y.data.size := by
  obtain ⟨j, hj, rfl⟩ := List.getElem_of_mem h
  have hj' := hj
  rw [cutL_length] at hj'
  refine ⟨ns.getD j default, getD_mem ns j hj', ?_⟩
  rw [getD_at _ j hj, cutL_get _ _ _ hj']
  exact ⟨rfl, cutN_size _ _⟩
theorem cutL_has {cuts : List Int} {ns : List Nod} {y : Nod} (h : y ∈ ns) : ∃ x ∈ cutL cuts ns, x.id = y.id := by
  obtain ⟨j, hj, rfl⟩ := List.getElem_of_mem h
  refine ⟨(cutL cuts ns).getD j default, getD_mem _ j (by rw [cutL_length]; exact hj), ?_⟩
  rw [cutL_get _ _ _ hj, getD_at ns j hj]
  rfl
/-- The names that a crash keeps, and the disk that it leaves. -/
def crashL (d : Dsk) (keep : Int) : List Lnk := names d.dir (d.movs.take keep.toNat)
def crashD (d : Dsk) (keep : Int) (cuts : List Int) : Dsk := ⟨d.room, d.next, keptN (crashL d keep) (cutL cuts d.nods), crashL d keep, []⟩
def crashR (d : Dsk) (keep : Int) (cuts : List Int) : Dsk := if diskOk d = true then crashD d keep cuts else zeroD
theorem crashR_yes {d : Dsk} {keep : Int} {cuts : List Int} (h : diskOk d = true) : crashR d keep cuts = crashD d keep cuts := by unfold crashR; rw [if_pos h]
theorem crashR_no {d : Dsk} {keep : Int} {cuts : List Int} (h : diskOk d = false) : crashR d keep cuts = zeroD := by unfold crashR; rw [if_neg (by rw [h]; simp)]
theorem nod_sure {d : Dsk} (hd : Whole d) (k : Nat) (hk : k < d.nods.length) : 0 ≤ (d.nods.getD k default).sure ∧ (d.nods.getD k default).sure ≤ ((d.nods.getD k default).data.size : Int) := by
  have hg := hd.nod k hk
  unfold nodGood at hg
  simp only [Bool.and_eq_true, decide_eq_true_eq] at hg
  exact hg.1.1.2
theorem ptrAt_own {ns : List Nod} {gs : List Nat} (h : Rising ns) (hl : gs.length = ns.length) {k : Nat} (hk : k < ns.length) : ptrAt (prs ns gs) (ns.getD k default).id = some (gs.getD k 0) := by
  have h1 := ptrAt_prs ns gs (ns.getD k default).id hl ⟨_, getD_mem ns k hk, rfl⟩
  obtain ⟨g, hg⟩ := Option.isSome_iff_exists.1 h1
  obtain ⟨j, hj, he, hgj⟩ := prs_at hg
  have e1 := nodAt_own h hk
  have e2 := nodAt_own h hj
  rw [he, e1] at e2
  injection e2 with e2
  subst e2
  rw [hg, hgj]
theorem gs_memK {gs : List Nat} {j : Nat} (hj : j < gs.length) : gs.getD j 0 ∈ gs := by
  rw [List.getD_eq_getElem?_getD, List.getElem?_eq_getElem hj]
  exact List.getElem_mem hj
theorem rise_neK {gs : List Nat} (h : gs.Pairwise (· < ·)) {i j : Nat} (hi : i < gs.length) (hj : j < gs.length) (hne : i ≠ j) : gs.getD i 0 ≠ gs.getD j 0 := by
  rw [List.getD_eq_getElem?_getD, List.getElem?_eq_getElem hi, List.getD_eq_getElem?_getD, List.getElem?_eq_getElem hj]
  show gs[i] ≠ gs[j]
  rcases Nat.lt_or_gt_of_ne hne with h1 | h1
  · have := List.pairwise_iff_getElem.1 h i j hi hj h1
    omega
  · have := List.pairwise_iff_getElem.1 h j i hj hi h1
    omega
theorem NT.notOwn {w : World} {b base : Nat} {l : List Lnk} {e : TypeId} {sz : Nat} {v : Value} {R : List (List Value)} (h : NT w b l) (k : Owns w base e sz v R) : v.ownBlock ≠ some b := by
  intro hg
  obtain ⟨c, fz, e1⟩ := Lib.ownsRow_kind k.2 b hg
  obtain ⟨n, es, clock, hb, _⟩ := h
  rw [e1] at hb
  cases hb

/-- What does not change on the way. -/
structure Apart (base p bi bd q : Nat) (gs : List Nat) : Prop where
  pi : p ≠ bi
  pd : p ≠ bd
  id : bi ≠ bd
  lo : base ≤ p ∧ base ≤ bi ∧ base ≤ bd
  gl : ∀ g ∈ gs, base ≤ g ∧ g ≠ p ∧ g ≠ bi ∧ g ≠ bd
  rise : gs.Pairwise (· < ·)
  res : q < base
/-- An open disk on the way: its inodes ns, its safe names l; q is where the answer will lie. -/
structure CrI (w : World) (base p q : Nat) (d : Dsk) (bi bd : Nat) (vw : Value) (ns : List Nod) (gs : List Nat) (l : List Lnk) (u : Value) : Prop where
  blk : Blk w p #[.int .i64 d.room, .int .i64 d.next, .map (some bi), .map (some bd), u, vw] 61
  it : IT w bi (prs d.nods gs)
  held : Held w ns gs
  nd : NT w bd l
  mv : Owns w base 63 4 u (movR d.movs)
  res : Blk w q #[.int .i64 0, .int .i64 0, .slice none 0 0, .slice none 0 0, .slice none 0 0] 33
theorem CrI.on {w w' : World} {base p q : Nat} {d : Dsk} {bi bd : Nat} {vw : Value} {ns : List Nod} {gs : List Nat} {l : List Lnk} {u : Value} (h : CrI w base p q d bi bd vw ns gs l u) (hb : Below w.heap.size w w') : CrI w' base p q d bi bd vw ns gs l u :=
  ⟨h.blk.on hb h.blk.lt, h.it.on hb h.it.lt, h.held.on hb h.held.lt, h.nd.on hb h.nd.lt, h.mv.on hb, h.res.on hb h.res.lt⟩
theorem CrI.cut {w w' : World} {base p q : Nat} {d : Dsk} {bi bd : Nat} {vw : Value} {gs : List Nat} {l : List Lnk} {u : Value} {cuts : List Int} {k : Nat} (h : CrI w base p q d bi bd vw (mixN cuts d.nods k) gs l u) (ha : Apart base p bi bd q gs) (hk : k < d.nods.length)
    (hn : Blk w' (gs.getD k 0) #[.int .i64 (cutN (d.nods.getD k default) (cuts.getD k 0)).id, .string (cutN (d.nods.getD k default) (cuts.getD k 0)).data, .int .i64 (cutN (d.nods.getD k default) (cuts.getD k 0)).sure] 47) (hb : But (fun i => i = gs.getD k 0) w w') : CrI w' base p q d bi bd vw (mixN cuts d.nods (k + 1)) gs l u := by
  have hlen : gs.length = d.nods.length := by rw [h.held.len, mixN_length]
  have hkg : k < gs.length := by omega
  have hm := ha.gl _ (gs_memK hkg)
  have hbk := h.held.blk k (by rw [mixN_length]; exact hk)
  refine ⟨hb.blk h.blk (fun e => hm.2.1 e.symm), h.it.but hb (fun e => hm.2.2.1 e.symm), ⟨by rw [mixN_length]; exact hlen, fun j hj => ?_⟩, h.nd.but hb (fun e => hm.2.2.2 e.symm), ?_, hb.blk h.res (fun e => by have := ha.res; have := hm.1; omega)⟩
  · rw [mixN_length] at hj
    rw [mixN_get _ _ _ _ hj]
    by_cases e : j = k
    · subst e
      rw [if_pos (by omega)]
      exact hn
    · have hold := h.held.blk j (by rw [mixN_length]; exact hj)
      rw [mixN_get _ _ _ _ hj] at hold
      have hold' := hb.blk hold (rise_neK ha.rise (by omega) hkg e)
      by_cases hlt : j < k
      · rw [if_pos (by omega)]
        rw [if_pos hlt] at hold'
        exact hold'
      · rw [if_neg (by omega)]
        rw [if_neg hlt] at hold'
        exact hold'
  · have hn' := h.mv.notBlk hbk (by decide)
    exact h.mv.kept fun g hg ho => hb.block g hg (fun e => by subst e; exact hn' ho)
theorem CrI.app {w w' : World} {base p q : Nat} {d : Dsk} {bi bd : Nat} {vw : Value} {ns : List Nod} {gs : List Nat} {l l' : List Lnk} {u : Value} (h : CrI w base p q d bi bd vw ns gs l u) (ha : Apart base p bi bd q gs) (hn : NT w' bd l') (hb : But (fun i => i = bd) w w') : CrI w' base p q d bi bd vw ns gs l' u := by
  refine ⟨hb.blk h.blk ha.pd, h.it.but hb ha.id, h.held.but hb (fun g hg e => (ha.gl g hg).2.2.2 e), hn, ?_, hb.blk h.res (fun e => by have := ha.res; have := ha.lo; omega)⟩
  have hn' := h.nd.notOwn h.mv
  exact h.mv.kept fun g hg ho => hb.block g hg (fun e => by subst e; exact hn' ho)
theorem OpenD.crash {w : World} {base p q : Nat} {d : Dsk} {bi bd bw : Nat} {gs : List Nat} {u : Value} (h : OpenD w base p d bi bd bw gs u) (hq : q < base) (hr : Blk w q #[.int .i64 0, .int .i64 0, .slice none 0 0, .slice none 0 0, .slice none 0 0] 33) : Apart base p bi bd q gs ∧ CrI w base p q d bi bd (.map (some bw)) d.nods gs d.dir u :=
  ⟨⟨h.pi, h.pd, h.id, ⟨h.lo.1, h.lo.2.1, h.lo.2.2.1⟩, fun g hg => ⟨(h.gl g hg).1, (h.gl g hg).2.1, (h.gl g hg).2.2.1, (h.gl g hg).2.2.2.1⟩, h.rise, hq⟩, ⟨h.blk, h.it, h.held, h.nd, h.mv, hr⟩⟩
theorem held_tail {w : World} {x : Nod} {r : List Nod} {g : Nat} {s : List Nat} (h : Held w (x :: r) (g :: s)) : Blk w g #[.int .i64 x.id, .string x.data, .int .i64 x.sure] 47 ∧ Held w r s :=
  ⟨h.blk 0 (by simp), ⟨by have := h.len; simpa using this, fun j hj => h.blk (j + 1) (by simpa using hj)⟩⟩
theorem held_cons {w : World} {x : Nod} {r : List Nod} {g : Nat} {s : List Nat} (hg : Blk w g #[.int .i64 x.id, .string x.data, .int .i64 x.sure] 47) (h : Held w r s) : Held w (x :: r) (g :: s) :=
  ⟨by simp [h.len], fun j hj => by
    cases j with
    | zero => exact hg
    | succ j => exact h.blk j (by simpa using hj)⟩
theorem held_kept {w : World} (l : List Lnk) : ∀ (ns : List Nod) (gs : List Nat), Held w ns gs → Held w (keptN l ns) (keptG l ns gs)
  | [], [], h => h
  | [], _ :: _, h => by have := h.len; cases this
  | _ :: _, [], h => by have := h.len; cases this
  | x :: r, g :: s, h => by
    obtain ⟨h1, h2⟩ := held_tail h
    have ih := held_kept l r s h2
    have eg : keptG l (x :: r) (g :: s) = if linked l x.id = true then g :: keptG l r s else keptG l r s := by rw [keptG]
    have en : keptN l (x :: r) = if linked l x.id = true then x :: keptN l r else keptN l r := by unfold keptN; rw [List.filter_cons]
    rw [eg, en]
    split
    · exact held_cons h1 ih
    · exact ih

theorem CrI.movAt {w : World} {base p q : Nat} {d : Dsk} {bi bd : Nat} {vw : Value} {ns : List Nod} {gs : List Nat} {l : List Lnk} {ua : Option Addr} {m uc : Nat} (h : CrI w base p q d bi bd vw ns gs l (.slice ua m uc)) (k : Nat) (hk : k < d.movs.length) : ∃ g off, ua = some ⟨g, off, none⟩ ∧
    w.cell? ⟨g, off + k * 4, none⟩ = some (.int .i64 (d.movs.getD k default).kind) ∧ w.cell? ⟨g, off + k * 4 + 1, none⟩ = some (.string (d.movs.getD k default).name) ∧ w.cell? ⟨g, off + k * 4 + 2, none⟩ = some (.string (d.movs.getD k default).to) ∧ w.cell? ⟨g, off + k * 4 + 3, none⟩ = some (.int .i64 (d.movs.getD k default).id) := by
  obtain ⟨A, c, e, hl⟩ := mov_look h.mv.lies
  injection e with e1 _ _
  subst e1
  obtain ⟨g, off, e2, _, h0, h1, h2, h3⟩ := hl k hk
  exact ⟨g, off, e2, h0, h1, h2, h3⟩
theorem crash_tell {w w0 : World} {p : Nat} {d : Dsk} {keep : Int} {cuts : List Int} {bl bd : Nat} {gs : List Nat} {vw : Value} (hT : Tellable w0 p d) (hl : Linked d (crashL d keep)) (hn : (crashL d keep).length ≤ 1000)
    (hK : Blk w p #[.int .i64 d.room, .int .i64 d.next, .map (some bl), .map (some bd), .slice none 0 0, vw] 61) (hI : IT w bl (prs (keptN (crashL d keep) (cutL cuts d.nods)) (keptG (crashL d keep) (cutL cuts d.nods) gs))) (hH : Held w (cutL cuts d.nods) gs) (hN : NT w bd (crashL d keep)) : Tellable w p (crashD d keep cuts) := by
  refine ⟨⟨bl, bd, keptG (crashL d keep) (cutL cuts d.nods) gs, .slice none 0 0, vw, hK, hI, held_kept (crashL d keep) (cutL cuts d.nods) gs hH, hN, ⟨none, 0, rfl, ⟨fun _ => rfl, Nat.le_refl _⟩, fun r hr => (by cases hr), .inl rfl⟩⟩, ?_, hl.sorted, hl.ok, ?_, hn, ?_, ?_, ?_⟩
  · exact (cutL_rise hT.rise).filter _
  · show (keptN (crashL d keep) (cutL cuts d.nods)).length ≤ 1000
    have h1 : (keptN (crashL d keep) (cutL cuts d.nods)).length ≤ (cutL cuts d.nods).length := List.length_filter_le _ _
    have := hT.n1
    rw [cutL_length] at h1
    omega
  · show (0 : Nat) ≤ 1000
    omega
  · intro x hx
    obtain ⟨y, hy, e1, e2⟩ := cutL_mem (List.mem_filter.1 hx).1
    have := hT.nx y hy
    exact ⟨by rw [e1]; exact this.1, by omega⟩
  · intro x hx
    cases hx
end Go.Proofs.YtgpplogieohdpaaGreat
