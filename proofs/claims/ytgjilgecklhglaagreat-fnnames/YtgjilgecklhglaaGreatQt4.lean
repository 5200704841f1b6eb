/- ImFindA Clone ImTold ImKeysI Until StrAid DkMkD ImToldO -/
import Derived.Test.YtgjilgecklhglaaGreatQt3
import Derived.Test.YtgjilgecklhglaaGreatRows
import Derived.Shelf.Pu.Clone
import Derived.WalkKit
import Derived.Below
import Derived.Deep.RegionLaw
import Derived.Deep.RegionHeld3
import Derived.Test.YtgjilgecklhglaaGreatQt0
import Derived.Test.YtgjilgecklhglaaGreatQt1
import Derived.StillTail
import Derived.ProofKit
import Derived.Laws.OwnMore
import Derived.OwnWalk
import Derived.WalkSmall
import Derived.Deep.RegionWith
import Derived.OpenShut
import Derived.WalkLawsBesides
import Derived.Outline
import Derived.BigQuiet
import Derived.Deep.QuietTactic
import Derived.Lib.OwnKind
import Derived.Deep.CutRange
open List (setIfInBounds_toArray set_cons_zero set_cons_succ)
namespace Go.Proofs.YtgjilgecklhglaaGreat
open Go.RowKit Go.PlainAid
theorem apply_ids {l : List Lnk} {m : Mov} {r : List Lnk} (he : apply l m = some r) : ∀ x ∈ r, (∃ y ∈ l, y.id = x.id) ∨ (m.kind = 1 ∧ x.id = m.id) := by
  by_cases hn : nameOk m.name = false
  · rw [apply_bad hn] at he; cases he
  · have hn' : nameOk m.name = true := by simpa using hn
    rcases hat : linkAt l m.name with _ | j
    · by_cases h1 : m.kind = 1 ∧ m.to.size = 0
      · obtain ⟨k, n, t, i⟩ := m
        simp only at h1 hn' hat
        obtain ⟨rfl, h1⟩ := h1
        rw [apply_make hn' h1 hat] at he
        cases he
        intro x hx
        rcases ins_mem hx with rfl | hx
        · exact .inr ⟨rfl, rfl⟩
        · exact .inl ⟨x, (List.mem_filter.1 hx).1, rfl⟩
      · rw [apply_none hat h1] at he; cases he
    · by_cases h2 : m.kind = 2 ∧ m.id = 0 ∧ nameOk m.to = true ∧ m.to ≠ m.name
      · obtain ⟨k, n, t, i⟩ := m
        simp only at h2 hn' hat
        obtain ⟨rfl, rfl, h2, h3⟩ := h2
        rw [apply_name hn' hat h2 h3] at he
        cases he
        intro x hx
        rcases ins_mem hx with rfl | hx
        · exact .inl ⟨_, (linkAt_name hat).2, rfl⟩
        · exact .inl ⟨x, (List.mem_filter.1 (List.mem_filter.1 hx).1).1, rfl⟩
      · by_cases h3 : m.kind = 3 ∧ m.id = 0 ∧ m.to.size = 0
        · obtain ⟨k, n, t, i⟩ := m
          simp only at h3 hn' hat
          obtain ⟨rfl, rfl, h3⟩ := h3
          rw [apply_drop hn' hat h3] at he
          cases he
          intro x hx
          exact .inl ⟨x, (List.mem_filter.1 hx).1, rfl⟩
        · rw [apply_some hat h2 h3] at he; cases he
theorem apply_sorted {l : List Lnk} (h : Sorted l) {m : Mov} {r : List Lnk} (he : apply l m = some r) : Sorted r := by
  by_cases hn : nameOk m.name = false
  · rw [apply_bad hn] at he; cases he
  · have hn' : nameOk m.name = true := by simpa using hn
    rcases hat : linkAt l m.name with _ | j
    · by_cases h1 : m.kind = 1 ∧ m.to.size = 0
      · obtain ⟨k, n, t, i⟩ := m
        simp only at h1 hn' hat
        obtain ⟨rfl, h1⟩ := h1
        rw [apply_make hn' h1 hat] at he
        cases he
        exact h.withL _
      · rw [apply_none hat h1] at he; cases he
    · by_cases h2 : m.kind = 2 ∧ m.id = 0 ∧ nameOk m.to = true ∧ m.to ≠ m.name
      · obtain ⟨k, n, t, i⟩ := m
        simp only at h2 hn' hat
        obtain ⟨rfl, rfl, h2, h3⟩ := h2
        rw [apply_name hn' hat h2 h3] at he
        cases he
        exact (h.without _).withL _
      · by_cases h3 : m.kind = 3 ∧ m.id = 0 ∧ m.to.size = 0
        · obtain ⟨k, n, t, i⟩ := m
          simp only at h3 hn' hat
          obtain ⟨rfl, rfl, h3⟩ := h3
          rw [apply_drop hn' hat h3] at he
          cases he
          exact h.without _
        · rw [apply_some hat h2 h3] at he; cases he
structure Linked (d : Dsk) (l : List Lnk) : Prop where
  ok : NamesOk l
  sorted : Sorted l
  ids : ∀ x ∈ l, (nodAt d.nods x.id).isSome = true
theorem dir_linked {d : Dsk} (h : Whole d) : Linked d d.dir := by
  have hd := dir_of_whole (gs := d.nods.map fun _ => 0) (by simp) h
  refine ⟨NamesOk.of_dir hd, ?_, fun x hx => ?_⟩
  · have := (dir_rising (Nat.le_refl _) (all_of hd)).1
    rw [List.take_length] at this
    exact this
  · obtain ⟨k, hk, rfl⟩ := List.getElem_of_mem hx
    have hg := h.lnk k hk
    unfold lnkGood at hg
    simp only [Bool.and_eq_true] at hg
    rw [getD_at d.dir k hk]
    exact hg.1.2
theorem Linked.apply {d : Dsk} {l : List Lnk} (h : Linked d l) {m : Mov} {r : List Lnk} (he : apply l m = some r) (hm : m.kind = 1 → (nodAt d.nods m.id).isSome = true) : Linked d r :=
  ⟨h.ok.apply he, apply_sorted h.sorted he, fun x hx => by
    rcases apply_ids he x hx with ⟨y, hy, e⟩ | ⟨hk, e⟩
    · rw [← e]; exact h.ids y hy
    · rw [e]; exact hm hk⟩
theorem names_linked {d : Dsk} (hd : Whole d) (k : Nat) (hk : k ≤ d.movs.length) : Linked d (names d.dir (d.movs.take k)) := by
  induction k with
  | zero =>
    rw [List.take_zero]
    exact dir_linked hd
  | succ k ih =>
    have h1 := ih (by omega)
    rw [names_take d.dir d.movs k (by omega)]
    have hg := hd.mov k (by omega)
    unfold movGood at hg
    rw [Bool.and_eq_true] at hg
    cases e : apply (names d.dir (d.movs.take k)) (d.movs.getD k default) with
    | none =>
      rw [e] at hg
      cases hg.2
    | some r =>
      refine h1.apply e fun hk1 => ?_
      have := hg.1
      rw [decide_eq_true hk1] at this
      cases e2 : nodAt d.nods (d.movs.getD k default).id with
      | none => rw [e2] at this; cases this
      | some j => rfl
theorem now_linked {d : Dsk} (hd : Whole d) : Linked d (names d.dir d.movs) := by
  have := names_linked hd d.movs.length (Nat.le_refl _)
  rw [List.take_length] at this
  exact this
theorem nod_ids {d : Dsk} (hd : Whole d) : ∀ x ∈ d.nods, 1 ≤ x.id ∧ x.id ≤ 1000000 := fun x hx => by
  obtain ⟨k, hk, rfl⟩ := List.getElem_of_mem hx
  have hg := hd.nod k hk
  have hR := (sizeOk_iff d).1 hd.size
  unfold nodGood at hg
  simp only [Bool.and_eq_true, decide_eq_true_eq] at hg
  rw [getD_at d.nods k hk]
  have h1 := hg.1.1.1
  have h2 := hR.x1
  omega
theorem nodAt_at {ns : List Nod} {id : Int} {j : Nat} (h : nodAt ns id = some j) : j < ns.length ∧ (ns.getD j default).id = id := by
  unfold nodAt at h
  rw [List.findIdx?_eq_some_iff_getElem] at h
  obtain ⟨hi, hp, _⟩ := h
  rw [← getD_at ns j hi]
  exact ⟨hi, of_decide_eq_true hp⟩
theorem ptr_nod {ns : List Nod} {gs : List Nat} (hl : gs.length = ns.length) {id : Int} {j : Nat} (h : nodAt ns id = some j) : ptrAt (prs ns gs) id = some (gs.getD j 0) := by
  unfold nodAt at h
  rw [List.findIdx?_eq_some_iff_getElem] at h
  obtain ⟨hi, hp, hn⟩ := h
  have hf : (prs ns gs).find? (fun p => decide (p.1 = id)) = some (ns[j].id, gs[j]'(by omega)) := by
    unfold prs
    rw [List.find?_eq_some_iff_getElem]
    refine ⟨hp, j, by rw [List.length_zip, List.length_map]; omega, by rw [List.getElem_zip, List.getElem_map], fun i hij => ?_⟩
    rw [List.getElem_zip, List.getElem_map]
    simpa using hn i hij
  unfold ptrAt
  rw [hf, List.getD_eq_getElem?_getD, List.getElem?_eq_getElem (by omega)]
  rfl
end Go.Proofs.YtgjilgecklhglaaGreat
namespace Go.Proofs.YtgjilgecklhglaaGreat
open Go.RowKit
def cloneRen : Go.Shelf.Ren := ⟨fun _ => 81, fun | 37 => 22 | 47 => 135 | t => t, fun g => g⟩
theorem clone_lays : Go.Proofs.LaysPu.n25 Tryz.prog cloneRen where
  mixed := by kernel_rfl
  f25 := Tryz.func81.trans (congrArg some (by kernel_rfl))
  t0 := Tryz.underlying0
  a0 := Tryz.isAgg0
  z0 := Tryz.sizeOf0
  v0 := Tryz.zeroValue0
  i0 := by kernel_rfl
  t3 := Tryz.underlying3
  a3 := Tryz.isAgg3
  z3 := Tryz.sizeOf3
  v3 := Tryz.zeroValue3
  i3 := by kernel_rfl
  t4 := Tryz.underlying4
  a4 := Tryz.isAgg4
  z4 := Tryz.sizeOf4
  v4 := Tryz.zeroValue4
  i4 := by kernel_rfl
  t5 := Tryz.underlying5
  a5 := Tryz.isAgg5
  z5 := Tryz.sizeOf5
  v5 := Tryz.zeroValue5
  i5 := by kernel_rfl
  t9 := Tryz.underlying9
  a9 := Tryz.isAgg9
  z9 := Tryz.sizeOf9
  v9 := Tryz.zeroValue9
  i9 := by kernel_rfl
  t37 := Tryz.underlying22
  a37 := Tryz.isAgg22
  z37 := Tryz.sizeOf22
  v37 := Tryz.zeroValue22
  i37 := by kernel_rfl
  t47 := Tryz.underlying135
  a47 := Tryz.isAgg135
  z47 := Tryz.sizeOf135
  v47 := Tryz.zeroValue135
  i47 := by kernel_rfl
theorem clone (s : ByteArray) (w : World) (hs : s.size ≤ 281474976710656) :
    Calls Tryz.prog 52 #[.string s] w fun e w' => e = .returned (.string s) ∧ Below w.heap.size w w' := by
  have c1 : Calls Tryz.prog 81 #[.string s] w fun e w' => e = .returned (.string s) ∧ Below w.heap.size w w' := AnyPu.stringslite_Clone clone_lays s w hs
  clear hs
  go_enter Tryz.func52, Tryz.ntmps52
  go_wp2_with fail
  refine c1.mono ?_
  rintro e w1 ⟨rfl, hb1⟩
  go_wp2_with fail
  go_ret
  exact ⟨rfl, hb1⟩
end Go.Proofs.YtgjilgecklhglaaGreat
namespace Go.Proofs.YtgjilgecklhglaaGreat
open Go.ChangeShapes Go.WideShapes Go.ChangeAt Go.RowKit Go.PlainAid
set_option linter.unusedVariables false
theorem linkAt_own {l : List Lnk} (h : Sorted l) {k : Nat} (hk : k < l.length) : linkAt l (l.getD k default).name = some k := by
  unfold linkAt
  rw [List.findIdx?_eq_some_iff_getElem]
  refine ⟨hk, by rw [getD_at l k hk]; exact decide_eq_true rfl, fun j hj => ?_⟩
  have := List.pairwise_iff_getElem.1 h j k (by omega) hk hj
  rw [← getD_at l k hk]
  simpa using ahead_ne this
theorem name_size {s : ByteArray} (h : nameOk s = true) : s.size ≤ 12 := by
  unfold nameOk at h
  simp only [Bool.and_eq_true, decide_eq_true_eq] at h
  omega
set_option maxRecDepth 20000 in
set_option maxHeartbeats 2000000 in
theorem toldN (w : World) (b : Nat) (l : List Lnk) (h : NT w b l) (hs : Sorted l) (hn : NamesOk l) (hl : l.length ≤ 1000) :
    Calls Tryz.prog 58 #[.map (some b)] w fun e w' => ∃ u, e = .returned u ∧ Owns w' w.heap.size 49 2 u (lnkR l) ∧ Below w.heap.size w w' := by
  have cK := keysV w b
  have cS := sortedV w b l h hs hl
  have HN : Hid (NT w b l) := h
  have HS : Hid (Sorted l) := hs
  have HO : Hid (NamesOk l) := hn
  have q1 : (l.length : Int) ≤ 1000 := by omega
  clear h hs hn hl
  go_enter Tryz.func58, Tryz.ntmps58
  go_wp2_with fail
  refine cK.mono ?_
  rintro e w1 ⟨rfl, rfl⟩
  clear cK
  go_wp2_with fail
  refine cS.mono ?_
  rintro e w2 ⟨v, rfl, hO, hb⟩
  have HB2 : Hid (Below w.heap.size w w2) := hb
  have N2 : Hid (NT w2 b l) := HN.out.on hb HN.out.lt
  obtain ⟨A, cap, rfl, hlk⟩ := str_look hO.lies
  rw [List.length_map] at hlk
  have HL : Hid (∀ j, j < l.length → ∃ g off, A = some ⟨g, off, none⟩ ∧ g < w2.heap.size ∧ _) := hlk
  have e0 : (l.map (·.name)).length = l.length := List.length_map _
  rw [e0]
  clear cS hb hO hlk e0
  generalize hNN : l.length = N at *
  go_wp2_with fail
  go_loopw [3, 10] (fun v3 v10 wr => ∃ k : Nat, k ≤ N ∧ v10 = .int .i64 (k : Int) ∧ Owns wr w2.heap.size 49 2 v3 (lnkR (l.take k)) ∧ Below w2.heap.size w2 wr) (fun _ i _ => N - (intOf i).toNat)
  case atStart => exact ⟨0, by omega, rfl, by rw [List.take_zero]; exact Owns.nil _ _ _ _, Below.refl _ _⟩
  case round =>
    obtain ⟨k, hk, rfl, hO, hb⟩ := hrel
    obtain ⟨uA, um, uc, rfl⟩ := hO.shape
    have HOW : Hid (Owns wr w2.heap.size 49 2 (.slice uA um uc) (lnkR (l.take k))) := hO
    have HBB : Hid (Below w2.heap.size w2 wr) := hb
    clear hO hb
    by_cases hlt : k < N
    · have q4 : (k : Int) < (N : Int) := by omega
      obtain ⟨g, off, rfl, hg, hc⟩ := HL.out k hlt
      rw [← HBB.out.cell (p := ⟨_, _, none⟩) hg] at hc
      have hnm : (l.map (·.name)).getD k ⟨#[]⟩ = (l.getD k default).name := by
        rw [List.getD_eq_getElem?_getD, List.getElem?_map, List.getD_eq_getElem?_getD, List.getElem?_eq_getElem (by omega)]
        rfl
      rw [hnm] at hc
      have hat := linkAt_own HS.out (k := k) (by omega)
      have hsz := name_size (HO.out _ (getD_mem l k (by omega)))
      have HRS : Hid (lnkR (l.take (k + 1)) = lnkR (l.take k) ++ [lnkC (l.getD k default)]) := lnkR_snoc l k (by omega)
      have HLE : Hid ((lnkR (l.take k)).length ≤ 2097152) := by unfold Hid; rw [lnkR_length, List.length_take]; omega
      have NTd : NT wr.drew b l := (N2.out.on HBB.out N2.out.lt).kept rfl
      have hid : (l.getD k default).id = (l.getD k default).id := rfl
      have VAL : Hid (∀ wx, NT wx b l → (Instr.lookup 84 (.map (some b)) (.string (l.getD k default).name) false).run Tryz.prog wx = .ok (.int .i64 (l.getD k default).id) wx) := fun wx hx => hx.val _ (by unfold maxLen; omega) k hat
      clear hat hnm hid
      unfold lnkC at HRS
      generalize (l.getD k default).name = xn at *
      generalize (l.getD k default).id = xi at *
      generalize lnkR (l.take k) = Rk at *
      have rA := VAL.out wr.drew NTd
      have HNTd : Hid (NT wr.drew b l) := NTd
      have cC := clone xn wr.drew (by omega)
      have OD : Hid (Owns wr.drew w2.heap.size 49 2 (.slice uA um uc) Rk) := HOW.out.kept fun _ _ _ => rfl
      have ZZ : Hid (w2.heap.size ≤ wr.heap.size) := HBB.out.size
      clear NTd hsz hg
      go_wp2_with fail
      go_region_held3 (fun _ => True) (exact True.intro) ((first
        | (go_at_call 52; refine cC.mono ?_; rintro e w5 ⟨rfl, hb5⟩; have rB := VAL.out w5 (HNTd.out.on hb5 HNTd.out.lt); obtain ⟨nA, nm, nc, w6, r6, hO6, hb6, _, _⟩ := run_append_row (P := Tryz.prog) w5 25 25 49 (.agg #[.string ⟨#[]⟩, .int .i64 0]) 2 24 Tryz.underlying25 Tryz.infoLnk rfl (by omega) w2.heap.size (.slice uA um uc) Rk (OD.out.on hb5) [.string xn, .int .i64 xi] rfl (by intro y hy; simp at hy; rcases hy with rfl | rfl <;> rfl) HLE.out (by omega) (Nat.le_trans ZZ.out hb5.size))
        | (refine step_append_run (by rfl) (.tmp 14) (.tmp 21) 25 (by rfl) _ _ _ _ (by rfl) (by rfl) r6 ?_)))
      all_goals
        go_wp2_with fail
        go_roundw
        case rel => exact ⟨k + 1, by omega, by go_num, by rw [HRS.out]; exact hO6, HBB.out.trans (((Below.refl _ wr).drew.trans (hb5.mono ZZ.out)).trans hb6)⟩
        case measure => simp [intOf]; omega
    · obtain rfl : k = N := by omega
      go_wp2_with fail
      go_ret
      refine ⟨_, rfl, ?_, HB2.out.trans (HBB.out.mono HB2.out.size)⟩
      have := HOW.out
      rw [← hNN, List.take_length] at this
      exact this.mono HB2.out.size
end Go.Proofs.YtgjilgecklhglaaGreat
namespace Go.Proofs.YtgjilgecklhglaaGreat
open Go.RowKit Go.Maps Go.Sort Go.Shelf
theorem sortsI (m : Nat) : AnyZI.SortsIn Tryz.prog Tryz.sortedI_ren Fence.wide m :=
  ⟨fun blk off cap ss W hH hblk hsz => callsIn_wide.2 (AnyM.slices_Sort_int Tryz.sortI blk off cap ss W hH hblk hsz),
   fun p cap W => callsIn_wide.2 (AnyM.slices_Sort_int_none Tryz.sortI p cap W)⟩
theorem keysIV (w : World) (b : Nat) : Calls Tryz.prog 80 #[.map (some b)] w fun e w' => e = .returned (.func (.func 102) #[] #[.pointer (some ⟨w.heap.size, 0, none⟩)]) ∧ w' = w.alloc (.cells #[.map (some b)] 82) :=
  (callsIn_wide (n := 5)).1 (AnyZI.keys_in Tryz.keysI Fence.wide 5 trivial rfl (some b) w)
theorem intKeys_ptr (l : List (Int × Nat)) : intKeys (ptrD l) = l.map (·.1) := by
  unfold ptrD intKeys
  simp only [List.map_map]
  rfl
theorem prs_fst {ns : List Nod} {gs : List Nat} (h : gs.length = ns.length) : (prs ns gs).map (·.1) = ns.map (·.id) := by
  unfold prs
  rw [show (fun p : Int × Nat => p.1) = Prod.fst from rfl, List.map_fst_zip]
  rw [List.length_map, h]
  exact Nat.le_refl _
theorem sortedI_keys {l : List Int} (h : l.Pairwise (· < ·)) {ss : List Int} (hp : ss.Perm l) : ss.mergeSort (fun x y => decide (x ≤ y)) = l := by
  have h1 : (ss.mergeSort (fun x y => decide (x ≤ y))).Pairwise (fun x y => decide (x ≤ y) = true) := List.pairwise_mergeSort (fun a b c => by simp only [decide_eq_true_eq]; omega) (fun a b => by simp only [Bool.or_eq_true, decide_eq_true_eq]; omega) ss
  refine List.Perm.eq_of_pairwise (le := fun x y => decide (x ≤ y) = true) (fun a b _ _ h1 h2 => by simp only [decide_eq_true_eq] at h1 h2; omega) h1 ?_ ((List.mergeSort_perm ss _).trans hp)
  exact h.imp fun {a b} hab => decide_eq_true (by omega)
def numR (l : List Int) : List (List Value) := l.map fun s => [.int .i64 s]
theorem numR_length (l : List Int) : (numR l).length = l.length := by simp [numR]
theorem numR_flat (l : List Int) : (numR l).flatten = l.map (Value.int .i64) := by
  unfold numR
  induction l with
  | nil => rfl
  | cons a r ih =>
    rw [List.map_cons, List.flatten_cons, ih]
    rfl
theorem num_look {w : World} {B : Nat} {v : Value} {l : List Int} (h : Lies w B 1 v (numR l)) : ∃ A cap, v = .slice A l.length cap ∧ ∀ j, j < l.length → ∃ g off, A = some ⟨g, off, none⟩ ∧ g < B ∧ w.cell? ⟨g, off + j, none⟩ = some (.int .i64 (l.getD j 0)) := by
  obtain ⟨A, cap, e, h⟩ := h.look
  refine ⟨A, cap, by rw [e, numR_length], fun j hj => ?_⟩
  obtain ⟨g, off, e, hg, hc⟩ := h j (by rw [numR_length]; exact hj)
  refine ⟨g, off, e, hg, ?_⟩
  have := hc 0 (.int .i64 (l.getD j 0)) (by omega) (by simp [numR, List.getD_eq_getElem?_getD, List.getElem?_eq_getElem hj])
  simpa using this
theorem sortedIV (w : World) (b : Nat) (ns : List Nod) (gs : List Nat) (h : IT w b (prs ns gs)) (hg : gs.length = ns.length) (hs : Rising ns) (hl : ns.length ≤ 1000) :
    Calls Tryz.prog 79 #[.func (.func 102) #[] #[.pointer (some ⟨w.heap.size, 0, none⟩)]] (w.alloc (.cells #[.map (some b)] 82)) fun e w' => ∃ v, e = .returned v ∧ Owns w' w.heap.size 3 1 v (numR (ns.map (·.id))) ∧ Below w.heap.size w w' := by
  obtain ⟨n, hown⟩ := h
  have hbl := hown.lt
  have hsz : Maps.size (ptrD (prs ns gs)) = ns.length := by rw [ptrD_size]; unfold prs; rw [List.length_zip, List.length_map]; omega
  have hseq : SeqGives Fence.wide 2 Tryz.prog 102 #[.pointer (some ⟨w.heap.size, 0, none⟩)] encZ (fun ss => ss.Perm (intKeys (ptrD (prs ns gs)))) (Maps.size (ptrD (prs ns gs))) (w.alloc (.cells #[.map (some b)] 82)) :=
    AnyZI.keys_gives (ρ := Tryz.keysI_ren) { Tryz.keysI with } Fence.wide _ trivial rfl (by omega) w.heap.size b n (ptrD (prs ns gs)) _ (by simp) (by simp) (by
      obtain ⟨es, clock, hb, Ft, hs, hD⟩ := hown
      exact ⟨es, clock, (Below.heap_alloc _ _ b hbl).trans hb, Ft, hs, hD⟩)
  have cS := AnyZI.sorted_in Tryz.sortedI Fence.wide 5 trivial trivial trivial trivial rfl (by omega) (sortsI _) (enters_of Tryz.func101 (by kernel_rfl) rfl) 102 #[.pointer (some ⟨w.heap.size, 0, none⟩)] trivial (enters_of Tryz.func102 (by kernel_rfl) rfl) _ _ (by rw [hsz]; unfold maxLen; omega) (by rw [hsz]; omega) _ hseq
  refine ((callsIn_wide (n := 5)).1 cS).mono ?_
  rintro e w' ⟨v, ss, rfl, hp, hrow, _, hb⟩
  rw [intKeys_ptr, prs_fst hg] at hp
  have hlen : ss.length = ns.length := by rw [hp.length_eq, List.length_map]
  rw [sortedI_keys (List.pairwise_map.2 hs) hp] at hrow
  refine ⟨v, rfl, ⟨fun r hr => ?_, ?_⟩, ((Below.refl _ w).alloc (Nat.le_refl _) _).trans (hb.mono (by simp))⟩
  · obtain ⟨x, _, rfl⟩ := List.mem_map.1 hr
    rfl
  · rw [numR_length, List.length_map, numR_flat, ← hlen]
    exact ⟨hrow.1, hrow.2.imp id fun ⟨g, cap, cur, e, hg, r⟩ => ⟨g, cap, cur, e, Nat.le_trans (by simp) hg, r⟩⟩
end Go.Proofs.YtgjilgecklhglaaGreat
namespace Go.Proofs.YtgjilgecklhglaaGreat
open Go
section
variable {P : Program} {ops : Array Oper} {Q : Exit → Act → World → Prop} {md : Region.Mode} {S : World → Prop} {T : Nat → Bool}
def wpUntil (P : Program) (md : Region.Mode) (ops : Array Oper) (Q : Exit → Act → World → Prop) (S : World → Prop) (T : Nat → Bool) : Nat → Array Bool → Act → World → Prop
  | 0, listed, a, w => Region.ready md ops listed = [] ∧ Q .normal a w
  | fuel + 1, listed, a, w =>
    (Region.ready md ops listed = [] → Q .normal a w) ∧ ∀ i ∈ Region.ready md ops listed, wpOp P ops Q i (fun a' w' => (T i = false → S w → S w') ∧ wpUntil P md ops Q S T fuel (listed.setIfInBounds i true) a' w') a w
theorem wpAny_of_until : ∀ (fuel : Nat) (listed : Array Bool) (a : Act) (w : World), wpUntil P md ops Q S T fuel listed a w → wpAny P md ops Q fuel listed a w
  | 0, _, _, _, h => h
  | fuel + 1, _, _, _, h => ⟨h.1, fun i hi => wpOp_mono (fun a' w' h' => wpAny_of_until fuel _ a' w' h'.2) (h.2 i hi)⟩
def needs (md : Region.Mode) (ops : Array Oper) : Nat → Nat → Nat → Bool
  | 0, _, _ => false
  | f + 1, t, i => match ops[t]? with
    | some o => o.after.any fun e => Region.binds md e && (e.on == i || needs md ops f e.on i)
    | none => false
def Closed (md : Region.Mode) (ops : Array Oper) (listed : Array Bool) : Prop :=
  ∀ j oj, ops[j]? = some oj → listed.getD j false = true → ∀ e ∈ oj.after, Region.binds md e = true → listed.getD e.on false = true
theorem needs_some {f t i : Nat} (h : needs md ops f t i = true) : ∃ o, ops[t]? = some o := by
  cases f with
  | zero => cases h
  | succ f =>
    unfold needs at h
    cases e : ops[t]? with
    | none => rw [e] at h; cases h
    | some o => exact ⟨o, rfl⟩
theorem needs_listed {listed : Array Bool} (hc : Closed md ops listed) : ∀ (f t i : Nat) (ot : Oper), ops[t]? = some ot → (∀ e ∈ ot.after, Region.binds md e = true → listed.getD e.on false = true) → needs md ops f t i = true → listed.getD i false = true
  | 0, _, _, _, _, _, h => by cases h
  | f + 1, t, i, ot, hot, hall, h => by
    unfold needs at h
    rw [hot] at h
    obtain ⟨e, he, hb⟩ := Array.any_eq_true'.1 h
    rw [Bool.and_eq_true, Bool.or_eq_true] at hb
    have h1 := hall e he hb.1
    rcases hb.2 with h2 | h2
    · rw [← beq_iff_eq.1 h2]
      exact h1
    · obtain ⟨o2, ho2⟩ := needs_some h2
      exact needs_listed hc f e.on i o2 ho2 (hc e.on o2 ho2 h1) h2
theorem Closed.set {i : Nat} {listed : Array Bool} (h : Closed md ops listed) (hi : i ∈ Region.ready md ops listed) : Closed md ops (listed.setIfInBounds i true) := by
  obtain ⟨_, oi, hoi, hall⟩ := mem_ready.1 hi
  intro j oj hj hl e he hb
  by_cases hij : i = j
  · subst hij
    have : oj = oi := Option.some.inj (hj.symm.trans hoi)
    subst this
    exact getD_set_true (hall e he hb)
  · rw [_root_.Go.getD_set_ne false hij] at hl
    exact getD_set_true (h j oj hj hl e he hb)
theorem wpUntil_first {i : Nat} {oi : Oper} {v : Value} (hi : ops[i]? = some oi) (hsel : ∀ (j : Nat) (o : Oper) cs b, ops[j]? = some o → o.op ≠ .select cs b)
    (hQ : ∀ c a w, Q (.panic c) (a.put oi.dst v) w → Q (.panic c) a w) (hT : ∀ t, t < ops.size → T t = true → needs md ops ops.size t i = true) :
    ∀ (fuel : Nat) (listed : Array Bool) (a : Act) (w : World), Closed md ops listed →
      (∀ j oj, ops[j]? = some oj → j ≠ i → listed.getD j true = false → (∀ e ∈ oj.after, Region.binds md e = true → e.on ≠ i) → oi.apart ops oj = true) →
      i ∈ Region.ready md ops listed → YieldsIf P ops S oi v a → S w →
      wpUntil P md ops Q S T fuel (listed.setIfInBounds i true) (a.put oi.dst v) w → wpUntil P md ops Q S T (fuel + 1) listed a w := by
  intro fuel
  induction fuel with
  | zero =>
    intro listed a w _ _ hr hy hS H
    refine ⟨fun h => (by rw [h] at hr; cases hr), fun j hj => ?_⟩
    by_cases hji : j = i
    · subst hji
      exact hy.wpOp hi hS ⟨fun _ h => h, H⟩
    · have := ready_mono hj hji
      rw [H.1] at this
      cases this
  | succ fuel ih =>
    intro listed a w hc hfree hr hy hS H
    refine ⟨fun h => (by rw [h] at hr; cases hr), fun j hj => ?_⟩
    by_cases hji : j = i
    · subst hji
      exact hy.wpOp hi hS ⟨fun _ h => h, H⟩
    · have h1 := H.2 j (ready_mono hj hji)
      obtain ⟨hjun, oj, hoj, hall⟩ := mem_ready.1 hj
      have hun := getD_both (mem_ready.1 hr).1
      have hnot : ∀ e ∈ oj.after, Region.binds md e = true → e.on ≠ i := fun e he hb heq => by
        have h1 := hall e he hb
        rw [heq, hun] at h1
        cases h1
      have hTj : T j = false := by
        cases e : T j with
        | false => rfl
        | true =>
          have := needs_listed hc _ j i oj hoj hall (hT j (Array.getElem?_eq_some_iff.1 hoj).1 e)
          rw [hun] at this
          cases this
      have h2 := wpOp_putIf hoj (hfree j oj hoj hji hjun hnot) (fun cs b => hsel i oi cs b hi) (fun cs b => hsel j oj cs b hoj) hQ hy h1
      have hfree' : ∀ k ok, ops[k]? = some ok → k ≠ i → (listed.setIfInBounds j true).getD k true = false →
          (∀ e ∈ ok.after, Region.binds md e = true → e.on ≠ i) → oi.apart ops ok = true := fun k ok hk hki hun hno => by
        refine hfree k ok hk hki ?_ hno
        by_cases hjk : j = k
        · subst hjk
          exact hjun
        · rw [_root_.Go.getD_set_ne true hjk] at hun
          exact hun
      refine wpOp_mono (fun a' w' h3 => ⟨h3.2.1, ih (listed.setIfInBounds j true) a' w' (hc.set hj) hfree' (ready_mono hr (Ne.symm hji)) h3.1 (h3.2.1 hTj hS) ?_⟩) h2
      rw [Array.setIfInBounds_comm _ _ hji]
      exact h3.2.2
theorem wpUntil_pure {i : Nat} {oi : Oper} {v : Value} (hi : ops[i]? = some oi) (hsel : ∀ (j : Nat) (o : Oper) cs b, ops[j]? = some o → o.op ≠ .select cs b)
    (hQ : ∀ c a w, Q (.panic c) (a.put oi.dst v) w → Q (.panic c) a w) :
    ∀ (fuel : Nat) (listed : Array Bool) (a : Act) (w : World),
      (∀ j oj, ops[j]? = some oj → j ≠ i → listed.getD j true = false → (∀ e ∈ oj.after, Region.binds md e = true → e.on ≠ i) → oi.apart ops oj = true) →
      i ∈ Region.ready md ops listed → YieldsIf P ops (fun _ => True) oi v a →
      wpUntil P md ops Q S T fuel (listed.setIfInBounds i true) (a.put oi.dst v) w → wpUntil P md ops Q S T (fuel + 1) listed a w := by
  intro fuel
  induction fuel with
  | zero =>
    intro listed a w _ hr hy H
    refine ⟨fun h => (by rw [h] at hr; cases hr), fun j hj => ?_⟩
    by_cases hji : j = i
    · subst hji
      exact hy.wpOp hi trivial ⟨fun _ h => h, H⟩
    · have := ready_mono hj hji
      rw [H.1] at this
      cases this
  | succ fuel ih =>
    intro listed a w hfree hr hy H
    refine ⟨fun h => (by rw [h] at hr; cases hr), fun j hj => ?_⟩
    by_cases hji : j = i
    · subst hji
      exact hy.wpOp hi trivial ⟨fun _ h => h, H⟩
    · have h1 := H.2 j (ready_mono hj hji)
      obtain ⟨hjun, oj, hoj, hall⟩ := mem_ready.1 hj
      have hun := getD_both (mem_ready.1 hr).1
      have hnot : ∀ e ∈ oj.after, Region.binds md e = true → e.on ≠ i := fun e he hb heq => by
        have h1 := hall e he hb
        rw [heq, hun] at h1
        cases h1
      have h2 := wpOp_putIf hoj (hfree j oj hoj hji hjun hnot) (fun cs b => hsel i oi cs b hi) (fun cs b => hsel j oj cs b hoj) hQ hy h1
      have hfree' : ∀ k ok, ops[k]? = some ok → k ≠ i → (listed.setIfInBounds j true).getD k true = false →
          (∀ e ∈ ok.after, Region.binds md e = true → e.on ≠ i) → oi.apart ops ok = true := fun k ok hk hki hun hno => by
        refine hfree k ok hk hki ?_ hno
        by_cases hjk : j = k
        · subst hjk
          exact hjun
        · rw [_root_.Go.getD_set_ne true hjk] at hun
          exact hun
      refine wpOp_mono (fun a' w' h3 => ⟨h3.2.1, ih (listed.setIfInBounds j true) a' w' hfree' (ready_mono hr (Ne.symm hji)) h3.1 ?_⟩) h2
      rw [Array.setIfInBounds_comm _ _ hji]
      exact h3.2.2
def closedB (md : Region.Mode) (ops : Array Oper) (listed : Array Bool) : Bool :=
  (List.range ops.size).all fun j => match ops[j]? with
    | some oj => !(listed.getD j false) || oj.after.all fun e => !Region.binds md e || listed.getD e.on false
    | none => true
theorem closedB_spec {listed : Array Bool} (h : closedB md ops listed = true) : Closed md ops listed := by
  intro j oj hj hl e he hb
  have h1 := List.all_eq_true.1 h j (List.mem_range.2 (Array.getElem?_eq_some_iff.1 hj).1)
  rw [hj] at h1
  simp only [hl, Bool.not_true, Bool.false_or] at h1
  have h2 := Array.all_eq_true'.1 h1 e he
  rw [hb] at h2
  simpa using h2
def takeB (md : Region.Mode) (ops : Array Oper) (T : Nat → Bool) (listed : Array Bool) (i : Nat) : Bool :=
  Region.noSelect ops && Region.free md ops listed i && (Region.ready md ops listed).contains i && closedB md ops listed && (List.range ops.size).all fun t => !T t || needs md ops ops.size t i
theorem drop_at {l : List Oper} {i : Nat} {o : Oper} {rest : List Oper} (h : l.drop i = o :: rest) : l.toArray[i]? = some o := by
  have := congrArg (fun x : List Oper => x[0]?) h
  simpa [List.getElem?_drop] using this
theorem until_take {l : List Oper} (i : Nat) {oi : Oper} {rest : List Oper} {v : Value} {fuel : Nat} {listed : Array Bool} {a : Act} {w : World} (hd : l.drop i = oi :: rest) (hB : takeB md l.toArray T listed i = true)
    (hQ : ∀ c a w, Q (.panic c) (a.put oi.dst v) w → Q (.panic c) a w) (hw : Region.wanted oi (yielded l.toArray a.tmps) = true) (hy : ∀ w, S w → (execOp a.eval oi).run P w = .ok (.value v) w) (hS : S w)
    (h : wpUntil P md l.toArray Q S T fuel (listed.setIfInBounds i true) (a.put oi.dst v) w) : wpUntil P md l.toArray Q S T (fuel + 1) listed a w := by
  unfold takeB at hB
  simp only [Bool.and_eq_true] at hB
  obtain ⟨⟨⟨⟨hs, hf⟩, hr⟩, hc⟩, ht⟩ := hB
  refine wpUntil_first (drop_at hd) (Region.noSelect_spec hs) hQ (fun t htl htt => ?_) fuel listed a w (closedB_spec hc) (Region.free_spec (drop_at hd) hf) (by simpa using hr) (.inl ⟨hw, hy⟩) hS h
  have := List.all_eq_true.1 ht t (List.mem_range.2 htl)
  rw [htt] at this
  simpa using this
def pureB (md : Region.Mode) (ops : Array Oper) (listed : Array Bool) (i : Nat) : Bool := Region.noSelect ops && Region.free md ops listed i && (Region.ready md ops listed).contains i
theorem until_pure {l : List Oper} (i : Nat) {oi : Oper} {rest : List Oper} {v : Value} {fuel : Nat} {listed : Array Bool} {a : Act} {w : World} (hd : l.drop i = oi :: rest) (hB : pureB md l.toArray listed i = true)
    (hQ : ∀ c a w, Q (.panic c) (a.put oi.dst v) w → Q (.panic c) a w) (hw : Region.wanted oi (yielded l.toArray a.tmps) = true) (hy : ∀ w, (execOp a.eval oi).run P w = .ok (.value v) w)
    (h : wpUntil P md l.toArray Q S T fuel (listed.setIfInBounds i true) (a.put oi.dst v) w) : wpUntil P md l.toArray Q S T (fuel + 1) listed a w := by
  unfold pureB at hB
  simp only [Bool.and_eq_true] at hB
  obtain ⟨⟨hs, hf⟩, hr⟩ := hB
  exact wpUntil_pure (drop_at hd) (Region.noSelect_spec hs) hQ fuel listed a w (Region.free_spec (drop_at hd) hf) (by simpa using hr) (.inl ⟨hw, fun w _ => hy w⟩) h
theorem until_one {l : List Oper} (i : Nat) {oi : Oper} {rest : List Oper} {fuel : Nat} {listed : Array Bool} {a : Act} {w : World} (hd : l.drop i = oi :: rest) (hr : Region.ready md l.toArray listed = [i])
    (h : ∀ K : Act → World → Prop, Shut (∀ a' w', (T i = false → S w → S w') → wpUntil P md l.toArray Q S T fuel (listed.setIfInBounds i true) a' w' → K a' w') → if Region.wanted oi (yielded l.toArray a.tmps) = true then Oper.wp P oi a w K Q else K (a.put oi.dst undef) w) :
    wpUntil P md l.toArray Q S T (fuel + 1) listed a w := by
  refine ⟨fun h0 => (by rw [hr] at h0; cases h0), fun j hj => ?_⟩
  rw [hr] at hj
  obtain rfl : j = i := by simpa using hj
  exact wpOp_step (drop_at hd) (fun K hK => h K (fun a w h1 h2 => hK a w ⟨h1, h2⟩))
theorem until_two {l : List Oper} (i j : Nat) {oi oj : Oper} {rest rest' : List Oper} {fuel : Nat} {listed : Array Bool} {a : Act} {w : World} (hd : l.drop i = oi :: rest) (hd' : l.drop j = oj :: rest') (hr : Region.ready md l.toArray listed = [i, j])
    (h : ∀ K : Act → World → Prop, Shut (∀ a' w', (T i = false → S w → S w') → wpUntil P md l.toArray Q S T fuel (listed.setIfInBounds i true) a' w' → K a' w') → if Region.wanted oi (yielded l.toArray a.tmps) = true then Oper.wp P oi a w K Q else K (a.put oi.dst undef) w)
    (h' : ∀ K : Act → World → Prop, Shut (∀ a' w', (T j = false → S w → S w') → wpUntil P md l.toArray Q S T fuel (listed.setIfInBounds j true) a' w' → K a' w') → if Region.wanted oj (yielded l.toArray a.tmps) = true then Oper.wp P oj a w K Q else K (a.put oj.dst undef) w) :
    wpUntil P md l.toArray Q S T (fuel + 1) listed a w := by
  refine ⟨fun h0 => (by rw [hr] at h0; cases h0), fun k hk => ?_⟩
  rw [hr] at hk
  have : k = i ∨ k = j := by simpa using hk
  rcases this with rfl | rfl
  · exact wpOp_step (drop_at hd) (fun K hK => h K (fun a w h1 h2 => hK a w ⟨h1, h2⟩))
  · exact wpOp_step (drop_at hd') (fun K hK => h' K (fun a w h1 h2 => hK a w ⟨h1, h2⟩))
theorem until_done {listed : Array Bool} {a : Act} {w : World} (hr : Region.ready md ops listed = []) (h : Q .normal a w) : ∀ fuel, wpUntil P md ops Q S T fuel listed a w
  | 0 => ⟨hr, h⟩
  | _ + 1 => ⟨fun _ => h, by rw [hr]; simp⟩
theorem wp_region_until {id : Nat} {l : List Oper} {a : Act} {w : World} (S : World → Prop) (T : Nat → Bool) (n : Nat) (hn : l.length = n) (hm : P.follows .mixedOrders = true)
    (h : wpUntil P .any l.toArray Q S T n (Array.replicate n false) a w.drew) : (Code.region id l.toArray true).wp P Q a w := by
  subst hn
  exact wp_region_any hm (wpAny_of_until _ _ _ _ (by simpa using h))
end
section
variable {P : Program} {Q : Exit → Act → World → Prop} {md : Region.Mode} {S : World → Prop} {T : Nat → Bool}
theorem tKe {l : List Oper} (i : Nat) {oi : Oper} {rest : List Oper} {v : Value} {fuel : Nat} {listed : Array Bool} {a : Act} {w : World} (hS : S w) (hy : ∀ w, S w → (execOp a.eval oi).run P w = .ok (.value v) w) (h : wpUntil P md l.toArray Q S T fuel (listed.setIfInBounds i true) (a.put oi.dst v) w) (hd : l.drop i = oi :: rest := by rfl) (hB : takeB md l.toArray T listed i = true := by kernel_rfl) (hQ : ∀ c a w, Q (.panic c) (a.put oi.dst v) w → Q (.panic c) a w := by exact fun _ _ _ h => h) (hw : Region.wanted oi (yielded l.toArray a.tmps) = true := by rfl) : wpUntil P md l.toArray Q S T (fuel + 1) listed a w := until_take i hd hB hQ hw hy hS h
theorem pUr {l : List Oper} (i : Nat) {oi : Oper} {rest : List Oper} {v : Value} {fuel : Nat} {listed : Array Bool} {a : Act} {w : World} (hy : ∀ w, (execOp a.eval oi).run P w = .ok (.value v) w) (h : wpUntil P md l.toArray Q S T fuel (listed.setIfInBounds i true) (a.put oi.dst v) w) (hd : l.drop i = oi :: rest := by rfl) (hB : pureB md l.toArray listed i = true := by kernel_rfl) (hQ : ∀ c a w, Q (.panic c) (a.put oi.dst v) w → Q (.panic c) a w := by exact fun _ _ _ h => h) (hw : Region.wanted oi (yielded l.toArray a.tmps) = true := by rfl) : wpUntil P md l.toArray Q S T (fuel + 1) listed a w := until_pure i hd hB hQ hw hy h
theorem uNe {l : List Oper} (i : Nat) {oi : Oper} {rest : List Oper} {fuel : Nat} {listed : Array Bool} {a : Act} {w : World} (h : ∀ K : Act → World → Prop, Shut (∀ a' w', (T i = false → S w → S w') → wpUntil P md l.toArray Q S T fuel (listed.setIfInBounds i true) a' w' → K a' w') → if Region.wanted oi (yielded l.toArray a.tmps) = true then Oper.wp P oi a w K Q else K (a.put oi.dst undef) w) (hd : l.drop i = oi :: rest := by rfl) (hr : Region.ready md l.toArray listed = [i] := by kernel_rfl) : wpUntil P md l.toArray Q S T (fuel + 1) listed a w := until_one i hd hr h
end
theorem zQ1 {α : Type} (l : List α) (i : Nat) (a : α) : l.toArray.setIfInBounds i a = (l.set i a).toArray := List.setIfInBounds_toArray ..
theorem zQ2 {α : Type} (x : α) (l : List α) (a : α) : (x :: l).set 0 a = a :: l := rfl
theorem zQ3 {α : Type} (x : α) (l : List α) (n : Nat) (a : α) : (x :: l).set (n + 1) a = x :: l.set n a := rfl
section
variable {P : Program} {Q : Exit → Act → World → Prop} {md : Region.Mode} {S : World → Prop} {T : Nat → Bool}
theorem tKf {l : List Oper} (i : Nat) {oi : Oper} {rest : List Oper} {v : Value} {fuel : Nat} {listed : Array Bool} {a b : Act} {w : World} (hS : S w) (h : wpUntil P md l.toArray Q S T fuel (listed.setIfInBounds i true) b w) (hd : l.drop i = oi :: rest := by rfl) (hB : takeB md l.toArray T listed i = true := by kernel_rfl) (hw : Region.wanted oi (yielded l.toArray a.tmps) = true := by rfl) (hy : ∀ w, S w → (execOp a.eval oi).run P w = .ok (.value v) w := by intro w hSw; (try dsimp only at hSw); go_simp; try with_reducible rfl) (hb : a.put oi.dst v = b := by (try simp only [Act.put, zQ1, zQ2, zQ3]); exact rfl) (hQ : ∀ c a w, Q (.panic c) (a.put oi.dst v) w → Q (.panic c) a w := by exact fun _ _ _ h => h) : wpUntil P md l.toArray Q S T (fuel + 1) listed a w := until_take i hd hB hQ hw hy hS (hb ▸ h)
theorem pUf {l : List Oper} (i : Nat) {oi : Oper} {rest : List Oper} {v : Value} {fuel : Nat} {listed : Array Bool} {a b : Act} {w : World} (h : wpUntil P md l.toArray Q S T fuel (listed.setIfInBounds i true) b w) (hd : l.drop i = oi :: rest := by rfl) (hB : pureB md l.toArray listed i = true := by kernel_rfl) (hw : Region.wanted oi (yielded l.toArray a.tmps) = true := by rfl) (hy : ∀ w, (execOp a.eval oi).run P w = .ok (.value v) w := by intro w; go_simp; try with_reducible rfl) (hb : a.put oi.dst v = b := by (try simp only [Act.put, zQ1, zQ2, zQ3]); exact rfl) (hQ : ∀ c a w, Q (.panic c) (a.put oi.dst v) w → Q (.panic c) a w := by exact fun _ _ _ h => h) : wpUntil P md l.toArray Q S T (fuel + 1) listed a w := until_pure i hd hB hQ hw hy (hb ▸ h)
end
end Go.Proofs.YtgjilgecklhglaaGreat
namespace Go.Proofs.YtgjilgecklhglaaGreat
open Go.RowKit Go.PlainAid
def strCells (l : List ByteArray) : List Value := l.map Value.string
def Strs (w : World) (base : Nat) (v : Value) (l : List ByteArray) : Prop := w.ownsRow base 9 1 v l.length (strCells l)
theorem Strs.nil (w : World) (base : Nat) : Strs w base (.slice none 0 0) [] := World.ownsRow_nil w base 9 1
theorem Strs.empty (w : World) (base : Nat) (hb : base ≤ w.heap.size) : Strs (w.alloc (.cells #[] 9)) base (.slice (some ⟨w.heap.size, 0, none⟩) 0 0) [] :=
  World.ownsRow_lit w #[] 0 hb (by unfold maxLen; omega) rfl
theorem Strs.mono {w : World} {base base' : Nat} {v : Value} {l : List ByteArray} (h : Strs w base v l) (hb : base' ≤ base) : Strs w base' v l :=
  ⟨h.1, h.2.imp id fun ⟨g, cap, cur, e, hg, r⟩ => ⟨g, cap, cur, e, Nat.le_trans hb hg, r⟩⟩
theorem Strs.kept {w w' : World} {base : Nat} {v : Value} {l : List ByteArray} (h : Strs w base v l) (hk : ∀ g, g < w.heap.size → v.ownBlock = some g → w'.heap[g]? = w.heap[g]?) : Strs w' base v l := by
  have hl := World.ownsRow.lt h
  refine ⟨h.1, h.2.imp id ?_⟩
  rintro ⟨g, cap, cur, rfl, hg, hh, r⟩
  refine ⟨g, cap, cur, rfl, hg, ?_, r⟩
  rw [hk g (hl g rfl).2 rfl]
  exact hh
theorem Strs.on {w w' : World} {base : Nat} {v : Value} {l : List ByteArray} (h : Strs w base v l) (hb : Below w.heap.size w w') : Strs w' base v l := h.kept fun g hg _ => hb.block g hg
theorem Strs.alloc {w : World} {base : Nat} {v : Value} {l : List ByteArray} (h : Strs w base v l) (o : Obj) : Strs (w.alloc o) base v l := World.ownsRow.alloc h o
theorem Strs.form {w : World} {base : Nat} {v : Value} {l : List ByteArray} (h : Strs w base v l) : (v = .slice none 0 0 ∧ l = []) ∨ ∃ g cap, v = .slice (some ⟨g, 0, none⟩) l.length cap ∧ base ≤ g ∧ g < w.heap.size := by
  have hl := World.ownsRow.lt h
  rcases h.2 with ⟨rfl, h0⟩ | ⟨g, cap, cur, rfl, hg, _⟩
  · exact .inl ⟨rfl, List.eq_nil_of_length_eq_zero h0⟩
  · exact .inr ⟨g, cap, rfl, hg, (hl g rfl).2⟩
theorem Strs.cell {w : World} {base g cap : Nat} {l : List ByteArray} (h : Strs w base (.slice (some ⟨g, 0, none⟩) l.length cap) l) (j : Nat) (hj : j < l.length) : w.cell? ⟨g, j, none⟩ = some (.string l[j]) := by
  rw [World.ownsRow.cellAt h j (by omega)]
  simp [strCells, hj]
theorem Strs.stored {w : World} {base g cap : Nat} {l : List ByteArray} (h : Strs w base (.slice (some ⟨g, 0, none⟩) l.length cap) l) (j : Nat) (x : ByteArray) :
    Strs (w.setCell ⟨g, j, none⟩ (.string x)) base (.slice (some ⟨g, 0, none⟩) l.length cap) (l.set j x) := by
  have hs := (World.ownsRow.stored h j (.string x)).1
  unfold Strs
  rw [List.length_set, strCells, List.map_set]
  exact hs
end Go.Proofs.YtgjilgecklhglaaGreat
namespace Go.Proofs.YtgjilgecklhglaaGreat
open Go.ChangeShapes Go.WideShapes Go.ChangeAt Go.RowKit Go.PlainAid
set_option linter.unusedVariables false
theorem Owns.apart {w : World} {b b' : Nat} {e e' : TypeId} {sz sz' : Nat} {v u : Value} {R R' : List (List Value)} (h : Owns w b e sz v R) (k : Owns w b' e' sz' u R') (hne : e ≠ e') (g : Nat) (hg : v.ownBlock = some g) : u.ownBlock ≠ some g := by
  intro hu
  obtain ⟨c, fz, e1⟩ := Lib.ownsRow_kind h.2 g hg
  obtain ⟨c', fz', e2⟩ := Lib.ownsRow_kind k.2 g hu
  rw [e1] at e2
  cases e2
  exact hne rfl
structure Rows3 (w : World) (base C : Nat) (v1 v2 v3 : Value) (R1 R2 R3 : List (List Value)) : Prop where
  o1 : Owns w base 47 3 v1 R1
  o2 : Owns w base 49 2 v2 R2
  o3 : Owns w base 51 4 v3 R3
  c1 : ∀ g, v1.ownBlock = some g → g < C
  c2 : ∀ g, v2.ownBlock = some g → g < C
  c3 : ∀ g, v3.ownBlock = some g → g < C
theorem Rows3.on {w w' : World} {base C : Nat} {v1 v2 v3 : Value} {R1 R2 R3 : List (List Value)} (h : Rows3 w base C v1 v2 v3 R1 R2 R3) (hb : Below w.heap.size w w') : Rows3 w' base C v1 v2 v3 R1 R2 R3 :=
  ⟨h.o1.on hb, h.o2.on hb, h.o3.on hb, h.c1, h.c2, h.c3⟩
end Go.Proofs.YtgjilgecklhglaaGreat
namespace Go.Proofs.YtgjilgecklhglaaGreat
open Go.ChangeShapes Go.WideShapes Go.ChangeAt Go.RowKit Go.PlainAid
set_option linter.unusedVariables false
theorem Owns.notBlk {w : World} {base : Nat} {e t : TypeId} {sz g : Nat} {v : Value} {R : List (List Value)} {cs : Array Value} (h : Owns w base e sz v R) (hb : Blk w g cs t) (hne : e ≠ t) : v.ownBlock ≠ some g := by
  intro hg
  obtain ⟨c, fz, e1⟩ := Lib.ownsRow_kind h.2 g hg
  unfold Blk at hb
  rw [e1] at hb
  cases hb
  exact hne rfl
theorem nodAt_own {l : List Nod} (h : Rising l) {k : Nat} (hk : k < l.length) : nodAt l (l.getD k default).id = some k := by
  unfold nodAt
  rw [List.findIdx?_eq_some_iff_getElem]
  refine ⟨hk, by rw [getD_at l k hk]; exact decide_eq_true rfl, fun j hj => ?_⟩
  have := List.pairwise_iff_getElem.1 h j k (by omega) hk hj
  rw [← getD_at l k hk]
  simp only [decide_eq_true_eq]
  omega
structure Told1 (w W : World) (q : Nat) (room next : Int) (vD : Value) (dl : List Lnk) : Prop where
  below : Below w.heap.size w W
  blk : Blk W q #[.int .i64 room, .int .i64 next, .slice none 0 0, vD, .slice none 0 0] 28
  own : Owns W w.heap.size 49 2 vD (lnkR dl)
  res : Blk W w.heap.size #[.int .i64 0, .int .i64 0, .slice none 0 0, .slice none 0 0, .slice none 0 0] 28
  ne : q ≠ w.heap.size
  lo : w.heap.size ≤ q
theorem Told1.on {w W W' : World} {q : Nat} {room next : Int} {vD : Value} {dl : List Lnk} (h : Told1 w W q room next vD dl) (hb : Below W.heap.size W W') : Told1 w W' q room next vD dl :=
  ⟨h.below.trans (hb.mono h.below.size), h.blk.on hb h.blk.lt, h.own.on hb, h.res.on hb h.res.lt, h.ne, h.lo⟩
set_option maxRecDepth 20000 in
set_option maxHeartbeats 4000000 in
theorem toldO (room next : Int) (vw : Value) (p bi bd : Nat) (ns : List Nod) (gs : List Nat) (dl : List Lnk) (ml : List Mov) (u : Value) (w : World)
    (hp : Blk w p #[.int .i64 room, .int .i64 next, .map (some bi), .map (some bd), u, vw] 86)
    (hI : IT w bi (prs ns gs)) (hH : Held w ns gs) (hR : Rising ns) (hD : NT w bd dl) (hs : Sorted dl) (hn : NamesOk dl) (hM : Lies w w.heap.size 4 u (movR ml))
    (h1 : ns.length ≤ 1000) (h2 : dl.length ≤ 1000) (h3 : ml.length ≤ 1000) (hid : ∀ x ∈ ns, IntOk x.id ∧ x.data.size ≤ 281474976710656) (hmn : ∀ x ∈ ml, x.name.size ≤ 281474976710656 ∧ x.to.size ≤ 281474976710656) :
    Calls Tryz.prog 50 #[.pointer (some ⟨p, 0, none⟩)] w fun e w' => ∃ v, e = .returned v ∧ DiskO w' w.heap.size v ⟨room, next, ns, dl, ml⟩ ∧ Below w.heap.size w w' := by
  have HP : Hid (Blk w p #[.int .i64 room, .int .i64 next, .map (some bi), .map (some bd), u, vw] 86) := hp
  have HI : Hid (IT w bi (prs ns gs)) := hI
  have HH : Hid (Held w ns gs) := hH
  have HR : Hid (Rising ns) := hR
  have HD : Hid (NT w bd dl) := hD
  have HS : Hid (Sorted dl) := hs
  have HN : Hid (NamesOk dl) := hn
  have HM : Hid (Lies w w.heap.size 4 u (movR ml)) := hM
  have H1 : Hid (ns.length ≤ 1000) := h1
  have H2 : Hid (dl.length ≤ 1000) := h2
  have H3 : Hid (ml.length ≤ 1000) := h3
  have HID : Hid (∀ x ∈ ns, IntOk x.id ∧ x.data.size ≤ 281474976710656) := hid
  have HMN : Hid (∀ x ∈ ml, x.name.size ≤ 281474976710656 ∧ x.to.size ≤ 281474976710656) := hmn
  clear hp hI hH hR hD hs hn hM h1 h2 h3 hid hmn
  go_enter Tryz.func50, Tryz.ntmps50
  go_wp2_with fail
  have b0 : Below w.heap.size w (w.alloc (.cells #[.int .i64 0, .int .i64 0, .slice none 0 0, .slice none 0 0, .slice none 0 0] 28)) := (Below.refl _ _).alloc (Nat.le_refl _) _
  have k0 := Blk.new w #[.int .i64 0, .int .i64 0, .slice none 0 0, .slice none 0 0, .slice none 0 0] 28
  have sz1 : (w.alloc (.cells #[.int .i64 0, .int .i64 0, .slice none 0 0, .slice none 0 0, .slice none 0 0] 28)).heap.size = w.heap.size + 1 := by simp
  generalize w.alloc (.cells #[.int .i64 0, .int .i64 0, .slice none 0 0, .slice none 0 0, .slice none 0 0] 28) = W1 at *
  generalize hG2 : w.heap.size = G2 at *
  have B1 : Hid (Below G2 w W1) := b0
  have P1 : Hid (Blk W1 p #[.int .i64 room, .int .i64 next, .map (some bi), .map (some bd), u, vw] 86) := HP.out.on b0 (by rw [← hG2]; exact HP.out.lt)
  have K1 : Hid (Blk W1 G2 #[.int .i64 0, .int .i64 0, .slice none 0 0, .slice none 0 0, .slice none 0 0] 28) := k0
  have D1 : Hid (NT W1 bd dl) := HD.out.on b0 (by rw [← hG2]; exact HD.out.lt)
  have SZ1 : Hid (W1.heap.size = G2 + 1) := sz1
  clear b0 k0 sz1
  have S0 : Hid (W1.drew.cell? ⟨p, 0, none⟩ = some (.int .i64 room) ∧ W1.drew.cell? ⟨p, 1, none⟩ = some (.int .i64 next) ∧ W1.drew.cell? ⟨p, 3, none⟩ = some (.map (some bd))) := ⟨P1.out.cell 0 _ rfl, P1.out.cell 1 _ rfl, P1.out.cell 3 _ rfl⟩
  have PA : Blk (W1.drew.alloc (.cells #[.int .i64 0, .int .i64 0, .slice none 0 0, .slice none 0 0, .slice none 0 0] 28)) p #[.int .i64 room, .int .i64 next, .map (some bi), .map (some bd), u, vw] 86 := Blk.alloc (w := W1.drew) P1.out _
  have S1 : Hid ((W1.drew.alloc (.cells #[.int .i64 0, .int .i64 0, .slice none 0 0, .slice none 0 0, .slice none 0 0] 28)).cell? ⟨p, 0, none⟩ = some (.int .i64 room) ∧ (W1.drew.alloc (.cells #[.int .i64 0, .int .i64 0, .slice none 0 0, .slice none 0 0, .slice none 0 0] 28)).cell? ⟨p, 1, none⟩ = some (.int .i64 next) ∧ (W1.drew.alloc (.cells #[.int .i64 0, .int .i64 0, .slice none 0 0, .slice none 0 0, .slice none 0 0] 28)).cell? ⟨p, 3, none⟩ = some (.map (some bd))) := ⟨PA.cell 0 _ rfl, PA.cell 1 _ rfl, PA.cell 3 _ rfl⟩
  have N0 : Hid (NT W1.drew bd dl) := D1.out.kept rfl
  have N1 : Hid (NT (W1.drew.alloc (.cells #[.int .i64 0, .int .i64 0, .slice none 0 0, .slice none 0 0, .slice none 0 0] 28)) bd dl) := NT.on (w := W1.drew) N0.out ((Below.refl _ W1.drew).alloc (Nat.le_refl _) _) N0.out.lt
  clear PA
  go_cut [3] from 9 to 22 (fun v3 wx => ∃ q vD, v3 = .pointer (some ⟨q, 0, none⟩) ∧ Told1 w wx q room next vD dl)
  case first =>
   refine wp_region_until (fun w' => w'.cell? ⟨p, 0, none⟩ = some (.int .i64 room) ∧ w'.cell? ⟨p, 1, none⟩ = some (.int .i64 next) ∧ w'.cell? ⟨p, 3, none⟩ = some (.map (some bd))) (fun i => i == 15) 16 (by rfl) (by kernel_rfl) ?_
   refine until_take 0 (v := ?v0) (by rfl) (by kernel_rfl) (by exact fun _ _ _ h => h) (by rfl) ?hy0 S0.out ?r0
   case hy0 =>
     intro w hSw
     try dsimp only at hSw
     go_simp
     try with_reducible rfl
   try simp only [Act.put, zQ1, zQ2, zQ3]
   refine until_take 1 (v := ?v1) (by rfl) (by kernel_rfl) (by exact fun _ _ _ h => h) (by rfl) ?hy1 S0.out ?r1
   case hy1 =>
     intro w hSw
     try dsimp only at hSw
     go_simp
     try with_reducible rfl
   try simp only [Act.put, zQ1, zQ2, zQ3]
   refine until_take 2 (v := ?v2) (by rfl) (by kernel_rfl) (by exact fun _ _ _ h => h) (by rfl) ?hy2 S0.out ?r2
   case hy2 =>
     intro w hSw
     try dsimp only at hSw
     go_simp
     try with_reducible rfl
   try simp only [Act.put, zQ1, zQ2, zQ3]
   refine until_take 3 (v := ?v3) (by rfl) (by kernel_rfl) (by exact fun _ _ _ h => h) (by rfl) ?hy3 S0.out ?r3
   case hy3 =>
     intro w hSw
     try dsimp only at hSw
     go_simp
     try with_reducible rfl
   try simp only [Act.put, zQ1, zQ2, zQ3]
   refine until_take 4 (v := ?v4) (by rfl) (by kernel_rfl) (by exact fun _ _ _ h => h) (by rfl) ?hy4 S0.out ?r4
   case hy4 =>
     intro w hSw
     try dsimp only at hSw
     go_simp
     try with_reducible rfl
   try simp only [Act.put, zQ1, zQ2, zQ3]
   refine until_take 5 (v := ?v5) (by rfl) (by kernel_rfl) (by exact fun _ _ _ h => h) (by rfl) ?hy5 S0.out ?r5
   case hy5 =>
     intro w hSw
     try dsimp only at hSw
     go_simp
     try with_reducible rfl
   try simp only [Act.put, zQ1, zQ2, zQ3]
   refine until_take 6 (v := ?v6) (by rfl) (by kernel_rfl) (by exact fun _ _ _ h => h) (by rfl) ?hy6 S0.out ?r6
   case hy6 =>
     intro w hSw
     try dsimp only at hSw
     go_simp
     try with_reducible rfl
   try simp only [Act.put, zQ1, zQ2, zQ3]
   refine until_take 7 (v := ?v7) (by rfl) (by kernel_rfl) (by exact fun _ _ _ h => h) (by rfl) ?hy7 S0.out ?r7
   case hy7 =>
     intro w hSw
     try dsimp only at hSw
     go_simp
     try with_reducible rfl
   try simp only [Act.put, zQ1, zQ2, zQ3]
   refine until_take 8 (v := ?v8) (by rfl) (by kernel_rfl) (by exact fun _ _ _ h => h) (by rfl) ?hy8 S0.out ?r8
   case hy8 =>
     intro w hSw
     try dsimp only at hSw
     go_simp
     try with_reducible rfl
   try simp only [Act.put, zQ1, zQ2, zQ3]
   refine until_take 9 (v := ?v9) (by rfl) (by kernel_rfl) (by exact fun _ _ _ h => h) (by rfl) ?hy9 S0.out ?r9
   case hy9 =>
     intro w hSw
     try dsimp only at hSw
     go_simp
     try with_reducible rfl
   try simp only [Act.put, zQ1, zQ2, zQ3]
   refine until_take 10 (v := ?v10) (by rfl) (by kernel_rfl) (by exact fun _ _ _ h => h) (by rfl) ?hy10 S0.out ?r10
   case hy10 =>
     intro w hSw
     try dsimp only at hSw
     go_simp
     try with_reducible rfl
   try simp only [Act.put, zQ1, zQ2, zQ3]
   refine until_take 11 (v := ?v11) (by rfl) (by kernel_rfl) (by exact fun _ _ _ h => h) (by rfl) ?hy11 S0.out ?r11
   case hy11 =>
     intro w hSw
     try dsimp only at hSw
     go_simp
     try with_reducible rfl
   try simp only [Act.put, zQ1, zQ2, zQ3]
   refine until_two 12 14 (by rfl) (by rfl) (by kernel_rfl) (fun K hK => ?wa) (fun K hK => ?wb)
   case wa =>
    go_simp
    refine (toldN W1.drew bd dl N0.out HS.out HN.out H2.out).mono ?_
    rintro e w5 ⟨vD, rfl, hO, hb⟩
    have P5 : Hid (Blk w5 p #[.int .i64 room, .int .i64 next, .map (some bi), .map (some bd), u, vw] 86) := Blk.on (w := W1.drew) P1.out hb P1.out.lt
    have S5 : Hid (w5.cell? ⟨p, 0, none⟩ = some (.int .i64 room) ∧ w5.cell? ⟨p, 1, none⟩ = some (.int .i64 next) ∧ w5.cell? ⟨p, 3, none⟩ = some (.map (some bd))) := ⟨P5.out.cell 0 _ rfl, P5.out.cell 1 _ rfl, P5.out.cell 3 _ rfl⟩
    have B5 : Hid (Below W1.heap.size W1 w5) := (Below.refl _ W1).drew.trans hb
    have O5 : Hid (Owns w5 W1.heap.size 49 2 vD (lnkR dl)) := hO
    obtain ⟨dA, dm, dc, rfl⟩ := hO.shape
    clear hO hb
    go_wp2_with fail
    refine hK.out _ _ (fun _ _ => S5.out) ?_
    clear hK K
    try simp only [Act.put, zQ1, zQ2, zQ3]
    refine until_take 13 (v := ?va13) (by rfl) (by kernel_rfl) (by exact fun _ _ _ h => h) (by rfl) ?hya13 S5.out ?ra13
    case hya13 =>
      intro w hSw
      try dsimp only at hSw
      go_simp
      try with_reducible rfl
    try simp only [Act.put, zQ1, zQ2, zQ3]
    refine uNe 14 (fun K hK => ?_)
    go_simp
    refine hK.out _ _ (fun _ _ => ?_) ?_
    · have PA := P5.out.alloc (.cells #[.int .i64 0, .int .i64 0, .slice none 0 0, .slice none 0 0, .slice none 0 0] 28)
      exact ⟨PA.cell 0 _ rfl, PA.cell 1 _ rfl, PA.cell 3 _ rfl⟩
    clear hK K
    try simp only [Act.put, zQ1, zQ2, zQ3]
    refine uNe 15 (fun K hK => ?_)
    go_simp
    refine hK.out _ _ (fun h => by cases h) ?_
    clear hK K
    refine until_done (by kernel_rfl) ?_ _
    go_wp2_with fail
    go_meet
    case rel =>
      have hb : Below G2 w w5 := B1.out.trans (B5.out.mono (by rw [SZ1.out]; omega))
      have hz : G2 + 1 ≤ w5.heap.size := by rw [← SZ1.out]; exact B5.out.size
      exact ⟨w5.heap.size, .slice dA dm dc, rfl, ⟨by rw [hG2]; exact hb.alloc (by omega) _, Blk.new _ _ _, (O5.out.mono (by rw [hG2, SZ1.out]; omega)).alloc _, by rw [hG2]; exact (K1.out.on B5.out K1.out.lt).alloc _, by rw [hG2]; omega, by rw [hG2]; omega⟩⟩
   case wb =>
    go_simp
    refine hK.out _ _ (fun _ _ => S1.out) ?_
    clear hK K
    try simp only [Act.put, zQ1, zQ2, zQ3]
    refine uNe 12 (fun K hK => ?_)
    go_simp
    refine (toldN _ bd dl N1.out HS.out HN.out H2.out).mono ?_
    rintro e w5 ⟨vD, rfl, hO, hb⟩
    have P5 : Hid (Blk w5 p #[.int .i64 room, .int .i64 next, .map (some bi), .map (some bd), u, vw] 86) := (Blk.alloc (w := W1.drew) P1.out _).on hb (Blk.alloc (w := W1.drew) P1.out _).lt
    have S5 : Hid (w5.cell? ⟨p, 0, none⟩ = some (.int .i64 room) ∧ w5.cell? ⟨p, 1, none⟩ = some (.int .i64 next) ∧ w5.cell? ⟨p, 3, none⟩ = some (.map (some bd))) := ⟨P5.out.cell 0 _ rfl, P5.out.cell 1 _ rfl, P5.out.cell 3 _ rfl⟩
    have hq := Blk.new W1.drew #[.int .i64 0, .int .i64 0, .slice none 0 0, .slice none 0 0, .slice none 0 0] 28
    have Q5 : Hid (Blk w5 W1.heap.size #[.int .i64 0, .int .i64 0, .slice none 0 0, .slice none 0 0, .slice none 0 0] 28) := hq.on hb hq.lt
    have hbA : Below W1.heap.size W1 (W1.drew.alloc (.cells #[.int .i64 0, .int .i64 0, .slice none 0 0, .slice none 0 0, .slice none 0 0] 28)) := (Below.refl _ W1).drew.alloc (Nat.le_refl _) _
    have B5 : Hid (Below W1.heap.size W1 w5) := hbA.trans (hb.mono hbA.size)
    have O5 : Hid (Owns w5 W1.heap.size 49 2 vD (lnkR dl)) := hO.mono hbA.size
    obtain ⟨dA, dm, dc, rfl⟩ := hO.shape
    have q0 := Q5.out.cell 0 _ rfl
    have q1 := Q5.out.cell 1 _ rfl
    have q2 := Q5.out.cell 2 _ rfl
    have q3 := Q5.out.cell 3 _ rfl
    have q4 := Q5.out.cell 4 _ rfl
    have f0 := Q5.out.free 0
    have f1 := Q5.out.free 1
    have f2 := Q5.out.free 2
    have f3 := Q5.out.free 3
    have f4 := Q5.out.free 4
    clear hO hb hq hbA
    go_wp2_with fail
    refine hK.out _ _ (fun _ _ => S5.out) ?_
    clear hK K
    try simp only [Act.put, zQ1, zQ2, zQ3]
    refine until_take 13 (v := ?vb13) (by rfl) (by kernel_rfl) (by exact fun _ _ _ h => h) (by rfl) ?hyb13 S5.out ?rb13
    case hyb13 =>
      intro w hSw
      try dsimp only at hSw
      go_simp
      try with_reducible rfl
    try simp only [Act.put, zQ1, zQ2, zQ3]
    refine uNe 15 (fun K hK => ?_)
    go_simp
    refine hK.out _ _ (fun h => by cases h) ?_
    clear hK K
    refine until_done (by kernel_rfl) ?_ _
    go_wp2_with fail
    go_meet
    case rel =>
      have hb : Below G2 w w5 := B1.out.trans (B5.out.mono (by rw [SZ1.out]; omega))
      have hz : W1.heap.size = G2 + 1 := SZ1.out
      have hne := O5.out.notBlk Q5.out (by decide)
      have hg : G2 ≤ W1.heap.size := by omega
      have hk := K1.out.on B5.out K1.out.lt
      have hkn : G2 ≠ W1.heap.size := by omega
      exact ⟨W1.heap.size, .slice dA dm dc, rfl, ⟨by rw [hG2]; exact ((((hb.setCell hg _).setCell hg _).setCell hg _).setCell hg _).setCell hg _, ((((Q5.out.set 0 _).set 1 _).set 2 _).set 3 _).set 4 _, ((((((O5.out.mono (by rw [hG2]; exact hg)).other hne _ _).other hne _ _).other hne _ _).other hne _ _).other hne _ _), by rw [hG2]; exact ((((hk.other hkn _ _).other hkn _ _).other hkn _ _).other hkn _ _).other hkn _ _, by rw [hG2]; omega, by rw [hG2]; omega⟩⟩
  case rest =>
    obtain ⟨q, vD, rfl, hT⟩ := hcut
    have HT : Hid (Told1 w wc q room next vD dl) := hT
    have PC : Hid (Blk wc p #[.int .i64 room, .int .i64 next, .map (some bi), .map (some bd), u, vw] 86) := HP.out.on hT.below HP.out.lt
    have IC : Hid (IT wc bi (prs ns gs)) := HI.out.on hT.below HI.out.lt
    have HC : Hid (Held wc ns gs) := HH.out.on hT.below HH.out.lt
    have x2 := PC.out.cell 2 _ rfl
    have cK := keysIV wc bi
    have cS := sortedIV wc bi ns gs IC.out HH.out.len HR.out H1.out
    clear hT S0 S1 N0 N1 B1 P1 K1 D1 SZ1
    go_wp2_with fail
    refine cK.mono ?_
    rintro e w1 ⟨rfl, rfl⟩
    clear cK
    go_wp2_with fail
    refine cS.mono ?_
    rintro e w2 ⟨v, rfl, hO, hb⟩
    have T2 : Hid (Told1 w w2 q room next vD dl) := HT.out.on hb
    have P2 : Hid (Blk w2 p #[.int .i64 room, .int .i64 next, .map (some bi), .map (some bd), u, vw] 86) := PC.out.on hb PC.out.lt
    have I2 : Hid (IT w2 bi (prs ns gs)) := IC.out.on hb IC.out.lt
    have C2 : Hid (Held w2 ns gs) := HC.out.on hb HC.out.lt
    obtain ⟨A, cap, rfl, hlk⟩ := num_look hO.lies
    rw [List.length_map] at hlk
    have HL : Hid (∀ j, j < ns.length → ∃ g off, A = some ⟨g, off, none⟩ ∧ g < w2.heap.size ∧ _) := hlk
    have HG : Hid (∀ g off, A = some ⟨g, off, none⟩ → g ≠ q) := by
      rintro g off rfl
      have h1 := (hO.lt g rfl).1
      have h2 := HT.out.blk.lt
      omega
    have QP : Hid (p ≠ q ∧ bi ≠ q ∧ (∀ g ∈ gs, g ≠ q) ∧ q < w2.heap.size) := by
      have h1 := HT.out.lo
      have h2 := HP.out.lt
      have h3 := HI.out.lt
      exact ⟨by omega, by omega, fun g hg => by have := HH.out.lt g hg; omega, T2.out.blk.lt⟩
    have e0 : (ns.map (·.id)).length = ns.length := List.length_map _
    rw [e0]
    clear cS hb hO hlk e0 x2 PC IC HC HT
    generalize hNN : ns.length = N at *
    have q1 : (N : Int) ≤ 1000 := by have := H1.out; omega
    go_wp2_with fail
    go_loopw [30] (fun v30 wr => ∃ (k : Nat) (u1 : Value), k ≤ N ∧ v30 = .int .i64 (k : Int) ∧ Blk wr q #[.int .i64 room, .int .i64 next, u1, vD, .slice none 0 0] 28 ∧ Owns wr w2.heap.size 47 3 u1 (nodR (ns.take k)) ∧ But (fun i => i = q) w2 wr) (fun i _ => N - (intOf i).toNat)
    case atStart => exact ⟨0, _, by omega, rfl, T2.out.blk, by rw [List.take_zero]; exact Owns.nil _ _ _ _, But.refl _ _⟩
    case round =>
      obtain ⟨k, u1, hk, rfl, hq, hO, hbt⟩ := hrel
      obtain ⟨uA, um, uc, rfl⟩ := hO.shape
      have HQ : Hid (Blk wr q #[.int .i64 room, .int .i64 next, .slice uA um uc, vD, .slice none 0 0] 28) := hq
      have HO : Hid (Owns wr w2.heap.size 47 3 (.slice uA um uc) (nodR (ns.take k))) := hO
      have HBT : Hid (But (fun i => i = q) w2 wr) := hbt
      clear hq hO hbt
      have PR : Hid (Blk wr p #[.int .i64 room, .int .i64 next, .map (some bi), .map (some bd), u, vw] 86) := HBT.out.blk P2.out QP.out.1
      by_cases hlt : k < N
      · have q4 : (k : Int) < (N : Int) := by omega
        obtain ⟨g, off, rfl, hg, hc⟩ := HL.out k hlt
        have hgb : wr.heap[g]? = w2.heap[g]? := HBT.out.block g hg (HG.out g off rfl)
        rw [← World.cell?_of_block (w := w2) hgb] at hc
        have hnm : (ns.map (·.id)).getD k 0 = (ns.getD k default).id := by
          rw [List.getD_eq_getElem?_getD, List.getElem?_map, List.getD_eq_getElem?_getD, List.getElem?_eq_getElem (by omega)]
          rfl
        rw [hnm] at hc
        have hat := ptr_nod HH.out.len (nodAt_own HR.out (k := k) (by omega))
        have hmem := HID.out _ (getD_mem ns k (by omega))
        have gmem : gs.getD k 0 ∈ gs := by
          have hj : k < gs.length := by rw [HH.out.len]; omega
          rw [List.getD_eq_getElem?_getD, List.getElem?_eq_getElem hj]
          exact List.getElem_mem hj
        have BK : Hid (Blk wr (gs.getD k 0) #[.int .i64 (ns.getD k default).id, .string (ns.getD k default).data, .int .i64 (ns.getD k default).sure] 47) := HBT.out.blk (C2.out.blk k (by omega)) (QP.out.2.2.1 _ gmem)
        have r1 := ((I2.out.but HBT.out QP.out.2.1).val _ hmem.1).2 _ hat
        have HDS : Hid ((ns.getD k default).data.size ≤ 281474976710656) := hmem.2
        have HRS : Hid (nodR (ns.take (k + 1)) = nodR (ns.take k) ++ [nodC (ns.getD k default)]) := nodR_snoc ns k (by omega)
        have HLE : Hid ((nodR (ns.take k)).length ≤ 2097152) := by unfold Hid; rw [nodR_length, List.length_take]; omega
        unfold nodC at HRS
        generalize (ns.getD k default).id = xi at *
        generalize (ns.getD k default).data = xd at *
        generalize (ns.getD k default).sure = xs at *
        generalize nodR (ns.take k) = Rk at *
        generalize gs.getD k 0 = gk at *
        have x2 := PR.out.cell 2 _ rfl
        clear hat hnm hmem gmem hgb hg
        go_wp2_with fail
        have S0 : Hid (wr.drew.cell? ⟨q, 2, none⟩ = some (.slice uA um uc) ∧ wr.drew.cell? ⟨gk, 1, none⟩ = some (.string xd) ∧ wr.drew.cell? ⟨gk, 2, none⟩ = some (.int .i64 xs)) := ⟨HQ.out.cell 2 _ rfl, BK.out.cell 1 _ rfl, BK.out.cell 2 _ rfl⟩
        refine wp_region_until (fun w' => w'.cell? ⟨q, 2, none⟩ = some (.slice uA um uc) ∧ w'.cell? ⟨gk, 1, none⟩ = some (.string xd) ∧ w'.cell? ⟨gk, 2, none⟩ = some (.int .i64 xs)) (fun i => i == 14 || i == 16) 17 (by rfl) (by kernel_rfl) ?_
        refine until_take 0 (v := ?vc0) (by rfl) (by kernel_rfl) (by exact fun _ _ _ h => h) (by rfl) ?hyc0 S0.out ?rc0
        case hyc0 =>
          intro w hSw
          try dsimp only at hSw
          go_simp
          try with_reducible rfl
        try simp only [Act.put, zQ1, zQ2, zQ3]
        refine until_take 1 (v := ?vc1) (by rfl) (by kernel_rfl) (by exact fun _ _ _ h => h) (by rfl) ?hyc1 S0.out ?rc1
        case hyc1 =>
          intro w hSw
          try dsimp only at hSw
          go_simp
          try with_reducible rfl
        try simp only [Act.put, zQ1, zQ2, zQ3]
        refine until_take 2 (v := ?vc2) (by rfl) (by kernel_rfl) (by exact fun _ _ _ h => h) (by rfl) ?hyc2 S0.out ?rc2
        case hyc2 =>
          intro w hSw
          try dsimp only at hSw
          go_simp
          try with_reducible rfl
        try simp only [Act.put, zQ1, zQ2, zQ3]
        refine until_take 3 (v := ?vc3) (by rfl) (by kernel_rfl) (by exact fun _ _ _ h => h) (by rfl) ?hyc3 S0.out ?rc3
        case hyc3 =>
          intro w hSw
          try dsimp only at hSw
          go_simp
          try with_reducible rfl
        try simp only [Act.put, zQ1, zQ2, zQ3]
        refine until_take 4 (v := ?vc4) (by rfl) (by kernel_rfl) (by exact fun _ _ _ h => h) (by rfl) ?hyc4 S0.out ?rc4
        case hyc4 =>
          intro w hSw
          try dsimp only at hSw
          go_simp
          try with_reducible rfl
        try simp only [Act.put, zQ1, zQ2, zQ3]
        refine until_take 5 (v := ?vc5) (by rfl) (by kernel_rfl) (by exact fun _ _ _ h => h) (by rfl) ?hyc5 S0.out ?rc5
        case hyc5 =>
          intro w hSw
          try dsimp only at hSw
          go_simp
          try with_reducible rfl
        try simp only [Act.put, zQ1, zQ2, zQ3]
        refine until_take 6 (v := ?vc6) (by rfl) (by kernel_rfl) (by exact fun _ _ _ h => h) (by rfl) ?hyc6 S0.out ?rc6
        case hyc6 =>
          intro w hSw
          try dsimp only at hSw
          go_simp
          try with_reducible rfl
        try simp only [Act.put, zQ1, zQ2, zQ3]
        refine until_take 8 (v := ?vc8) (by rfl) (by kernel_rfl) (by exact fun _ _ _ h => h) (by rfl) ?hyc8 S0.out ?rc8
        case hyc8 =>
          intro w hSw
          try dsimp only at hSw
          go_simp
          try with_reducible rfl
        try simp only [Act.put, zQ1, zQ2, zQ3]
        refine until_take 9 (v := ?vc9) (by rfl) (by kernel_rfl) (by exact fun _ _ _ h => h) (by rfl) ?hyc9 S0.out ?rc9
        case hyc9 =>
          intro w hSw
          try dsimp only at hSw
          go_simp
          try with_reducible rfl
        try simp only [Act.put, zQ1, zQ2, zQ3]
        refine until_take 10 (v := ?vc10) (by rfl) (by kernel_rfl) (by exact fun _ _ _ h => h) (by rfl) ?hyc10 S0.out ?rc10
        case hyc10 =>
          intro w hSw
          try dsimp only at hSw
          go_simp
          try with_reducible rfl
        try simp only [Act.put, zQ1, zQ2, zQ3]
        refine until_take 11 (v := ?vc11) (by rfl) (by kernel_rfl) (by exact fun _ _ _ h => h) (by rfl) ?hyc11 S0.out ?rc11
        case hyc11 =>
          intro w hSw
          try dsimp only at hSw
          go_simp
          try with_reducible rfl
        try simp only [Act.put, zQ1, zQ2, zQ3]
        refine uNe 7 (fun K hK => ?_)
        go_simp
        refine (clone xd wr.drew HDS.out).mono ?_
        rintro e w5 ⟨rfl, hb5⟩
        have B5 : Hid (Below wr.heap.size wr w5) := (Below.refl _ wr).drew.trans hb5
        have Q5 : Hid (Blk w5 q #[.int .i64 room, .int .i64 next, .slice uA um uc, vD, .slice none 0 0] 28) := HQ.out.on B5.out HQ.out.lt
        have K5 : Hid (Blk w5 gk #[.int .i64 xi, .string xd, .int .i64 xs] 47) := BK.out.on B5.out BK.out.lt
        have O5 : Owns w5 w2.heap.size 47 3 (.slice uA um uc) Rk := HO.out.on B5.out
        have Z5 : w2.heap.size ≤ w5.heap.size := Nat.le_trans HBT.out.size B5.out.size
        obtain ⟨nA, nm, nc, w6, r6, hO6, hb6, hk6, _⟩ := run_append_row (P := Tryz.prog) w5 24 24 47 (.agg #[.int .i64 0, .string ⟨#[]⟩, .int .i64 0]) 3 32 Tryz.underlying24 Tryz.infoNod rfl (by omega) w2.heap.size (.slice uA um uc) Rk O5 [.int .i64 xi, .string xd, .int .i64 xs] rfl (by intro y hy; simp at hy; rcases hy with rfl | rfl | rfl <;> rfl) HLE.out (by omega) Z5
        have O6 : Hid (Owns w6 w2.heap.size 47 3 (.slice nA nm nc) (Rk ++ [[.int .i64 xi, .string xd, .int .i64 xs]])) := hO6
        have Q6 : Hid (Blk w6 q #[.int .i64 room, .int .i64 next, .slice uA um uc, vD, .slice none 0 0] 28) := Q5.out.on hb6 QP.out.2.2.2
        have HB6 : Hid (But (fun i => i = q) w2 w6) := HBT.out.trans ((But.of_below (fun i => w2.heap.size ≤ i) B5.out).trans (⟨hb6.os, hb6.tape, hb6.output, hb6.size, fun i hi hn => hb6.block i (by omega)⟩ : But (fun i => w2.heap.size ≤ i) w5 w6) (fun i _ h => h)) (fun i hi h => absurd hi (by omega))
        have y2 := Q6.out.cell 2 _ rfl
        have z2 := Q6.out.free 2
        clear hb5 hO6 hb6 hk6 O5 Z5
        go_wp2_with fail
        refine hK.out _ _ (fun _ _ => ⟨Q5.out.cell 2 _ rfl, K5.out.cell 1 _ rfl, K5.out.cell 2 _ rfl⟩) ?_
        clear hK K
        try simp only [Act.put, zQ1, zQ2, zQ3]
        refine until_take 12 (v := ?vd12) (by rfl) (by kernel_rfl) (by exact fun _ _ _ h => h) (by rfl) ?hyd12 ⟨Q5.out.cell 2 _ rfl, K5.out.cell 1 _ rfl, K5.out.cell 2 _ rfl⟩ ?rd12
        case hyd12 =>
          intro w hSw
          try dsimp only at hSw
          go_simp
          try with_reducible rfl
        try simp only [Act.put, zQ1, zQ2, zQ3]
        refine uNe 13 (fun K hK => ?_)
        go_simp
        refine hK.out _ _ (fun _ _ => ⟨(Q5.out.alloc _).cell 2 _ rfl, (K5.out.alloc _).cell 1 _ rfl, (K5.out.alloc _).cell 2 _ rfl⟩) ?_
        clear hK K
        try simp only [Act.put, zQ1, zQ2, zQ3]
        refine uNe 14 (fun K hK => ?_)
        refine step_append_run (by rfl) (.tmp 41) (.tmp 53) 24 (by rfl) _ _ _ _ (by rfl) (by rfl) r6 ?_
        refine hK.out _ _ (fun h => by cases h) ?_
        clear hK K
        try simp only [Act.put, zQ1, zQ2, zQ3]
        refine until_pure 15 (v := ?vc15) (by rfl) (by kernel_rfl) (by exact fun _ _ _ h => h) (by rfl) ?hyc15 ?rc15
        case hyc15 =>
          intro w
          go_simp
          try with_reducible rfl
        try simp only [Act.put, zQ1, zQ2, zQ3]
        refine uNe 16 (fun K hK => ?_)
        go_simp
        refine hK.out _ _ (fun h => by cases h) ?_
        clear hK K
        refine until_done (by kernel_rfl) ?_ _
        go_wp2_with fail
        go_roundw
        case rel => exact ⟨k + 1, .slice nA nm nc, by omega, by go_num, Q6.out.set 2 _, by rw [HRS.out]; exact O6.out.other (O6.out.notBlk Q6.out (by decide)) _ _, HB6.out.setCell (fun _ => rfl) _⟩
        case measure => simp [intOf]; omega
      · obtain rfl : k = N := by omega
        have HTK : Hid (ns.take k = ns) := by unfold Hid; rw [← hNN, List.take_length]
        obtain ⟨mA, mcap, rfl, hml⟩ := mov_look HM.out
        have x4 := PR.out.cell 4 _ rfl
        have HML : Hid (∀ j, j < ml.length → ∃ g off, mA = some ⟨g, off, none⟩ ∧ g < G2 ∧ _) := hml
        have GL : Hid (G2 ≤ q ∧ G2 ≤ wr.heap.size) := ⟨by rw [← hG2]; exact T2.out.lo, by rw [← hG2]; exact Nat.le_trans T2.out.below.size HBT.out.size⟩
        have BWR : Hid (Below G2 w wr) := by
          have h1 := T2.out.below
          rw [hG2] at h1
          exact h1.trans (HBT.out.below G2 (by rw [← hG2]; exact h1.size) fun i hi e => by have := GL.out.1; omega)
        have OD : Hid (Owns wr G2 49 2 vD (lnkR dl)) := by
          have h1 := T2.out.own
          rw [hG2] at h1
          exact h1.kept fun g hg ho => HBT.out.block g hg (fun e => by subst e; exact T2.out.own.notBlk T2.out.blk (by decide) ho)
        have RS : Hid (Blk wr G2 #[.int .i64 0, .int .i64 0, .slice none 0 0, .slice none 0 0, .slice none 0 0] 28) := by
          have h1 := HBT.out.blk T2.out.res T2.out.ne.symm
          rw [hG2] at h1
          exact h1
        have OI : Hid (Owns wr G2 47 3 (.slice uA um uc) (nodR ns)) := by
          have h1 := HO.out
          rw [HTK.out] at h1
          have h2 := T2.out.below.size
          exact h1.mono (by omega)
        have QNE : Hid (q ≠ G2) := by
          have := T2.out.ne
          unfold Hid
          omega
        have WB : Hid (∀ j, j < ml.length → ∃ g off, mA = some ⟨g, off, none⟩ ∧ g ≠ q ∧ g < wr.heap.size ∧ wr.cell? ⟨g, off + j * 4, none⟩ = some (.int .i64 (ml.getD j default).kind) ∧ wr.cell? ⟨g, off + j * 4 + 1, none⟩ = some (.string (ml.getD j default).name) ∧ wr.cell? ⟨g, off + j * 4 + 2, none⟩ = some (.string (ml.getD j default).to) ∧ wr.cell? ⟨g, off + j * 4 + 3, none⟩ = some (.int .i64 (ml.getD j default).id)) := fun j hj => by
          obtain ⟨g, off, e, hg, c0, c1, c2, c3⟩ := HML.out j hj
          have hb := BWR.out.block g hg
          have hcc : ∀ o, wr.cell? ⟨g, o, none⟩ = w.cell? ⟨g, o, none⟩ := fun o => World.cell?_of_block (w := w) hb
          have := GL.out
          exact ⟨g, off, e, by omega, by omega, (hcc _).trans c0, (hcc _).trans c1, (hcc _).trans c2, (hcc _).trans c3⟩
        generalize hMM : ml.length = M at *
        have q3 : (M : Int) ≤ 1000 := by have := H3.out; omega
        have nlt : decide ((k : Int) < (k : Int)) = false := decide_eq_false (by omega)
        obtain ⟨dA, dm, dc, rfl⟩ := OD.out.shape
        clear hml HML HL HG P2 I2 C2 T2
        rename World => wm
        go_wp2_with fail
        go_loopw [62] (fun v62 wz => ∃ (i : Nat) (u3 : Value), i ≤ M ∧ v62 = .int .i64 (i : Int) ∧ Blk wz q #[.int .i64 room, .int .i64 next, .slice uA um uc, .slice dA dm dc, u3] 28 ∧ Owns wz wm.heap.size 51 4 u3 (movR (ml.take i)) ∧ But (fun i => i = q) wm wz) (fun i _ => M - (intOf i).toNat)
        case atStart => exact ⟨0, _, by omega, rfl, HQ.out, by rw [List.take_zero]; exact Owns.nil _ _ _ _, But.refl _ _⟩
        case round =>
          obtain ⟨i, u3, hi, rfl, hq, hO, hbt⟩ := hrel
          obtain ⟨tA, tm, tc, rfl⟩ := hO.shape
          have HQ2 : Hid (Blk wr q #[.int .i64 room, .int .i64 next, .slice uA um uc, .slice dA dm dc, .slice tA tm tc] 28) := hq
          have HO2 : Hid (Owns wr wm.heap.size 51 4 (.slice tA tm tc) (movR (ml.take i))) := hO
          have HB2 : Hid (But (fun i => i = q) wm wr) := hbt
          have QL : Hid (q < wm.heap.size) := HQ.out.lt
          clear hq hO hbt
          by_cases hlt : i < M
          · have q5 : (i : Int) < (M : Int) := by omega
            obtain ⟨g, off, rfl, hgq, hg, c0, c1, c2, c3⟩ := WB.out i hlt
            have hgb : wr.heap[g]? = wm.heap[g]? := HB2.out.block g hg hgq
            have hcc : ∀ o, wr.cell? ⟨g, o, none⟩ = wm.cell? ⟨g, o, none⟩ := fun o => World.cell?_of_block (w := wm) hgb
            rw [← hcc] at c0 c1 c2 c3
            have HME : Hid ((ml.getD i default).name.size ≤ 281474976710656 ∧ (ml.getD i default).to.size ≤ 281474976710656) := HMN.out _ (getD_mem ml i (by omega))
            have HRS : Hid (movR (ml.take (i + 1)) = movR (ml.take i) ++ [movC (ml.getD i default)]) := movR_snoc ml i (by omega)
            have HLE : Hid ((movR (ml.take i)).length ≤ 2097152) := by unfold Hid; rw [movR_length, List.length_take]; omega
            clear hgb hcc hg hgq
            unfold movC at HRS
            generalize (ml.getD i default).kind = mk at *
            generalize (ml.getD i default).name = mn at *
            generalize (ml.getD i default).to = mt at *
            generalize (ml.getD i default).id = mi at *
            generalize movR (ml.take i) = Rk at *
            go_wp2_with fail
            have qY := HQ2.out.alloc (.cells #[.int .i64 mk, .string mn, .string mt, .int .i64 mi] 51)
            have zY := Blk.new wr #[.int .i64 mk, .string mn, .string mt, .int .i64 mi] 51
            have oY := HO2.out.alloc (.cells #[.int .i64 mk, .string mn, .string mt, .int .i64 mi] 51)
            have bY := HB2.out.alloc (.cells #[.int .i64 mk, .string mn, .string mt, .int .i64 mi] 51)
            clear c0 c1 c2 c3
            generalize wr.alloc (.cells #[.int .i64 mk, .string mn, .string mt, .int .i64 mi] 51) = Y at *
            generalize wr.heap.size = pz at *
            have QY : Hid (Blk Y q #[.int .i64 room, .int .i64 next, .slice uA um uc, .slice dA dm dc, .slice tA tm tc] 28) := qY
            have ZY : Hid (Blk Y pz #[.int .i64 mk, .string mn, .string mt, .int .i64 mi] 51) := zY
            have OY : Hid (Owns Y wm.heap.size 51 4 (.slice tA tm tc) Rk) := oY
            have BY : Hid (But (fun i => i = q) wm Y) := bY
            clear qY zY oY bY
            have S0 : Hid (Y.drew.cell? ⟨q, 4, none⟩ = some (.slice tA tm tc) ∧ Y.drew.cell? ⟨pz, 0, none⟩ = some (.int .i64 mk) ∧ Y.drew.cell? ⟨pz, 1, none⟩ = some (.string mn) ∧ Y.drew.cell? ⟨pz, 2, none⟩ = some (.string mt) ∧ Y.drew.cell? ⟨pz, 3, none⟩ = some (.int .i64 mi)) := ⟨QY.out.cell 4 _ rfl, ZY.out.cell 0 _ rfl, ZY.out.cell 1 _ rfl, ZY.out.cell 2 _ rfl, ZY.out.cell 3 _ rfl⟩
            refine wp_region_until (fun w' => w'.cell? ⟨q, 4, none⟩ = some (.slice tA tm tc) ∧ w'.cell? ⟨pz, 0, none⟩ = some (.int .i64 mk) ∧ w'.cell? ⟨pz, 1, none⟩ = some (.string mn) ∧ w'.cell? ⟨pz, 2, none⟩ = some (.string mt) ∧ w'.cell? ⟨pz, 3, none⟩ = some (.int .i64 mi)) (fun i => i == 14 || i == 16) 17 (by rfl) (by kernel_rfl) ?_
            refine until_take 0 (v := ?ve0) (by rfl) (by kernel_rfl) (by exact fun _ _ _ h => h) (by rfl) ?hye0 S0.out ?re0
            case hye0 =>
              intro w hSw
              try dsimp only at hSw
              go_simp
              try with_reducible rfl
            try simp only [Act.put, zQ1, zQ2, zQ3]
            refine until_take 1 (v := ?ve1) (by rfl) (by kernel_rfl) (by exact fun _ _ _ h => h) (by rfl) ?hye1 S0.out ?re1
            case hye1 =>
              intro w hSw
              try dsimp only at hSw
              go_simp
              try with_reducible rfl
            try simp only [Act.put, zQ1, zQ2, zQ3]
            refine until_take 2 (v := ?ve2) (by rfl) (by kernel_rfl) (by exact fun _ _ _ h => h) (by rfl) ?hye2 S0.out ?re2
            case hye2 =>
              intro w hSw
              try dsimp only at hSw
              go_simp
              try with_reducible rfl
            try simp only [Act.put, zQ1, zQ2, zQ3]
            refine until_take 3 (v := ?ve3) (by rfl) (by kernel_rfl) (by exact fun _ _ _ h => h) (by rfl) ?hye3 S0.out ?re3
            case hye3 =>
              intro w hSw
              try dsimp only at hSw
              go_simp
              try with_reducible rfl
            try simp only [Act.put, zQ1, zQ2, zQ3]
            refine until_take 4 (v := ?ve4) (by rfl) (by kernel_rfl) (by exact fun _ _ _ h => h) (by rfl) ?hye4 S0.out ?re4
            case hye4 =>
              intro w hSw
              try dsimp only at hSw
              go_simp
              try with_reducible rfl
            try simp only [Act.put, zQ1, zQ2, zQ3]
            refine until_take 5 (v := ?ve5) (by rfl) (by kernel_rfl) (by exact fun _ _ _ h => h) (by rfl) ?hye5 S0.out ?re5
            case hye5 =>
              intro w hSw
              try dsimp only at hSw
              go_simp
              try with_reducible rfl
            try simp only [Act.put, zQ1, zQ2, zQ3]
            refine until_take 7 (v := ?ve7) (by rfl) (by kernel_rfl) (by exact fun _ _ _ h => h) (by rfl) ?hye7 S0.out ?re7
            case hye7 =>
              intro w hSw
              try dsimp only at hSw
              go_simp
              try with_reducible rfl
            try simp only [Act.put, zQ1, zQ2, zQ3]
            refine until_take 8 (v := ?ve8) (by rfl) (by kernel_rfl) (by exact fun _ _ _ h => h) (by rfl) ?hye8 S0.out ?re8
            case hye8 =>
              intro w hSw
              try dsimp only at hSw
              go_simp
              try with_reducible rfl
            try simp only [Act.put, zQ1, zQ2, zQ3]
            refine until_take 10 (v := ?ve10) (by rfl) (by kernel_rfl) (by exact fun _ _ _ h => h) (by rfl) ?hye10 S0.out ?re10
            case hye10 =>
              intro w hSw
              try dsimp only at hSw
              go_simp
              try with_reducible rfl
            try simp only [Act.put, zQ1, zQ2, zQ3]
            refine until_take 11 (v := ?ve11) (by rfl) (by kernel_rfl) (by exact fun _ _ _ h => h) (by rfl) ?hye11 S0.out ?re11
            case hye11 =>
              intro w hSw
              try dsimp only at hSw
              go_simp
              try with_reducible rfl
            try simp only [Act.put, zQ1, zQ2, zQ3]
            refine uNe 6 (fun K hK => ?_)
            go_simp
            refine (clone mn Y.drew HME.out.1).mono ?_
            rintro e w5 ⟨rfl, hb5⟩
            have B5 : Hid (Below Y.heap.size Y w5) := (Below.refl _ Y).drew.trans hb5
            have Q5 : Hid (Blk w5 q #[.int .i64 room, .int .i64 next, .slice uA um uc, .slice dA dm dc, .slice tA tm tc] 28) := QY.out.on B5.out QY.out.lt
            have K5 : Hid (Blk w5 pz #[.int .i64 mk, .string mn, .string mt, .int .i64 mi] 51) := ZY.out.on B5.out ZY.out.lt
            have O5 : Hid (Owns w5 wm.heap.size 51 4 (.slice tA tm tc) Rk) := OY.out.on B5.out
            clear hb5
            go_wp2_with fail
            refine hK.out _ _ (fun _ _ => ⟨Q5.out.cell 4 _ rfl, K5.out.cell 0 _ rfl, K5.out.cell 1 _ rfl, K5.out.cell 2 _ rfl, K5.out.cell 3 _ rfl⟩) ?_
            clear hK K
            try simp only [Act.put, zQ1, zQ2, zQ3]
            refine uNe 9 (fun K hK => ?_)
            go_simp
            refine (clone mt w5 HME.out.2).mono ?_
            rintro e w6 ⟨rfl, hb6⟩
            have B6 : Hid (Below Y.heap.size Y w6) := B5.out.trans (hb6.mono B5.out.size)
            have Q6 : Hid (Blk w6 q #[.int .i64 room, .int .i64 next, .slice uA um uc, .slice dA dm dc, .slice tA tm tc] 28) := Q5.out.on hb6 Q5.out.lt
            have K6 : Hid (Blk w6 pz #[.int .i64 mk, .string mn, .string mt, .int .i64 mi] 51) := K5.out.on hb6 K5.out.lt
            have O6 : Owns w6 wm.heap.size 51 4 (.slice tA tm tc) Rk := O5.out.on hb6
            have Z6 : wm.heap.size ≤ w6.heap.size := Nat.le_trans BY.out.size B6.out.size
            obtain ⟨nA, nm, nc, w7, r7, hO7, hb7, hk7, _⟩ := run_append_row (P := Tryz.prog) w6 26 26 51 (.agg #[.int .i64 0, .string ⟨#[]⟩, .string ⟨#[]⟩, .int .i64 0]) 4 48 Tryz.underlying26 Tryz.infoMov rfl (by omega) wm.heap.size (.slice tA tm tc) Rk O6 [.int .i64 mk, .string mn, .string mt, .int .i64 mi] rfl (by intro y hy; simp at hy; rcases hy with rfl | rfl | rfl | rfl <;> rfl) HLE.out (by omega) Z6
            have O7 : Hid (Owns w7 wm.heap.size 51 4 (.slice nA nm nc) (Rk ++ [[.int .i64 mk, .string mn, .string mt, .int .i64 mi]])) := hO7
            have Q7 : Hid (Blk w7 q #[.int .i64 room, .int .i64 next, .slice uA um uc, .slice dA dm dc, .slice tA tm tc] 28) := Q6.out.on hb7 QL.out
            have HB7 : Hid (But (fun i => i = q) wm w7) := BY.out.trans ((But.of_below (fun i => wm.heap.size ≤ i) B6.out).trans (⟨hb7.os, hb7.tape, hb7.output, hb7.size, fun i hi hn => hb7.block i (by omega)⟩ : But (fun i => wm.heap.size ≤ i) w6 w7) (fun i _ h => h)) (fun i hi h => absurd hi (by omega))
            have y4 := Q7.out.cell 4 _ rfl
            have z4 := Q7.out.free 4
            clear hb6 hO7 hb7 hk7 O6 Z6
            go_wp2_with fail
            refine hK.out _ _ (fun _ _ => ⟨Q6.out.cell 4 _ rfl, K6.out.cell 0 _ rfl, K6.out.cell 1 _ rfl, K6.out.cell 2 _ rfl, K6.out.cell 3 _ rfl⟩) ?_
            clear hK K
            try simp only [Act.put, zQ1, zQ2, zQ3]
            refine until_take 12 (v := ?vf12) (by rfl) (by kernel_rfl) (by exact fun _ _ _ h => h) (by rfl) ?hyf12 ⟨Q6.out.cell 4 _ rfl, K6.out.cell 0 _ rfl, K6.out.cell 1 _ rfl, K6.out.cell 2 _ rfl, K6.out.cell 3 _ rfl⟩ ?rf12
            case hyf12 =>
              intro w hSw
              try dsimp only at hSw
              go_simp
              try with_reducible rfl
            try simp only [Act.put, zQ1, zQ2, zQ3]
            refine uNe 13 (fun K hK => ?_)
            go_simp
            refine hK.out _ _ (fun _ _ => ⟨(Q6.out.alloc _).cell 4 _ rfl, (K6.out.alloc _).cell 0 _ rfl, (K6.out.alloc _).cell 1 _ rfl, (K6.out.alloc _).cell 2 _ rfl, (K6.out.alloc _).cell 3 _ rfl⟩) ?_
            clear hK K
            try simp only [Act.put, zQ1, zQ2, zQ3]
            refine uNe 14 (fun K hK => ?_)
            refine step_append_run (by rfl) (.tmp 67) (.tmp 79) 26 (by rfl) _ _ _ _ (by rfl) (by rfl) r7 ?_
            refine hK.out _ _ (fun h => by cases h) ?_
            clear hK K
            try simp only [Act.put, zQ1, zQ2, zQ3]
            refine until_pure 15 (v := ?vg15) (by rfl) (by kernel_rfl) (by exact fun _ _ _ h => h) (by rfl) ?hyg15 ?rg15
            case hyg15 =>
              intro w
              go_simp
              try with_reducible rfl
            try simp only [Act.put, zQ1, zQ2, zQ3]
            refine uNe 16 (fun K hK => ?_)
            go_simp
            refine hK.out _ _ (fun h => by cases h) ?_
            clear hK K
            refine until_done (by kernel_rfl) ?_ _
            go_wp2_with fail
            go_roundw
            case rel => exact ⟨i + 1, .slice nA nm nc, by omega, by go_num, Q7.out.set 4 _, by rw [HRS.out]; exact O7.out.other (O7.out.notBlk Q7.out (by decide)) _ _, HB7.out.setCell (fun _ => rfl) _⟩
            case measure => simp [intOf]; omega
          · obtain rfl : i = M := by omega
            have HTM : Hid (ml.take i = ml) := by unfold Hid; rw [← hMM, List.take_length]
            have nlt2 : decide ((i : Int) < (i : Int)) = false := decide_eq_false (by omega)
            have RZ : Hid (Blk wr G2 #[.int .i64 0, .int .i64 0, .slice none 0 0, .slice none 0 0, .slice none 0 0] 28) := HB2.out.blk RS.out QNE.out.symm
            have a0 := HQ2.out.cell 0 _ rfl
            have a1 := HQ2.out.cell 1 _ rfl
            have a2 := HQ2.out.cell 2 _ rfl
            have a3 := HQ2.out.cell 3 _ rfl
            have a4 := HQ2.out.cell 4 _ rfl
            have g0 := RZ.out.cell 0 _ rfl
            have g1 := RZ.out.cell 1 _ rfl
            have g2 := RZ.out.cell 2 _ rfl
            have g3 := RZ.out.cell 3 _ rfl
            have g4 := RZ.out.cell 4 _ rfl
            have f0 := RZ.out.free 0
            have f1 := RZ.out.free 1
            have f2 := RZ.out.free 2
            have f3 := RZ.out.free 3
            have f4 := RZ.out.free 4
            go_wp2_with fail
            have hg : G2 ≤ G2 := Nat.le_refl _
            have hB : Below G2 w wr := BWR.out.trans (HB2.out.below G2 GL.out.2 fun i hi e => by have := GL.out.1; omega)
            have n1 : Owns wr G2 47 3 (.slice uA um uc) (nodR ns) := OI.out.kept fun g hg ho => HB2.out.block g hg (fun e => by subst e; exact OI.out.notBlk HQ.out (by decide) ho)
            have n2 : Owns wr G2 49 2 (.slice dA dm dc) (lnkR dl) := OD.out.kept fun g hg ho => HB2.out.block g hg (fun e => by subst e; exact OD.out.notBlk HQ.out (by decide) ho)
            have n3 : Owns wr G2 51 4 (.slice tA tm tc) (movR ml) := by
              have h1 := HO2.out
              rw [HTM.out] at h1
              exact h1.mono GL.out.2
            have m1 := n1.notBlk RZ.out (by decide)
            have m2 := n2.notBlk RZ.out (by decide)
            have m3 := n3.notBlk RZ.out (by decide)
            have F1 := (((((n1.other m1 0 (.int .i64 room)).other m1 1 (.int .i64 next)).other m1 2 (.slice uA um uc)).other m1 3 (.slice dA dm dc)).other m1 4 (.slice tA tm tc))
            have F2 := (((((n2.other m2 0 (.int .i64 room)).other m2 1 (.int .i64 next)).other m2 2 (.slice uA um uc)).other m2 3 (.slice dA dm dc)).other m2 4 (.slice tA tm tc))
            have F3 := (((((n3.other m3 0 (.int .i64 room)).other m3 1 (.int .i64 next)).other m3 2 (.slice uA um uc)).other m3 3 (.slice dA dm dc)).other m3 4 (.slice tA tm tc))
            have FB := ((((hB.setCell hg (.int .i64 room) (p := ⟨_, 0, none⟩)).setCell hg (.int .i64 next) (p := ⟨_, 1, none⟩)).setCell hg (.slice uA um uc) (p := ⟨_, 2, none⟩)).setCell hg (.slice dA dm dc) (p := ⟨_, 3, none⟩)).setCell hg (.slice tA tm tc) (p := ⟨_, 4, none⟩)
            have hF := ((((RZ.out.set 0 (.int .i64 room)).set 1 (.int .i64 next)).set 2 (.slice uA um uc)).set 3 (.slice dA dm dc)).set 4 (.slice tA tm tc)
            clear a0 a1 a2 a3 a4 g0 g1 g2 g3 g4 f0 f1 f2 f3 f4
            generalize ((((wr.setCell ⟨G2, 0, none⟩ (.int .i64 room)).setCell ⟨G2, 1, none⟩ (.int .i64 next)).setCell ⟨G2, 2, none⟩ (.slice uA um uc)).setCell ⟨G2, 3, none⟩ (.slice dA dm dc)).setCell ⟨G2, 4, none⟩ (.slice tA tm tc) = WF at *
            have hG : Blk WF G2 #[.int .i64 room, .int .i64 next, .slice uA um uc, .slice dA dm dc, .slice tA tm tc] 28 := hF
            have k0 := hG.cell 0 (.int .i64 room) rfl
            have k1' := hG.cell 1 (.int .i64 next) rfl
            have k2' := hG.cell 2 (.slice uA um uc) rfl
            have k3' := hG.cell 3 (.slice dA dm dc) rfl
            have k4' := hG.cell 4 (.slice tA tm tc) rfl
            rw [hG2]
            exact bodyPost_ret (v := .agg #[.int .i64 room, .int .i64 next, .slice uA um uc, .slice dA dm dc, .slice tA tm tc]) (by simp [results, go_sem, k0, k1', k2', k3', k4']) rfl ⟨_, rfl, ⟨_, _, _, rfl, F1, F2, F3⟩, FB⟩
end Go.Proofs.YtgjilgecklhglaaGreat
