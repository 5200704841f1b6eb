/-
  The contract of (impl.openDisk).told: the disk, in new memory.
-/
import Derived.Test.YtnnfnhpehacelaaGreatRows
import Derived.Test.YtnnfnhpehacelaaGreatImTold
import Derived.Test.YtnnfnhpehacelaaGreatImKeysI
import Derived.Test.YtnnfnhpehacelaaGreatUntil
import Derived.Test.YtnnfnhpehacelaaGreatDkBlk
import Derived.Deep.CutRange
import Derived.Test.YtnnfnhpehacelaaGreatDkMkD
namespace Go.Proofs.YtnnfnhpehacelaaGreat
open Go.ChangeShapes Go.WideShapes Go.ChangeAt Go.RowKit Go.PlainAid
set_option linter.unusedVariables false

theorem Owns.notBlk {w : World} {base : Nat} {e t : TypeId} {sz g : Nat} {v : Value} {R : List (List Value)} {cs : Array Value} (h : Owns w base e sz v R) (hb : Blk w g cs t) (hne : e ≠ t) : v.ownBlock ≠ some g := by
  intro hg
  obtain ⟨c, fz, e1⟩ := Lib.ownsRow_kind h.2 g hg
  unfold Blk at hb
  rw [e1] at hb
  cases hb
  exact hne rfl
theorem nodAt_own {l : List Nod} (h : Rising l) {k : Nat} (hk : k < l.length) : nodAt l (l.getD k default).id = some k := by
  unfold nodAt
  rw [List.findIdx?_eq_some_iff_getElem]
  refine ⟨hk, by rw [getD_at l k hk]; exact decide_eq_true rfl, fun j hj => ?_⟩
  have := List.pairwise_iff_getElem.1 h j k (by omega) hk hj
  rw [← getD_at l k hk]
  simp only [decide_eq_true_eq]
  omega
/-- The disk that is being told, its names told. -/
structure Told1 (w W : World) (q : Nat) (room next : Int) (vD : Value) (dl : List Lnk) : Prop where
  below : Below w.heap.size w W
  blk : Blk W q #[.int .i64 room, .int .i64 next, .slice none 0 0, vD, .slice none 0 0] 35
  own : Owns W w.heap.size 79 2 vD (lnkR dl)
  res : Blk W w.heap.size #[.int .i64 0, .int .i64 0, .slice none 0 0, .slice none 0 0, .slice none 0 0] 35
  ne : q ≠ w.heap.size
  lo : w.heap.size ≤ q
theorem Told1.on {w W W' : World} {q : Nat} {room next : Int} {vD : Value} {dl : List Lnk} (h : Told1 w W q room next vD dl) (hb : Below W.heap.size W W') : Told1 w W' q room next vD dl :=
  ⟨h.below.trans (hb.mono h.below.size), h.blk.on hb h.blk.lt, h.own.on hb, h.res.on hb h.res.lt, h.ne, h.lo⟩

set_option maxRecDepth 20000 in
set_option maxHeartbeats 4000000 in
theorem toldO (room next : Int) (vw : Value) (p bi bd : Nat) (ns : List Nod) (gs : List Nat) (dl : List Lnk) (ml : List Mov) (u : Value) (w : World)
    (hp : Blk w p #[.int .i64 room, .int .i64 next, .map (some bi), .map (some bd), u, vw] 108)
    (hI : IT w bi (prs ns gs)) (hH : Held w ns gs) (hR : Rising ns) (hD : NT w bd dl) (hs : Sorted dl) (hn : NamesOk dl) (hM : Lies w w.heap.size 4 u (movR ml))
    (h1 : ns.length ≤ 1000) (h2 : dl.length ≤ 1000) (h3 : ml.length ≤ 1000) (hid : ∀ x ∈ ns, IntOk x.id ∧ x.data.size ≤ 281474976710656) (hmn : ∀ x ∈ ml, x.name.size ≤ 281474976710656 ∧ x.to.size ≤ 281474976710656) :
    Calls Tryz.prog 57 #[.pointer (some ⟨p, 0, none⟩)] w fun e w' => ∃ v, e = .returned v ∧ DiskO w' w.heap.size v ⟨room, next, ns, dl, ml⟩ ∧ Below w.heap.size w w' := by
  have HP : Hid (Blk w p #[.int .i64 room, .int .i64 next, .map (some bi), .map (some bd), u, vw] 108) := hp
  have HI : Hid (IT w bi (prs ns gs)) := hI
  have HH : Hid (Held w ns gs) := hH
  have HR : Hid (Rising ns) := hR
  have HD : Hid (NT w bd dl) := hD
  have HS : Hid (Sorted dl) := hs
  have HN : Hid (NamesOk dl) := hn
  have HM : Hid (Lies w w.heap.size 4 u (movR ml)) := hM
  have H1 : Hid (ns.length ≤ 1000) := h1
  have H2 : Hid (dl.length ≤ 1000) := h2
  have H3 : Hid (ml.length ≤ 1000) := h3
  have HID : Hid (∀ x ∈ ns, IntOk x.id ∧ x.data.size ≤ 281474976710656) := hid
  have HMN : Hid (∀ x ∈ ml, x.name.size ≤ 281474976710656 ∧ x.to.size ≤ 281474976710656) := hmn
  clear hp hI hH hR hD hs hn hM h1 h2 h3 hid hmn
  go_enter Tryz.func57, Tryz.ntmps57
  go_wp2_with fail
  have b0 : Below w.heap.size w (w.alloc (.cells #[.int .i64 0, .int .i64 0, .slice none 0 0, .slice none 0 0, .slice none 0 0] 35)) := (Below.refl _ _).alloc (Nat.le_refl _) _
  have k0 := Blk.new w #[.int .i64 0, .int .i64 0, .slice none 0 0, .slice none 0 0, .slice none 0 0] 35
  have sz1 : (w.alloc (.cells #[.int .i64 0, .int .i64 0, .slice none 0 0, .slice none 0 0, .slice none 0 0] 35)).heap.size = w.heap.size + 1 := by simp
  generalize w.alloc (.cells #[.int .i64 0, .int .i64 0, .slice none 0 0, .slice none 0 0, .slice none 0 0] 35) = W1 at *
  generalize hG2 : w.heap.size = G2 at *
  have B1 : Hid (Below G2 w W1) := b0
  have P1 : Hid (Blk W1 p #[.int .i64 room, .int .i64 next, .map (some bi), .map (some bd), u, vw] 108) := HP.out.on b0 (by rw [← hG2]; exact HP.out.lt)
  have K1 : Hid (Blk W1 G2 #[.int .i64 0, .int .i64 0, .slice none 0 0, .slice none 0 0, .slice none 0 0] 35) := k0
  have D1 : Hid (NT W1 bd dl) := HD.out.on b0 (by rw [← hG2]; exact HD.out.lt)
  have SZ1 : Hid (W1.heap.size = G2 + 1) := sz1
  clear b0 k0 sz1
  have S0 : Hid (W1.drew.cell? ⟨p, 0, none⟩ = some (.int .i64 room) ∧ W1.drew.cell? ⟨p, 1, none⟩ = some (.int .i64 next) ∧ W1.drew.cell? ⟨p, 3, none⟩ = some (.map (some bd))) := ⟨P1.out.cell 0 _ rfl, P1.out.cell 1 _ rfl, P1.out.cell 3 _ rfl⟩
  have PA : Blk (W1.drew.alloc (.cells #[.int .i64 0, .int .i64 0, .slice none 0 0, .slice none 0 0, .slice none 0 0] 35)) p #[.int .i64 room, .int .i64 next, .map (some bi), .map (some bd), u, vw] 108 := Blk.alloc (w := W1.drew) P1.out _
  have S1 : Hid ((W1.drew.alloc (.cells #[.int .i64 0, .int .i64 0, .slice none 0 0, .slice none 0 0, .slice none 0 0] 35)).cell? ⟨p, 0, none⟩ = some (.int .i64 room) ∧ (W1.drew.alloc (.cells #[.int .i64 0, .int .i64 0, .slice none 0 0, .slice none 0 0, .slice none 0 0] 35)).cell? ⟨p, 1, none⟩ = some (.int .i64 next) ∧ (W1.drew.alloc (.cells #[.int .i64 0, .int .i64 0, .slice none 0 0, .slice none 0 0, .slice none 0 0] 35)).cell? ⟨p, 3, none⟩ = some (.map (some bd))) := ⟨PA.cell 0 _ rfl, PA.cell 1 _ rfl, PA.cell 3 _ rfl⟩
  have N0 : Hid (NT W1.drew bd dl) := D1.out.kept rfl
  have N1 : Hid (NT (W1.drew.alloc (.cells #[.int .i64 0, .int .i64 0, .slice none 0 0, .slice none 0 0, .slice none 0 0] 35)) bd dl) := NT.on (w := W1.drew) N0.out ((Below.refl _ W1.drew).alloc (Nat.le_refl _) _) N0.out.lt
  clear PA
  go_cut [3] from 9 to 22 (fun v3 wx => ∃ q vD, v3 = .pointer (some ⟨q, 0, none⟩) ∧ Told1 w wx q room next vD dl)
  case first =>
   refine wp_region_until (fun w' => w'.cell? ⟨p, 0, none⟩ = some (.int .i64 room) ∧ w'.cell? ⟨p, 1, none⟩ = some (.int .i64 next) ∧ w'.cell? ⟨p, 3, none⟩ = some (.map (some bd))) (fun i => i == 15) 16 (by rfl) (by kernel_rfl) ?_
   refine until_take 0 (v := ?v0) (by rfl) (by kernel_rfl) (by exact fun _ _ _ h => h) (by rfl) ?hy0 S0.out ?r0
   case hy0 =>
     intro w hSw
     try dsimp only at hSw
     go_simp
     try with_reducible rfl
   try simp only [Act.put, List.setIfInBounds_toArray, List.set_cons_zero, List.set_cons_succ]
   refine until_take 1 (v := ?v1) (by rfl) (by kernel_rfl) (by exact fun _ _ _ h => h) (by rfl) ?hy1 S0.out ?r1
   case hy1 =>
     intro w hSw
     try dsimp only at hSw
     go_simp
     try with_reducible rfl
   try simp only [Act.put, List.setIfInBounds_toArray, List.set_cons_zero, List.set_cons_succ]
   refine until_take 2 (v := ?v2) (by rfl) (by kernel_rfl) (by exact fun _ _ _ h => h) (by rfl) ?hy2 S0.out ?r2
   case hy2 =>
     intro w hSw
     try dsimp only at hSw
     go_simp
     try with_reducible rfl
   try simp only [Act.put, List.setIfInBounds_toArray, List.set_cons_zero, List.set_cons_succ]
   refine until_take 3 (v := ?v3) (by rfl) (by kernel_rfl) (by exact fun _ _ _ h => h) (by rfl) ?hy3 S0.out ?r3
   case hy3 =>
     intro w hSw
     try dsimp only at hSw
     go_simp
     try with_reducible rfl
   try simp only [Act.put, List.setIfInBounds_toArray, List.set_cons_zero, List.set_cons_succ]
   refine until_take 4 (v := ?v4) (by rfl) (by kernel_rfl) (by exact fun _ _ _ h => h) (by rfl) ?hy4 S0.out ?r4
   case hy4 =>
     intro w hSw
     try dsimp only at hSw
     go_simp
     try with_reducible rfl
   try simp only [Act.put, List.setIfInBounds_toArray, List.set_cons_zero, List.set_cons_succ]
   refine until_take 5 (v := ?v5) (by rfl) (by kernel_rfl) (by exact fun _ _ _ h => h) (by rfl) ?hy5 S0.out ?r5
   case hy5 =>
     intro w hSw
     try dsimp only at hSw
     go_simp
     try with_reducible rfl
   try simp only [Act.put, List.setIfInBounds_toArray, List.set_cons_zero, List.set_cons_succ]
   refine until_take 6 (v := ?v6) (by rfl) (by kernel_rfl) (by exact fun _ _ _ h => h) (by rfl) ?hy6 S0.out ?r6
   case hy6 =>
     intro w hSw
     try dsimp only at hSw
     go_simp
     try with_reducible rfl
   try simp only [Act.put, List.setIfInBounds_toArray, List.set_cons_zero, List.set_cons_succ]
   refine until_take 7 (v := ?v7) (by rfl) (by kernel_rfl) (by exact fun _ _ _ h => h) (by rfl) ?hy7 S0.out ?r7
   case hy7 =>
     intro w hSw
     try dsimp only at hSw
     go_simp
     try with_reducible rfl
   try simp only [Act.put, List.setIfInBounds_toArray, List.set_cons_zero, List.set_cons_succ]
   refine until_take 8 (v := ?v8) (by rfl) (by kernel_rfl) (by exact fun _ _ _ h => h) (by rfl) ?hy8 S0.out ?r8
   case hy8 =>
     intro w hSw
     try dsimp only at hSw
     go_simp
     try with_reducible rfl
   try simp only [Act.put, List.setIfInBounds_toArray, List.set_cons_zero, List.set_cons_succ]
   refine until_take 9 (v := ?v9) (by rfl) (by kernel_rfl) (by exact fun _ _ _ h => h) (by rfl) ?hy9 S0.out ?r9
   case hy9 =>
     intro w hSw
     try dsimp only at hSw
     go_simp
     try with_reducible rfl
   try simp only [Act.put, List.setIfInBounds_toArray, List.set_cons_zero, List.set_cons_succ]
   refine until_take 10 (v := ?v10) (by rfl) (by kernel_rfl) (by exact fun _ _ _ h => h) (by rfl) ?hy10 S0.out ?r10
   case hy10 =>
     intro w hSw
     try dsimp only at hSw
     go_simp
     try with_reducible rfl
   try simp only [Act.put, List.setIfInBounds_toArray, List.set_cons_zero, List.set_cons_succ]
   refine until_take 11 (v := ?v11) (by rfl) (by kernel_rfl) (by exact fun _ _ _ h => h) (by rfl) ?hy11 S0.out ?r11
   case hy11 =>
     intro w hSw
     try dsimp only at hSw
     go_simp
     try with_reducible rfl
   try simp only [Act.put, List.setIfInBounds_toArray, List.set_cons_zero, List.set_cons_succ]
   refine until_two 12 14 (by rfl) (by rfl) (by kernel_rfl) (fun K hK => ?wa) (fun K hK => ?wb)
   case wa =>
    go_simp
    refine (toldN W1.drew bd dl N0.out HS.out HN.out H2.out).mono ?_
    rintro e w5 ⟨vD, rfl, hO, hb⟩
    have P5 : Hid (Blk w5 p #[.int .i64 room, .int .i64 next, .map (some bi), .map (some bd), u, vw] 108) := Blk.on (w := W1.drew) P1.out hb P1.out.lt
    have S5 : Hid (w5.cell? ⟨p, 0, none⟩ = some (.int .i64 room) ∧ w5.cell? ⟨p, 1, none⟩ = some (.int .i64 next) ∧ w5.cell? ⟨p, 3, none⟩ = some (.map (some bd))) := ⟨P5.out.cell 0 _ rfl, P5.out.cell 1 _ rfl, P5.out.cell 3 _ rfl⟩
    have B5 : Hid (Below W1.heap.size W1 w5) := (Below.refl _ W1).drew.trans hb
    have O5 : Hid (Owns w5 W1.heap.size 79 2 vD (lnkR dl)) := hO
    obtain ⟨dA, dm, dc, rfl⟩ := hO.shape
    clear hO hb
    go_wp2_with fail
    refine hK.out _ _ (fun _ _ => S5.out) ?_
    clear hK K
    try simp only [Act.put, List.setIfInBounds_toArray, List.set_cons_zero, List.set_cons_succ]
    refine until_take 13 (v := ?va13) (by rfl) (by kernel_rfl) (by exact fun _ _ _ h => h) (by rfl) ?hya13 S5.out ?ra13
    case hya13 =>
      intro w hSw
      try dsimp only at hSw
      go_simp
      try with_reducible rfl
    try simp only [Act.put, List.setIfInBounds_toArray, List.set_cons_zero, List.set_cons_succ]
    refine until_one 14 (by rfl) (by kernel_rfl) (fun K hK => ?_)
    go_simp
    refine hK.out _ _ (fun _ _ => ?_) ?_
    · have PA := P5.out.alloc (.cells #[.int .i64 0, .int .i64 0, .slice none 0 0, .slice none 0 0, .slice none 0 0] 35)
      exact ⟨PA.cell 0 _ rfl, PA.cell 1 _ rfl, PA.cell 3 _ rfl⟩
    clear hK K
    try simp only [Act.put, List.setIfInBounds_toArray, List.set_cons_zero, List.set_cons_succ]
    refine until_one 15 (by rfl) (by kernel_rfl) (fun K hK => ?_)
    go_simp
    refine hK.out _ _ (fun h => by cases h) ?_
    clear hK K
    refine until_done (by kernel_rfl) ?_ _
    go_wp2_with fail
    go_meet
    case rel =>
      have hb : Below G2 w w5 := B1.out.trans (B5.out.mono (by rw [SZ1.out]; omega))
      have hz : G2 + 1 ≤ w5.heap.size := by rw [← SZ1.out]; exact B5.out.size
      exact ⟨w5.heap.size, .slice dA dm dc, rfl, ⟨by rw [hG2]; exact hb.alloc (by omega) _, Blk.new _ _ _, (O5.out.mono (by rw [hG2, SZ1.out]; omega)).alloc _, by rw [hG2]; exact (K1.out.on B5.out K1.out.lt).alloc _, by rw [hG2]; omega, by rw [hG2]; omega⟩⟩
   case wb =>
    go_simp
    refine hK.out _ _ (fun _ _ => S1.out) ?_
    clear hK K
    try simp only [Act.put, List.setIfInBounds_toArray, List.set_cons_zero, List.set_cons_succ]
    refine until_one 12 (by rfl) (by kernel_rfl) (fun K hK => ?_)
    go_simp
    refine (toldN _ bd dl N1.out HS.out HN.out H2.out).mono ?_
    rintro e w5 ⟨vD, rfl, hO, hb⟩
    have P5 : Hid (Blk w5 p #[.int .i64 room, .int .i64 next, .map (some bi), .map (some bd), u, vw] 108) := (Blk.alloc (w := W1.drew) P1.out _).on hb (Blk.alloc (w := W1.drew) P1.out _).lt
    have S5 : Hid (w5.cell? ⟨p, 0, none⟩ = some (.int .i64 room) ∧ w5.cell? ⟨p, 1, none⟩ = some (.int .i64 next) ∧ w5.cell? ⟨p, 3, none⟩ = some (.map (some bd))) := ⟨P5.out.cell 0 _ rfl, P5.out.cell 1 _ rfl, P5.out.cell 3 _ rfl⟩
    have hq := Blk.new W1.drew #[.int .i64 0, .int .i64 0, .slice none 0 0, .slice none 0 0, .slice none 0 0] 35
    have Q5 : Hid (Blk w5 W1.heap.size #[.int .i64 0, .int .i64 0, .slice none 0 0, .slice none 0 0, .slice none 0 0] 35) := hq.on hb hq.lt
    have hbA : Below W1.heap.size W1 (W1.drew.alloc (.cells #[.int .i64 0, .int .i64 0, .slice none 0 0, .slice none 0 0, .slice none 0 0] 35)) := (Below.refl _ W1).drew.alloc (Nat.le_refl _) _
    have B5 : Hid (Below W1.heap.size W1 w5) := hbA.trans (hb.mono hbA.size)
    have O5 : Hid (Owns w5 W1.heap.size 79 2 vD (lnkR dl)) := hO.mono hbA.size
    obtain ⟨dA, dm, dc, rfl⟩ := hO.shape
    have q0 := Q5.out.cell 0 _ rfl
    have q1 := Q5.out.cell 1 _ rfl
    have q2 := Q5.out.cell 2 _ rfl
    have q3 := Q5.out.cell 3 _ rfl
    have q4 := Q5.out.cell 4 _ rfl
    have f0 := Q5.out.free 0
    have f1 := Q5.out.free 1
    have f2 := Q5.out.free 2
    have f3 := Q5.out.free 3
    have f4 := Q5.out.free 4
    clear hO hb hq hbA
    go_wp2_with fail
    refine hK.out _ _ (fun _ _ => S5.out) ?_
    clear hK K
    try simp only [Act.put, List.setIfInBounds_toArray, List.set_cons_zero, List.set_cons_succ]
    refine until_take 13 (v := ?vb13) (by rfl) (by kernel_rfl) (by exact fun _ _ _ h => h) (by rfl) ?hyb13 S5.out ?rb13
    case hyb13 =>
      intro w hSw
      try dsimp only at hSw
      go_simp
      try with_reducible rfl
    try simp only [Act.put, List.setIfInBounds_toArray, List.set_cons_zero, List.set_cons_succ]
    refine until_one 15 (by rfl) (by kernel_rfl) (fun K hK => ?_)
    go_simp
    refine hK.out _ _ (fun h => by cases h) ?_
    clear hK K
    refine until_done (by kernel_rfl) ?_ _
    go_wp2_with fail
    go_meet
    case rel =>
      have hb : Below G2 w w5 := B1.out.trans (B5.out.mono (by rw [SZ1.out]; omega))
      have hz : W1.heap.size = G2 + 1 := SZ1.out
      have hne := O5.out.notBlk Q5.out (by decide)
      have hg : G2 ≤ W1.heap.size := by omega
      have hk := K1.out.on B5.out K1.out.lt
      have hkn : G2 ≠ W1.heap.size := by omega
      exact ⟨W1.heap.size, .slice dA dm dc, rfl, ⟨by rw [hG2]; exact ((((hb.setCell hg _).setCell hg _).setCell hg _).setCell hg _).setCell hg _, ((((Q5.out.set 0 _).set 1 _).set 2 _).set 3 _).set 4 _, ((((((O5.out.mono (by rw [hG2]; exact hg)).other hne _ _).other hne _ _).other hne _ _).other hne _ _).other hne _ _), by rw [hG2]; exact ((((hk.other hkn _ _).other hkn _ _).other hkn _ _).other hkn _ _).other hkn _ _, by rw [hG2]; omega, by rw [hG2]; omega⟩⟩
  case rest =>
    obtain ⟨q, vD, rfl, hT⟩ := hcut
    have HT : Hid (Told1 w wc q room next vD dl) := hT
    have PC : Hid (Blk wc p #[.int .i64 room, .int .i64 next, .map (some bi), .map (some bd), u, vw] 108) := HP.out.on hT.below HP.out.lt
    have IC : Hid (IT wc bi (prs ns gs)) := HI.out.on hT.below HI.out.lt
    have HC : Hid (Held wc ns gs) := HH.out.on hT.below HH.out.lt
    have x2 := PC.out.cell 2 _ rfl
    have cK := keysIV wc bi
    have cS := sortedIV wc bi ns gs IC.out HH.out.len HR.out H1.out
    clear hT S0 S1 N0 N1 B1 P1 K1 D1 SZ1
    go_wp2_with fail
    refine cK.mono ?_
    rintro e w1 ⟨rfl, rfl⟩
    clear cK
    go_wp2_with fail
    refine cS.mono ?_
    rintro e w2 ⟨v, rfl, hO, hb⟩
    have T2 : Hid (Told1 w w2 q room next vD dl) := HT.out.on hb
    have P2 : Hid (Blk w2 p #[.int .i64 room, .int .i64 next, .map (some bi), .map (some bd), u, vw] 108) := PC.out.on hb PC.out.lt
    have I2 : Hid (IT w2 bi (prs ns gs)) := IC.out.on hb IC.out.lt
    have C2 : Hid (Held w2 ns gs) := HC.out.on hb HC.out.lt
    obtain ⟨A, cap, rfl, hlk⟩ := num_look hO.lies
    rw [List.length_map] at hlk
    have HL : Hid (∀ j, j < ns.length → ∃ g off, A = some ⟨g, off, none⟩ ∧ g < w2.heap.size ∧ _) := hlk
    have HG : Hid (∀ g off, A = some ⟨g, off, none⟩ → g ≠ q) := by
      rintro g off rfl
      have h1 := (hO.lt g rfl).1
      have h2 := HT.out.blk.lt
      omega
    have QP : Hid (p ≠ q ∧ bi ≠ q ∧ (∀ g ∈ gs, g ≠ q) ∧ q < w2.heap.size) := by
      have h1 := HT.out.lo
      have h2 := HP.out.lt
      have h3 := HI.out.lt
      exact ⟨by omega, by omega, fun g hg => by have := HH.out.lt g hg; omega, T2.out.blk.lt⟩
    have e0 : (ns.map (·.id)).length = ns.length := List.length_map _
    rw [e0]
    clear cS hb hO hlk e0 x2 PC IC HC HT
    generalize hNN : ns.length = N at *
    have q1 : (N : Int) ≤ 1000 := by have := H1.out; omega
    go_wp2_with fail
    go_loopw [30] (fun v30 wr => ∃ (k : Nat) (u1 : Value), k ≤ N ∧ v30 = .int .i64 (k : Int) ∧ Blk wr q #[.int .i64 room, .int .i64 next, u1, vD, .slice none 0 0] 35 ∧ Owns wr w2.heap.size 76 3 u1 (nodR (ns.take k)) ∧ But (fun i => i = q) w2 wr) (fun i _ => N - (intOf i).toNat)
    case atStart => exact ⟨0, _, by omega, rfl, T2.out.blk, by rw [List.take_zero]; exact Owns.nil _ _ _ _, But.refl _ _⟩
    case round =>
      obtain ⟨k, u1, hk, rfl, hq, hO, hbt⟩ := hrel
      obtain ⟨uA, um, uc, rfl⟩ := hO.shape
      have HQ : Hid (Blk wr q #[.int .i64 room, .int .i64 next, .slice uA um uc, vD, .slice none 0 0] 35) := hq
      have HO : Hid (Owns wr w2.heap.size 76 3 (.slice uA um uc) (nodR (ns.take k))) := hO
      have HBT : Hid (But (fun i => i = q) w2 wr) := hbt
      clear hq hO hbt
      have PR : Hid (Blk wr p #[.int .i64 room, .int .i64 next, .map (some bi), .map (some bd), u, vw] 108) := HBT.out.blk P2.out QP.out.1
      by_cases hlt : k < N
      · have q4 : (k : Int) < (N : Int) := by omega
        obtain ⟨g, off, rfl, hg, hc⟩ := HL.out k hlt
        have hgb : wr.heap[g]? = w2.heap[g]? := HBT.out.block g hg (HG.out g off rfl)
        rw [← World.cell?_of_block (w := w2) hgb] at hc
        have hnm : (ns.map (·.id)).getD k 0 = (ns.getD k default).id := by
          rw [List.getD_eq_getElem?_getD, List.getElem?_map, List.getD_eq_getElem?_getD, List.getElem?_eq_getElem (by omega)]
          rfl
        rw [hnm] at hc
        have hat := ptr_nod HH.out.len (nodAt_own HR.out (k := k) (by omega))
        have hmem := HID.out _ (getD_mem ns k (by omega))
        have gmem : gs.getD k 0 ∈ gs := by
          have hj : k < gs.length := by rw [HH.out.len]; omega
          rw [List.getD_eq_getElem?_getD, List.getElem?_eq_getElem hj]
          exact List.getElem_mem hj
        have BK : Hid (Blk wr (gs.getD k 0) #[.int .i64 (ns.getD k default).id, .string (ns.getD k default).data, .int .i64 (ns.getD k default).sure] 76) := HBT.out.blk (C2.out.blk k (by omega)) (QP.out.2.2.1 _ gmem)
        have r1 := ((I2.out.but HBT.out QP.out.2.1).val _ hmem.1).2 _ hat
        have HDS : Hid ((ns.getD k default).data.size ≤ 281474976710656) := hmem.2
        have HRS : Hid (nodR (ns.take (k + 1)) = nodR (ns.take k) ++ [nodC (ns.getD k default)]) := nodR_snoc ns k (by omega)
        have HLE : Hid ((nodR (ns.take k)).length ≤ 2097152) := by unfold Hid; rw [nodR_length, List.length_take]; omega
        unfold nodC at HRS
        generalize (ns.getD k default).id = xi at *
        generalize (ns.getD k default).data = xd at *
        generalize (ns.getD k default).sure = xs at *
        generalize nodR (ns.take k) = Rk at *
        generalize gs.getD k 0 = gk at *
        have x2 := PR.out.cell 2 _ rfl
        clear hat hnm hmem gmem hgb hg
        go_wp2_with fail
        have S0 : Hid (wr.drew.cell? ⟨q, 2, none⟩ = some (.slice uA um uc) ∧ wr.drew.cell? ⟨gk, 1, none⟩ = some (.string xd) ∧ wr.drew.cell? ⟨gk, 2, none⟩ = some (.int .i64 xs)) := ⟨HQ.out.cell 2 _ rfl, BK.out.cell 1 _ rfl, BK.out.cell 2 _ rfl⟩
        refine wp_region_until (fun w' => w'.cell? ⟨q, 2, none⟩ = some (.slice uA um uc) ∧ w'.cell? ⟨gk, 1, none⟩ = some (.string xd) ∧ w'.cell? ⟨gk, 2, none⟩ = some (.int .i64 xs)) (fun i => i == 14 || i == 16) 17 (by rfl) (by kernel_rfl) ?_
        refine until_take 0 (v := ?vc0) (by rfl) (by kernel_rfl) (by exact fun _ _ _ h => h) (by rfl) ?hyc0 S0.out ?rc0
        case hyc0 =>
          intro w hSw
          try dsimp only at hSw
          go_simp
          try with_reducible rfl
        try simp only [Act.put, List.setIfInBounds_toArray, List.set_cons_zero, List.set_cons_succ]
        refine until_take 1 (v := ?vc1) (by rfl) (by kernel_rfl) (by exact fun _ _ _ h => h) (by rfl) ?hyc1 S0.out ?rc1
        case hyc1 =>
          intro w hSw
          try dsimp only at hSw
          go_simp
          try with_reducible rfl
        try simp only [Act.put, List.setIfInBounds_toArray, List.set_cons_zero, List.set_cons_succ]
        refine until_take 2 (v := ?vc2) (by rfl) (by kernel_rfl) (by exact fun _ _ _ h => h) (by rfl) ?hyc2 S0.out ?rc2
        case hyc2 =>
          intro w hSw
          try dsimp only at hSw
          go_simp
          try with_reducible rfl
        try simp only [Act.put, List.setIfInBounds_toArray, List.set_cons_zero, List.set_cons_succ]
        refine until_take 3 (v := ?vc3) (by rfl) (by kernel_rfl) (by exact fun _ _ _ h => h) (by rfl) ?hyc3 S0.out ?rc3
        case hyc3 =>
          intro w hSw
          try dsimp only at hSw
          go_simp
          try with_reducible rfl
        try simp only [Act.put, List.setIfInBounds_toArray, List.set_cons_zero, List.set_cons_succ]
        refine until_take 4 (v := ?vc4) (by rfl) (by kernel_rfl) (by exact fun _ _ _ h => h) (by rfl) ?hyc4 S0.out ?rc4
        case hyc4 =>
          intro w hSw
          try dsimp only at hSw
          go_simp
          try with_reducible rfl
        try simp only [Act.put, List.setIfInBounds_toArray, List.set_cons_zero, List.set_cons_succ]
        refine until_take 5 (v := ?vc5) (by rfl) (by kernel_rfl) (by exact fun _ _ _ h => h) (by rfl) ?hyc5 S0.out ?rc5
        case hyc5 =>
          intro w hSw
          try dsimp only at hSw
          go_simp
          try with_reducible rfl
        try simp only [Act.put, List.setIfInBounds_toArray, List.set_cons_zero, List.set_cons_succ]
        refine until_take 6 (v := ?vc6) (by rfl) (by kernel_rfl) (by exact fun _ _ _ h => h) (by rfl) ?hyc6 S0.out ?rc6
        case hyc6 =>
          intro w hSw
          try dsimp only at hSw
          go_simp
          try with_reducible rfl
        try simp only [Act.put, List.setIfInBounds_toArray, List.set_cons_zero, List.set_cons_succ]
        refine until_take 8 (v := ?vc8) (by rfl) (by kernel_rfl) (by exact fun _ _ _ h => h) (by rfl) ?hyc8 S0.out ?rc8
        case hyc8 =>
          intro w hSw
          try dsimp only at hSw
          go_simp
          try with_reducible rfl
        try simp only [Act.put, List.setIfInBounds_toArray, List.set_cons_zero, List.set_cons_succ]
        refine until_take 9 (v := ?vc9) (by rfl) (by kernel_rfl) (by exact fun _ _ _ h => h) (by rfl) ?hyc9 S0.out ?rc9
        case hyc9 =>
          intro w hSw
          try dsimp only at hSw
          go_simp
          try with_reducible rfl
        try simp only [Act.put, List.setIfInBounds_toArray, List.set_cons_zero, List.set_cons_succ]
        refine until_take 10 (v := ?vc10) (by rfl) (by kernel_rfl) (by exact fun _ _ _ h => h) (by rfl) ?hyc10 S0.out ?rc10
        case hyc10 =>
          intro w hSw
          try dsimp only at hSw
          go_simp
          try with_reducible rfl
        try simp only [Act.put, List.setIfInBounds_toArray, List.set_cons_zero, List.set_cons_succ]
        refine until_take 11 (v := ?vc11) (by rfl) (by kernel_rfl) (by exact fun _ _ _ h => h) (by rfl) ?hyc11 S0.out ?rc11
        case hyc11 =>
          intro w hSw
          try dsimp only at hSw
          go_simp
          try with_reducible rfl
        try simp only [Act.put, List.setIfInBounds_toArray, List.set_cons_zero, List.set_cons_succ]
        refine until_one 7 (by rfl) (by kernel_rfl) (fun K hK => ?_)
        go_simp
        refine (clone xd wr.drew HDS.out).mono ?_
        rintro e w5 ⟨rfl, hb5⟩
        have B5 : Hid (Below wr.heap.size wr w5) := (Below.refl _ wr).drew.trans hb5
        have Q5 : Hid (Blk w5 q #[.int .i64 room, .int .i64 next, .slice uA um uc, vD, .slice none 0 0] 35) := HQ.out.on B5.out HQ.out.lt
        have K5 : Hid (Blk w5 gk #[.int .i64 xi, .string xd, .int .i64 xs] 76) := BK.out.on B5.out BK.out.lt
        have O5 : Owns w5 w2.heap.size 76 3 (.slice uA um uc) Rk := HO.out.on B5.out
        have Z5 : w2.heap.size ≤ w5.heap.size := Nat.le_trans HBT.out.size B5.out.size
        obtain ⟨nA, nm, nc, w6, r6, hO6, hb6, hk6, _⟩ := run_append_row (P := Tryz.prog) w5 31 31 76 (.agg #[.int .i64 0, .string ⟨#[]⟩, .int .i64 0]) 3 32 Tryz.underlying31 Tryz.infoNod rfl (by omega) w2.heap.size (.slice uA um uc) Rk O5 [.int .i64 xi, .string xd, .int .i64 xs] rfl (by intro y hy; simp at hy; rcases hy with rfl | rfl | rfl <;> rfl) HLE.out (by omega) Z5
        have O6 : Hid (Owns w6 w2.heap.size 76 3 (.slice nA nm nc) (Rk ++ [[.int .i64 xi, .string xd, .int .i64 xs]])) := hO6
        have Q6 : Hid (Blk w6 q #[.int .i64 room, .int .i64 next, .slice uA um uc, vD, .slice none 0 0] 35) := Q5.out.on hb6 QP.out.2.2.2
        have HB6 : Hid (But (fun i => i = q) w2 w6) := HBT.out.trans ((But.of_below (fun i => w2.heap.size ≤ i) B5.out).trans (⟨hb6.os, hb6.tape, hb6.output, hb6.size, fun i hi hn => hb6.block i (by omega)⟩ : But (fun i => w2.heap.size ≤ i) w5 w6) (fun i _ h => h)) (fun i hi h => absurd hi (by omega))
        have y2 := Q6.out.cell 2 _ rfl
        have z2 := Q6.out.free 2
        clear hb5 hO6 hb6 hk6 O5 Z5
        go_wp2_with fail
        refine hK.out _ _ (fun _ _ => ⟨Q5.out.cell 2 _ rfl, K5.out.cell 1 _ rfl, K5.out.cell 2 _ rfl⟩) ?_
        clear hK K
        try simp only [Act.put, List.setIfInBounds_toArray, List.set_cons_zero, List.set_cons_succ]
        refine until_take 12 (v := ?vd12) (by rfl) (by kernel_rfl) (by exact fun _ _ _ h => h) (by rfl) ?hyd12 ⟨Q5.out.cell 2 _ rfl, K5.out.cell 1 _ rfl, K5.out.cell 2 _ rfl⟩ ?rd12
        case hyd12 =>
          intro w hSw
          try dsimp only at hSw
          go_simp
          try with_reducible rfl
        try simp only [Act.put, List.setIfInBounds_toArray, List.set_cons_zero, List.set_cons_succ]
        refine until_one 13 (by rfl) (by kernel_rfl) (fun K hK => ?_)
        go_simp
        refine hK.out _ _ (fun _ _ => ⟨(Q5.out.alloc _).cell 2 _ rfl, (K5.out.alloc _).cell 1 _ rfl, (K5.out.alloc _).cell 2 _ rfl⟩) ?_
        clear hK K
        try simp only [Act.put, List.setIfInBounds_toArray, List.set_cons_zero, List.set_cons_succ]
        refine until_one 14 (by rfl) (by kernel_rfl) (fun K hK => ?_)
        refine step_append_run (by rfl) (.tmp 41) (.tmp 53) 31 (by rfl) _ _ _ _ (by rfl) (by rfl) r6 ?_
        refine hK.out _ _ (fun h => by cases h) ?_
        clear hK K
        try simp only [Act.put, List.setIfInBounds_toArray, List.set_cons_zero, List.set_cons_succ]
        refine until_pure 15 (v := ?vc15) (by rfl) (by kernel_rfl) (by exact fun _ _ _ h => h) (by rfl) ?hyc15 ?rc15
        case hyc15 =>
          intro w
          go_simp
          try with_reducible rfl
        try simp only [Act.put, List.setIfInBounds_toArray, List.set_cons_zero, List.set_cons_succ]
        refine until_one 16 (by rfl) (by kernel_rfl) (fun K hK => ?_)
        go_simp
        refine hK.out _ _ (fun h => by cases h) ?_
        clear hK K
        refine until_done (by kernel_rfl) ?_ _
        go_wp2_with fail
        go_roundw
        case rel => exact ⟨k + 1, .slice nA nm nc, by omega, by go_num, Q6.out.set 2 _, by rw [HRS.out]; exact O6.out.other (O6.out.notBlk Q6.out (by decide)) _ _, HB6.out.setCell (fun _ => rfl) _⟩
        case measure => simp [intOf]; omega
      · obtain rfl : k = N := by omega
        have HTK : Hid (ns.take k = ns) := by unfold Hid; rw [← hNN, List.take_length]
        obtain ⟨mA, mcap, rfl, hml⟩ := mov_look HM.out
        have x4 := PR.out.cell 4 _ rfl
        have HML : Hid (∀ j, j < ml.length → ∃ g off, mA = some ⟨g, off, none⟩ ∧ g < G2 ∧ _) := hml
        have GL : Hid (G2 ≤ q ∧ G2 ≤ wr.heap.size) := ⟨by rw [← hG2]; exact T2.out.lo, by rw [← hG2]; exact Nat.le_trans T2.out.below.size HBT.out.size⟩
        have BWR : Hid (Below G2 w wr) := by
          have h1 := T2.out.below
          rw [hG2] at h1
          exact h1.trans (HBT.out.below G2 (by rw [← hG2]; exact h1.size) fun i hi e => by have := GL.out.1; omega)
        have OD : Hid (Owns wr G2 79 2 vD (lnkR dl)) := by
          have h1 := T2.out.own
          rw [hG2] at h1
          exact h1.kept fun g hg ho => HBT.out.block g hg (fun e => by subst e; exact T2.out.own.notBlk T2.out.blk (by decide) ho)
        have RS : Hid (Blk wr G2 #[.int .i64 0, .int .i64 0, .slice none 0 0, .slice none 0 0, .slice none 0 0] 35) := by
          have h1 := HBT.out.blk T2.out.res T2.out.ne.symm
          rw [hG2] at h1
          exact h1
        have OI : Hid (Owns wr G2 76 3 (.slice uA um uc) (nodR ns)) := by
          have h1 := HO.out
          rw [HTK.out] at h1
          have h2 := T2.out.below.size
          exact h1.mono (by omega)
        have QNE : Hid (q ≠ G2) := by
          have := T2.out.ne
          unfold Hid
          omega
        have WB : Hid (∀ j, j < ml.length → ∃ g off, mA = some ⟨g, off, none⟩ ∧ g ≠ q ∧ g < wr.heap.size ∧ wr.cell? ⟨g, off + j * 4, none⟩ = some (.int .i64 (ml.getD j default).kind) ∧ wr.cell? ⟨g, off + j * 4 + 1, none⟩ = some (.string (ml.getD j default).name) ∧ wr.cell? ⟨g, off + j * 4 + 2, none⟩ = some (.string (ml.getD j default).to) ∧ wr.cell? ⟨g, off + j * 4 + 3, none⟩ = some (.int .i64 (ml.getD j default).id)) := fun j hj => by
          obtain ⟨g, off, e, hg, c0, c1, c2, c3⟩ := HML.out j hj
          have hb := BWR.out.block g hg
          have hcc : ∀ o, wr.cell? ⟨g, o, none⟩ = w.cell? ⟨g, o, none⟩ := fun o => World.cell?_of_block (w := w) hb
          have := GL.out
          exact ⟨g, off, e, by omega, by omega, (hcc _).trans c0, (hcc _).trans c1, (hcc _).trans c2, (hcc _).trans c3⟩
        generalize hMM : ml.length = M at *
        have q3 : (M : Int) ≤ 1000 := by have := H3.out; omega
        have nlt : decide ((k : Int) < (k : Int)) = false := decide_eq_false (by omega)
        obtain ⟨dA, dm, dc, rfl⟩ := OD.out.shape
        clear hml HML HL HG P2 I2 C2 T2
        rename World => wm
        go_wp2_with fail
        go_loopw [62] (fun v62 wz => ∃ (i : Nat) (u3 : Value), i ≤ M ∧ v62 = .int .i64 (i : Int) ∧ Blk wz q #[.int .i64 room, .int .i64 next, .slice uA um uc, .slice dA dm dc, u3] 35 ∧ Owns wz wm.heap.size 81 4 u3 (movR (ml.take i)) ∧ But (fun i => i = q) wm wz) (fun i _ => M - (intOf i).toNat)
        case atStart => exact ⟨0, _, by omega, rfl, HQ.out, by rw [List.take_zero]; exact Owns.nil _ _ _ _, But.refl _ _⟩
        case round =>
          obtain ⟨i, u3, hi, rfl, hq, hO, hbt⟩ := hrel
          obtain ⟨tA, tm, tc, rfl⟩ := hO.shape
          have HQ2 : Hid (Blk wr q #[.int .i64 room, .int .i64 next, .slice uA um uc, .slice dA dm dc, .slice tA tm tc] 35) := hq
          have HO2 : Hid (Owns wr wm.heap.size 81 4 (.slice tA tm tc) (movR (ml.take i))) := hO
          have HB2 : Hid (But (fun i => i = q) wm wr) := hbt
          have QL : Hid (q < wm.heap.size) := HQ.out.lt
          clear hq hO hbt
          by_cases hlt : i < M
          · have q5 : (i : Int) < (M : Int) := by omega
            obtain ⟨g, off, rfl, hgq, hg, c0, c1, c2, c3⟩ := WB.out i hlt
            have hgb : wr.heap[g]? = wm.heap[g]? := HB2.out.block g hg hgq
            have hcc : ∀ o, wr.cell? ⟨g, o, none⟩ = wm.cell? ⟨g, o, none⟩ := fun o => World.cell?_of_block (w := wm) hgb
            rw [← hcc] at c0 c1 c2 c3
            have HME : Hid ((ml.getD i default).name.size ≤ 281474976710656 ∧ (ml.getD i default).to.size ≤ 281474976710656) := HMN.out _ (getD_mem ml i (by omega))
            have HRS : Hid (movR (ml.take (i + 1)) = movR (ml.take i) ++ [movC (ml.getD i default)]) := movR_snoc ml i (by omega)
            have HLE : Hid ((movR (ml.take i)).length ≤ 2097152) := by unfold Hid; rw [movR_length, List.length_take]; omega
            clear hgb hcc hg hgq
            unfold movC at HRS
            generalize (ml.getD i default).kind = mk at *
            generalize (ml.getD i default).name = mn at *
            generalize (ml.getD i default).to = mt at *
            generalize (ml.getD i default).id = mi at *
            generalize movR (ml.take i) = Rk at *
            go_wp2_with fail
            have qY := HQ2.out.alloc (.cells #[.int .i64 mk, .string mn, .string mt, .int .i64 mi] 81)
            have zY := Blk.new wr #[.int .i64 mk, .string mn, .string mt, .int .i64 mi] 81
            have oY := HO2.out.alloc (.cells #[.int .i64 mk, .string mn, .string mt, .int .i64 mi] 81)
            have bY := HB2.out.alloc (.cells #[.int .i64 mk, .string mn, .string mt, .int .i64 mi] 81)
            clear c0 c1 c2 c3
            generalize wr.alloc (.cells #[.int .i64 mk, .string mn, .string mt, .int .i64 mi] 81) = Y at *
            generalize wr.heap.size = pz at *
            have QY : Hid (Blk Y q #[.int .i64 room, .int .i64 next, .slice uA um uc, .slice dA dm dc, .slice tA tm tc] 35) := qY
            have ZY : Hid (Blk Y pz #[.int .i64 mk, .string mn, .string mt, .int .i64 mi] 81) := zY
            have OY : Hid (Owns Y wm.heap.size 81 4 (.slice tA tm tc) Rk) := oY
            have BY : Hid (But (fun i => i = q) wm Y) := bY
            clear qY zY oY bY
            have S0 : Hid (Y.drew.cell? ⟨q, 4, none⟩ = some (.slice tA tm tc) ∧ Y.drew.cell? ⟨pz, 0, none⟩ = some (.int .i64 mk) ∧ Y.drew.cell? ⟨pz, 1, none⟩ = some (.string mn) ∧ Y.drew.cell? ⟨pz, 2, none⟩ = some (.string mt) ∧ Y.drew.cell? ⟨pz, 3, none⟩ = some (.int .i64 mi)) := ⟨QY.out.cell 4 _ rfl, ZY.out.cell 0 _ rfl, ZY.out.cell 1 _ rfl, ZY.out.cell 2 _ rfl, ZY.out.cell 3 _ rfl⟩
            refine wp_region_until (fun w' => w'.cell? ⟨q, 4, none⟩ = some (.slice tA tm tc) ∧ w'.cell? ⟨pz, 0, none⟩ = some (.int .i64 mk) ∧ w'.cell? ⟨pz, 1, none⟩ = some (.string mn) ∧ w'.cell? ⟨pz, 2, none⟩ = some (.string mt) ∧ w'.cell? ⟨pz, 3, none⟩ = some (.int .i64 mi)) (fun i => i == 14 || i == 16) 17 (by rfl) (by kernel_rfl) ?_
            refine until_take 0 (v := ?ve0) (by rfl) (by kernel_rfl) (by exact fun _ _ _ h => h) (by rfl) ?hye0 S0.out ?re0
            case hye0 =>
              intro w hSw
              try dsimp only at hSw
              go_simp
              try with_reducible rfl
            try simp only [Act.put, List.setIfInBounds_toArray, List.set_cons_zero, List.set_cons_succ]
            refine until_take 1 (v := ?ve1) (by rfl) (by kernel_rfl) (by exact fun _ _ _ h => h) (by rfl) ?hye1 S0.out ?re1
            case hye1 =>
              intro w hSw
              try dsimp only at hSw
              go_simp
              try with_reducible rfl
            try simp only [Act.put, List.setIfInBounds_toArray, List.set_cons_zero, List.set_cons_succ]
            refine until_take 2 (v := ?ve2) (by rfl) (by kernel_rfl) (by exact fun _ _ _ h => h) (by rfl) ?hye2 S0.out ?re2
            case hye2 =>
              intro w hSw
              try dsimp only at hSw
              go_simp
              try with_reducible rfl
            try simp only [Act.put, List.setIfInBounds_toArray, List.set_cons_zero, List.set_cons_succ]
            refine until_take 3 (v := ?ve3) (by rfl) (by kernel_rfl) (by exact fun _ _ _ h => h) (by rfl) ?hye3 S0.out ?re3
            case hye3 =>
              intro w hSw
              try dsimp only at hSw
              go_simp
              try with_reducible rfl
            try simp only [Act.put, List.setIfInBounds_toArray, List.set_cons_zero, List.set_cons_succ]
            refine until_take 4 (v := ?ve4) (by rfl) (by kernel_rfl) (by exact fun _ _ _ h => h) (by rfl) ?hye4 S0.out ?re4
            case hye4 =>
              intro w hSw
              try dsimp only at hSw
              go_simp
              try with_reducible rfl
            try simp only [Act.put, List.setIfInBounds_toArray, List.set_cons_zero, List.set_cons_succ]
            refine until_take 5 (v := ?ve5) (by rfl) (by kernel_rfl) (by exact fun _ _ _ h => h) (by rfl) ?hye5 S0.out ?re5
            case hye5 =>
              intro w hSw
              try dsimp only at hSw
              go_simp
              try with_reducible rfl
            try simp only [Act.put, List.setIfInBounds_toArray, List.set_cons_zero, List.set_cons_succ]
            refine until_take 7 (v := ?ve7) (by rfl) (by kernel_rfl) (by exact fun _ _ _ h => h) (by rfl) ?hye7 S0.out ?re7
            case hye7 =>
              intro w hSw
              try dsimp only at hSw
              go_simp
              try with_reducible rfl
            try simp only [Act.put, List.setIfInBounds_toArray, List.set_cons_zero, List.set_cons_succ]
            refine until_take 8 (v := ?ve8) (by rfl) (by kernel_rfl) (by exact fun _ _ _ h => h) (by rfl) ?hye8 S0.out ?re8
            case hye8 =>
              intro w hSw
              try dsimp only at hSw
              go_simp
              try with_reducible rfl
            try simp only [Act.put, List.setIfInBounds_toArray, List.set_cons_zero, List.set_cons_succ]
            refine until_take 10 (v := ?ve10) (by rfl) (by kernel_rfl) (by exact fun _ _ _ h => h) (by rfl) ?hye10 S0.out ?re10
            case hye10 =>
              intro w hSw
              try dsimp only at hSw
              go_simp
              try with_reducible rfl
            try simp only [Act.put, List.setIfInBounds_toArray, List.set_cons_zero, List.set_cons_succ]
            refine until_take 11 (v := ?ve11) (by rfl) (by kernel_rfl) (by exact fun _ _ _ h => h) (by rfl) ?hye11 S0.out ?re11
            case hye11 =>
              intro w hSw
              try dsimp only at hSw
              go_simp
              try with_reducible rfl
            try simp only [Act.put, List.setIfInBounds_toArray, List.set_cons_zero, List.set_cons_succ]
            refine until_one 6 (by rfl) (by kernel_rfl) (fun K hK => ?_)
            go_simp
            refine (clone mn Y.drew HME.out.1).mono ?_
            rintro e w5 ⟨rfl, hb5⟩
            have B5 : Hid (Below Y.heap.size Y w5) := (Below.refl _ Y).drew.trans hb5
            have Q5 : Hid (Blk w5 q #[.int .i64 room, .int .i64 next, .slice uA um uc, .slice dA dm dc, .slice tA tm tc] 35) := QY.out.on B5.out QY.out.lt
            have K5 : Hid (Blk w5 pz #[.int .i64 mk, .string mn, .string mt, .int .i64 mi] 81) := ZY.out.on B5.out ZY.out.lt
            have O5 : Hid (Owns w5 wm.heap.size 81 4 (.slice tA tm tc) Rk) := OY.out.on B5.out
            clear hb5
            go_wp2_with fail
            refine hK.out _ _ (fun _ _ => ⟨Q5.out.cell 4 _ rfl, K5.out.cell 0 _ rfl, K5.out.cell 1 _ rfl, K5.out.cell 2 _ rfl, K5.out.cell 3 _ rfl⟩) ?_
            clear hK K
            try simp only [Act.put, List.setIfInBounds_toArray, List.set_cons_zero, List.set_cons_succ]
            refine until_one 9 (by rfl) (by kernel_rfl) (fun K hK => ?_)
            go_simp
            refine (clone mt w5 HME.out.2).mono ?_
            rintro e w6 ⟨rfl, hb6⟩
            have B6 : Hid (Below Y.heap.size Y w6) := B5.out.trans (hb6.mono B5.out.size)
            have Q6 : Hid (Blk w6 q #[.int .i64 room, .int .i64 next, .slice uA um uc, .slice dA dm dc, .slice tA tm tc] 35) := Q5.out.on hb6 Q5.out.lt
            have K6 : Hid (Blk w6 pz #[.int .i64 mk, .string mn, .string mt, .int .i64 mi] 81) := K5.out.on hb6 K5.out.lt
            have O6 : Owns w6 wm.heap.size 81 4 (.slice tA tm tc) Rk := O5.out.on hb6
            have Z6 : wm.heap.size ≤ w6.heap.size := Nat.le_trans BY.out.size B6.out.size
            obtain ⟨nA, nm, nc, w7, r7, hO7, hb7, hk7, _⟩ := run_append_row (P := Tryz.prog) w6 33 33 81 (.agg #[.int .i64 0, .string ⟨#[]⟩, .string ⟨#[]⟩, .int .i64 0]) 4 48 Tryz.underlying33 Tryz.infoMov rfl (by omega) wm.heap.size (.slice tA tm tc) Rk O6 [.int .i64 mk, .string mn, .string mt, .int .i64 mi] rfl (by intro y hy; simp at hy; rcases hy with rfl | rfl | rfl | rfl <;> rfl) HLE.out (by omega) Z6
            have O7 : Hid (Owns w7 wm.heap.size 81 4 (.slice nA nm nc) (Rk ++ [[.int .i64 mk, .string mn, .string mt, .int .i64 mi]])) := hO7
            have Q7 : Hid (Blk w7 q #[.int .i64 room, .int .i64 next, .slice uA um uc, .slice dA dm dc, .slice tA tm tc] 35) := Q6.out.on hb7 QL.out
            have HB7 : Hid (But (fun i => i = q) wm w7) := BY.out.trans ((But.of_below (fun i => wm.heap.size ≤ i) B6.out).trans (⟨hb7.os, hb7.tape, hb7.output, hb7.size, fun i hi hn => hb7.block i (by omega)⟩ : But (fun i => wm.heap.size ≤ i) w6 w7) (fun i _ h => h)) (fun i hi h => absurd hi (by omega))
            have y4 := Q7.out.cell 4 _ rfl
            have z4 := Q7.out.free 4
            clear hb6 hO7 hb7 hk7 O6 Z6
            go_wp2_with fail
            refine hK.out _ _ (fun _ _ => ⟨Q6.out.cell 4 _ rfl, K6.out.cell 0 _ rfl, K6.out.cell 1 _ rfl, K6.out.cell 2 _ rfl, K6.out.cell 3 _ rfl⟩) ?_
            clear hK K
            try simp only [Act.put, List.setIfInBounds_toArray, List.set_cons_zero, List.set_cons_succ]
            refine until_take 12 (v := ?vf12) (by rfl) (by kernel_rfl) (by exact fun _ _ _ h => h) (by rfl) ?hyf12 ⟨Q6.out.cell 4 _ rfl, K6.out.cell 0 _ rfl, K6.out.cell 1 _ rfl, K6.out.cell 2 _ rfl, K6.out.cell 3 _ rfl⟩ ?rf12
            case hyf12 =>
              intro w hSw
              try dsimp only at hSw
              go_simp
              try with_reducible rfl
            try simp only [Act.put, List.setIfInBounds_toArray, List.set_cons_zero, List.set_cons_succ]
            refine until_one 13 (by rfl) (by kernel_rfl) (fun K hK => ?_)
            go_simp
            refine hK.out _ _ (fun _ _ => ⟨(Q6.out.alloc _).cell 4 _ rfl, (K6.out.alloc _).cell 0 _ rfl, (K6.out.alloc _).cell 1 _ rfl, (K6.out.alloc _).cell 2 _ rfl, (K6.out.alloc _).cell 3 _ rfl⟩) ?_
            clear hK K
            try simp only [Act.put, List.setIfInBounds_toArray, List.set_cons_zero, List.set_cons_succ]
            refine until_one 14 (by rfl) (by kernel_rfl) (fun K hK => ?_)
            refine step_append_run (by rfl) (.tmp 67) (.tmp 79) 33 (by rfl) _ _ _ _ (by rfl) (by rfl) r7 ?_
            refine hK.out _ _ (fun h => by cases h) ?_
            clear hK K
            try simp only [Act.put, List.setIfInBounds_toArray, List.set_cons_zero, List.set_cons_succ]
            refine until_pure 15 (v := ?vg15) (by rfl) (by kernel_rfl) (by exact fun _ _ _ h => h) (by rfl) ?hyg15 ?rg15
            case hyg15 =>
              intro w
              go_simp
              try with_reducible rfl
            try simp only [Act.put, List.setIfInBounds_toArray, List.set_cons_zero, List.set_cons_succ]
            refine until_one 16 (by rfl) (by kernel_rfl) (fun K hK => ?_)
            go_simp
            refine hK.out _ _ (fun h => by cases h) ?_
            clear hK K
            refine until_done (by kernel_rfl) ?_ _
            go_wp2_with fail
            go_roundw
            case rel => exact ⟨i + 1, .slice nA nm nc, by omega, by go_num, Q7.out.set 4 _, by rw [HRS.out]; exact O7.out.other (O7.out.notBlk Q7.out (by decide)) _ _, HB7.out.setCell (fun _ => rfl) _⟩
            case measure => simp [intOf]; omega
          · obtain rfl : i = M := by omega
            have HTM : Hid (ml.take i = ml) := by unfold Hid; rw [← hMM, List.take_length]
            have nlt2 : decide ((i : Int) < (i : Int)) = false := decide_eq_false (by omega)
            have RZ : Hid (Blk wr G2 #[.int .i64 0, .int .i64 0, .slice none 0 0, .slice none 0 0, .slice none 0 0] 35) := HB2.out.blk RS.out QNE.out.symm
            have a0 := HQ2.out.cell 0 _ rfl
            have a1 := HQ2.out.cell 1 _ rfl
            have a2 := HQ2.out.cell 2 _ rfl
            have a3 := HQ2.out.cell 3 _ rfl
            have a4 := HQ2.out.cell 4 _ rfl
            have g0 := RZ.out.cell 0 _ rfl
            have g1 := RZ.out.cell 1 _ rfl
            have g2 := RZ.out.cell 2 _ rfl
            have g3 := RZ.out.cell 3 _ rfl
            have g4 := RZ.out.cell 4 _ rfl
            have f0 := RZ.out.free 0
            have f1 := RZ.out.free 1
            have f2 := RZ.out.free 2
            have f3 := RZ.out.free 3
            have f4 := RZ.out.free 4
            go_wp2_with fail
            have hg : G2 ≤ G2 := Nat.le_refl _
            have hB : Below G2 w wr := BWR.out.trans (HB2.out.below G2 GL.out.2 fun i hi e => by have := GL.out.1; omega)
            have n1 : Owns wr G2 76 3 (.slice uA um uc) (nodR ns) := OI.out.kept fun g hg ho => HB2.out.block g hg (fun e => by subst e; exact OI.out.notBlk HQ.out (by decide) ho)
            have n2 : Owns wr G2 79 2 (.slice dA dm dc) (lnkR dl) := OD.out.kept fun g hg ho => HB2.out.block g hg (fun e => by subst e; exact OD.out.notBlk HQ.out (by decide) ho)
            have n3 : Owns wr G2 81 4 (.slice tA tm tc) (movR ml) := by
              have h1 := HO2.out
              rw [HTM.out] at h1
              exact h1.mono GL.out.2
            have m1 := n1.notBlk RZ.out (by decide)
            have m2 := n2.notBlk RZ.out (by decide)
            have m3 := n3.notBlk RZ.out (by decide)
            have F1 := (((((n1.other m1 0 (.int .i64 room)).other m1 1 (.int .i64 next)).other m1 2 (.slice uA um uc)).other m1 3 (.slice dA dm dc)).other m1 4 (.slice tA tm tc))
            have F2 := (((((n2.other m2 0 (.int .i64 room)).other m2 1 (.int .i64 next)).other m2 2 (.slice uA um uc)).other m2 3 (.slice dA dm dc)).other m2 4 (.slice tA tm tc))
            have F3 := (((((n3.other m3 0 (.int .i64 room)).other m3 1 (.int .i64 next)).other m3 2 (.slice uA um uc)).other m3 3 (.slice dA dm dc)).other m3 4 (.slice tA tm tc))
            have FB := ((((hB.setCell hg (.int .i64 room) (p := ⟨_, 0, none⟩)).setCell hg (.int .i64 next) (p := ⟨_, 1, none⟩)).setCell hg (.slice uA um uc) (p := ⟨_, 2, none⟩)).setCell hg (.slice dA dm dc) (p := ⟨_, 3, none⟩)).setCell hg (.slice tA tm tc) (p := ⟨_, 4, none⟩)
            have hF := ((((RZ.out.set 0 (.int .i64 room)).set 1 (.int .i64 next)).set 2 (.slice uA um uc)).set 3 (.slice dA dm dc)).set 4 (.slice tA tm tc)
            clear a0 a1 a2 a3 a4 g0 g1 g2 g3 g4 f0 f1 f2 f3 f4
            generalize ((((wr.setCell ⟨G2, 0, none⟩ (.int .i64 room)).setCell ⟨G2, 1, none⟩ (.int .i64 next)).setCell ⟨G2, 2, none⟩ (.slice uA um uc)).setCell ⟨G2, 3, none⟩ (.slice dA dm dc)).setCell ⟨G2, 4, none⟩ (.slice tA tm tc) = WF at *
            have hG : Blk WF G2 #[.int .i64 room, .int .i64 next, .slice uA um uc, .slice dA dm dc, .slice tA tm tc] 35 := hF
            have k0 := hG.cell 0 (.int .i64 room) rfl
            have k1' := hG.cell 1 (.int .i64 next) rfl
            have k2' := hG.cell 2 (.slice uA um uc) rfl
            have k3' := hG.cell 3 (.slice dA dm dc) rfl
            have k4' := hG.cell 4 (.slice tA tm tc) rfl
            rw [hG2]
            exact bodyPost_ret (v := .agg #[.int .i64 room, .int .i64 next, .slice uA um uc, .slice dA dm dc, .slice tA tm tc]) (by simp [results, go_sem, k0, k1', k2', k3', k4']) rfl ⟨_, rfl, ⟨_, _, _, rfl, F1, F2, F3⟩, FB⟩
end Go.Proofs.YtnnfnhpehacelaaGreat
