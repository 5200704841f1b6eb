/- WbWal -/
import Derived.Test.YtgillglkmnocaaaDoorRows
import Derived.Test.YtgillglkmnocaaaDoorQw7
import Derived.Test.YtgillglkmnocaaaDoorQw2
import Derived.Test.YtgillglkmnocaaaDoorQw3
import Derived.WalkKit
import Derived.ProofKit
import Derived.OpenShut
import Derived.Below
import Derived.WalkSmall
import Derived.BigQuiet
import Derived.Deep.QuietTactic
import Derived.Deep.RegionWith
import Derived.Handy
import Derived.Deep.Cut
import Derived.Deep.CutRange
open List (setIfInBounds_toArray set_cons_zero set_cons_succ)
namespace Go.Proofs.YtgillglkmnocaaaDoor
open Go.ChangeShapes Go.WideShapes Go.ChangeAt Go.RowKit Go.PlainAid
set_option linter.unusedVariables false
set_option maxRecDepth 20000 in
set_option maxHeartbeats 8000000 in
theorem wal_any (w : World) (p : Nat) (h : AtS w p) : Calls Tryd.prog 25 #[.pointer (some ⟨p, 0, none⟩)] w (DrawnW w p 62) := by
 have HP : Hid (p < w.heap.size) := h.lt
 have hal : Below w.heap.size w (w.alloc (.cells #[.int .i64 0, .int .i64 0, .int .i64 0, .int .i64 0, .slice none 0 0] 26)) := (Below.refl _ _).alloc (Nat.le_refl _) _
 have A0 : Hid (AtS (w.alloc (.cells #[.int .i64 0, .int .i64 0, .int .i64 0, .int .i64 0, .slice none 0 0] 26)) p) := h.below hal h.lt
 have M0 : Hid (Mod w.heap.size p w (w.alloc (.cells #[.int .i64 0, .int .i64 0, .int .i64 0, .int .i64 0, .slice none 0 0] 26))) := Mod.of_below hal
 have R0 : Hid (Blk (w.alloc (.cells #[.int .i64 0, .int .i64 0, .int .i64 0, .int .i64 0, .slice none 0 0] 26)) w.heap.size #[.int .i64 0, .int .i64 0, .int .i64 0, .int .i64 0, .slice none 0 0] 26) := Blk.new w _ _
 clear hal h
 go_enter Tryd.func25, Tryd.ntmps25
 go_wp2_with fail
 generalize w.alloc (.cells #[.int .i64 0, .int .i64 0, .int .i64 0, .int .i64 0, .slice none 0 0] 26) = w0 at *
 refine (belowS w0 p 8 (by omega) (by omega) A0.out).mono ?_
 rintro e w1 ⟨t, rfl, ⟨t0, t1⟩, hA, hm⟩
 have A1 : Hid (AtS w1 p) := hA
 have M1 : Hid (Mod w.heap.size p w w1) := M0.out.trans (hm.mono M0.out.size)
 have R1 : Hid (Blk w1 w.heap.size #[.int .i64 0, .int .i64 0, .int .i64 0, .int .i64 0, .slice none 0 0] 26) := R0.out.mod hm R0.out.lt (by have := HP.out; omega)
 clear hA hm A0 M0 R0
 go_wp2_with fail
 refine (belowS w1 p 6 (by omega) (by omega) A1.out).mono ?_
 rintro e w2 ⟨v, rfl, ⟨v0, v1⟩, hA, hm⟩
 have A2 : Hid (AtS w2 p) := hA
 have M2 : Hid (Mod w.heap.size p w w2) := M1.out.trans (hm.mono M1.out.size)
 have R2 : Hid (Blk w2 w.heap.size #[.int .i64 0, .int .i64 0, .int .i64 0, .int .i64 0, .slice none 0 0] 26) := R1.out.mod hm R1.out.lt (by have := HP.out; omega)
 have gv : IntKind.i64.wrap (v - 1) = v - 1 := by rw [IntKind.wrap_i64]; omega
 clear hA hm A1 M1 R1
 have hS0 : WSt w p w2.heap.size w.heap.size 7 (w2.alloc (.cells #[.int .i64 t, .int .i64 (v - 1), .int .i64 0, .int .i64 0, .slice none 0 0] 26)) t (v - 1) 0 0 [] :=
  ⟨⟨none, 0, 0, Blk.new w2 _ _, Owns.nil _ _ _ _, rfl⟩, R2.out.alloc _, by simp, fun x hx => (by cases hx), A2.out.below ((Below.refl w2.heap.size w2).alloc (Nat.le_refl _) _) A2.out.lt, M2.out.alloc M2.out.size _, HP.out, Nat.le_refl _, R2.out.lt⟩
 have S0 : Hid (WSt w p w2.heap.size w.heap.size 7 (w2.alloc (.cells #[.int .i64 t, .int .i64 (v - 1), .int .i64 0, .int .i64 0, .slice none 0 0] 26)) t (v - 1) 0 0 []) := hS0
 clear hS0
 go_upto_region 2 with fail
 generalize w2.alloc (.cells #[.int .i64 t, .int .i64 (v - 1), .int .i64 0, .int .i64 0, .slice none 0 0] 26) = w3 at *
 generalize w2.heap.size = g at *
 generalize v - 1 = vv at *
 obtain ⟨A3, c3, ⟨e0, e1, e2, e3, e4⟩, hf, -, -⟩ := S0.out.out
 go_cut [16] from 10 to 16 (fun s16 wc => ∃ o : Bool, s16 = .bool o ∧ (o = true → 0 < t) ∧ WSt w p g w.heap.size 7 wc t vv 0 0 [])
 case first =>
  by_cases ht : 0 < t
  ·have dt : decide (0 < t) = true := decide_eq_true ht
   go_wp2_with fail
   refine (once_some w3 p 2 (by omega) S0.out.a).mono ?_
   rintro e w4 ⟨o, rfl, hA, hm⟩
   have S4 : Hid (WSt w p g w.heap.size 7 w4 t vv 0 0 []) := S0.out.draw hA hm
   clear hA hm
   go_wp2_with fail
   go_meet
   exact ⟨o, rfl, fun _ => ht, S4.out⟩
  ·have dt : decide (0 < t) = false := decide_eq_false ht
   go_wp2_with fail
   go_meet
   exact ⟨false, rfl, fun h => (by cases h), S0.out⟩
 case rest =>
  obtain ⟨o, rfl, ho, hS⟩ := hcut
  have S1 : Hid (WSt w p g w.heap.size 7 wc t vv 0 0 []) := hS
  clear hS S0 e0 e1 e2 e3 e4 hf A2 M2 R2 gv
  generalize wc = w4 at *
  go_upto_if 16 with fail
  go_cut [26] from 17 to 26 (fun s26 wc => ∃ b bt : Int, (0 ≤ b ∧ b ≤ 100) ∧ (0 ≤ bt ∧ bt ≤ 100) ∧ WSt w p g w.heap.size 7 wc t vv b bt [])
  case first =>
   cases o with
   | false =>
    go_wp2_with fail
    go_meet
    exact ⟨0, 0, by omega, by omega, S1.out⟩
   | true =>
    have ht := ho rfl
    clear ho
    go_wp2_with fail
    refine (belowS w4 p 9 (by omega) (by omega) S1.out.a).mono ?_
    rintro e w5 ⟨x, rfl, ⟨x0, x1⟩, hA, hm⟩
    have S5 : Hid (WSt w p g w.heap.size 7 w5 t vv 0 0 []) := S1.out.draw hA hm
    have S6 : Hid (WSt w p g w.heap.size 7 (w5.setCell ⟨g, 2, none⟩ (.int .i64 (1 + x))) t vv (1 + x) 0 []) := S5.out.setB (1 + x)
    obtain ⟨A5, c5, ⟨k0, k1, k2, k3, k4⟩, kf, -, -⟩ := S5.out.out
    obtain ⟨A6, c6, ⟨l0, l1, l2, l3, l4⟩, lf, -, -⟩ := S6.out.out
    have gx : IntKind.i64.wrap (1 + x) = 1 + x := by rw [IntKind.wrap_i64]; omega
    clear hA hm S1
    have f2 := kf 2
    go_wp2_with fail
    generalize w5.setCell ⟨g, 2, none⟩ (.int .i64 (1 + x)) = w6 at *
    refine (belowS w6 p t ht (by omega) S6.out.a).mono ?_
    rintro e w7 ⟨y, rfl, ⟨y0, y1⟩, hA, hm⟩
    have S7 : Hid (WSt w p g w.heap.size 7 w7 t vv (1 + x) 0 []) := S6.out.draw hA hm
    have S8 : Hid (WSt w p g w.heap.size 7 (w7.setCell ⟨g, 3, none⟩ (.int .i64 (1 + y))) t vv (1 + x) (1 + y) []) := S7.out.setBt (1 + y)
    obtain ⟨A7, c7, ⟨n0, n1, n2, n3, n4⟩, nf, -, -⟩ := S7.out.out
    have gy : IntKind.i64.wrap (1 + y) = 1 + y := by rw [IntKind.wrap_i64]; omega
    have f3 := nf 3
    clear hA hm
    go_wp2_with fail
    go_meet
    exact ⟨1 + x, 1 + y, by omega, by omega, S8.out⟩
  case rest =>
   obtain ⟨b, bt, hb, hbt, hS⟩ := hcut
   have S2 : Hid (WSt w p g w.heap.size 7 wc t vv b bt []) := hS
   obtain ⟨A2, c2, ⟨e0, e1, e2, e3, e4⟩, hf, hk2, -⟩ := S2.out.out
   have K2 : Hid (Blk wc g #[.int .i64 t, .int .i64 vv, .int .i64 b, .int .i64 bt, .slice A2 ([] : List Ent).length c2] 26) := hk2
   clear hS S1 hk2 ho
   generalize wc = w8 at *
   go_wp2_with fail
   refine (entries_any w8 p bt t (by omega) (by omega) S2.out.a).mono ?_
   rintro e w9 ⟨ue, es, rfl, hO, hn, hd, hA, hm⟩
   obtain ⟨Ae, me, ce, rfl⟩ := hO.shape
   have S3 : Hid (WSt w p g w.heap.size 7 (w9.setCell ⟨g, 4, none⟩ (.slice Ae me ce)) t vv b bt es) :=
    S2.out.setE K2.out (hO.mono S2.out.m.size) hA (hm.mono S2.out.m.size) (hm.block g K2.out.lt (by have := S2.out.o; omega)) (hm.block _ S2.out.r.lt (by have := S2.out.o; omega)) hn hd
   have hkg : Blk w9 g #[.int .i64 t, .int .i64 vv, .int .i64 b, .int .i64 bt, .slice A2 ([] : List Ent).length c2] 26 := (hm.block g K2.out.lt (by have := S2.out.o; omega)).trans K2.out
   have m4 := hkg.cell 4 _ rfl
   have f4 := hkg.free 4
   clear hA hm hO hn hd hkg e0 e1 e2 e3 e4 hf
   go_wp2_with fail
   generalize w9.setCell ⟨g, 4, none⟩ (.slice Ae me ce) = wa at *
   refine (once_some wa p 25 (by omega) S3.out.a).mono ?_
   rintro e wb ⟨o2, rfl, hA, hm⟩
   have S4 : Hid (WSt w p g w.heap.size 7 wb t vv b bt es) := S3.out.draw hA hm
   clear hA hm S3 m4 f4 S2 K2
   go_upto_if 35 with fail
   go_cut [46] from 36 to 46 (fun s46 wc => ∃ b' bt' : Int, WSt w p g w.heap.size 7 wc t vv b' bt' es)
   case first =>
    obtain ⟨A4, c4, ⟨k0, k1, k2, k3, k4⟩, kf, -, -⟩ := S4.out.out
    cases o2 with
    | false =>
     go_wp2_with fail
     go_meet
     exact ⟨b, bt, S4.out⟩
    | true =>
     have hes := S4.out.n
     have ges : IntKind.i64.wrap (100000 - (es.length : Int)) = 100000 - (es.length : Int) := by rw [IntKind.wrap_i64]; omega
     have Q0 : Hid (wb.drew.cell? ⟨g, 4, none⟩ = some (.slice A4 es.length c4)) := k4
     have cB := belowS wb.drew p 2 (by omega) (by omega) S4.out.drew.a
     generalize hnl : es.length = nl at *
     clear hnl k0 k1 k2 k3 k4 kf
     go_wp2_with fail
     refine wp_region_until (fun w' => w'.cell? ⟨g, 4, none⟩ = some (.slice A4 nl c4)) (fun i => i == 8) 9 (by rfl) (by kernel_rfl) ?_
     refine until_pure 0 (v := ?_) (by rfl) (by kernel_rfl) (by exact fun _ _ _ h => h) (by rfl) ?_ ?_
     rotate_left
     ·intro w
      go_simp
      try with_reducible rfl
     try simp only [Act.put, setIfInBounds_toArray, set_cons_zero, set_cons_succ]
     refine until_take 1 (v := ?_) (by rfl) (by kernel_rfl) (by exact fun _ _ _ h => h) (by rfl) ?_ Q0.out ?_
     rotate_left
     ·intro w hSw
      try dsimp only at hSw
      go_simp
      try with_reducible rfl
     try simp only [Act.put, setIfInBounds_toArray, set_cons_zero, set_cons_succ]
     refine until_pure 2 (v := ?_) (by rfl) (by kernel_rfl) (by exact fun _ _ _ h => h) (by rfl) ?_ ?_
     rotate_left
     ·intro w
      go_simp
      try with_reducible rfl
     try simp only [Act.put, setIfInBounds_toArray, set_cons_zero, set_cons_succ]
     refine until_pure 3 (v := ?_) (by rfl) (by kernel_rfl) (by exact fun _ _ _ h => h) (by rfl) ?_ ?_
     rotate_left
     ·intro w
      go_simp
      try with_reducible rfl
     try simp only [Act.put, setIfInBounds_toArray, set_cons_zero, set_cons_succ]
     refine until_pure 4 (v := ?_) (by rfl) (by kernel_rfl) (by exact fun _ _ _ h => h) (by rfl) ?_ ?_
     rotate_left
     ·intro w
      go_simp
      try with_reducible rfl
     try simp only [Act.put, setIfInBounds_toArray, set_cons_zero, set_cons_succ]
     refine until_one 5 (by rfl) (by kernel_rfl) (fun K hK => ?_)
     go_simp
     refine cB.mono ?_
     rintro e wd ⟨y, rfl, ⟨y0, y1⟩, hA, hm⟩
     have S5 : Hid (WSt w p g w.heap.size 7 wd t vv b bt es) := S4.out.drew.draw hA hm
     obtain ⟨A4', c4', -, -, hk4, -⟩ := S4.out.drew.out
     have k4' : wd.cell? ⟨g, 4, none⟩ = some (.slice A4 nl c4) := (World.cell?_of_block (w := wb.drew) (hm.block g hk4.lt (by have := S4.out.o; omega))).trans Q0.out
     have S6 : Hid (WSt w p g w.heap.size 7 (wd.setCell ⟨g, 2, none⟩ (.int .i64 (100000 - (nl : Int) + y))) t vv (100000 - (nl : Int) + y) bt es) := S5.out.setB _
     have S7 : Hid (WSt w p g w.heap.size 7 ((wd.setCell ⟨g, 2, none⟩ (.int .i64 (100000 - (nl : Int) + y))).setCell ⟨g, 3, none⟩ (.int .i64 t)) t vv (100000 - (nl : Int) + y) t es) := S6.out.setBt t
     obtain ⟨A5, c5, ⟨k0, k1, k2, k3, k4⟩, kf, -, -⟩ := S5.out.out
     obtain ⟨A6, c6, ⟨l0, l1, l2, l3, l4⟩, lf, -, -⟩ := S6.out.out
     have gy : IntKind.i64.wrap (100000 - (nl : Int) + y) = 100000 - (nl : Int) + y := by rw [IntKind.wrap_i64]; omega
     have f2 := kf 2
     have f3 := lf 3
     clear hA hm cB hk4 k4 l4 kf lf
     go_wp2_with fail
     refine hK.out _ _ (fun _ _ => k4') ?_
     clear hK K
     try simp only [Act.put, setIfInBounds_toArray, set_cons_zero, set_cons_succ]
     refine until_pure 6 (v := ?_) (by rfl) (by kernel_rfl) (by exact fun _ _ _ h => h) (by rfl) ?_ ?_
     rotate_left
     ·intro w
      go_simp
      try with_reducible rfl
     try simp only [Act.put, setIfInBounds_toArray, set_cons_zero, set_cons_succ]
     refine until_pure 7 (v := ?_) (by rfl) (by kernel_rfl) (by exact fun _ _ _ h => h) (by rfl) ?_ ?_
     rotate_left
     ·intro w
      go_simp
      try with_reducible rfl
     try simp only [Act.put, setIfInBounds_toArray, set_cons_zero, set_cons_succ]
     refine until_one 8 (by rfl) (by kernel_rfl) (fun K hK => ?_)
     go_simp
     refine hK.out _ _ (fun h => by cases h) ?_
     clear hK K
     try simp only [Act.put, setIfInBounds_toArray, set_cons_zero, set_cons_succ]
     refine until_done (by kernel_rfl) ?_ _
     go_wp2_with fail
     go_meet
     exact ⟨_, _, S7.out⟩
   case rest =>
    obtain ⟨b', bt', hS⟩ := hcut
    have S5 : Hid (WSt w p g w.heap.size 7 wc t vv b' bt' es) := hS
    clear hS S4
    generalize wc = we at *
    go_wp2_with fail
    refine (once_some we p 25 (by omega) S5.out.a).mono ?_
    rintro e wf ⟨o3, rfl, hA, hm⟩
    have S6 : Hid (WSt w p g w.heap.size 62 wf t vv b' bt' es) := (S5.out.draw hA hm).more (by omega)
    clear hA hm S5
    go_upto_if 48 with fail
    go_cut [68] from 49 to 68 (fun s68 wc => ∃ es' : List Ent, WSt w p g w.heap.size 62 wc t vv b' bt' es')
    case first =>
     cases o3 with
     | false =>
      go_wp2_with fail
      go_meet
      exact ⟨es, S6.out⟩
     | true =>
      go_wp2_with fail
      go_loopw [68] (fun s68 wr => ∃ es' : List Ent, WSt w p g w.heap.size 62 wr t vv b' bt' es') (fun _ wr => 100 - lenAt g wr)
      case atStart => exact ⟨es, S6.out⟩
      case round =>
       obtain ⟨es', hS⟩ := hrel
       have SR : Hid (WSt w p g w.heap.size 62 wr t vv b' bt' es') := hS
       clear hS
       obtain ⟨A7, c7, ⟨k0, k1, k2, k3, k4⟩, kf, hk7, hO7⟩ := SR.out.out
       have HL : Hid (lenAt g wr = es'.length) := lenAt_is k4
       by_cases ht : 0 < t
       ·have dt : decide (0 < t) = true := decide_eq_true ht
        have Q0 : Hid (wr.drew.cell? ⟨g, 0, none⟩ = some (.int .i64 t) ∧ wr.drew.cell? ⟨g, 4, none⟩ = some (.slice A7 es'.length c7)) := ⟨k0, k4⟩
        have cB := belowS wr.drew p 2 (by omega) (by omega) SR.out.drew.a
        have hn7 := SR.out.n
        generalize hnl : es'.length = nl at *
        have HNl : Hid (es'.length = nl) := hnl
        clear hnl k0 k1 k2 k3 k4 kf
        go_wp2_with fail
        refine wp_region_until (fun w' => w'.cell? ⟨g, 0, none⟩ = some (.int .i64 t) ∧ w'.cell? ⟨g, 4, none⟩ = some (.slice A7 nl c7)) (fun _ => false) 12 (by rfl) (by kernel_rfl) ?_
        refine until_pure 0 (v := ?_) (by rfl) (by kernel_rfl) (by exact fun _ _ _ h => h) (by rfl) ?_ ?_
        rotate_left
        ·intro w
         go_simp
         try with_reducible rfl
        try simp only [Act.put, setIfInBounds_toArray, set_cons_zero, set_cons_succ]
        refine until_take 1 (v := ?_) (by rfl) (by kernel_rfl) (by exact fun _ _ _ h => h) (by rfl) ?_ Q0.out ?_
        rotate_left
        ·intro w hSw
         try dsimp only at hSw
         go_simp
         try with_reducible rfl
        try simp only [Act.put, setIfInBounds_toArray, set_cons_zero, set_cons_succ]
        refine until_pure 2 (v := ?_) (by rfl) (by kernel_rfl) (by exact fun _ _ _ h => h) (by rfl) ?_ ?_
        rotate_left
        ·intro w
         go_simp
         try with_reducible rfl
        try simp only [Act.put, setIfInBounds_toArray, set_cons_zero, set_cons_succ]
        refine until_pure 3 (v := ?_) (by rfl) (by kernel_rfl) (by exact fun _ _ _ h => h) (by rfl) ?_ ?_
        rotate_left
        ·intro w
         go_simp
         try with_reducible rfl
        try simp only [Act.put, setIfInBounds_toArray, set_cons_zero, set_cons_succ]
        refine until_pure 4 (v := ?_) (by rfl) (by kernel_rfl) (by exact fun _ _ _ h => h) (by rfl) ?_ ?_
        rotate_left
        ·intro w
         go_simp
         try with_reducible rfl
        try simp only [Act.put, setIfInBounds_toArray, set_cons_zero, set_cons_succ]
        refine until_take 5 (v := ?_) (by rfl) (by kernel_rfl) (by exact fun _ _ _ h => h) (by rfl) ?_ Q0.out ?_
        rotate_left
        ·intro w hSw
         try dsimp only at hSw
         go_simp
         try with_reducible rfl
        try simp only [Act.put, setIfInBounds_toArray, set_cons_zero, set_cons_succ]
        refine until_pure 6 (v := ?_) (by rfl) (by kernel_rfl) (by exact fun _ _ _ h => h) (by rfl) ?_ ?_
        rotate_left
        ·intro w
         go_simp
         try with_reducible rfl
        try simp only [Act.put, setIfInBounds_toArray, set_cons_zero, set_cons_succ]
        refine until_pure 7 (v := ?_) (by rfl) (by kernel_rfl) (by exact fun _ _ _ h => h) (by rfl) ?_ ?_
        rotate_left
        ·intro w
         go_simp
         try with_reducible rfl
        try simp only [Act.put, setIfInBounds_toArray, set_cons_zero, set_cons_succ]
        refine until_one 8 (by rfl) (by kernel_rfl) (fun K hK => ?_)
        go_simp
        refine cB.mono ?_
        rintro e wd ⟨y, rfl, ⟨y0, y1⟩, hA, hm⟩
        have S8 : Hid (WSt w p g w.heap.size 62 wd t vv b' bt' es') := SR.out.drew.draw hA hm
        have hkd : Blk wd g #[.int .i64 t, .int .i64 vv, .int .i64 b', .int .i64 bt', .slice A7 nl c7] 26 := (hm.block g hk7.lt (by have := SR.out.o; omega)).trans hk7
        have hOd : Owns wd w.heap.size 61 2 (.slice A7 nl c7) (entR es') := (hO7.kept fun _ _ _ => rfl : Owns wr.drew w.heap.size 61 2 (.slice A7 nl c7) (entR es')).mod hm SR.out.o.1 (Nat.le_refl _)
        have KD : Hid (Blk wd g #[.int .i64 t, .int .i64 vv, .int .i64 b', .int .i64 bt', .slice A7 nl c7] 26) := hkd
        have OD : Hid (Owns wd w.heap.size 61 2 (.slice A7 nl c7) (entR es')) := hOd
        have d0 := hkd.cell 0 _ rfl
        have d4 := hkd.cell 4 _ rfl
        clear hA hm cB hkd hOd hk7 hO7
        go_wp2_with fail
        refine hK.out _ _ (fun _ _ => ⟨d0, d4⟩) ?_
        clear hK K
        have gy : IntKind.i64.wrap (60 + y) = 60 + y := by rw [IntKind.wrap_i64]; omega
        by_cases hlt : (nl : Int) < 60 + y
        ·have dlt : decide ((nl : Int) < 60 + y) = true := decide_eq_true hlt
         try simp only [Act.put, setIfInBounds_toArray, set_cons_zero, set_cons_succ]
         refine until_pure 9 (v := ?_) (by rfl) (by kernel_rfl) (by exact fun _ _ _ h => h) (by rfl) ?_ ?_
         rotate_left
         ·intro w
          go_simp
          try with_reducible rfl
         try simp only [Act.put, setIfInBounds_toArray, set_cons_zero, set_cons_succ]
         refine until_pure 10 (v := ?_) (by rfl) (by kernel_rfl) (by exact fun _ _ _ h => h) (by rfl) ?_ ?_
         rotate_left
         ·intro w
          go_simp
          try with_reducible rfl
         try simp only [Act.put, setIfInBounds_toArray, set_cons_zero, set_cons_succ]
         refine until_pure 11 (v := ?_) (by rfl) (by kernel_rfl) (by exact fun _ _ _ h => h) (by rfl) ?_ ?_
         rotate_left
         ·intro w
          go_simp
          try with_reducible rfl
         try simp only [Act.put, setIfInBounds_toArray, set_cons_zero, set_cons_succ]
         refine until_done (by kernel_rfl) ?_ _
         have hzz : w.heap.size ≤ wd.heap.size := S8.out.m.size
         have l6 : Hid ((entR es').length ≤ 2097152) := by unfold Hid; rw [entR_length, HNl.out]; omega
         have f4 := KD.out.free 4
         go_wp2_with (at_builtin; refine Shut.out ?_)
         unfold Shut
         refine wpList_append_row (w := wd) rfl (.tmp 62) (.tmp 66) 24 61 (.agg #[.int .i64 0, .string ⟨#[]⟩]) 2 24 rfl Tryd.underlying24 Tryd.infoEntB rfl (by omega) w.heap.size (.slice A7 nl c7) (entR es') rfl OD.out [.int .i64 t, .string ⟨#[]⟩] rfl (by intro y hy; simp at hy; rcases hy with rfl | rfl <;> rfl) rfl l6.out (by omega) hzz ?_
         intro v' w7 hO7 hb7 hk7 _
         obtain ⟨A', m', c', rfl⟩ := hO7.shape
         have hO8 : Owns w7 w.heap.size 61 2 (.slice A' m' c') (entR (es' ++ [⟨t, ⟨#[]⟩⟩])) := by unfold entR; rw [List.map_append]; exact hO7
         have hg7 : w7.heap[g]? = wd.heap[g]? := hk7 g KD.out.lt (OD.out.notBlk KD.out (by decide))
         have hR7 : w7.heap[w.heap.size]? = wd.heap[w.heap.size]? := hk7 _ S8.out.r.lt (OD.out.notBlk S8.out.r (by decide))
         have S9 : Hid (WSt w p g w.heap.size 62 (w7.setCell ⟨g, 4, none⟩ (.slice A' m' c')) t vv b' bt' (es' ++ [⟨t, ⟨#[]⟩⟩])) :=
          S8.out.setE KD.out hO8 (S8.out.a.below hb7 S8.out.o.1) (Mod.of_below hb7) hg7 hR7 (by rw [List.length_append, HNl.out]; simp; omega) (fun x hx => by
           rcases List.mem_append.1 hx with hx | hx
           ·exact S8.out.d x hx
           ·rw [List.mem_singleton.1 hx]; exact Nat.zero_le _)
         have hk8 : Blk w7 g #[.int .i64 t, .int .i64 vv, .int .i64 b', .int .i64 bt', .slice A7 nl c7] 26 := hg7.trans KD.out
         have m4 := hk8.cell 4 _ rfl
         have mf := hk8.free 4
         have hl9 := S9.out.out
         obtain ⟨A9, c9, ⟨-, -, -, -, z4⟩, -, -, -⟩ := hl9
         have HL9 : Hid (lenAt g (w7.setCell ⟨g, 4, none⟩ (.slice A' m' c')) = nl + 1) := by unfold Hid; rw [lenAt_is z4, List.length_append, HNl.out]; rfl
         clear hO7 hb7 hk7 hO8 hg7 hR7 hk8 z4
         go_wp2_with fail
         go_roundw
         case rel => exact ⟨_, S9.out⟩
         case measure => have := HL9.out; have := HL.out; omega
        ·have dlt : decide ((nl : Int) < 60 + y) = false := decide_eq_false hlt
         try simp only [Act.put, setIfInBounds_toArray, set_cons_zero, set_cons_succ]
         refine until_pure 9 (v := ?_) (by rfl) (by kernel_rfl) (by exact fun _ _ _ h => h) (by rfl) ?_ ?_
         rotate_left
         ·intro w
          go_simp
          try with_reducible rfl
         try simp only [Act.put, setIfInBounds_toArray, set_cons_zero, set_cons_succ]
         refine until_pure 10 (v := ?_) (by rfl) (by kernel_rfl) (by exact fun _ _ _ h => h) (by rfl) ?_ ?_
         rotate_left
         ·intro w
          go_simp
          try with_reducible rfl
         try simp only [Act.put, setIfInBounds_toArray, set_cons_zero, set_cons_succ]
         refine until_pure 11 (v := ?_) (by rfl) (by kernel_rfl) (by exact fun _ _ _ h => h) (by rfl) ?_ ?_
         rotate_left
         ·intro w
          go_simp
          try with_reducible rfl
         try simp only [Act.put, setIfInBounds_toArray, set_cons_zero, set_cons_succ]
         refine until_done (by kernel_rfl) ?_ _
         go_wp2_with fail
         go_meet
         exact ⟨es', S8.out⟩
       ·have dt : decide (0 < t) = false := decide_eq_false ht
        have Q0 : Hid (wr.drew.cell? ⟨g, 0, none⟩ = some (.int .i64 t)) := k0
        clear k0 k1 k2 k3 k4 kf hk7 hO7
        go_wp2_with fail
        refine wp_region_until (fun w' => w'.cell? ⟨g, 0, none⟩ = some (.int .i64 t)) (fun _ => false) 12 (by rfl) (by kernel_rfl) ?_
        refine until_pure 0 (v := ?_) (by rfl) (by kernel_rfl) (by exact fun _ _ _ h => h) (by rfl) ?_ ?_
        rotate_left
        ·intro w
         go_simp
         try with_reducible rfl
        try simp only [Act.put, setIfInBounds_toArray, set_cons_zero, set_cons_succ]
        refine until_take 1 (v := ?_) (by rfl) (by kernel_rfl) (by exact fun _ _ _ h => h) (by rfl) ?_ Q0.out ?_
        rotate_left
        ·intro w hSw
         try dsimp only at hSw
         go_simp
         try with_reducible rfl
        try simp only [Act.put, setIfInBounds_toArray, set_cons_zero, set_cons_succ]
        refine until_pure 2 (v := ?_) (by rfl) (by kernel_rfl) (by exact fun _ _ _ h => h) (by rfl) ?_ ?_
        rotate_left
        ·intro w
         go_simp
         try with_reducible rfl
        try simp only [Act.put, setIfInBounds_toArray, set_cons_zero, set_cons_succ]
        refine until_pure 3 (v := ?_) (by rfl) (by kernel_rfl) (by exact fun _ _ _ h => h) (by rfl) ?_ ?_
        rotate_left
        ·intro w
         go_simp
         try with_reducible rfl
        try simp only [Act.put, setIfInBounds_toArray, set_cons_zero, set_cons_succ]
        refine until_skip 4 (by rfl) (by kernel_rfl) (by exact fun _ _ _ h => h) (by rfl) ?_
        try simp only [Act.put, setIfInBounds_toArray, set_cons_zero, set_cons_succ]
        refine until_skip 5 (by rfl) (by kernel_rfl) (by exact fun _ _ _ h => h) (by rfl) ?_
        try simp only [Act.put, setIfInBounds_toArray, set_cons_zero, set_cons_succ]
        refine until_skip 6 (by rfl) (by kernel_rfl) (by exact fun _ _ _ h => h) (by rfl) ?_
        try simp only [Act.put, setIfInBounds_toArray, set_cons_zero, set_cons_succ]
        refine until_skip 7 (by rfl) (by kernel_rfl) (by exact fun _ _ _ h => h) (by rfl) ?_
        try simp only [Act.put, setIfInBounds_toArray, set_cons_zero, set_cons_succ]
        refine until_skip 8 (by rfl) (by kernel_rfl) (by exact fun _ _ _ h => h) (by rfl) ?_
        try simp only [Act.put, setIfInBounds_toArray, set_cons_zero, set_cons_succ]
        refine until_skip 9 (by rfl) (by kernel_rfl) (by exact fun _ _ _ h => h) (by rfl) ?_
        try simp only [Act.put, setIfInBounds_toArray, set_cons_zero, set_cons_succ]
        refine until_skip 10 (by rfl) (by kernel_rfl) (by exact fun _ _ _ h => h) (by rfl) ?_
        try simp only [Act.put, setIfInBounds_toArray, set_cons_zero, set_cons_succ]
        refine until_pure 11 (v := ?_) (by rfl) (by kernel_rfl) (by exact fun _ _ _ h => h) (by rfl) ?_ ?_
        rotate_left
        ·intro w
         go_simp
         try with_reducible rfl
        try simp only [Act.put, setIfInBounds_toArray, set_cons_zero, set_cons_succ]
        refine until_done (by kernel_rfl) ?_ _
        go_wp2_with fail
        go_meet
        exact ⟨es', SR.out.drew⟩
    case rest =>
     obtain ⟨es', hS⟩ := hcut
     have S7 : Hid (WSt w p g w.heap.size 62 wc t vv b' bt' es') := hS
     clear hS S6
     generalize wc = wg at *
     obtain ⟨AZ, cZ, ⟨k0, k1, k2, k3, k4⟩, kf, hkZ, hOZ⟩ := S7.out.out
     have r0 := S7.out.r
     have r1 := r0.set 0 (.int .i64 t)
     have r2 := r1.set 1 (.int .i64 vv)
     have r3 := r2.set 2 (.int .i64 b')
     have r4 := r3.set 3 (.int .i64 bt')
     have r5 := r4.set 4 (.slice AZ es'.length cZ)
     have y0 := r0.cell 0 _ rfl
     have y1 := r1.cell 1 _ rfl
     have y2 := r2.cell 2 _ rfl
     have y3 := r3.cell 3 _ rfl
     have y4 := r4.cell 4 _ rfl
     have f0 := r0.free 0
     have f1 := r1.free 1
     have f2 := r2.free 2
     have f3 := r3.free 3
     have f4 := r4.free 4
     have x0 := r5.cell 0 (.int .i64 t) rfl
     have x1 := r5.cell 1 (.int .i64 vv) rfl
     have x2 := r5.cell 2 (.int .i64 b') rfl
     have x3 := r5.cell 3 (.int .i64 bt') rfl
     have x4 := r5.cell 4 (.slice AZ es'.length cZ) rfl
     have hne := hOZ.notBlk r0 (by decide)
     have OF : Hid (Owns (((((wg.setCell ⟨w.heap.size, 0, none⟩ (.int .i64 t)).setCell ⟨w.heap.size, 1, none⟩ (.int .i64 vv)).setCell ⟨w.heap.size, 2, none⟩ (.int .i64 b')).setCell ⟨w.heap.size, 3, none⟩ (.int .i64 bt')).setCell ⟨w.heap.size, 4, none⟩ (.slice AZ es'.length cZ)) w.heap.size 61 2 (.slice AZ es'.length cZ) (entR es')) := ((((hOZ.other hne _ _).other hne _ _).other hne _ _).other hne _ _).other hne _ _
     have BF : Hid (Below w.heap.size wg (((((wg.setCell ⟨w.heap.size, 0, none⟩ (.int .i64 t)).setCell ⟨w.heap.size, 1, none⟩ (.int .i64 vv)).setCell ⟨w.heap.size, 2, none⟩ (.int .i64 b')).setCell ⟨w.heap.size, 3, none⟩ (.int .i64 bt')).setCell ⟨w.heap.size, 4, none⟩ (.slice AZ es'.length cZ))) := (((((Below.refl w.heap.size wg).setCell (show w.heap.size ≤ w.heap.size from S7.out.o.2.1) _).setCell (show w.heap.size ≤ w.heap.size from S7.out.o.2.1) _).setCell (show w.heap.size ≤ w.heap.size from S7.out.o.2.1) _).setCell (show w.heap.size ≤ w.heap.size from S7.out.o.2.1) _).setCell (show w.heap.size ≤ w.heap.size from S7.out.o.2.1) _
     have AF : Hid (AtS (((((wg.setCell ⟨w.heap.size, 0, none⟩ (.int .i64 t)).setCell ⟨w.heap.size, 1, none⟩ (.int .i64 vv)).setCell ⟨w.heap.size, 2, none⟩ (.int .i64 b')).setCell ⟨w.heap.size, 3, none⟩ (.int .i64 bt')).setCell ⟨w.heap.size, 4, none⟩ (.slice AZ es'.length cZ)) p) := S7.out.a.below BF.out S7.out.o.1
     have MF : Hid (Mod w.heap.size p w (((((wg.setCell ⟨w.heap.size, 0, none⟩ (.int .i64 t)).setCell ⟨w.heap.size, 1, none⟩ (.int .i64 vv)).setCell ⟨w.heap.size, 2, none⟩ (.int .i64 b')).setCell ⟨w.heap.size, 3, none⟩ (.int .i64 bt')).setCell ⟨w.heap.size, 4, none⟩ (.slice AZ es'.length cZ))) := S7.out.m.trans (Mod.of_below BF.out)
     clear r0 r1 r2 r3 r4 r5 hkZ hOZ hne kf
     go_wp2_with fail
     exact bodyPost_ret (v := .agg #[.int .i64 t, .int .i64 vv, .int .i64 b', .int .i64 bt', .slice AZ es'.length cZ]) (by simp [results, Tryd.f25, go_sem, x0, x1, x2, x3, x4]) rfl ⟨_, ⟨t, vv, b', bt', es'⟩, rfl, ⟨_, rfl, OF.out⟩, S7.out.n, S7.out.d, by constructor <;> (show _ ≤ _) <;> dsimp only <;> omega, AF.out, MF.out⟩
end Go.Proofs.YtgillglkmnocaaaDoor
