/- WbAny WbSame WtImpl -/
import Derived.Test.YtgillglkmnocaaaDoorRows
import Derived.Test.YtgillglkmnocaaaDoorQw8
import Derived.Test.YtgillglkmnocaaaDoorQw2
import Derived.Test.YtgillglkmnocaaaDoorQw3
import Derived.WalkKit
import Derived.ProofKit
import Derived.OpenShut
import Derived.Below
import Derived.WalkSmall
import Derived.BigQuiet
import Derived.Deep.QuietTactic
import Derived.Deep.RegionWith
import Derived.Handy
import Derived.Deep.Cut
import Derived.Deep.CutRange
import Derived.Test.YtgillglkmnocaaaDoorQw1
import Derived.Test.YtgillglkmnocaaaDoorQw7
import Derived.Laws.StructEq
import Derived.Laws.DeepStrings4
import Derived.Test.YtgillglkmnocaaaDoorQw5
open List (setIfInBounds_toArray set_cons_zero set_cons_succ)
namespace Go.Proofs.YtgillglkmnocaaaDoor
open Go.ChangeShapes Go.WideShapes Go.ChangeAt Go.RowKit Go.PlainAid
set_option linter.unusedVariables false
theorem cell_alloc_w {w : World} {a : Addr} {x : Value} (h : w.cell? a = some x) (o : Obj) : (w.alloc o).cell? a = some x := by
 rw [((Below.refl w.heap.size w).alloc (Nat.le_refl _) o).cell (World.block_lt_of_cell? _ _ h)]
 exact h
theorem Tryd.infoU8 : (Tryd.prog.info? 5).map (fun i => (i.zero, i.size, i.bytes)) = some (some (.int .u8 0), 1, 1) := by kernel_rfl
theorem mk_bytes (n : Nat) (hn : n ≤ 100000) (wx : World) : (Instr.makeSlice 22 (.int .i64 (n : Int)) (.int .i64 (n : Int))).run Tryd.prog wx = .ok (.slice (some ⟨wx.heap.size, 0, none⟩) n n) (wx.alloc (.cells (byteCells (List.replicate n 0)) 5)) := by
 obtain ⟨i0, hi, hz0, hz1, hz2⟩ := info_parts Tryd.infoU8
 have h := run_make (P := Tryd.prog) wx 22 5 i0 _ Tryd.underlying22 hi hz0 .i64 .i64 (n : Int) (n : Int) (by omega) (by omega) (by rw [hz2]; omega) (by omega)
 rw [hz1] at h
 have e : (Value.int .u8 0).cells = #[.int .u8 0] := rfl
 have e2 : madeCells #[Value.int .u8 0] (n * 1) = byteCells (List.replicate n 0) := by
  rw [Nat.mul_one, fixRow_zero 0 n]
  simp [fixRow, low]
 rw [e, Int.toNat_natCast, e2] at h
 exact h
theorem cv_bytes (n : Nat) (wd : World) : (convert 22 9 (.slice (some ⟨wd.heap.size, 0, none⟩) n n)).run Tryd.prog (wd.alloc (.cells (byteCells (List.replicate n 0)) 5)) = .ok (.string (txt (List.replicate n 0))) (wd.alloc (.cells (byteCells (List.replicate n 0)) 5)) := by
 have h := run_row (P := Tryd.prog) wd 22 9 5 Tryd.underlying22 Tryd.underlying5 Tryd.underlying9 (List.replicate n 0) n
 rw [List.length_replicate] at h
 exact h
set_option maxRecDepth 20000 in
set_option maxHeartbeats 8000000 in
theorem anyWal_any (w : World) (p : Nat) (h : AtS w p) : Calls Tryd.prog 12 #[.pointer (some ⟨p, 0, none⟩)] w (DrawnW w p 63) := by
 have HP : Hid (p < w.heap.size) := h.lt
 have hal : Below w.heap.size w (w.alloc (.cells #[.int .i64 0, .int .i64 0, .int .i64 0, .int .i64 0, .slice none 0 0] 26)) := (Below.refl _ _).alloc (Nat.le_refl _) _
 have A0 : Hid (AtS (w.alloc (.cells #[.int .i64 0, .int .i64 0, .int .i64 0, .int .i64 0, .slice none 0 0] 26)) p) := h.below hal h.lt
 have M0 : Hid (Mod w.heap.size p w (w.alloc (.cells #[.int .i64 0, .int .i64 0, .int .i64 0, .int .i64 0, .slice none 0 0] 26))) := Mod.of_below hal
 have R0 : Hid (Blk (w.alloc (.cells #[.int .i64 0, .int .i64 0, .int .i64 0, .int .i64 0, .slice none 0 0] 26)) w.heap.size #[.int .i64 0, .int .i64 0, .int .i64 0, .int .i64 0, .slice none 0 0] 26) := Blk.new w _ _
 clear hal h
 go_enter Tryd.func12, Tryd.ntmps12
 go_wp2_with fail
 generalize w.alloc (.cells #[.int .i64 0, .int .i64 0, .int .i64 0, .int .i64 0, .slice none 0 0] 26) = w0 at *
 refine (wal_any w0 p A0.out).mono ?_
 rintro e w1 ⟨uw, ⟨t, v, b, bt, es⟩, rfl, ⟨ue, rfl, hO⟩, hn, hd, ht, hA, hm⟩
 dsimp only at hO hn hd ht
 obtain ⟨Ae, me, ce, rfl⟩ := hO.shape
 have A1 : Hid (AtS w1 p) := hA
 have M1 : Hid (Mod w.heap.size p w w1) := M0.out.trans (hm.mono M0.out.size)
 have R1 : Hid (Blk w1 w.heap.size #[.int .i64 0, .int .i64 0, .int .i64 0, .int .i64 0, .slice none 0 0] 26) := R0.out.mod hm R0.out.lt (by have := HP.out; omega)
 have hS0 : WSt w p w1.heap.size w.heap.size 62 (w1.alloc (.cells #[.int .i64 t, .int .i64 v, .int .i64 b, .int .i64 bt, .slice Ae me ce] 26)) t v b bt es :=
  ⟨⟨Ae, me, ce, Blk.new w1 _ _, (hO.mono M0.out.size).alloc _, ent_len hO⟩, R1.out.alloc _, hn, hd, A1.out.below ((Below.refl w1.heap.size w1).alloc (Nat.le_refl _) _) A1.out.lt, M1.out.alloc M1.out.size _, HP.out, Nat.le_refl _, R1.out.lt⟩
 have S0 : Hid (WSt w p w1.heap.size w.heap.size 62 (w1.alloc (.cells #[.int .i64 t, .int .i64 v, .int .i64 b, .int .i64 bt, .slice Ae me ce] 26)) t v b bt es) := hS0
 clear hS0 hA hm hO hn hd A0 M0 R0
 go_wp2_with fail
 generalize w1.alloc (.cells #[.int .i64 t, .int .i64 v, .int .i64 b, .int .i64 bt, .slice Ae me ce] 26) = w2 at *
 generalize w1.heap.size = g at *
 refine (once_some w2 p 8 (by omega) S0.out.a).mono ?_
 rintro e w3 ⟨o, rfl, hA, hm⟩
 have S3 : Hid (WSt w p g w.heap.size 62 w3 t v b bt es) := S0.out.draw hA hm
 clear hA hm S0 A1 M1 R1
 go_upto_if 7 with fail
 go_cut [57] from 8 to 57 (fun s57 wc => ∃ (t' v' b' bt' : Int) (es' : List Ent), (-1000 ≤ t' ∧ t' ≤ 1000000) ∧ WSt w p g w.heap.size 63 wc t' v' b' bt' es')
 case first =>
  cases o with
  | false =>
   go_wp2_with fail
   go_meet
   exact ⟨t, v, b, bt, es, ht, S3.out.more (by omega)⟩
  | true =>
   go_wp2_with fail
   refine (belowS w3 p 6 (by omega) (by omega) S3.out.a).mono ?_
   rintro e w5 ⟨s, rfl, ⟨s0, s1⟩, hA, hm⟩
   have S5 : Hid (WSt w p g w.heap.size 62 w5 t v b bt es) := S3.out.draw hA hm
   clear hA hm S3
   rcases (show s = 0 ∨ s = 1 ∨ s = 2 ∨ s = 3 ∨ s = 4 ∨ s = 5 by omega) with rfl | rfl | rfl | rfl | rfl | rfl
   ·have hal : Below w5.heap.size w5 (w5.alloc (.cells #[.int .i64 (-1), .int .i64 0, .int .i64 100000, .int .i64 100001] 3)) := (Below.refl _ _).alloc (Nat.le_refl _) _
    have K6 : Hid (Blk (w5.alloc (.cells #[.int .i64 (-1), .int .i64 0, .int .i64 100000, .int .i64 100001] 3)) w5.heap.size #[.int .i64 (-1), .int .i64 0, .int .i64 100000, .int .i64 100001] 3) := Blk.new _ _ _
    have S6 : Hid (WSt w p g w.heap.size 62 (w5.alloc (.cells #[.int .i64 (-1), .int .i64 0, .int .i64 100000, .int .i64 100001] 3)) t v b bt es) := S5.out.draw (S5.out.a.below hal S5.out.a.lt) (Mod.of_below hal)
    have Z6 : Hid (w5.heap.size ≠ p) := by have := S5.out.a.lt; unfold Hid; omega
    clear hal
    go_wp2_with fail
    generalize w5.alloc (.cells #[.int .i64 (-1), .int .i64 0, .int .i64 100000, .int .i64 100001] 3) = w6 at *
    refine (pickS w6 p w5.heap.size [-1, 0, 100000, 100001] 4 rfl (by omega) (by omega) (fun z => -1000 ≤ z ∧ z ≤ 1000000) (by omega) (by simp) S6.out.a Z6.out K6.out).mono ?_
    rintro e w7 ⟨z, rfl, ⟨z0, z1⟩, hA, hm⟩
    have S7 : Hid (WSt w p g w.heap.size 62 w7 t v b bt es) := S6.out.draw hA hm
    have S8 : Hid (WSt w p g w.heap.size 63 (w7.setCell ⟨g, 0, none⟩ (.int .i64 z)) z v b bt es) := (S7.out.setT z).more (by omega)
    obtain ⟨A7, c7, ⟨k0, k1, k2, k3, k4⟩, kf, -, -⟩ := S7.out.out
    have fk := kf 0
    clear hA hm
    go_wp2_with fail
    go_meet
    exact ⟨z, v, b, bt, es, by omega, S8.out⟩
   ·have hal : Below w5.heap.size w5 (w5.alloc (.cells #[.int .i64 (-2), .int .i64 5] 3)) := (Below.refl _ _).alloc (Nat.le_refl _) _
    have K6 : Hid (Blk (w5.alloc (.cells #[.int .i64 (-2), .int .i64 5] 3)) w5.heap.size #[.int .i64 (-2), .int .i64 5] 3) := Blk.new _ _ _
    have S6 : Hid (WSt w p g w.heap.size 62 (w5.alloc (.cells #[.int .i64 (-2), .int .i64 5] 3)) t v b bt es) := S5.out.draw (S5.out.a.below hal S5.out.a.lt) (Mod.of_below hal)
    have Z6 : Hid (w5.heap.size ≠ p) := by have := S5.out.a.lt; unfold Hid; omega
    clear hal
    go_wp2_with fail
    generalize w5.alloc (.cells #[.int .i64 (-2), .int .i64 5] 3) = w6 at *
    refine (pickS w6 p w5.heap.size [-2, 5] 2 rfl (by omega) (by omega) (fun z => -1000 ≤ z ∧ z ≤ 1000000) (by omega) (by simp) S6.out.a Z6.out K6.out).mono ?_
    rintro e w7 ⟨z, rfl, ⟨z0, z1⟩, hA, hm⟩
    have S7 : Hid (WSt w p g w.heap.size 62 w7 t v b bt es) := S6.out.draw hA hm
    have S8 : Hid (WSt w p g w.heap.size 63 (w7.setCell ⟨g, 1, none⟩ (.int .i64 z)) t z b bt es) := (S7.out.setV z).more (by omega)
    obtain ⟨A7, c7, ⟨k0, k1, k2, k3, k4⟩, kf, -, -⟩ := S7.out.out
    have fk := kf 1
    clear hA hm
    go_wp2_with fail
    go_meet
    exact ⟨t, z, b, bt, es, by omega, S8.out⟩
   ·have hal : Below w5.heap.size w5 (w5.alloc (.cells #[.int .i64 (-1), .int .i64 0, .int .i64 3, .int .i64 100000, .int .i64 100001] 3)) := (Below.refl _ _).alloc (Nat.le_refl _) _
    have K6 : Hid (Blk (w5.alloc (.cells #[.int .i64 (-1), .int .i64 0, .int .i64 3, .int .i64 100000, .int .i64 100001] 3)) w5.heap.size #[.int .i64 (-1), .int .i64 0, .int .i64 3, .int .i64 100000, .int .i64 100001] 3) := Blk.new _ _ _
    have S6 : Hid (WSt w p g w.heap.size 62 (w5.alloc (.cells #[.int .i64 (-1), .int .i64 0, .int .i64 3, .int .i64 100000, .int .i64 100001] 3)) t v b bt es) := S5.out.draw (S5.out.a.below hal S5.out.a.lt) (Mod.of_below hal)
    have Z6 : Hid (w5.heap.size ≠ p) := by have := S5.out.a.lt; unfold Hid; omega
    clear hal
    go_wp2_with fail
    generalize w5.alloc (.cells #[.int .i64 (-1), .int .i64 0, .int .i64 3, .int .i64 100000, .int .i64 100001] 3) = w6 at *
    refine (pickS w6 p w5.heap.size [-1, 0, 3, 100000, 100001] 5 rfl (by omega) (by omega) (fun z => -1000 ≤ z ∧ z ≤ 1000000) (by omega) (by simp) S6.out.a Z6.out K6.out).mono ?_
    rintro e w7 ⟨z, rfl, ⟨z0, z1⟩, hA, hm⟩
    have S7 : Hid (WSt w p g w.heap.size 62 w7 t v b bt es) := S6.out.draw hA hm
    have S8 : Hid (WSt w p g w.heap.size 63 (w7.setCell ⟨g, 2, none⟩ (.int .i64 z)) t v z bt es) := (S7.out.setB z).more (by omega)
    obtain ⟨A7, c7, ⟨k0, k1, k2, k3, k4⟩, kf, -, -⟩ := S7.out.out
    have fk := kf 2
    clear hA hm
    go_wp2_with fail
    go_meet
    exact ⟨t, v, z, bt, es, by omega, S8.out⟩
   ·go_wp2_with fail
    refine (belowS w5 p 10 (by omega) (by omega) S5.out.a).mono ?_
    rintro e w7 ⟨z, rfl, ⟨z0, z1⟩, hA, hm⟩
    have S7 : Hid (WSt w p g w.heap.size 62 w7 t v b bt es) := S5.out.draw hA hm
    have S8 : Hid (WSt w p g w.heap.size 63 (w7.setCell ⟨g, 3, none⟩ (.int .i64 (z - 1))) t v b (z - 1) es) := (S7.out.setBt _).more (by omega)
    obtain ⟨A7, c7, ⟨k0, k1, k2, k3, k4⟩, kf, -, -⟩ := S7.out.out
    have fk := kf 3
    have gz : IntKind.i64.wrap (z - 1) = z - 1 := by rw [IntKind.wrap_i64]; omega
    clear hA hm
    go_wp2_with fail
    go_meet
    exact ⟨t, v, b, z - 1, es, ht, S8.out⟩
   ·obtain ⟨A7, c7, ⟨k0, k1, k2, k3, k4⟩, kf, hk7, hO7⟩ := S5.out.out
    have Q0 : Hid (w5.drew.cell? ⟨g, 4, none⟩ = some (.slice A7 es.length c7)) := k4
    have cB := belowS w5.drew p 10 (by omega) (by omega) S5.out.drew.a
    clear k0 k1 k2 k3 k4 kf
    go_wp2_with fail
    refine wp_region_until (fun w' => w'.cell? ⟨g, 4, none⟩ = some (.slice A7 es.length c7)) (fun i => i == 7 || i == 9) 10 (by rfl) (by kernel_rfl) ?_
    refine until_pure 0 (v := ?_) (by rfl) (by kernel_rfl) (by exact fun _ _ _ h => h) (by rfl) ?_ ?_
    rotate_left
    ·intro w
     go_simp
     try with_reducible rfl
    try simp only [Act.put, setIfInBounds_toArray, set_cons_zero, set_cons_succ]
    refine until_take 1 (v := ?_) (by rfl) (by kernel_rfl) (by exact fun _ _ _ h => h) (by rfl) ?_ Q0.out ?_
    rotate_left
    ·intro w hSw
     try dsimp only at hSw
     go_simp
     try with_reducible rfl
    try simp only [Act.put, setIfInBounds_toArray, set_cons_zero, set_cons_succ]
    refine until_pure 2 (v := ?_) (by rfl) (by kernel_rfl) (by exact fun _ _ _ h => h) (by rfl) ?_ ?_
    rotate_left
    ·intro w
     go_simp
     try with_reducible rfl
    try simp only [Act.put, setIfInBounds_toArray, set_cons_zero, set_cons_succ]
    refine until_one 3 (by rfl) (by kernel_rfl) (fun K hK => ?_)
    go_simp
    refine cB.mono ?_
    rintro e wd ⟨y, rfl, ⟨y0, y1⟩, hA, hm⟩
    have S8 : Hid (WSt w p g w.heap.size 62 wd t v b bt es) := S5.out.drew.draw hA hm
    have hkd : Blk wd g #[.int .i64 t, .int .i64 v, .int .i64 b, .int .i64 bt, .slice A7 es.length c7] 26 := (hm.block g hk7.lt (by have := S5.out.o; omega)).trans hk7
    have hOd : Owns wd w.heap.size 61 2 (.slice A7 es.length c7) (entR es) := (hO7.kept fun _ _ _ => rfl : Owns w5.drew w.heap.size 61 2 (.slice A7 es.length c7) (entR es)).mod hm S5.out.o.1 (Nat.le_refl _)
    have KD : Hid (Blk wd g #[.int .i64 t, .int .i64 v, .int .i64 b, .int .i64 bt, .slice A7 es.length c7] 26) := hkd
    have OD : Hid (Owns wd w.heap.size 61 2 (.slice A7 es.length c7) (entR es)) := hOd
    have d4 := hkd.cell 4 _ rfl
    have gy : IntKind.i64.wrap (y - 1) = y - 1 := by rw [IntKind.wrap_i64]; omega
    have HDt : Hid ((⟨#[]⟩ : ByteArray).size ≤ 1000) := Nat.zero_le _
    obtain ⟨nA, nm, nc, Y5, r5, hO5, hb5, hk5, -⟩ := run_append_row (P := Tryd.prog) wd 24 24 61 (.agg #[.int .i64 0, .string ⟨#[]⟩]) 2 24 Tryd.underlying24 Tryd.infoEntB rfl (by omega) w.heap.size (.slice A7 es.length c7) (entR es) OD.out [.int .i64 (y - 1), .string ⟨#[]⟩] rfl (by intro y hy; simp at hy; rcases hy with rfl | rfl <;> rfl) (by rw [entR_length]; have := S8.out.n; omega) (by omega) S8.out.m.size
    clear hA hm cB hkd hOd hk7 hO7
    go_wp2_with fail
    refine hK.out _ _ (fun _ _ => d4) ?_
    clear hK K
    try simp only [Act.put, setIfInBounds_toArray, set_cons_zero, set_cons_succ]
    refine until_pure 4 (v := ?_) (by rfl) (by kernel_rfl) (by exact fun _ _ _ h => h) (by rfl) ?_ ?_
    rotate_left
    ·intro w
     go_simp
     try with_reducible rfl
    try simp only [Act.put, setIfInBounds_toArray, set_cons_zero, set_cons_succ]
    refine until_pure 5 (v := ?_) (by rfl) (by kernel_rfl) (by exact fun _ _ _ h => h) (by rfl) ?_ ?_
    rotate_left
    ·intro w
     go_simp
     try with_reducible rfl
    try simp only [Act.put, setIfInBounds_toArray, set_cons_zero, set_cons_succ]
    refine until_one 6 (by rfl) (by kernel_rfl) (fun K hK => ?_)
    go_simp
    refine hK.out _ _ (fun _ h => cell_alloc_w h _) ?_
    clear hK K
    try simp only [Act.put, setIfInBounds_toArray, set_cons_zero, set_cons_succ]
    refine until_one 7 (by rfl) (by kernel_rfl) (fun K hK => ?_)
    refine step_append_run (by rfl) (.tmp 50) (.tmp 55) 24 (by rfl) _ _ _ _ (by rfl) (by rfl) r5 ?_
    refine hK.out _ _ (fun h => by cases h) ?_
    clear hK K
    try simp only [Act.put, setIfInBounds_toArray, set_cons_zero, set_cons_succ]
    have hO8 : Owns Y5 w.heap.size 61 2 (.slice nA nm nc) (entR (es ++ [(⟨y - 1, ⟨#[]⟩⟩ : Ent)])) := by unfold entR; rw [List.map_append]; exact hO5
    have hg7 : Y5.heap[g]? = wd.heap[g]? := hk5 g KD.out.lt (OD.out.notBlk KD.out (by decide))
    have hR7 : Y5.heap[w.heap.size]? = wd.heap[w.heap.size]? := hk5 _ S8.out.r.lt (OD.out.notBlk S8.out.r (by decide))
    have S9 : Hid (WSt w p g w.heap.size 63 (Y5.setCell ⟨g, 4, none⟩ (.slice nA nm nc)) t v b bt (es ++ [(⟨y - 1, ⟨#[]⟩⟩ : Ent)])) :=
     S8.out.setE KD.out hO8 (S8.out.a.below hb5 S8.out.o.1) (Mod.of_below hb5) hg7 hR7 (by rw [List.length_append]; have := S8.out.n; simp; omega) (fun x hx => by
      rcases List.mem_append.1 hx with hx | hx
      ·exact S8.out.d x hx
      ·rw [List.mem_singleton.1 hx]; exact HDt.out)
    have hk8 : Blk Y5 g #[.int .i64 t, .int .i64 v, .int .i64 b, .int .i64 bt, .slice A7 es.length c7] 26 := hg7.trans KD.out
    have m4 := hk8.cell 4 _ rfl
    have mf := hk8.free 4
    clear hO8 hg7 hR7 hk8 hO5 hb5 hk5
    refine until_pure 8 (v := ?_) (by rfl) (by kernel_rfl) (by exact fun _ _ _ h => h) (by rfl) ?_ ?_
    rotate_left
    ·intro w
     go_simp
     try with_reducible rfl
    try simp only [Act.put, setIfInBounds_toArray, set_cons_zero, set_cons_succ]
    refine until_one 9 (by rfl) (by kernel_rfl) (fun K hK => ?_)
    go_simp
    refine hK.out _ _ (fun h => by cases h) ?_
    clear hK K
    try simp only [Act.put, setIfInBounds_toArray, set_cons_zero, set_cons_succ]
    refine until_done (by kernel_rfl) ?_ _
    go_wp2_with fail
    go_meet
    exact ⟨t, v, b, bt, _, ht, S9.out⟩
   ·obtain ⟨A7, c7, ⟨k0, k1, k2, k3, k4⟩, kf, hk7, hO7⟩ := S5.out.out
    have Q0 : Hid (w5.drew.cell? ⟨g, 4, none⟩ = some (.slice A7 es.length c7) ∧ w5.drew.cell? ⟨g, 0, none⟩ = some (.int .i64 t)) := ⟨k4, k0⟩
    have cB := belowS w5.drew p 2 (by omega) (by omega) S5.out.drew.a
    clear k0 k1 k2 k3 k4 kf
    go_wp2_with fail
    refine wp_region_until (fun w' => w'.cell? ⟨g, 4, none⟩ = some (.slice A7 es.length c7) ∧ w'.cell? ⟨g, 0, none⟩ = some (.int .i64 t)) (fun i => i == 11 || i == 13) 14 (by rfl) (by kernel_rfl) ?_
    refine until_pure 0 (v := ?_) (by rfl) (by kernel_rfl) (by exact fun _ _ _ h => h) (by rfl) ?_ ?_
    rotate_left
    ·intro w
     go_simp
     try with_reducible rfl
    try simp only [Act.put, setIfInBounds_toArray, set_cons_zero, set_cons_succ]
    refine until_take 1 (v := ?_) (by rfl) (by kernel_rfl) (by exact fun _ _ _ h => h) (by rfl) ?_ Q0.out ?_
    rotate_left
    ·intro w hSw
     try dsimp only at hSw
     go_simp
     try with_reducible rfl
    try simp only [Act.put, setIfInBounds_toArray, set_cons_zero, set_cons_succ]
    refine until_pure 2 (v := ?_) (by rfl) (by kernel_rfl) (by exact fun _ _ _ h => h) (by rfl) ?_ ?_
    rotate_left
    ·intro w
     go_simp
     try with_reducible rfl
    try simp only [Act.put, setIfInBounds_toArray, set_cons_zero, set_cons_succ]
    refine until_take 3 (v := ?_) (by rfl) (by kernel_rfl) (by exact fun _ _ _ h => h) (by rfl) ?_ Q0.out ?_
    rotate_left
    ·intro w hSw
     try dsimp only at hSw
     go_simp
     try with_reducible rfl
    try simp only [Act.put, setIfInBounds_toArray, set_cons_zero, set_cons_succ]
    refine until_pure 4 (v := ?_) (by rfl) (by kernel_rfl) (by exact fun _ _ _ h => h) (by rfl) ?_ ?_
    rotate_left
    ·intro w
     go_simp
     try with_reducible rfl
    try simp only [Act.put, setIfInBounds_toArray, set_cons_zero, set_cons_succ]
    refine until_one 5 (by rfl) (by kernel_rfl) (fun K hK => ?_)
    go_simp
    refine cB.mono ?_
    rintro e wd ⟨y, rfl, ⟨y0, y1⟩, hA, hm⟩
    obtain ⟨n, hn⟩ : ∃ n : Nat, (n : Int) = 900 + y := ⟨(900 + y).toNat, by omega⟩
    have S8' : WSt w p g w.heap.size 62 wd t v b bt es := S5.out.drew.draw hA hm
    have hkd : Blk wd g #[.int .i64 t, .int .i64 v, .int .i64 b, .int .i64 bt, .slice A7 es.length c7] 26 := (hm.block g hk7.lt (by have := S5.out.o; omega)).trans hk7
    have hOd : Owns wd w.heap.size 61 2 (.slice A7 es.length c7) (entR es) := (hO7.kept fun _ _ _ => rfl : Owns w5.drew w.heap.size 61 2 (.slice A7 es.length c7) (entR es)).mod hm S5.out.o.1 (Nat.le_refl _)
    have hal : Below wd.heap.size wd (wd.alloc (.cells (byteCells (List.replicate n 0)) 5)) := (Below.refl _ _).alloc (Nat.le_refl _) _
    have S8 : Hid (WSt w p g w.heap.size 62 (wd.alloc (.cells (byteCells (List.replicate n 0)) 5)) t v b bt es) := S8'.draw (S8'.a.below hal S8'.a.lt) (Mod.of_below hal)
    have KD : Hid (Blk (wd.alloc (.cells (byteCells (List.replicate n 0)) 5)) g #[.int .i64 t, .int .i64 v, .int .i64 b, .int .i64 bt, .slice A7 es.length c7] 26) := hkd.alloc _
    have OD : Hid (Owns (wd.alloc (.cells (byteCells (List.replicate n 0)) 5)) w.heap.size 61 2 (.slice A7 es.length c7) (entR es)) := hOd.alloc _
    have d4 := hkd.cell 4 _ rfl
    have d0 := hkd.cell 0 _ rfl
    have D4 := KD.out.cell 4 _ rfl
    have D0 := KD.out.cell 0 _ rfl
    have gy : IntKind.i64.wrap (900 + y) = (n : Int) := by rw [IntKind.wrap_i64]; omega
    have hmk := mk_bytes n (by omega) wd
    have hcv := cv_bytes n wd
    have HDt : Hid ((txt (List.replicate n 0)).size ≤ 1000) := by unfold Hid; rw [txt_size, List.length_replicate]; omega
    obtain ⟨nA, nm, nc, Y5, r5, hO5, hb5, hk5, -⟩ := run_append_row (P := Tryd.prog) (wd.alloc (.cells (byteCells (List.replicate n 0)) 5)) 24 24 61 (.agg #[.int .i64 0, .string ⟨#[]⟩]) 2 24 Tryd.underlying24 Tryd.infoEntB rfl (by omega) w.heap.size (.slice A7 es.length c7) (entR es) OD.out [.int .i64 t, .string (txt (List.replicate n 0))] rfl (by intro y hy; simp at hy; rcases hy with rfl | rfl <;> rfl) (by rw [entR_length]; have := S8.out.n; omega) (by omega) S8.out.m.size
    clear hA hm cB hkd hOd hk7 hO7 hal S8'
    generalize txt (List.replicate n 0) = tz at *
    generalize hWz : wd.alloc (.cells (byteCells (List.replicate n 0)) 5) = wz at *
    clear hn
    go_wp2_with fail
    refine hK.out _ _ (fun _ _ => ⟨d4, d0⟩) ?_
    clear hK K
    try simp only [Act.put, setIfInBounds_toArray, set_cons_zero, set_cons_succ]
    refine until_pure 6 (v := ?_) (by rfl) (by kernel_rfl) (by exact fun _ _ _ h => h) (by rfl) ?_ ?_
    rotate_left
    ·intro w
     go_simp
     try with_reducible rfl
    try simp only [Act.put, setIfInBounds_toArray, set_cons_zero, set_cons_succ]
    refine until_one 7 (by rfl) (by kernel_rfl) (fun K hK => ?_)
    go_simp
    refine hK.out _ _ (fun _ _ => ⟨D4, D0⟩) ?_
    clear hK K
    try simp only [Act.put, setIfInBounds_toArray, set_cons_zero, set_cons_succ]
    refine until_one 8 (by rfl) (by kernel_rfl) (fun K hK => ?_)
    go_simp
    refine hK.out _ _ (fun _ h => h) ?_
    clear hK K
    try simp only [Act.put, setIfInBounds_toArray, set_cons_zero, set_cons_succ]
    refine until_pure 9 (v := ?_) (by rfl) (by kernel_rfl) (by exact fun _ _ _ h => h) (by rfl) ?_ ?_
    rotate_left
    ·intro w
     go_simp
     try with_reducible rfl
    try simp only [Act.put, setIfInBounds_toArray, set_cons_zero, set_cons_succ]
    refine until_one 10 (by rfl) (by kernel_rfl) (fun K hK => ?_)
    go_simp
    refine hK.out _ _ (fun _ h => ⟨cell_alloc_w h.1 _, cell_alloc_w h.2 _⟩) ?_
    clear hK K
    try simp only [Act.put, setIfInBounds_toArray, set_cons_zero, set_cons_succ]
    refine until_one 11 (by rfl) (by kernel_rfl) (fun K hK => ?_)
    refine step_append_run (by rfl) (.tmp 11) (.tmp 20) 24 (by rfl) _ _ _ _ (by rfl) (by rfl) r5 ?_
    refine hK.out _ _ (fun h => by cases h) ?_
    clear hK K
    try simp only [Act.put, setIfInBounds_toArray, set_cons_zero, set_cons_succ]
    have hO8 : Owns Y5 w.heap.size 61 2 (.slice nA nm nc) (entR (es ++ [(⟨t, tz⟩ : Ent)])) := by unfold entR; rw [List.map_append]; exact hO5
    have hg7 : Y5.heap[g]? = wz.heap[g]? := hk5 g KD.out.lt (OD.out.notBlk KD.out (by decide))
    have hR7 : Y5.heap[w.heap.size]? = wz.heap[w.heap.size]? := hk5 _ S8.out.r.lt (OD.out.notBlk S8.out.r (by decide))
    have S9 : Hid (WSt w p g w.heap.size 63 (Y5.setCell ⟨g, 4, none⟩ (.slice nA nm nc)) t v b bt (es ++ [(⟨t, tz⟩ : Ent)])) :=
     S8.out.setE KD.out hO8 (S8.out.a.below hb5 S8.out.o.1) (Mod.of_below hb5) hg7 hR7 (by rw [List.length_append]; have := S8.out.n; simp; omega) (fun x hx => by
      rcases List.mem_append.1 hx with hx | hx
      ·exact S8.out.d x hx
      ·rw [List.mem_singleton.1 hx]; exact HDt.out)
    have hk8 : Blk Y5 g #[.int .i64 t, .int .i64 v, .int .i64 b, .int .i64 bt, .slice A7 es.length c7] 26 := hg7.trans KD.out
    have m4 := hk8.cell 4 _ rfl
    have mf := hk8.free 4
    clear hO8 hg7 hR7 hk8 hO5 hb5 hk5
    refine until_pure 12 (v := ?_) (by rfl) (by kernel_rfl) (by exact fun _ _ _ h => h) (by rfl) ?_ ?_
    rotate_left
    ·intro w
     go_simp
     try with_reducible rfl
    try simp only [Act.put, setIfInBounds_toArray, set_cons_zero, set_cons_succ]
    refine until_one 13 (by rfl) (by kernel_rfl) (fun K hK => ?_)
    go_simp
    refine hK.out _ _ (fun h => by cases h) ?_
    clear hK K
    try simp only [Act.put, setIfInBounds_toArray, set_cons_zero, set_cons_succ]
    refine until_done (by kernel_rfl) ?_ _
    go_wp2_with fail
    go_meet
    exact ⟨t, v, b, bt, _, ht, S9.out⟩
 case rest =>
  obtain ⟨t', v', b', bt', es', ht', hS⟩ := hcut
  have S7 : Hid (WSt w p g w.heap.size 63 wc t' v' b' bt' es') := hS
  clear hS S3 ht
  generalize wc = wg at *
  obtain ⟨AZ, cZ, ⟨k0, k1, k2, k3, k4⟩, kf, hkZ, hOZ⟩ := S7.out.out
  have r0 := S7.out.r
  have r1 := r0.set 0 (.int .i64 t')
  have r2 := r1.set 1 (.int .i64 v')
  have r3 := r2.set 2 (.int .i64 b')
  have r4 := r3.set 3 (.int .i64 bt')
  have r5 := r4.set 4 (.slice AZ es'.length cZ)
  have y0 := r0.cell 0 _ rfl
  have y1 := r1.cell 1 _ rfl
  have y2 := r2.cell 2 _ rfl
  have y3 := r3.cell 3 _ rfl
  have y4 := r4.cell 4 _ rfl
  have f0 := r0.free 0
  have f1 := r1.free 1
  have f2 := r2.free 2
  have f3 := r3.free 3
  have f4 := r4.free 4
  have x0 := r5.cell 0 (.int .i64 t') rfl
  have x1 := r5.cell 1 (.int .i64 v') rfl
  have x2 := r5.cell 2 (.int .i64 b') rfl
  have x3 := r5.cell 3 (.int .i64 bt') rfl
  have x4 := r5.cell 4 (.slice AZ es'.length cZ) rfl
  have hne := hOZ.notBlk r0 (by decide)
  have OF : Hid (Owns (((((wg.setCell ⟨w.heap.size, 0, none⟩ (.int .i64 t')).setCell ⟨w.heap.size, 1, none⟩ (.int .i64 v')).setCell ⟨w.heap.size, 2, none⟩ (.int .i64 b')).setCell ⟨w.heap.size, 3, none⟩ (.int .i64 bt')).setCell ⟨w.heap.size, 4, none⟩ (.slice AZ es'.length cZ)) w.heap.size 61 2 (.slice AZ es'.length cZ) (entR es')) := ((((hOZ.other hne _ _).other hne _ _).other hne _ _).other hne _ _).other hne _ _
  have BF : Hid (Below w.heap.size wg (((((wg.setCell ⟨w.heap.size, 0, none⟩ (.int .i64 t')).setCell ⟨w.heap.size, 1, none⟩ (.int .i64 v')).setCell ⟨w.heap.size, 2, none⟩ (.int .i64 b')).setCell ⟨w.heap.size, 3, none⟩ (.int .i64 bt')).setCell ⟨w.heap.size, 4, none⟩ (.slice AZ es'.length cZ))) := (((((Below.refl w.heap.size wg).setCell (show w.heap.size ≤ w.heap.size from S7.out.o.2.1) _).setCell (show w.heap.size ≤ w.heap.size from S7.out.o.2.1) _).setCell (show w.heap.size ≤ w.heap.size from S7.out.o.2.1) _).setCell (show w.heap.size ≤ w.heap.size from S7.out.o.2.1) _).setCell (show w.heap.size ≤ w.heap.size from S7.out.o.2.1) _
  have AF : Hid (AtS (((((wg.setCell ⟨w.heap.size, 0, none⟩ (.int .i64 t')).setCell ⟨w.heap.size, 1, none⟩ (.int .i64 v')).setCell ⟨w.heap.size, 2, none⟩ (.int .i64 b')).setCell ⟨w.heap.size, 3, none⟩ (.int .i64 bt')).setCell ⟨w.heap.size, 4, none⟩ (.slice AZ es'.length cZ)) p) := S7.out.a.below BF.out S7.out.o.1
  have MF : Hid (Mod w.heap.size p w (((((wg.setCell ⟨w.heap.size, 0, none⟩ (.int .i64 t')).setCell ⟨w.heap.size, 1, none⟩ (.int .i64 v')).setCell ⟨w.heap.size, 2, none⟩ (.int .i64 b')).setCell ⟨w.heap.size, 3, none⟩ (.int .i64 bt')).setCell ⟨w.heap.size, 4, none⟩ (.slice AZ es'.length cZ))) := S7.out.m.trans (Mod.of_below BF.out)
  clear r0 r1 r2 r3 r4 r5 hkZ hOZ hne kf
  go_wp2_with fail
  exact bodyPost_ret (v := .agg #[.int .i64 t', .int .i64 v', .int .i64 b', .int .i64 bt', .slice AZ es'.length cZ]) (by simp [results, Tryd.f12, go_sem, x0, x1, x2, x3, x4]) rfl ⟨_, ⟨t', v', b', bt', es'⟩, rfl, ⟨_, rfl, OF.out⟩, S7.out.n, S7.out.d, by constructor <;> (show _ ≤ _) <;> dsimp only <;> omega, AF.out, MF.out⟩
set_option maxHeartbeats 1000000 in
theorem drawWalText (w : World) (ao : Option Addr) (len cap : Nat) (cs : Nat → Nat) (hl : len ≤ 1048576) (h : CodeIs w w.heap.size ao len cs) :
  Calls Tryd.prog 5 #[.slice ao len cap] w fun e w' => (∃ u x, e = .returned u ∧ WalO w' w.heap.size u x ∧ x.ents.length ≤ 63 ∧ (∀ y ∈ x.ents, y.data.size ≤ 1000)) ∧ Below w.heap.size w w' := by
 have hal : Below w.heap.size w (w.alloc (.cells #[.int .i64 0, .int .i64 0, .int .i64 0, .int .i64 0, .slice none 0 0] 26)) := (Below.refl _ _).alloc (Nat.le_refl _) _
 have c0 := new_any (w.alloc (.cells #[.int .i64 0, .int .i64 0, .int .i64 0, .int .i64 0, .slice none 0 0] 26)) ao len cap cs hl (h.on hal)
 have R0 : Hid (Blk (w.alloc (.cells #[.int .i64 0, .int .i64 0, .int .i64 0, .int .i64 0, .slice none 0 0] 26)) w.heap.size #[.int .i64 0, .int .i64 0, .int .i64 0, .int .i64 0, .slice none 0 0] 26) := Blk.new w _ _
 have B0 : Hid (Below w.heap.size w (w.alloc (.cells #[.int .i64 0, .int .i64 0, .int .i64 0, .int .i64 0, .slice none 0 0] 26))) := hal
 have HZ : Hid (w.heap.size < (w.alloc (.cells #[.int .i64 0, .int .i64 0, .int .i64 0, .int .i64 0, .slice none 0 0] 26)).heap.size) := by unfold Hid; simp
 clear h hal
 go_enter Tryd.func5, Tryd.ntmps5
 go_wp2_with fail
 generalize w.alloc (.cells #[.int .i64 0, .int .i64 0, .int .i64 0, .int .i64 0, .slice none 0 0] 26) = w0 at *
 refine c0.mono ?_
 rintro e w1 ⟨rfl, hA, hb⟩
 have A1 : Hid (AtS w1 w0.heap.size) := ⟨_, _, _, _, _, hA⟩
 have B1 : Hid (Below w.heap.size w w1) := B0.out.trans (hb.mono B0.out.size)
 have R1 : Hid (Blk w1 w.heap.size #[.int .i64 0, .int .i64 0, .int .i64 0, .int .i64 0, .slice none 0 0] 26) := R0.out.on hb R0.out.lt
 clear hA hb c0
 go_wp2_with fail
 refine (anyWal_any w1 w0.heap.size A1.out).mono ?_
 rintro e w2 ⟨uw, ⟨t, v, b, bt, es⟩, rfl, ⟨ue, rfl, hO⟩, hn, hd, -, hA, hm⟩
 dsimp only at hO hn hd
 obtain ⟨Ae, me, ce, rfl⟩ := hO.shape
 have B2 : Hid (Below w.heap.size w w2) := B1.out.trans ((hm.mono B1.out.size).below (Nat.le_of_lt HZ.out))
 have r0 : Blk w2 w.heap.size #[.int .i64 0, .int .i64 0, .int .i64 0, .int .i64 0, .slice none 0 0] 26 := R1.out.mod hm R1.out.lt (by have := HZ.out; omega)
 have r1 := r0.set 0 (.int .i64 t)
 have r2 := r1.set 1 (.int .i64 v)
 have r3 := r2.set 2 (.int .i64 b)
 have r4 := r3.set 3 (.int .i64 bt)
 have r5 := r4.set 4 (.slice Ae me ce)
 have y0 := r0.cell 0 _ rfl
 have y1 := r1.cell 1 _ rfl
 have y2 := r2.cell 2 _ rfl
 have y3 := r3.cell 3 _ rfl
 have y4 := r4.cell 4 _ rfl
 have f0 := r0.free 0
 have f1 := r1.free 1
 have f2 := r2.free 2
 have f3 := r3.free 3
 have f4 := r4.free 4
 have x0 := r5.cell 0 (.int .i64 t) rfl
 have x1 := r5.cell 1 (.int .i64 v) rfl
 have x2 := r5.cell 2 (.int .i64 b) rfl
 have x3 := r5.cell 3 (.int .i64 bt) rfl
 have x4 := r5.cell 4 (.slice Ae me ce) rfl
 have hne := hO.notBlk r0 (by decide)
 have OF : Hid (Owns (((((w2.setCell ⟨w.heap.size, 0, none⟩ (.int .i64 t)).setCell ⟨w.heap.size, 1, none⟩ (.int .i64 v)).setCell ⟨w.heap.size, 2, none⟩ (.int .i64 b)).setCell ⟨w.heap.size, 3, none⟩ (.int .i64 bt)).setCell ⟨w.heap.size, 4, none⟩ (.slice Ae me ce)) w.heap.size 61 2 (.slice Ae me ce) (entR es)) := (((((hO.mono B1.out.size).other hne _ _).other hne _ _).other hne _ _).other hne _ _).other hne _ _
 have BF : Hid (Below w.heap.size w (((((w2.setCell ⟨w.heap.size, 0, none⟩ (.int .i64 t)).setCell ⟨w.heap.size, 1, none⟩ (.int .i64 v)).setCell ⟨w.heap.size, 2, none⟩ (.int .i64 b)).setCell ⟨w.heap.size, 3, none⟩ (.int .i64 bt)).setCell ⟨w.heap.size, 4, none⟩ (.slice Ae me ce))) := ((((B2.out.setCell (Nat.le_refl _) _).setCell (Nat.le_refl _) _).setCell (Nat.le_refl _) _).setCell (Nat.le_refl _) _).setCell (Nat.le_refl _) _
 have HN : Hid (es.length ≤ 63 ∧ ∀ y ∈ es, y.data.size ≤ 1000) := ⟨hn, hd⟩
 clear r0 r1 r2 r3 r4 r5 hO hne hA hm hn hd
 go_wp2_with fail
 exact bodyPost_ret (v := .agg #[.int .i64 t, .int .i64 v, .int .i64 b, .int .i64 bt, .slice Ae me ce]) (by simp [results, Tryd.f5, go_sem, x0, x1, x2, x3, x4]) rfl ⟨⟨_, ⟨t, v, b, bt, es⟩, rfl, ⟨_, rfl, OF.out⟩, HN.out.1, HN.out.2⟩, BF.out⟩
end Go.Proofs.YtgillglkmnocaaaDoor
namespace Go.Proofs.YtgillglkmnocaaaDoor
open Go.ChangeShapes Go.WideShapes Go.ChangeAt Go.RowKit Go.PlainAid
set_option linter.unusedVariables false
set_option maxHeartbeats 2000000 in
theorem sameEnts (l : List Ent) (va vb : Value) (w : World) (B : Nat) (ha : Lies w B 2 va (entR l)) (hb : Lies w B 2 vb (entR l)) (hn : l.length ≤ 1048576) :
  Calls Tryd.prog 10 #[va, vb] w fun e w' => e = .returned (.bool true) ∧ Like w w' := by
 obtain ⟨A, cap, rfl, hl⟩ := ent_look ha
 obtain ⟨A', cap', rfl, hl'⟩ := ent_look hb
 have HL : Hid (∀ j, j < l.length → ∃ g off, A = some ⟨g, off, none⟩ ∧ g < B ∧ _) := hl
 have HL' : Hid (∀ j, j < l.length → ∃ g off, A' = some ⟨g, off, none⟩ ∧ g < B ∧ _) := hl'
 have q1 : (l.length : Int) ≤ 1048576 := by omega
 clear hl hl' ha hb hn
 generalize hN : l.length = n at *
 clear hN
 go_enter Tryd.func10, Tryd.ntmps10
 go_wp2_with fail
 go_loopw [5] (fun v5 wr => ∃ k : Nat, k ≤ n ∧ v5 = .int .i64 (k : Int) ∧ Like w wr) (fun i _ => n - (intOf i).toNat)
 case atStart => exact ⟨0, by omega, rfl, Like.refl _⟩
 case round =>
  obtain ⟨k, hk, rfl, hLk⟩ := hrel
  have HLk : Hid (Like w wr) := hLk
  by_cases hlt : k < n
  ·have q4 : (k : Int) < (n : Int) := by omega
   obtain ⟨g, off, rfl, hg, a0, a1⟩ := HL.out k hlt
   obtain ⟨g', off', rfl, hg', b0, b1⟩ := HL'.out k hlt
   rw [← cell?_heap hLk.1] at a0 a1 b0 b1
   generalize (l.getD k default).term = xt at *
   generalize (l.getD k default).data = xd at *
   have S0 : Hid (wr.drew.cell? ⟨g, off + k * 2, none⟩ = some (.int .i64 xt) ∧ wr.drew.cell? ⟨g, off + k * 2 + 1, none⟩ = some (.string xd) ∧ wr.drew.cell? ⟨g', off' + k * 2, none⟩ = some (.int .i64 xt) ∧ wr.drew.cell? ⟨g', off' + k * 2 + 1, none⟩ = some (.string xd)) := ⟨a0, a1, b0, b1⟩
   have hx : (xd.toList == xd.toList) = true := by simp
   clear a0 a1 b0 b1 hg hg' hLk
   go_wp2_with fail
   refine wp_region_until (fun w' => w'.cell? ⟨g, off + k * 2, none⟩ = some (.int .i64 xt) ∧ w'.cell? ⟨g, off + k * 2 + 1, none⟩ = some (.string xd) ∧ w'.cell? ⟨g', off' + k * 2, none⟩ = some (.int .i64 xt) ∧ w'.cell? ⟨g', off' + k * 2 + 1, none⟩ = some (.string xd)) (fun _ => false) 9 (by rfl) (by kernel_rfl) ?_
   refine until_pure 0 (v := ?_) (by rfl) (by kernel_rfl) (by exact fun _ _ _ h => h) (by rfl) ?_ ?_
   rotate_left
   ·intro w
    go_simp
    try with_reducible rfl
   try simp only [Act.put, setIfInBounds_toArray, set_cons_zero, set_cons_succ]
   refine until_pure 1 (v := ?_) (by rfl) (by kernel_rfl) (by exact fun _ _ _ h => h) (by rfl) ?_ ?_
   rotate_left
   ·intro w
    go_simp
    try with_reducible rfl
   try simp only [Act.put, setIfInBounds_toArray, set_cons_zero, set_cons_succ]
   refine until_pure 2 (v := ?_) (by rfl) (by kernel_rfl) (by exact fun _ _ _ h => h) (by rfl) ?_ ?_
   rotate_left
   ·intro w
    go_simp
    try with_reducible rfl
   try simp only [Act.put, setIfInBounds_toArray, set_cons_zero, set_cons_succ]
   refine until_take 3 (v := ?_) (by rfl) (by kernel_rfl) (by exact fun _ _ _ h => h) (by rfl) ?_ S0.out ?_
   rotate_left
   ·intro w hSw
    try dsimp only at hSw
    go_simp
    try with_reducible rfl
   try simp only [Act.put, setIfInBounds_toArray, set_cons_zero, set_cons_succ]
   refine until_pure 4 (v := ?_) (by rfl) (by kernel_rfl) (by exact fun _ _ _ h => h) (by rfl) ?_ ?_
   rotate_left
   ·intro w
    go_simp
    try with_reducible rfl
   try simp only [Act.put, setIfInBounds_toArray, set_cons_zero, set_cons_succ]
   refine until_pure 5 (v := ?_) (by rfl) (by kernel_rfl) (by exact fun _ _ _ h => h) (by rfl) ?_ ?_
   rotate_left
   ·intro w
    go_simp
    try with_reducible rfl
   try simp only [Act.put, setIfInBounds_toArray, set_cons_zero, set_cons_succ]
   refine until_pure 6 (v := ?_) (by rfl) (by kernel_rfl) (by exact fun _ _ _ h => h) (by rfl) ?_ ?_
   rotate_left
   ·intro w
    go_simp
    try with_reducible rfl
   try simp only [Act.put, setIfInBounds_toArray, set_cons_zero, set_cons_succ]
   refine until_take 7 (v := ?_) (by rfl) (by kernel_rfl) (by exact fun _ _ _ h => h) (by rfl) ?_ S0.out ?_
   rotate_left
   ·intro w hSw
    try dsimp only at hSw
    go_simp
    try with_reducible rfl
   try simp only [Act.put, setIfInBounds_toArray, set_cons_zero, set_cons_succ]
   refine until_pure 8 (v := ?_) (by rfl) (by kernel_rfl) (by exact fun _ _ _ h => h) (by rfl) ?_ ?_
   rotate_left
   ·intro w
    go_simp
    try with_reducible rfl
   try simp only [Act.put, setIfInBounds_toArray, set_cons_zero, set_cons_succ]
   refine until_done (by kernel_rfl) ?_ _
   go_wp2_with fail
   go_roundw
   case rel => exact ⟨k + 1, by omega, by go_num, HLk.out⟩
   case measure => simp [intOf]; omega
  ·obtain rfl : k = n := by omega
   go_wp2_with fail
   go_ret
   exact ⟨rfl, hLk⟩
set_option maxHeartbeats 2000000 in
theorem sameW (x : Wl) (va vb : Value) (w : World) (B : Nat) (ha : WalV w B va x) (hb : WalV w B vb x) (hB : B ≤ w.heap.size) (hn : x.ents.length ≤ 1048576) :
  Calls Tryd.prog 9 #[va, vb] w fun e w' => e = .returned (.bool true) ∧ Below w.heap.size w w' := by
 obtain ⟨ua, rfl, hla⟩ := ha
 obtain ⟨ub, rfl, hlb⟩ := hb
 obtain ⟨A, cap, rfl, -⟩ := ent_look hla
 obtain ⟨A', cap', rfl, -⟩ := ent_look hlb
 have hb2 : Below w.heap.size w ((w.alloc (.cells #[.int .i64 x.term, .int .i64 x.vote, .int .i64 x.base, .int .i64 x.bterm, .slice A x.ents.length cap] 26)).alloc (.cells #[.int .i64 x.term, .int .i64 x.vote, .int .i64 x.base, .int .i64 x.bterm, .slice A' x.ents.length cap'] 26)) := ((Below.refl _ w).alloc (Nat.le_refl _) _).alloc (by simp) _
 have cS := sameEnts x.ents _ _ _ B (hla.on (hb2.mono hB)) (hlb.on (hb2.mono hB)) hn
 have B2 : Hid (Below w.heap.size w ((w.alloc (.cells #[.int .i64 x.term, .int .i64 x.vote, .int .i64 x.base, .int .i64 x.bterm, .slice A x.ents.length cap] 26)).alloc (.cells #[.int .i64 x.term, .int .i64 x.vote, .int .i64 x.base, .int .i64 x.bterm, .slice A' x.ents.length cap'] 26))) := hb2
 clear hb2 hla hlb
 obtain ⟨xt, xv, xb, xbt, xe⟩ := x
 dsimp only at *
 generalize hN : xe.length = n at *
 clear hN hn
 go_enter Tryd.func9, Tryd.ntmps9
 go_wp2_with fail
 refine cS.mono ?_
 rintro e w1 ⟨rfl, hL⟩
 have B3 : Hid (Below w.heap.size w w1) := B2.out.trans (hL.below.mono B2.out.size)
 clear hL
 go_wp2_with fail
 go_ret
 exact ⟨rfl, B3.out⟩
end Go.Proofs.YtgillglkmnocaaaDoor
namespace Go.Proofs.YtgillglkmnocaaaDoor
open Go.ChangeShapes Go.WideShapes Go.ChangeAt Go.RowKit Go.PlainAid
set_option linter.unusedVariables false
theorem Owns.apartB {w : World} {base g : Nat} {v : Value} {rows : List (List Value)} {cs : Array Value} {t : TypeId} (h : Owns w base 47 1 v rows) (hb : Blk w g cs t) (hne : 47 ≠ t) : v.ownBlock ≠ some g := by
 intro hg
 obtain ⟨c, fz, e1⟩ := Lib.ownsRow_kind h.2 g hg
 unfold Blk at hb
 rw [e1] at hb
 cases hb
 exact hne rfl
theorem take_snoc (l : List Rcd) (k : Nat) (hk : k < l.length) : l.take (k + 1) = l.take k ++ [l.getD k ⟨0, 0, 0, 0, ByteArray.empty⟩] := by
 rw [List.getD_eq_getElem?_getD, List.getElem?_eq_getElem hk]
 exact List.take_succ_eq_append_getElem hk
set_option maxRecDepth 20000 in
set_option maxHeartbeats 8000000 in
theorem implWalText (x : Wl) (v : Value) (w : World) (B : Nat) (hv : WalV w B v x) (hf : FitsW x) (hB : B ≤ w.heap.size) (ht : SumTab w) : Calls Tryd.prog 6 #[v] w fun e w' => e = .returned (.string (walT x)) ∧ Below w.heap.size w w' := by
 have HV : Hid (WalV w B v x) := hv
 have HB : Hid (B ≤ w.heap.size) := hB
 have HT : Hid (SumTab w) := ht
 have cO := fun wx hx hb => implWalOk x v wx B hx hf hb
 have HE : Hid (walT x = if walOk x = true then catF (walRecs x) else ⟨#[]⟩) := rfl
 obtain ⟨u, rfl, _⟩ := hv
 clear ht hB hf
 have b0 : Below w.heap.size w (w.alloc (.cells #[.int .i64 x.term, .int .i64 x.vote, .int .i64 x.base, .int .i64 x.bterm, u] 26)) := (Below.refl _ _).alloc (Nat.le_refl _) _
 have k0 := Blk.new w #[.int .i64 x.term, .int .i64 x.vote, .int .i64 x.base, .int .i64 x.bterm, u] 26
 cases ho : walOk x
 ·rw [ho] at cO HE
  clear ho
  go_enter Tryd.func6, Tryd.ntmps6
  go_wp2_with fail
  generalize w.alloc (.cells #[.int .i64 x.term, .int .i64 x.vote, .int .i64 x.base, .int .i64 x.bterm, u] 26) = W at *
  refine (cO W (HV.out.on (b0.mono HB.out)) (Nat.le_trans HB.out b0.size)).mono ?_
  rintro e w1 ⟨rfl, hb1⟩
  have B1 : Hid (Below w.heap.size w w1) := b0.trans (hb1.mono b0.size)
  clear hb1 cO k0 b0
  go_wp2_with fail
  go_ret
  exact ⟨by rw [HE.out]; rfl, B1.out⟩
 obtain ⟨n60, ⟨base0, base1⟩, hdd⟩ := ok_in x ho
 have HLR : Hid (∀ r ∈ walRecs x, LogRec r) := walRecs_log x hdd
 have HWL : Hid ((walRecs x).length ≤ 62) := by unfold Hid; rw [walRecs_length]; omega
 have HE : Hid (walT x = catF (walRecs x)) := by unfold Hid; rw [HE.out, ho]; rfl
 have cE := fun wx hx hb => entriesV x (.agg #[.int .i64 x.term, .int .i64 x.vote, .int .i64 x.base, .int .i64 x.bterm, u]) wx B hx n60 base0 base1 hb
 have HM : Hid (kindR (walRecs x) = [[.iface 38 (.agg #[.int .i64 x.base, .int .i64 x.bterm])], [.iface 40 (.agg #[.int .i64 x.term, .int .i64 x.vote])]] ++ kindR (entRecs x x.ents.length)) := by
  unfold Hid walRecs
  rw [kindR_append]
  rfl
 have HME : Hid ((kindR (entRecs x x.ents.length)).length ≤ 60) := by unfold Hid; rw [kindR_length, entRecs_length]; exact n60
 have HONE : Hid (∀ r ∈ kindR (entRecs x x.ents.length), ∀ y ∈ r, y.oneCell' = true) := by
  intro r hr y hy
  obtain ⟨q, hq, rfl⟩ := List.mem_map.1 hr
  obtain ⟨i, _, rfl⟩ := List.mem_map.1 hq
  simp only [List.mem_cons, List.not_mem_nil, or_false] at hy
  subst hy
  rw [kindV_at]
  rfl
 rw [ho] at cO
 clear ho hdd n60 base0 base1
 go_enter Tryd.func6, Tryd.ntmps6
 go_wp2_with fail
 generalize w.alloc (.cells #[.int .i64 x.term, .int .i64 x.vote, .int .i64 x.base, .int .i64 x.bterm, u] 26) = W at *
 refine (cO W (HV.out.on (b0.mono HB.out)) (Nat.le_trans HB.out b0.size)).mono ?_
 rintro e w1 ⟨rfl, hb1⟩
 have B1 : Hid (Below w.heap.size w w1) := b0.trans (hb1.mono b0.size)
 have K1 : Hid (Blk w1 w.heap.size #[.int .i64 x.term, .int .i64 x.vote, .int .i64 x.base, .int .i64 x.bterm, u] 26) := k0.on hb1 k0.lt
 clear hb1 cO k0 b0
 have e0 := K1.out.cell 0 (.int .i64 x.term) rfl
 have e1 := K1.out.cell 1 (.int .i64 x.vote) rfl
 have e2 := K1.out.cell 2 (.int .i64 x.base) rfl
 have e3 := K1.out.cell 3 (.int .i64 x.bterm) rfl
 have K2 : Hid (Blk (w1.alloc (.cells #[.iface 38 (.agg #[.int .i64 x.base, .int .i64 x.bterm]), .iface 40 (.agg #[.int .i64 x.term, .int .i64 x.vote])] 47)) w.heap.size #[.int .i64 x.term, .int .i64 x.vote, .int .i64 x.base, .int .i64 x.bterm, u] 26) := K1.out.alloc _
 have K3 : Hid (Blk ((w1.alloc (.cells #[.iface 38 (.agg #[.int .i64 x.base, .int .i64 x.bterm]), .iface 40 (.agg #[.int .i64 x.term, .int .i64 x.vote])] 47)).alloc (.cells #[.pointer none, .slice none 0 0] 44)) w.heap.size #[.int .i64 x.term, .int .i64 x.vote, .int .i64 x.base, .int .i64 x.bterm, u] 26) := K2.out.alloc _
 have f0 := K3.out.cell 0 (.int .i64 x.term) rfl
 have f1 := K3.out.cell 1 (.int .i64 x.vote) rfl
 have f2 := K3.out.cell 2 (.int .i64 x.base) rfl
 have f3 := K3.out.cell 3 (.int .i64 x.bterm) rfl
 have f4 := K3.out.cell 4 u rfl
 go_wp2_with fail
 have O2 := Owns.two w1 (.iface 38 (.agg #[.int .i64 x.base, .int .i64 x.bterm])) (.iface 40 (.agg #[.int .i64 x.term, .int .i64 x.vote]))
 have P3 := Blk.new (w1.alloc (.cells #[.iface 38 (.agg #[.int .i64 x.base, .int .i64 x.bterm]), .iface 40 (.agg #[.int .i64 x.term, .int .i64 x.vote])] 47)) #[.pointer none, .slice none 0 0] 44
 have B3 : Hid (Below w.heap.size w ((w1.alloc (.cells #[.iface 38 (.agg #[.int .i64 x.base, .int .i64 x.bterm]), .iface 40 (.agg #[.int .i64 x.term, .int .i64 x.vote])] 47)).alloc (.cells #[.pointer none, .slice none 0 0] 44))) := (B1.out.alloc B1.out.size _).alloc (Nat.le_trans B1.out.size (by simp)) _
 have O3 : Hid (Owns ((w1.alloc (.cells #[.iface 38 (.agg #[.int .i64 x.base, .int .i64 x.bterm]), .iface 40 (.agg #[.int .i64 x.term, .int .i64 x.vote])] 47)).alloc (.cells #[.pointer none, .slice none 0 0] 44)) w1.heap.size 47 1 _ _) := O2.alloc _
 have GG : Hid (w1.heap.size < w1.heap.size + 1) := Nat.lt_succ_self _
 have GW1 : Hid (w.heap.size < w1.heap.size) := K1.out.lt
 simp only [World.size_alloc] at P3
 clear e0 e1 e2 e3 f0 f1 f2 f3 f4 K2 K1 O2 B1
 generalize (w1.alloc (.cells #[.iface 38 (.agg #[.int .i64 x.base, .int .i64 x.bterm]), .iface 40 (.agg #[.int .i64 x.term, .int .i64 x.vote])] 47)).alloc (.cells #[.pointer none, .slice none 0 0] 44) = w3 at *
 generalize hgb : w1.heap.size + 1 = gb at *
 generalize w1.heap.size = gl at *
 have BK3 : Hid (Blk w3 gb #[.pointer none, .slice none 0 0] 44) := P3
 clear P3
 refine (cE w3 (HV.out.on (B3.out.mono HB.out)) (Nat.le_trans HB.out B3.out.size)).mono ?_
 rintro e w4 ⟨ue, rfl, hOe, hb4⟩
 have B4 : Hid (Below w.heap.size w w4) := B3.out.trans (hb4.mono B3.out.size)
 have BK4 : Hid (Blk w4 gb #[.pointer none, .slice none 0 0] 44) := BK3.out.on hb4 BK3.out.lt
 have O4 : Hid (Owns w4 gl 47 1 (.slice (some ⟨gl, 0, none⟩) 2 2) [[.iface 38 (.agg #[.int .i64 x.base, .int .i64 x.bterm])], [.iface 40 (.agg #[.int .i64 x.term, .int .i64 x.vote])]]) := O3.out.on hb4
 have LE : Hid (Lies w4 w4.heap.size 1 ue (kindR (entRecs x x.ents.length))) := hOe.lies
 have G4 : Hid (gl ≤ w4.heap.size) := by have := BK4.out.lt; unfold Hid; omega
 clear hb4 hOe B3 K3 BK3 O3 cE
 have qn0 : ((walRecs x).length : Int) ≤ 62 := by have := HWL.out; omega
 go_wp2_with (at_builtin; refine wpList_append_all rfl (.tmp 23) (.tmp 25) 41 47 .nilIface 1 16 rfl Tryd.underlying41 Tryd.infoRec rfl (by omega) gl _ ue [[.iface 38 (.agg #[.int .i64 x.base, .int .i64 x.bterm])], [.iface 40 (.agg #[.int .i64 x.term, .int .i64 x.vote])]] (kindR (entRecs x x.ents.length)) w4.heap.size rfl O4.out LE.out HONE.out rfl (by have := HME.out; simp only [List.length_cons, List.length_nil]; omega) (by omega) G4.out ?_; intro lv w5 hO5 hb5 hk5 hw5; rw [← HM.out] at hO5; obtain ⟨lA, lc, rfl, hlook⟩ := kind_look hO5)
 have OL5 : Hid (Owns w5 gl 47 1 (.slice lA (walRecs x).length lc) (kindR (walRecs x))) := hO5
 have BK5 : Hid (Blk w5 gb #[.pointer none, .slice none 0 0] 44) := by
  unfold Hid Blk
  rw [hk5 gb BK4.out.lt (O4.out.apartB BK4.out (by decide))]
  exact BK4.out
 have B5 : Hid (Below w.heap.size w w5) := B4.out.trans (hb5.mono (Nat.le_of_lt GW1.out))
 have GW : Hid (w.heap.size ≤ gb) := by have := GW1.out; unfold Hid; omega
 clear hO5 hb5 hk5 hw5 B4 BK4 O4 LE G4
 clear hlook
 have HNB : Hid ((Value.slice lA (walRecs x).length lc).ownBlock ≠ some gb) := OL5.out.apartB BK5.out (by decide)
 have st : Below w.heap.size w w5 ∧ Lib.IsBuilderF 44 5 gb gb (Lib.strCells (catF ((walRecs x).take 0))) w5 ∧ Owns w5 gl 47 1 (.slice lA (walRecs x).length lc) (kindR (walRecs x)) ∧ gb ≤ w5.heap.size := ⟨B5.out, bld_new BK5.out, OL5.out, Nat.le_of_lt BK5.out.lt⟩
 clear B5 OL5 BK5 GG
 generalize hN : (walRecs x).length = n at *
 have qn : (n : Int) ≤ 62 := by have := HWL.out; omega
 have NB : Hid ((Value.slice lA n lc).ownBlock ≠ some gb) := HNB.out
 clear HNB
 generalize hlm : n = lm at *
 go_loopw [28] (fun v28 wr => ∃ k : Nat, k ≤ lm ∧ v28 = .int .i64 (k : Int) ∧ Below w.heap.size w wr ∧ Lib.IsBuilderF 44 5 gb gb (Lib.strCells (catF ((walRecs x).take k))) wr ∧ Owns wr gl 47 1 (.slice lA lm lc) (kindR (walRecs x)) ∧ gb ≤ wr.heap.size) (fun i _ => lm - (intOf i).toNat)
 case atStart => exact ⟨0, by omega, rfl, st⟩
 case round =>
  obtain ⟨k, hk, rfl, hBR, hBL, hOL, hZR⟩ := hrel
  have BR : Hid (Below w.heap.size w wr) := hBR
  have BL : Hid (Lib.IsBuilderF 44 5 gb gb (Lib.strCells (catF ((walRecs x).take k))) wr) := hBL
  have OL : Hid (Owns wr gl 47 1 (.slice lA lm lc) (kindR (walRecs x))) := hOL
  have ZR : Hid (gb ≤ wr.heap.size) := hZR
  clear hBR hBL hOL hZR st
  by_cases hlt : k < lm
  ·have q4 : (k : Int) < (lm : Int) := by omega
   obtain ⟨A', cap', e', hlook⟩ := kind_look OL.out
   injection e' with ea eb ec
   subst ea
   subst ec
   obtain ⟨g, rfl, hcell⟩ := hlook k (by omega)
   have hlog := HLR.out ((walRecs x).getD k ⟨0, 0, 0, 0, ByteArray.empty⟩) (by rw [List.getD_eq_getElem?_getD, List.getElem?_eq_getElem (show k < (walRecs x).length by omega)]; exact List.getElem_mem _)
   have HC : Hid (catF ((walRecs x).take (k + 1)) = catF ((walRecs x).take k) ++ frame (showR ((walRecs x).getD k ⟨0, 0, 0, 0, ByteArray.empty⟩))) := by
    unfold Hid
    rw [take_snoc _ _ (by omega), catF_snoc]
   have hcs := catF_size ((walRecs x).take k)
   have htl : ((walRecs x).take k).length ≤ 62 := by rw [List.length_take]; have := HWL.out; omega
   generalize (walRecs x).getD k ⟨0, 0, 0, 0, ByteArray.empty⟩ = r at *
   have HSZ : Hid ((showR r).size ≤ 1048576) := by have := showR_size r hlog.d; unfold Hid; omega
   have HLW : Hid ((Lib.strCells (catF ((walRecs x).take k))).length + (frame (showR r)).size ≤ 140737488355328) := by
    unfold Hid
    rw [Lib.strCells_length]
    have := frame_size (showR r)
    omega
   clear htl hcs hlook eb
   obtain ⟨rk, rt, ri, rv, rd⟩ := r
   rcases hlog.k with ⟨hk1, hk2, hk3⟩ | ⟨hk1, hk2, hk3⟩ | ⟨hk1, hk2⟩
   ·simp only at hk1 hk2 hk3
    subst hk1
    subst hk2
    subst hk3
    have hkv : kindV ⟨4, rt, ri, 0, ⟨#[]⟩⟩ = .iface 38 (.agg #[.int .i64 ri, .int .i64 rt]) := rfl
    rw [hkv] at hcell
    have cM := fun wx => baseRec ri rt wx
    have cSh : ∀ wx, Calls Tryd.prog 17 #[.agg #[.int .i64 4, .int .i64 rt, .int .i64 ri, .int .i64 0, .string ⟨#[]⟩]] wx fun e w' => e = .returned (.string (showR ⟨4, rt, ri, 0, ⟨#[]⟩⟩)) ∧ Below wx.heap.size wx w' := fun wx => implShowRec ⟨4, rt, ri, 0, ⟨#[]⟩⟩ wx (Nat.zero_le _)
    clear hkv hlog
    generalize showR ⟨4, rt, ri, 0, ⟨#[]⟩⟩ = sr at *
    go_wp2_with fail
    refine (cM _).mono ?_
    rintro e w6 ⟨rfl, hb6⟩
    have B6 : Hid (Below w.heap.size w w6) := BR.out.trans (hb6.mono BR.out.size)
    have L6 : Hid (Lib.IsBuilderF 44 5 gb gb _ w6) := bld_on BL.out hb6
    have O6 : Hid (Owns w6 gl 47 1 (.slice (some ⟨g, 0, none⟩) lm lc) (kindR (walRecs x))) := OL.out.on hb6
    have Z6 : Hid (gb ≤ w6.heap.size) := Nat.le_trans ZR.out hb6.size
    clear hb6
    go_wp2_with fail
    refine (cSh w6).mono ?_
    rintro e w7 ⟨rfl, hb7⟩
    have B7 : Hid (Below w.heap.size w w7) := B6.out.trans (hb7.mono B6.out.size)
    have L7 : Hid (Lib.IsBuilderF 44 5 gb gb _ w7) := bld_on L6.out hb7
    have O7 : Hid (Owns w7 gl 47 1 (.slice (some ⟨g, 0, none⟩) lm lc) (kindR (walRecs x))) := O6.out.on hb7
    have Z7 : Hid (gb ≤ w7.heap.size) := Nat.le_trans Z6.out hb7.size
    clear hb7
    go_wp2_with fail
    refine (impl_frame sr w7 HSZ.out (HT.out.on B7.out)).mono ?_
    rintro e w8 ⟨rfl, hb8⟩
    have B8 : Hid (Below w.heap.size w w8) := B7.out.trans (hb8.mono B7.out.size)
    have L8 : Hid (Lib.IsBuilderF 44 5 gb gb _ w8) := bld_on L7.out hb8
    have O8 : Hid (Owns w8 gl 47 1 (.slice (some ⟨g, 0, none⟩) lm lc) (kindR (walRecs x))) := O7.out.on hb8
    have Z8 : Hid (gb ≤ w8.heap.size) := Nat.le_trans Z7.out hb8.size
    clear hb8
    go_wp2_with fail
    refine (bldWrite gb gb _ (frame sr) w8 L8.out HLW.out Z8.out).mono ?_
    rintro e w9 ⟨rfl, hB9, hb9, hk9⟩
    have B9 : Hid (Below w.heap.size w w9) := B8.out.trans (hb9.mono GW.out)
    have L9 : Hid (Lib.IsBuilderF 44 5 gb gb (Lib.strCells (catF ((walRecs x).take (k + 1)))) w9) := by
     unfold Hid
     rw [HC.out, strCells_append]
     exact .inr hB9
    have O9 : Hid (Owns w9 gl 47 1 (.slice (some ⟨g, 0, none⟩) lm lc) (kindR (walRecs x))) := O8.out.others hk9 (NB.out)
    have Z9 : Hid (gb ≤ w9.heap.size) := Nat.le_trans Z8.out hb9.size
    clear hb9 hk9 hB9
    go_wp2_with fail
    go_roundw
    case rel => exact ⟨k + 1, by omega, by go_num, B9.out, L9.out, O9.out, Z9.out⟩
    case measure => simp [intOf]; omega
   ·simp only at hk1 hk2 hk3
    subst hk1
    subst hk2
    subst hk3
    have hkv : kindV ⟨1, rt, 0, rv, ⟨#[]⟩⟩ = .iface 40 (.agg #[.int .i64 rt, .int .i64 rv]) := rfl
    rw [hkv] at hcell
    have cM := fun wx => hardRec rt rv wx
    have cSh : ∀ wx, Calls Tryd.prog 17 #[.agg #[.int .i64 1, .int .i64 rt, .int .i64 0, .int .i64 rv, .string ⟨#[]⟩]] wx fun e w' => e = .returned (.string (showR ⟨1, rt, 0, rv, ⟨#[]⟩⟩)) ∧ Below wx.heap.size wx w' := fun wx => implShowRec ⟨1, rt, 0, rv, ⟨#[]⟩⟩ wx (Nat.zero_le _)
    clear hkv hlog
    generalize showR ⟨1, rt, 0, rv, ⟨#[]⟩⟩ = sr at *
    go_wp2_with fail
    refine (cM _).mono ?_
    rintro e w6 ⟨rfl, hb6⟩
    have B6 : Hid (Below w.heap.size w w6) := BR.out.trans (hb6.mono BR.out.size)
    have L6 : Hid (Lib.IsBuilderF 44 5 gb gb _ w6) := bld_on BL.out hb6
    have O6 : Hid (Owns w6 gl 47 1 (.slice (some ⟨g, 0, none⟩) lm lc) (kindR (walRecs x))) := OL.out.on hb6
    have Z6 : Hid (gb ≤ w6.heap.size) := Nat.le_trans ZR.out hb6.size
    clear hb6
    go_wp2_with fail
    refine (cSh w6).mono ?_
    rintro e w7 ⟨rfl, hb7⟩
    have B7 : Hid (Below w.heap.size w w7) := B6.out.trans (hb7.mono B6.out.size)
    have L7 : Hid (Lib.IsBuilderF 44 5 gb gb _ w7) := bld_on L6.out hb7
    have O7 : Hid (Owns w7 gl 47 1 (.slice (some ⟨g, 0, none⟩) lm lc) (kindR (walRecs x))) := O6.out.on hb7
    have Z7 : Hid (gb ≤ w7.heap.size) := Nat.le_trans Z6.out hb7.size
    clear hb7
    go_wp2_with fail
    refine (impl_frame sr w7 HSZ.out (HT.out.on B7.out)).mono ?_
    rintro e w8 ⟨rfl, hb8⟩
    have B8 : Hid (Below w.heap.size w w8) := B7.out.trans (hb8.mono B7.out.size)
    have L8 : Hid (Lib.IsBuilderF 44 5 gb gb _ w8) := bld_on L7.out hb8
    have O8 : Hid (Owns w8 gl 47 1 (.slice (some ⟨g, 0, none⟩) lm lc) (kindR (walRecs x))) := O7.out.on hb8
    have Z8 : Hid (gb ≤ w8.heap.size) := Nat.le_trans Z7.out hb8.size
    clear hb8
    go_wp2_with fail
    refine (bldWrite gb gb _ (frame sr) w8 L8.out HLW.out Z8.out).mono ?_
    rintro e w9 ⟨rfl, hB9, hb9, hk9⟩
    have B9 : Hid (Below w.heap.size w w9) := B8.out.trans (hb9.mono GW.out)
    have L9 : Hid (Lib.IsBuilderF 44 5 gb gb (Lib.strCells (catF ((walRecs x).take (k + 1)))) w9) := by
     unfold Hid
     rw [HC.out, strCells_append]
     exact .inr hB9
    have O9 : Hid (Owns w9 gl 47 1 (.slice (some ⟨g, 0, none⟩) lm lc) (kindR (walRecs x))) := O8.out.others hk9 (NB.out)
    have Z9 : Hid (gb ≤ w9.heap.size) := Nat.le_trans Z8.out hb9.size
    clear hb9 hk9 hB9
    go_wp2_with fail
    go_roundw
    case rel => exact ⟨k + 1, by omega, by go_num, B9.out, L9.out, O9.out, Z9.out⟩
    case measure => simp [intOf]; omega
   ·simp only at hk1 hk2
    subst hk1
    subst hk2
    have hkv : kindV ⟨2, rt, ri, 0, rd⟩ = .iface 77 (.agg #[.int .i64 ri, .int .i64 rt, .string rd]) := rfl
    rw [hkv] at hcell
    have cM := fun wx => entryRec ri rt rd wx
    have cSh : ∀ wx, Calls Tryd.prog 17 #[.agg #[.int .i64 2, .int .i64 rt, .int .i64 ri, .int .i64 0, .string rd]] wx fun e w' => e = .returned (.string (showR ⟨2, rt, ri, 0, rd⟩)) ∧ Below wx.heap.size wx w' := fun wx => implShowRec ⟨2, rt, ri, 0, rd⟩ wx (Nat.le_trans hlog.d (by omega))
    clear hkv hlog
    generalize showR ⟨2, rt, ri, 0, rd⟩ = sr at *
    go_wp2_with fail
    refine (cM _).mono ?_
    rintro e w6 ⟨rfl, hb6⟩
    have B6 : Hid (Below w.heap.size w w6) := BR.out.trans (hb6.mono BR.out.size)
    have L6 : Hid (Lib.IsBuilderF 44 5 gb gb _ w6) := bld_on BL.out hb6
    have O6 : Hid (Owns w6 gl 47 1 (.slice (some ⟨g, 0, none⟩) lm lc) (kindR (walRecs x))) := OL.out.on hb6
    have Z6 : Hid (gb ≤ w6.heap.size) := Nat.le_trans ZR.out hb6.size
    clear hb6
    go_wp2_with fail
    refine (cSh w6).mono ?_
    rintro e w7 ⟨rfl, hb7⟩
    have B7 : Hid (Below w.heap.size w w7) := B6.out.trans (hb7.mono B6.out.size)
    have L7 : Hid (Lib.IsBuilderF 44 5 gb gb _ w7) := bld_on L6.out hb7
    have O7 : Hid (Owns w7 gl 47 1 (.slice (some ⟨g, 0, none⟩) lm lc) (kindR (walRecs x))) := O6.out.on hb7
    have Z7 : Hid (gb ≤ w7.heap.size) := Nat.le_trans Z6.out hb7.size
    clear hb7
    go_wp2_with fail
    refine (impl_frame sr w7 HSZ.out (HT.out.on B7.out)).mono ?_
    rintro e w8 ⟨rfl, hb8⟩
    have B8 : Hid (Below w.heap.size w w8) := B7.out.trans (hb8.mono B7.out.size)
    have L8 : Hid (Lib.IsBuilderF 44 5 gb gb _ w8) := bld_on L7.out hb8
    have O8 : Hid (Owns w8 gl 47 1 (.slice (some ⟨g, 0, none⟩) lm lc) (kindR (walRecs x))) := O7.out.on hb8
    have Z8 : Hid (gb ≤ w8.heap.size) := Nat.le_trans Z7.out hb8.size
    clear hb8
    go_wp2_with fail
    refine (bldWrite gb gb _ (frame sr) w8 L8.out HLW.out Z8.out).mono ?_
    rintro e w9 ⟨rfl, hB9, hb9, hk9⟩
    have B9 : Hid (Below w.heap.size w w9) := B8.out.trans (hb9.mono GW.out)
    have L9 : Hid (Lib.IsBuilderF 44 5 gb gb (Lib.strCells (catF ((walRecs x).take (k + 1)))) w9) := by
     unfold Hid
     rw [HC.out, strCells_append]
     exact .inr hB9
    have O9 : Hid (Owns w9 gl 47 1 (.slice (some ⟨g, 0, none⟩) lm lc) (kindR (walRecs x))) := O8.out.others hk9 (NB.out)
    have Z9 : Hid (gb ≤ w9.heap.size) := Nat.le_trans Z8.out hb9.size
    clear hb9 hk9 hB9
    go_wp2_with fail
    go_roundw
    case rel => exact ⟨k + 1, by omega, by go_num, B9.out, L9.out, O9.out, Z9.out⟩
    case measure => simp [intOf]; omega
  ·obtain rfl : k = lm := by omega
   have HS : Hid (catF ((walRecs x).take k) = catF (walRecs x)) := by unfold Hid; rw [List.take_of_length_le (by omega)]
   rw [HS.out] at BL
   have cT := bldString gb gb (catF (walRecs x)).data.toList wr BL.out ZR.out
   go_wp2_with fail
   refine cT.mono ?_
   rintro e w9 ⟨rfl, _, hb9, _⟩
   go_wp2_with fail
   go_ret
   exact ⟨by rw [HE.out]; rfl, BR.out.trans (hb9.mono GW.out)⟩
end Go.Proofs.YtgillglkmnocaaaDoor
