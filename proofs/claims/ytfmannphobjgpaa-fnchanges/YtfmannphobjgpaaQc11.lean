/- WbAny CnNext -/
import Derived.Test.YtfmannphobjgpaaRows
import Derived.Test.YtfmannphobjgpaaQc10
import Derived.Test.YtfmannphobjgpaaQc0
import Derived.WalkKit
import Derived.ProofKit
import Derived.OpenShut
import Derived.Below
import Derived.WalkSmall
import Derived.BigQuiet
import Derived.Deep.QuietTactic
import Derived.Deep.RegionWith
import Derived.Handy
import Derived.Deep.Cut
import Derived.Deep.CutRange
import Derived.Deep.CutBlock
import Derived.Test.YtfmannphobjgpaaQc9
open List (setIfInBounds_toArray set_cons_zero set_cons_succ)
namespace Go.Proofs.Ytfmannphobjgpaa
open Go.ChangeShapes Go.WideShapes Go.ChangeAt Go.RowKit Go.PlainAid
set_option linter.unusedVariables false
theorem cell_alloc_w {w : World} {a : Addr} {x : Value} (h : w.cell? a = some x) (o : Obj) : (w.alloc o).cell? a = some x := by
 rw [((Below.refl w.heap.size w).alloc (Nat.le_refl _) o).cell (World.block_lt_of_cell? _ _ h)]
 exact h
theorem Try.infoU8 : (Try.prog.info? 5).map (fun i => (i.zero, i.size, i.bytes)) = some (some (.int .u8 0), 1, 1) := by kernel_rfl
theorem mk_bytes (n : Nat) (hn : n ≤ 100000) (wx : World) : (Instr.makeSlice 22 (.int .i64 (n : Int)) (.int .i64 (n : Int))).run Try.prog wx = .ok (.slice (some ⟨wx.heap.size, 0, none⟩) n n) (wx.alloc (.cells (byteCells (List.replicate n 0)) 5)) := by
 obtain ⟨i0, hi, hz0, hz1, hz2⟩ := info_parts Try.infoU8
 have h := run_make (P := Try.prog) wx 22 5 i0 _ Try.underlying22 hi hz0 .i64 .i64 (n : Int) (n : Int) (by omega) (by omega) (by rw [hz2]; omega) (by omega)
 rw [hz1] at h
 have e : (Value.int .u8 0).cells = #[.int .u8 0] := rfl
 have e2 : madeCells #[Value.int .u8 0] (n * 1) = byteCells (List.replicate n 0) := by
  rw [Nat.mul_one, fixRow_zero 0 n]
  simp [fixRow, low]
 rw [e, Int.toNat_natCast, e2] at h
 exact h
theorem cv_bytes (n : Nat) (wd : World) : (convert 22 9 (.slice (some ⟨wd.heap.size, 0, none⟩) n n)).run Try.prog (wd.alloc (.cells (byteCells (List.replicate n 0)) 5)) = .ok (.string (txt (List.replicate n 0))) (wd.alloc (.cells (byteCells (List.replicate n 0)) 5)) := by
 have h := run_row (P := Try.prog) wd 22 9 5 Try.underlying22 Try.underlying5 Try.underlying9 (List.replicate n 0) n
 rw [List.length_replicate] at h
 exact h
set_option maxRecDepth 20000 in
set_option maxHeartbeats 8000000 in
theorem anyWal_any (w : World) (p : Nat) (h : AtS w p) : Calls Try.prog 13 #[.pointer (some ⟨p, 0, none⟩)] w (DrawnW w p 63) := by
 have HP : Hid (p < w.heap.size) := h.lt
 have hal : Below w.heap.size w (w.alloc (.cells #[.int .i64 0, .int .i64 0, .int .i64 0, .int .i64 0, .slice none 0 0] 26)) := (Below.refl _ _).alloc (Nat.le_refl _) _
 have A0 : Hid (AtS (w.alloc (.cells #[.int .i64 0, .int .i64 0, .int .i64 0, .int .i64 0, .slice none 0 0] 26)) p) := h.below hal h.lt
 have M0 : Hid (Mod w.heap.size p w (w.alloc (.cells #[.int .i64 0, .int .i64 0, .int .i64 0, .int .i64 0, .slice none 0 0] 26))) := Mod.of_below hal
 have R0 : Hid (Blk (w.alloc (.cells #[.int .i64 0, .int .i64 0, .int .i64 0, .int .i64 0, .slice none 0 0] 26)) w.heap.size #[.int .i64 0, .int .i64 0, .int .i64 0, .int .i64 0, .slice none 0 0] 26) := Blk.new w _ _
 clear hal h
 go_enter Try.func13, Try.ntmps13
 go_wp2_with fail
 generalize w.alloc (.cells #[.int .i64 0, .int .i64 0, .int .i64 0, .int .i64 0, .slice none 0 0] 26) = w0 at *
 refine (wal_any w0 p A0.out).mono ?_
 rintro e w1 ⟨uw, ⟨t, v, b, bt, es⟩, rfl, ⟨ue, rfl, hO⟩, hn, hd, ht, hA, hm⟩
 dsimp only at hO hn hd ht
 obtain ⟨Ae, me, ce, rfl⟩ := hO.shape
 have A1 : Hid (AtS w1 p) := hA
 have M1 : Hid (Mod w.heap.size p w w1) := M0.out.trans (hm.mono M0.out.size)
 have R1 : Hid (Blk w1 w.heap.size #[.int .i64 0, .int .i64 0, .int .i64 0, .int .i64 0, .slice none 0 0] 26) := R0.out.mod hm R0.out.lt (by have := HP.out; omega)
 have hS0 : WSt w p w1.heap.size w.heap.size 62 (w1.alloc (.cells #[.int .i64 t, .int .i64 v, .int .i64 b, .int .i64 bt, .slice Ae me ce] 26)) t v b bt es :=
  ⟨⟨Ae, me, ce, Blk.new w1 _ _, (hO.mono M0.out.size).alloc _, ent_len hO⟩, R1.out.alloc _, hn, hd, A1.out.below ((Below.refl w1.heap.size w1).alloc (Nat.le_refl _) _) A1.out.lt, M1.out.alloc M1.out.size _, HP.out, Nat.le_refl _, R1.out.lt⟩
 have S0 : Hid (WSt w p w1.heap.size w.heap.size 62 (w1.alloc (.cells #[.int .i64 t, .int .i64 v, .int .i64 b, .int .i64 bt, .slice Ae me ce] 26)) t v b bt es) := hS0
 clear hS0 hA hm hO hn hd A0 M0 R0
 go_wp2_with fail
 generalize w1.alloc (.cells #[.int .i64 t, .int .i64 v, .int .i64 b, .int .i64 bt, .slice Ae me ce] 26) = w2 at *
 generalize w1.heap.size = g at *
 refine (once_some w2 p 8 (by omega) S0.out.a).mono ?_
 rintro e w3 ⟨o, rfl, hA, hm⟩
 have S3 : Hid (WSt w p g w.heap.size 62 w3 t v b bt es) := S0.out.draw hA hm
 clear hA hm S0 A1 M1 R1
 go_upto_if 7 with fail
 go_cut [57] from 8 to 57 (fun s57 wc => ∃ (t' v' b' bt' : Int) (es' : List Ent), (-1000 ≤ t' ∧ t' ≤ 1000000) ∧ WSt w p g w.heap.size 63 wc t' v' b' bt' es')
 case first =>
  cases o with
  | false =>
   go_wp2_with fail
   go_meet
   exact ⟨t, v, b, bt, es, ht, S3.out.more (by omega)⟩
  | true =>
   go_wp2_with fail
   refine (belowS w3 p 6 (by omega) (by omega) S3.out.a).mono ?_
   rintro e w5 ⟨s, rfl, ⟨s0, s1⟩, hA, hm⟩
   have S5 : Hid (WSt w p g w.heap.size 62 w5 t v b bt es) := S3.out.draw hA hm
   clear hA hm S3
   rcases (show s = 0 ∨ s = 1 ∨ s = 2 ∨ s = 3 ∨ s = 4 ∨ s = 5 by omega) with rfl | rfl | rfl | rfl | rfl | rfl
   ·have hal : Below w5.heap.size w5 (w5.alloc (.cells #[.int .i64 (-1), .int .i64 0, .int .i64 100000, .int .i64 100001] 3)) := (Below.refl _ _).alloc (Nat.le_refl _) _
    have K6 : Hid (Blk (w5.alloc (.cells #[.int .i64 (-1), .int .i64 0, .int .i64 100000, .int .i64 100001] 3)) w5.heap.size #[.int .i64 (-1), .int .i64 0, .int .i64 100000, .int .i64 100001] 3) := Blk.new _ _ _
    have S6 : Hid (WSt w p g w.heap.size 62 (w5.alloc (.cells #[.int .i64 (-1), .int .i64 0, .int .i64 100000, .int .i64 100001] 3)) t v b bt es) := S5.out.draw (S5.out.a.below hal S5.out.a.lt) (Mod.of_below hal)
    have Z6 : Hid (w5.heap.size ≠ p) := by have := S5.out.a.lt; unfold Hid; omega
    clear hal
    go_wp2_with fail
    generalize w5.alloc (.cells #[.int .i64 (-1), .int .i64 0, .int .i64 100000, .int .i64 100001] 3) = w6 at *
    refine (pickS w6 p w5.heap.size [-1, 0, 100000, 100001] 4 rfl (by omega) (by omega) (fun z => -1000 ≤ z ∧ z ≤ 1000000) (by omega) (by simp) S6.out.a Z6.out K6.out).mono ?_
    rintro e w7 ⟨z, rfl, ⟨z0, z1⟩, hA, hm⟩
    have S7 : Hid (WSt w p g w.heap.size 62 w7 t v b bt es) := S6.out.draw hA hm
    have S8 : Hid (WSt w p g w.heap.size 63 (w7.setCell ⟨g, 0, none⟩ (.int .i64 z)) z v b bt es) := (S7.out.setT z).more (by omega)
    obtain ⟨A7, c7, ⟨k0, k1, k2, k3, k4⟩, kf, -, -⟩ := S7.out.out
    have fk := kf 0
    clear hA hm
    go_wp2_with fail
    go_meet
    exact ⟨z, v, b, bt, es, by omega, S8.out⟩
   ·have hal : Below w5.heap.size w5 (w5.alloc (.cells #[.int .i64 (-2), .int .i64 5] 3)) := (Below.refl _ _).alloc (Nat.le_refl _) _
    have K6 : Hid (Blk (w5.alloc (.cells #[.int .i64 (-2), .int .i64 5] 3)) w5.heap.size #[.int .i64 (-2), .int .i64 5] 3) := Blk.new _ _ _
    have S6 : Hid (WSt w p g w.heap.size 62 (w5.alloc (.cells #[.int .i64 (-2), .int .i64 5] 3)) t v b bt es) := S5.out.draw (S5.out.a.below hal S5.out.a.lt) (Mod.of_below hal)
    have Z6 : Hid (w5.heap.size ≠ p) := by have := S5.out.a.lt; unfold Hid; omega
    clear hal
    go_wp2_with fail
    generalize w5.alloc (.cells #[.int .i64 (-2), .int .i64 5] 3) = w6 at *
    refine (pickS w6 p w5.heap.size [-2, 5] 2 rfl (by omega) (by omega) (fun z => -1000 ≤ z ∧ z ≤ 1000000) (by omega) (by simp) S6.out.a Z6.out K6.out).mono ?_
    rintro e w7 ⟨z, rfl, ⟨z0, z1⟩, hA, hm⟩
    have S7 : Hid (WSt w p g w.heap.size 62 w7 t v b bt es) := S6.out.draw hA hm
    have S8 : Hid (WSt w p g w.heap.size 63 (w7.setCell ⟨g, 1, none⟩ (.int .i64 z)) t z b bt es) := (S7.out.setV z).more (by omega)
    obtain ⟨A7, c7, ⟨k0, k1, k2, k3, k4⟩, kf, -, -⟩ := S7.out.out
    have fk := kf 1
    clear hA hm
    go_wp2_with fail
    go_meet
    exact ⟨t, z, b, bt, es, by omega, S8.out⟩
   ·have hal : Below w5.heap.size w5 (w5.alloc (.cells #[.int .i64 (-1), .int .i64 0, .int .i64 3, .int .i64 100000, .int .i64 100001] 3)) := (Below.refl _ _).alloc (Nat.le_refl _) _
    have K6 : Hid (Blk (w5.alloc (.cells #[.int .i64 (-1), .int .i64 0, .int .i64 3, .int .i64 100000, .int .i64 100001] 3)) w5.heap.size #[.int .i64 (-1), .int .i64 0, .int .i64 3, .int .i64 100000, .int .i64 100001] 3) := Blk.new _ _ _
    have S6 : Hid (WSt w p g w.heap.size 62 (w5.alloc (.cells #[.int .i64 (-1), .int .i64 0, .int .i64 3, .int .i64 100000, .int .i64 100001] 3)) t v b bt es) := S5.out.draw (S5.out.a.below hal S5.out.a.lt) (Mod.of_below hal)
    have Z6 : Hid (w5.heap.size ≠ p) := by have := S5.out.a.lt; unfold Hid; omega
    clear hal
    go_wp2_with fail
    generalize w5.alloc (.cells #[.int .i64 (-1), .int .i64 0, .int .i64 3, .int .i64 100000, .int .i64 100001] 3) = w6 at *
    refine (pickS w6 p w5.heap.size [-1, 0, 3, 100000, 100001] 5 rfl (by omega) (by omega) (fun z => -1000 ≤ z ∧ z ≤ 1000000) (by omega) (by simp) S6.out.a Z6.out K6.out).mono ?_
    rintro e w7 ⟨z, rfl, ⟨z0, z1⟩, hA, hm⟩
    have S7 : Hid (WSt w p g w.heap.size 62 w7 t v b bt es) := S6.out.draw hA hm
    have S8 : Hid (WSt w p g w.heap.size 63 (w7.setCell ⟨g, 2, none⟩ (.int .i64 z)) t v z bt es) := (S7.out.setB z).more (by omega)
    obtain ⟨A7, c7, ⟨k0, k1, k2, k3, k4⟩, kf, -, -⟩ := S7.out.out
    have fk := kf 2
    clear hA hm
    go_wp2_with fail
    go_meet
    exact ⟨t, v, z, bt, es, by omega, S8.out⟩
   ·go_wp2_with fail
    refine (belowS w5 p 10 (by omega) (by omega) S5.out.a).mono ?_
    rintro e w7 ⟨z, rfl, ⟨z0, z1⟩, hA, hm⟩
    have S7 : Hid (WSt w p g w.heap.size 62 w7 t v b bt es) := S5.out.draw hA hm
    have S8 : Hid (WSt w p g w.heap.size 63 (w7.setCell ⟨g, 3, none⟩ (.int .i64 (z - 1))) t v b (z - 1) es) := (S7.out.setBt _).more (by omega)
    obtain ⟨A7, c7, ⟨k0, k1, k2, k3, k4⟩, kf, -, -⟩ := S7.out.out
    have fk := kf 3
    have gz : IntKind.i64.wrap (z - 1) = z - 1 := by rw [IntKind.wrap_i64]; omega
    clear hA hm
    go_wp2_with fail
    go_meet
    exact ⟨t, v, b, z - 1, es, ht, S8.out⟩
   ·obtain ⟨A7, c7, ⟨k0, k1, k2, k3, k4⟩, kf, hk7, hO7⟩ := S5.out.out
    have Q0 : Hid (w5.drew.cell? ⟨g, 4, none⟩ = some (.slice A7 es.length c7)) := k4
    have cB := belowS w5.drew p 10 (by omega) (by omega) S5.out.drew.a
    clear k0 k1 k2 k3 k4 kf
    go_wp2_with fail
    refine wp_region_until (fun w' => w'.cell? ⟨g, 4, none⟩ = some (.slice A7 es.length c7)) (fun i => i == 7 || i == 9) 10 (by rfl) (by kernel_rfl) ?_
    refine until_pure 0 (v := ?_) (by rfl) (by kernel_rfl) (by exact fun _ _ _ h => h) (by rfl) ?_ ?_
    rotate_left
    ·intro w
     go_simp
     try with_reducible rfl
    try simp only [Act.put, setIfInBounds_toArray, set_cons_zero, set_cons_succ]
    refine until_take 1 (v := ?_) (by rfl) (by kernel_rfl) (by exact fun _ _ _ h => h) (by rfl) ?_ Q0.out ?_
    rotate_left
    ·intro w hSw
     try dsimp only at hSw
     go_simp
     try with_reducible rfl
    try simp only [Act.put, setIfInBounds_toArray, set_cons_zero, set_cons_succ]
    refine until_pure 2 (v := ?_) (by rfl) (by kernel_rfl) (by exact fun _ _ _ h => h) (by rfl) ?_ ?_
    rotate_left
    ·intro w
     go_simp
     try with_reducible rfl
    try simp only [Act.put, setIfInBounds_toArray, set_cons_zero, set_cons_succ]
    refine until_one 3 (by rfl) (by kernel_rfl) (fun K hK => ?_)
    go_simp
    refine cB.mono ?_
    rintro e wd ⟨y, rfl, ⟨y0, y1⟩, hA, hm⟩
    have S8 : Hid (WSt w p g w.heap.size 62 wd t v b bt es) := S5.out.drew.draw hA hm
    have hkd : Blk wd g #[.int .i64 t, .int .i64 v, .int .i64 b, .int .i64 bt, .slice A7 es.length c7] 26 := (hm.block g hk7.lt (by have := S5.out.o; omega)).trans hk7
    have hOd : Owns wd w.heap.size 58 2 (.slice A7 es.length c7) (entR es) := (hO7.kept fun _ _ _ => rfl : Owns w5.drew w.heap.size 58 2 (.slice A7 es.length c7) (entR es)).mod hm S5.out.o.1 (Nat.le_refl _)
    have KD : Hid (Blk wd g #[.int .i64 t, .int .i64 v, .int .i64 b, .int .i64 bt, .slice A7 es.length c7] 26) := hkd
    have OD : Hid (Owns wd w.heap.size 58 2 (.slice A7 es.length c7) (entR es)) := hOd
    have d4 := hkd.cell 4 _ rfl
    have gy : IntKind.i64.wrap (y - 1) = y - 1 := by rw [IntKind.wrap_i64]; omega
    have HDt : Hid ((⟨#[]⟩ : ByteArray).size ≤ 1000) := Nat.zero_le _
    obtain ⟨nA, nm, nc, Y5, r5, hO5, hb5, hk5, -⟩ := run_append_row (P := Try.prog) wd 24 24 58 (.agg #[.int .i64 0, .string ⟨#[]⟩]) 2 24 Try.underlying24 Try.infoEntB rfl (by omega) w.heap.size (.slice A7 es.length c7) (entR es) OD.out [.int .i64 (y - 1), .string ⟨#[]⟩] rfl (by intro y hy; simp at hy; rcases hy with rfl | rfl <;> rfl) (by rw [entR_length]; have := S8.out.n; omega) (by omega) S8.out.m.size
    clear hA hm cB hkd hOd hk7 hO7
    go_wp2_with fail
    refine hK.out _ _ (fun _ _ => d4) ?_
    clear hK K
    try simp only [Act.put, setIfInBounds_toArray, set_cons_zero, set_cons_succ]
    refine until_pure 4 (v := ?_) (by rfl) (by kernel_rfl) (by exact fun _ _ _ h => h) (by rfl) ?_ ?_
    rotate_left
    ·intro w
     go_simp
     try with_reducible rfl
    try simp only [Act.put, setIfInBounds_toArray, set_cons_zero, set_cons_succ]
    refine until_pure 5 (v := ?_) (by rfl) (by kernel_rfl) (by exact fun _ _ _ h => h) (by rfl) ?_ ?_
    rotate_left
    ·intro w
     go_simp
     try with_reducible rfl
    try simp only [Act.put, setIfInBounds_toArray, set_cons_zero, set_cons_succ]
    refine until_one 6 (by rfl) (by kernel_rfl) (fun K hK => ?_)
    go_simp
    refine hK.out _ _ (fun _ h => cell_alloc_w h _) ?_
    clear hK K
    try simp only [Act.put, setIfInBounds_toArray, set_cons_zero, set_cons_succ]
    refine until_one 7 (by rfl) (by kernel_rfl) (fun K hK => ?_)
    refine step_append_run (by rfl) (.tmp 50) (.tmp 55) 24 (by rfl) _ _ _ _ (by rfl) (by rfl) r5 ?_
    refine hK.out _ _ (fun h => by cases h) ?_
    clear hK K
    try simp only [Act.put, setIfInBounds_toArray, set_cons_zero, set_cons_succ]
    have hO8 : Owns Y5 w.heap.size 58 2 (.slice nA nm nc) (entR (es ++ [(⟨y - 1, ⟨#[]⟩⟩ : Ent)])) := by unfold entR; rw [List.map_append]; exact hO5
    have hg7 : Y5.heap[g]? = wd.heap[g]? := hk5 g KD.out.lt (OD.out.notBlk KD.out (by decide))
    have hR7 : Y5.heap[w.heap.size]? = wd.heap[w.heap.size]? := hk5 _ S8.out.r.lt (OD.out.notBlk S8.out.r (by decide))
    have S9 : Hid (WSt w p g w.heap.size 63 (Y5.setCell ⟨g, 4, none⟩ (.slice nA nm nc)) t v b bt (es ++ [(⟨y - 1, ⟨#[]⟩⟩ : Ent)])) :=
     S8.out.setE KD.out hO8 (S8.out.a.below hb5 S8.out.o.1) (Mod.of_below hb5) hg7 hR7 (by rw [List.length_append]; have := S8.out.n; simp; omega) (fun x hx => by
      rcases List.mem_append.1 hx with hx | hx
      ·exact S8.out.d x hx
      ·rw [List.mem_singleton.1 hx]; exact HDt.out)
    have hk8 : Blk Y5 g #[.int .i64 t, .int .i64 v, .int .i64 b, .int .i64 bt, .slice A7 es.length c7] 26 := hg7.trans KD.out
    have m4 := hk8.cell 4 _ rfl
    have mf := hk8.free 4
    clear hO8 hg7 hR7 hk8 hO5 hb5 hk5
    refine until_pure 8 (v := ?_) (by rfl) (by kernel_rfl) (by exact fun _ _ _ h => h) (by rfl) ?_ ?_
    rotate_left
    ·intro w
     go_simp
     try with_reducible rfl
    try simp only [Act.put, setIfInBounds_toArray, set_cons_zero, set_cons_succ]
    refine until_one 9 (by rfl) (by kernel_rfl) (fun K hK => ?_)
    go_simp
    refine hK.out _ _ (fun h => by cases h) ?_
    clear hK K
    try simp only [Act.put, setIfInBounds_toArray, set_cons_zero, set_cons_succ]
    refine until_done (by kernel_rfl) ?_ _
    go_wp2_with fail
    go_meet
    exact ⟨t, v, b, bt, _, ht, S9.out⟩
   ·obtain ⟨A7, c7, ⟨k0, k1, k2, k3, k4⟩, kf, hk7, hO7⟩ := S5.out.out
    have Q0 : Hid (w5.drew.cell? ⟨g, 4, none⟩ = some (.slice A7 es.length c7) ∧ w5.drew.cell? ⟨g, 0, none⟩ = some (.int .i64 t)) := ⟨k4, k0⟩
    have cB := belowS w5.drew p 2 (by omega) (by omega) S5.out.drew.a
    clear k0 k1 k2 k3 k4 kf
    go_wp2_with fail
    refine wp_region_until (fun w' => w'.cell? ⟨g, 4, none⟩ = some (.slice A7 es.length c7) ∧ w'.cell? ⟨g, 0, none⟩ = some (.int .i64 t)) (fun i => i == 11 || i == 13) 14 (by rfl) (by kernel_rfl) ?_
    refine until_pure 0 (v := ?_) (by rfl) (by kernel_rfl) (by exact fun _ _ _ h => h) (by rfl) ?_ ?_
    rotate_left
    ·intro w
     go_simp
     try with_reducible rfl
    try simp only [Act.put, setIfInBounds_toArray, set_cons_zero, set_cons_succ]
    refine until_take 1 (v := ?_) (by rfl) (by kernel_rfl) (by exact fun _ _ _ h => h) (by rfl) ?_ Q0.out ?_
    rotate_left
    ·intro w hSw
     try dsimp only at hSw
     go_simp
     try with_reducible rfl
    try simp only [Act.put, setIfInBounds_toArray, set_cons_zero, set_cons_succ]
    refine until_pure 2 (v := ?_) (by rfl) (by kernel_rfl) (by exact fun _ _ _ h => h) (by rfl) ?_ ?_
    rotate_left
    ·intro w
     go_simp
     try with_reducible rfl
    try simp only [Act.put, setIfInBounds_toArray, set_cons_zero, set_cons_succ]
    refine until_take 3 (v := ?_) (by rfl) (by kernel_rfl) (by exact fun _ _ _ h => h) (by rfl) ?_ Q0.out ?_
    rotate_left
    ·intro w hSw
     try dsimp only at hSw
     go_simp
     try with_reducible rfl
    try simp only [Act.put, setIfInBounds_toArray, set_cons_zero, set_cons_succ]
    refine until_pure 4 (v := ?_) (by rfl) (by kernel_rfl) (by exact fun _ _ _ h => h) (by rfl) ?_ ?_
    rotate_left
    ·intro w
     go_simp
     try with_reducible rfl
    try simp only [Act.put, setIfInBounds_toArray, set_cons_zero, set_cons_succ]
    refine until_one 5 (by rfl) (by kernel_rfl) (fun K hK => ?_)
    go_simp
    refine cB.mono ?_
    rintro e wd ⟨y, rfl, ⟨y0, y1⟩, hA, hm⟩
    obtain ⟨n, hn⟩ : ∃ n : Nat, (n : Int) = 900 + y := ⟨(900 + y).toNat, by omega⟩
    have S8' : WSt w p g w.heap.size 62 wd t v b bt es := S5.out.drew.draw hA hm
    have hkd : Blk wd g #[.int .i64 t, .int .i64 v, .int .i64 b, .int .i64 bt, .slice A7 es.length c7] 26 := (hm.block g hk7.lt (by have := S5.out.o; omega)).trans hk7
    have hOd : Owns wd w.heap.size 58 2 (.slice A7 es.length c7) (entR es) := (hO7.kept fun _ _ _ => rfl : Owns w5.drew w.heap.size 58 2 (.slice A7 es.length c7) (entR es)).mod hm S5.out.o.1 (Nat.le_refl _)
    have hal : Below wd.heap.size wd (wd.alloc (.cells (byteCells (List.replicate n 0)) 5)) := (Below.refl _ _).alloc (Nat.le_refl _) _
    have S8 : Hid (WSt w p g w.heap.size 62 (wd.alloc (.cells (byteCells (List.replicate n 0)) 5)) t v b bt es) := S8'.draw (S8'.a.below hal S8'.a.lt) (Mod.of_below hal)
    have KD : Hid (Blk (wd.alloc (.cells (byteCells (List.replicate n 0)) 5)) g #[.int .i64 t, .int .i64 v, .int .i64 b, .int .i64 bt, .slice A7 es.length c7] 26) := hkd.alloc _
    have OD : Hid (Owns (wd.alloc (.cells (byteCells (List.replicate n 0)) 5)) w.heap.size 58 2 (.slice A7 es.length c7) (entR es)) := hOd.alloc _
    have d4 := hkd.cell 4 _ rfl
    have d0 := hkd.cell 0 _ rfl
    have D4 := KD.out.cell 4 _ rfl
    have D0 := KD.out.cell 0 _ rfl
    have gy : IntKind.i64.wrap (900 + y) = (n : Int) := by rw [IntKind.wrap_i64]; omega
    have hmk := mk_bytes n (by omega) wd
    have hcv := cv_bytes n wd
    have HDt : Hid ((txt (List.replicate n 0)).size ≤ 1000) := by unfold Hid; rw [txt_size, List.length_replicate]; omega
    obtain ⟨nA, nm, nc, Y5, r5, hO5, hb5, hk5, -⟩ := run_append_row (P := Try.prog) (wd.alloc (.cells (byteCells (List.replicate n 0)) 5)) 24 24 58 (.agg #[.int .i64 0, .string ⟨#[]⟩]) 2 24 Try.underlying24 Try.infoEntB rfl (by omega) w.heap.size (.slice A7 es.length c7) (entR es) OD.out [.int .i64 t, .string (txt (List.replicate n 0))] rfl (by intro y hy; simp at hy; rcases hy with rfl | rfl <;> rfl) (by rw [entR_length]; have := S8.out.n; omega) (by omega) S8.out.m.size
    clear hA hm cB hkd hOd hk7 hO7 hal S8'
    generalize txt (List.replicate n 0) = tz at *
    generalize hWz : wd.alloc (.cells (byteCells (List.replicate n 0)) 5) = wz at *
    clear hn
    go_wp2_with fail
    refine hK.out _ _ (fun _ _ => ⟨d4, d0⟩) ?_
    clear hK K
    try simp only [Act.put, setIfInBounds_toArray, set_cons_zero, set_cons_succ]
    refine until_pure 6 (v := ?_) (by rfl) (by kernel_rfl) (by exact fun _ _ _ h => h) (by rfl) ?_ ?_
    rotate_left
    ·intro w
     go_simp
     try with_reducible rfl
    try simp only [Act.put, setIfInBounds_toArray, set_cons_zero, set_cons_succ]
    refine until_one 7 (by rfl) (by kernel_rfl) (fun K hK => ?_)
    go_simp
    refine hK.out _ _ (fun _ _ => ⟨D4, D0⟩) ?_
    clear hK K
    try simp only [Act.put, setIfInBounds_toArray, set_cons_zero, set_cons_succ]
    refine until_one 8 (by rfl) (by kernel_rfl) (fun K hK => ?_)
    go_simp
    refine hK.out _ _ (fun _ h => h) ?_
    clear hK K
    try simp only [Act.put, setIfInBounds_toArray, set_cons_zero, set_cons_succ]
    refine until_pure 9 (v := ?_) (by rfl) (by kernel_rfl) (by exact fun _ _ _ h => h) (by rfl) ?_ ?_
    rotate_left
    ·intro w
     go_simp
     try with_reducible rfl
    try simp only [Act.put, setIfInBounds_toArray, set_cons_zero, set_cons_succ]
    refine until_one 10 (by rfl) (by kernel_rfl) (fun K hK => ?_)
    go_simp
    refine hK.out _ _ (fun _ h => ⟨cell_alloc_w h.1 _, cell_alloc_w h.2 _⟩) ?_
    clear hK K
    try simp only [Act.put, setIfInBounds_toArray, set_cons_zero, set_cons_succ]
    refine until_one 11 (by rfl) (by kernel_rfl) (fun K hK => ?_)
    refine step_append_run (by rfl) (.tmp 11) (.tmp 20) 24 (by rfl) _ _ _ _ (by rfl) (by rfl) r5 ?_
    refine hK.out _ _ (fun h => by cases h) ?_
    clear hK K
    try simp only [Act.put, setIfInBounds_toArray, set_cons_zero, set_cons_succ]
    have hO8 : Owns Y5 w.heap.size 58 2 (.slice nA nm nc) (entR (es ++ [(⟨t, tz⟩ : Ent)])) := by unfold entR; rw [List.map_append]; exact hO5
    have hg7 : Y5.heap[g]? = wz.heap[g]? := hk5 g KD.out.lt (OD.out.notBlk KD.out (by decide))
    have hR7 : Y5.heap[w.heap.size]? = wz.heap[w.heap.size]? := hk5 _ S8.out.r.lt (OD.out.notBlk S8.out.r (by decide))
    have S9 : Hid (WSt w p g w.heap.size 63 (Y5.setCell ⟨g, 4, none⟩ (.slice nA nm nc)) t v b bt (es ++ [(⟨t, tz⟩ : Ent)])) :=
     S8.out.setE KD.out hO8 (S8.out.a.below hb5 S8.out.o.1) (Mod.of_below hb5) hg7 hR7 (by rw [List.length_append]; have := S8.out.n; simp; omega) (fun x hx => by
      rcases List.mem_append.1 hx with hx | hx
      ·exact S8.out.d x hx
      ·rw [List.mem_singleton.1 hx]; exact HDt.out)
    have hk8 : Blk Y5 g #[.int .i64 t, .int .i64 v, .int .i64 b, .int .i64 bt, .slice A7 es.length c7] 26 := hg7.trans KD.out
    have m4 := hk8.cell 4 _ rfl
    have mf := hk8.free 4
    clear hO8 hg7 hR7 hk8 hO5 hb5 hk5
    refine until_pure 12 (v := ?_) (by rfl) (by kernel_rfl) (by exact fun _ _ _ h => h) (by rfl) ?_ ?_
    rotate_left
    ·intro w
     go_simp
     try with_reducible rfl
    try simp only [Act.put, setIfInBounds_toArray, set_cons_zero, set_cons_succ]
    refine until_one 13 (by rfl) (by kernel_rfl) (fun K hK => ?_)
    go_simp
    refine hK.out _ _ (fun h => by cases h) ?_
    clear hK K
    try simp only [Act.put, setIfInBounds_toArray, set_cons_zero, set_cons_succ]
    refine until_done (by kernel_rfl) ?_ _
    go_wp2_with fail
    go_meet
    exact ⟨t, v, b, bt, _, ht, S9.out⟩
 case rest =>
  obtain ⟨t', v', b', bt', es', ht', hS⟩ := hcut
  have S7 : Hid (WSt w p g w.heap.size 63 wc t' v' b' bt' es') := hS
  clear hS S3 ht
  generalize wc = wg at *
  obtain ⟨AZ, cZ, ⟨k0, k1, k2, k3, k4⟩, kf, hkZ, hOZ⟩ := S7.out.out
  have r0 := S7.out.r
  have r1 := r0.set 0 (.int .i64 t')
  have r2 := r1.set 1 (.int .i64 v')
  have r3 := r2.set 2 (.int .i64 b')
  have r4 := r3.set 3 (.int .i64 bt')
  have r5 := r4.set 4 (.slice AZ es'.length cZ)
  have y0 := r0.cell 0 _ rfl
  have y1 := r1.cell 1 _ rfl
  have y2 := r2.cell 2 _ rfl
  have y3 := r3.cell 3 _ rfl
  have y4 := r4.cell 4 _ rfl
  have f0 := r0.free 0
  have f1 := r1.free 1
  have f2 := r2.free 2
  have f3 := r3.free 3
  have f4 := r4.free 4
  have x0 := r5.cell 0 (.int .i64 t') rfl
  have x1 := r5.cell 1 (.int .i64 v') rfl
  have x2 := r5.cell 2 (.int .i64 b') rfl
  have x3 := r5.cell 3 (.int .i64 bt') rfl
  have x4 := r5.cell 4 (.slice AZ es'.length cZ) rfl
  have hne := hOZ.notBlk r0 (by decide)
  have OF : Hid (Owns (((((wg.setCell ⟨w.heap.size, 0, none⟩ (.int .i64 t')).setCell ⟨w.heap.size, 1, none⟩ (.int .i64 v')).setCell ⟨w.heap.size, 2, none⟩ (.int .i64 b')).setCell ⟨w.heap.size, 3, none⟩ (.int .i64 bt')).setCell ⟨w.heap.size, 4, none⟩ (.slice AZ es'.length cZ)) w.heap.size 58 2 (.slice AZ es'.length cZ) (entR es')) := ((((hOZ.other hne _ _).other hne _ _).other hne _ _).other hne _ _).other hne _ _
  have BF : Hid (Below w.heap.size wg (((((wg.setCell ⟨w.heap.size, 0, none⟩ (.int .i64 t')).setCell ⟨w.heap.size, 1, none⟩ (.int .i64 v')).setCell ⟨w.heap.size, 2, none⟩ (.int .i64 b')).setCell ⟨w.heap.size, 3, none⟩ (.int .i64 bt')).setCell ⟨w.heap.size, 4, none⟩ (.slice AZ es'.length cZ))) := (((((Below.refl w.heap.size wg).setCell (show w.heap.size ≤ w.heap.size from S7.out.o.2.1) _).setCell (show w.heap.size ≤ w.heap.size from S7.out.o.2.1) _).setCell (show w.heap.size ≤ w.heap.size from S7.out.o.2.1) _).setCell (show w.heap.size ≤ w.heap.size from S7.out.o.2.1) _).setCell (show w.heap.size ≤ w.heap.size from S7.out.o.2.1) _
  have AF : Hid (AtS (((((wg.setCell ⟨w.heap.size, 0, none⟩ (.int .i64 t')).setCell ⟨w.heap.size, 1, none⟩ (.int .i64 v')).setCell ⟨w.heap.size, 2, none⟩ (.int .i64 b')).setCell ⟨w.heap.size, 3, none⟩ (.int .i64 bt')).setCell ⟨w.heap.size, 4, none⟩ (.slice AZ es'.length cZ)) p) := S7.out.a.below BF.out S7.out.o.1
  have MF : Hid (Mod w.heap.size p w (((((wg.setCell ⟨w.heap.size, 0, none⟩ (.int .i64 t')).setCell ⟨w.heap.size, 1, none⟩ (.int .i64 v')).setCell ⟨w.heap.size, 2, none⟩ (.int .i64 b')).setCell ⟨w.heap.size, 3, none⟩ (.int .i64 bt')).setCell ⟨w.heap.size, 4, none⟩ (.slice AZ es'.length cZ))) := S7.out.m.trans (Mod.of_below BF.out)
  clear r0 r1 r2 r3 r4 r5 hkZ hOZ hne kf
  go_wp2_with fail
  exact bodyPost_ret (v := .agg #[.int .i64 t', .int .i64 v', .int .i64 b', .int .i64 bt', .slice AZ es'.length cZ]) (by simp [results, Try.f13, go_sem, x0, x1, x2, x3, x4]) rfl ⟨_, ⟨t', v', b', bt', es'⟩, rfl, ⟨_, rfl, OF.out⟩, S7.out.n, S7.out.d, by constructor <;> (show _ ≤ _) <;> dsimp only <;> omega, AF.out, MF.out⟩
end Go.Proofs.Ytfmannphobjgpaa
namespace Go.Proofs.Ytfmannphobjgpaa
open Go.ChangeShapes Go.WideShapes Go.ChangeAt Go.RowKit Go.PlainAid
set_option linter.unusedVariables false
theorem elem_ent : Try.prog.elem 24 = 58 := by kernel_rfl
theorem size_ent : (Try.prog.info? 58).map (·.size) = some 2 := by kernel_rfl
set_option maxRecDepth 100000 in
theorem cut_ents (A : Option Addr) (n c k : Nat) (hk : k ≤ c) (wx : World) : (Instr.sliceAt 24 (.slice A n c) none (some (.int .i64 (k : Int))) none).run Try.prog wx = .ok (.slice A k c) wx := by
 have hu : Try.prog.underlying 24 = some (.slice (Try.prog.elem 24)) := by rw [elem_ent]; exact Try.underlying24
 have hz := size_ent
 cases hq : Try.prog.info? 58 with
 | none => rw [hq] at hz; simp at hz
 | some i =>
  rw [run_sliceAt_slice wx 24 _ _ _ _ hu, run_slice_h wx 24 A n c hu .i64 (k : Int) (by omega) (by omega), elem_ent]
  have e : A.map (·.add (0 * i.size)) = A := by
   cases A <;> simp [Addr.add]
  simp [sizeOf, typeInfo, hq, sliced]
  intro _
  simpa using e
set_option maxRecDepth 20000 in
set_option maxHeartbeats 8000000 in
theorem next_any (w : World) (p : Nat) (x : Wl) (va : Value) (B : Nat) (h : AtS w p) (hv : WalV w B va x) (hB : B ≤ w.heap.size) (hn : x.ents.length ≤ 63) (hd : ∀ y ∈ x.ents, y.data.size ≤ 1000) (ht : -1000 ≤ x.term ∧ x.term ≤ 1000000) :
  Calls Try.prog 15 #[.pointer (some ⟨p, 0, none⟩), va] w (DrawnW w p 63) := by
 have HP : Hid (p < w.heap.size) := h.lt
 have HB : Hid (B ≤ w.heap.size) := hB
 obtain ⟨t, v, b, bt, es⟩ := x
 obtain ⟨ua, rfl, hl⟩ := hv
 dsimp only at hl hn hd ht ⊢
 obtain ⟨Aa, ca, rfl, -⟩ := ent_look hl
 have HN : Hid (es.length ≤ 63 ∧ ∀ y ∈ es, y.data.size ≤ 1000) := ⟨hn, hd⟩
 have hal : Below w.heap.size w ((w.alloc (.cells #[.int .i64 t, .int .i64 v, .int .i64 b, .int .i64 bt, .slice Aa es.length ca] 26)).alloc (.cells #[.int .i64 0, .int .i64 0, .int .i64 0, .int .i64 0, .slice none 0 0] 26)) := ((Below.refl _ _).alloc (Nat.le_refl _) _).alloc (by simp) _
 have A0 : Hid (AtS ((w.alloc (.cells #[.int .i64 t, .int .i64 v, .int .i64 b, .int .i64 bt, .slice Aa es.length ca] 26)).alloc (.cells #[.int .i64 0, .int .i64 0, .int .i64 0, .int .i64 0, .slice none 0 0] 26)) p) := h.below hal h.lt
 have B0 : Hid (Below w.heap.size w ((w.alloc (.cells #[.int .i64 t, .int .i64 v, .int .i64 b, .int .i64 bt, .slice Aa es.length ca] 26)).alloc (.cells #[.int .i64 0, .int .i64 0, .int .i64 0, .int .i64 0, .slice none 0 0] 26))) := hal
 have KA : Hid (Blk ((w.alloc (.cells #[.int .i64 t, .int .i64 v, .int .i64 b, .int .i64 bt, .slice Aa es.length ca] 26)).alloc (.cells #[.int .i64 0, .int .i64 0, .int .i64 0, .int .i64 0, .slice none 0 0] 26)) w.heap.size #[.int .i64 t, .int .i64 v, .int .i64 b, .int .i64 bt, .slice Aa es.length ca] 26) := (Blk.new w _ _).alloc _
 have R0 : Hid (Blk ((w.alloc (.cells #[.int .i64 t, .int .i64 v, .int .i64 b, .int .i64 bt, .slice Aa es.length ca] 26)).alloc (.cells #[.int .i64 0, .int .i64 0, .int .i64 0, .int .i64 0, .slice none 0 0] 26)) (w.heap.size + 1) #[.int .i64 0, .int .i64 0, .int .i64 0, .int .i64 0, .slice none 0 0] 26) := by
  have := Blk.new (w.alloc (.cells #[.int .i64 t, .int .i64 v, .int .i64 b, .int .i64 bt, .slice Aa es.length ca] 26)) #[.int .i64 0, .int .i64 0, .int .i64 0, .int .i64 0, .slice none 0 0] 26
  simp only [World.size_alloc] at this
  exact this
 have cC := copyS ⟨t, v, b, bt, es⟩ (.agg #[.int .i64 t, .int .i64 v, .int .i64 b, .int .i64 bt, .slice Aa es.length ca]) ((w.alloc (.cells #[.int .i64 t, .int .i64 v, .int .i64 b, .int .i64 bt, .slice Aa es.length ca] 26)).alloc (.cells #[.int .i64 0, .int .i64 0, .int .i64 0, .int .i64 0, .slice none 0 0] 26)) B ⟨_, rfl, hl.on (hal.mono hB)⟩ (by dsimp only; omega) (Nat.le_trans hB hal.size)
 have HZ : Hid (((w.alloc (.cells #[.int .i64 t, .int .i64 v, .int .i64 b, .int .i64 bt, .slice Aa es.length ca] 26)).alloc (.cells #[.int .i64 0, .int .i64 0, .int .i64 0, .int .i64 0, .slice none 0 0] 26)).heap.size = w.heap.size + 1 + 1) := by unfold Hid; simp
 have a0 := KA.out.cell 0 _ rfl
 have a1 := KA.out.cell 1 _ rfl
 have a2 := KA.out.cell 2 _ rfl
 have a3 := KA.out.cell 3 _ rfl
 have a4 := KA.out.cell 4 _ rfl
 clear hal h hl hB hn hd
 go_enter Try.func15, Try.ntmps15
 go_wp2_with fail
 generalize (w.alloc (.cells #[.int .i64 t, .int .i64 v, .int .i64 b, .int .i64 bt, .slice Aa es.length ca] 26)).alloc (.cells #[.int .i64 0, .int .i64 0, .int .i64 0, .int .i64 0, .slice none 0 0] 26) = w0 at *
 refine cC.mono ?_
 rintro e w1 ⟨uw, rfl, ⟨ue, rfl, hO⟩, hb⟩
 dsimp only at hO
 obtain ⟨Ae, me, ce, rfl⟩ := hO.shape
 have hS0 : WSt w p w1.heap.size (w.heap.size + 1) 63 (w1.alloc (.cells #[.int .i64 t, .int .i64 v, .int .i64 b, .int .i64 bt, .slice Ae me ce] 26)) t v b bt es := by
  have hlt : (w.heap.size + 1) < w0.heap.size := R0.out.lt
  have hA1 : AtS w1 p := A0.out.below hb (by have := HP.out; omega)
  have hB1 : Below w.heap.size w w1 := B0.out.trans (hb.mono B0.out.size)
  exact ⟨⟨Ae, me, ce, Blk.new w1 _ _, (hO.mono B0.out.size).alloc _, ent_len hO⟩, (R0.out.on hb R0.out.lt).alloc _, HN.out.1, HN.out.2, hA1.below ((Below.refl w1.heap.size w1).alloc (Nat.le_refl _) _) hA1.lt, (Mod.of_below hB1).alloc hB1.size _, HP.out, Nat.le_succ _, Nat.lt_of_lt_of_le hlt hb.size⟩
 have S0 : Hid (WSt w p w1.heap.size (w.heap.size + 1) 63 (w1.alloc (.cells #[.int .i64 t, .int .i64 v, .int .i64 b, .int .i64 bt, .slice Ae me ce] 26)) t v b bt es) := hS0
 clear hS0 hO hb cC a0 a1 a2 a3 a4 KA R0 A0 B0
 go_upto_region 2 with fail
 generalize w1.alloc (.cells #[.int .i64 t, .int .i64 v, .int .i64 b, .int .i64 bt, .slice Ae me ce] 26) = w2 at *
 generalize w1.heap.size = g at *
 go_cut [15] from 9 to 15 (fun s15 wc => ∃ o : Bool, s15 = .bool o ∧ (o = true → t < 100000) ∧ WSt w p g (w.heap.size + 1) 63 wc t v b bt es)
 case first =>
  go_wp2_with fail
  refine (once_some w2 p 2 (by omega) S0.out.a).mono ?_
  rintro e w3 ⟨o, rfl, hA, hm⟩
  have S3 : Hid (WSt w p g (w.heap.size + 1) 63 w3 t v b bt es) := S0.out.draw hA hm
  obtain ⟨A3, c3, ⟨k0, k1, k2, k3, k4⟩, kf, -, -⟩ := S3.out.out
  clear hA hm
  by_cases hlt : t < 100000
  ·have dt : decide (t < 100000) = true := decide_eq_true hlt
   cases o <;> (go_wp2_with fail; go_meet; exact ⟨_, rfl, fun _ => hlt, S3.out⟩)
  ·have dt : decide (t < 100000) = false := decide_eq_false hlt
   cases o <;> (go_wp2_with fail; go_meet; exact ⟨_, rfl, fun h => (by cases h), S3.out⟩)
 case rest =>
  obtain ⟨o, rfl, ho, hS⟩ := hcut
  have S1 : Hid (WSt w p g (w.heap.size + 1) 63 wc t v b bt es) := hS
  clear hS S0
  generalize wc = w4 at *
  go_upto_if 15 with fail
  go_cut [33] from 16 to 33 (fun s33 wc => ∃ t' v' : Int, (-1000 ≤ t' ∧ t' ≤ 1000000) ∧ WSt w p g (w.heap.size + 1) 63 wc t' v' b bt es)
  case first =>
   obtain ⟨A4, c4, ⟨k0, k1, k2, k3, k4⟩, kf, -, -⟩ := S1.out.out
   cases o with
   | true =>
    have hlt := ho rfl
    clear ho
    have gx : IntKind.i64.wrap (t + 1) = t + 1 := by rw [IntKind.wrap_i64]; omega
    have S5 : Hid (WSt w p g (w.heap.size + 1) 63 (w4.setCell ⟨g, 0, none⟩ (.int .i64 (t + 1))) (t + 1) v b bt es) := S1.out.setT (t + 1)
    have f0 := kf 0
    go_wp2_with fail
    generalize w4.setCell ⟨g, 0, none⟩ (.int .i64 (t + 1)) = w5 at *
    refine (belowS w5 p 6 (by omega) (by omega) S5.out.a).mono ?_
    rintro e w6 ⟨y, rfl, ⟨y0, y1⟩, hA, hm⟩
    have S6 : Hid (WSt w p g (w.heap.size + 1) 63 w6 (t + 1) v b bt es) := S5.out.draw hA hm
    have S7 : Hid (WSt w p g (w.heap.size + 1) 63 (w6.setCell ⟨g, 1, none⟩ (.int .i64 (y - 1))) (t + 1) (y - 1) b bt es) := S6.out.setV (y - 1)
    obtain ⟨A6, c6, ⟨l0, l1, l2, l3, l4⟩, lf, -, -⟩ := S6.out.out
    have f1 := lf 1
    have gy : IntKind.i64.wrap (y - 1) = y - 1 := by rw [IntKind.wrap_i64]; omega
    clear hA hm
    go_wp2_with fail
    go_meet
    exact ⟨t + 1, y - 1, by omega, S7.out⟩
   | false =>
    clear ho
    by_cases hv1 : v = -1
    ·subst hv1
     have dv : ((-1 : Int) == -1) = true := by rfl
     go_wp2_with fail
     refine (once_some w4 p 2 (by omega) S1.out.a).mono ?_
     rintro e w5 ⟨o2, rfl, hA, hm⟩
     have S5 : Hid (WSt w p g (w.heap.size + 1) 63 w5 t (-1) b bt es) := S1.out.draw hA hm
     clear hA hm
     cases o2 with
     | false =>
      go_wp2_with fail
      go_meet
      exact ⟨t, -1, ht, S5.out⟩
     | true =>
      go_wp2_with fail
      refine (belowS w5 p 5 (by omega) (by omega) S5.out.a).mono ?_
      rintro e w6 ⟨y, rfl, ⟨y0, y1⟩, hA, hm⟩
      have S6 : Hid (WSt w p g (w.heap.size + 1) 63 w6 t (-1) b bt es) := S5.out.draw hA hm
      have S7 : Hid (WSt w p g (w.heap.size + 1) 63 (w6.setCell ⟨g, 1, none⟩ (.int .i64 y)) t y b bt es) := S6.out.setV y
      obtain ⟨A6, c6, ⟨l0, l1, l2, l3, l4⟩, lf, -, -⟩ := S6.out.out
      have f1 := lf 1
      clear hA hm
      go_wp2_with fail
      go_meet
      exact ⟨t, y, ht, S7.out⟩
    ·have dv : (v == -1) = false := beq_eq_false_iff_ne.2 hv1
     go_wp2_with fail
     go_meet
     exact ⟨t, v, ht, S1.out⟩
  case rest =>
   obtain ⟨t', v', ht', hS⟩ := hcut
   have S2 : Hid (WSt w p g (w.heap.size + 1) 63 wc t' v' b bt es) := hS
   clear hS S1 ho ht
   generalize wc = w5 at *
   go_wp2_with fail
   refine (once_some w5 p 3 (by omega) S2.out.a).mono ?_
   rintro e w6 ⟨o3, rfl, hA, hm⟩
   have S3 : Hid (WSt w p g (w.heap.size + 1) 63 w6 t' v' b bt es) := S2.out.draw hA hm
   clear hA hm S2
   go_upto_if 35 with fail
   go_cut [45] from 36 to 45 (fun s45 wc => ∃ es' : List Ent, WSt w p g (w.heap.size + 1) 63 wc t' v' b bt es')
   case first =>
    cases o3 with
    | false =>
     go_wp2_with fail
     go_meet
     exact ⟨es, S3.out⟩
    | true =>
     obtain ⟨A7, c7, ⟨k0, k1, k2, k3, k4⟩, kf, hk7, hO7⟩ := S3.out.out
     have Q0 : Hid (w6.drew.cell? ⟨g, 4, none⟩ = some (.slice A7 es.length c7)) := k4
     have hn7 := S3.out.n
     have cB := belowS w6.drew p ((es.length : Int) + 1) (by omega) (by omega) S3.out.drew.a
     have gn : IntKind.i64.wrap ((es.length : Int) + 1) = (es.length : Int) + 1 := by rw [IntKind.wrap_i64]; omega
     generalize hnl : es.length = nl at *
     have HNl : Hid (es.length = nl) := hnl
     clear hnl k0 k1 k2 k3 k4 kf
     go_wp2_with fail
     refine wp_region_until (fun w' => w'.cell? ⟨g, 4, none⟩ = some (.slice A7 nl c7)) (fun i => i == 10) 11 (by rfl) (by kernel_rfl) ?_
     refine until_pure 0 (v := ?_) (by rfl) (by kernel_rfl) (by exact fun _ _ _ h => h) (by rfl) ?_ ?_
     rotate_left
     ·intro w
      go_simp
      try with_reducible rfl
     try simp only [Act.put, setIfInBounds_toArray, set_cons_zero, set_cons_succ]
     refine until_take 1 (v := ?_) (by rfl) (by kernel_rfl) (by exact fun _ _ _ h => h) (by rfl) ?_ Q0.out ?_
     rotate_left
     ·intro w hSw
      try dsimp only at hSw
      go_simp
      try with_reducible rfl
     try simp only [Act.put, setIfInBounds_toArray, set_cons_zero, set_cons_succ]
     refine until_pure 2 (v := ?_) (by rfl) (by kernel_rfl) (by exact fun _ _ _ h => h) (by rfl) ?_ ?_
     rotate_left
     ·intro w
      go_simp
      try with_reducible rfl
     try simp only [Act.put, setIfInBounds_toArray, set_cons_zero, set_cons_succ]
     refine until_pure 3 (v := ?_) (by rfl) (by kernel_rfl) (by exact fun _ _ _ h => h) (by rfl) ?_ ?_
     rotate_left
     ·intro w
      go_simp
      try with_reducible rfl
     try simp only [Act.put, setIfInBounds_toArray, set_cons_zero, set_cons_succ]
     refine until_take 4 (v := ?_) (by rfl) (by kernel_rfl) (by exact fun _ _ _ h => h) (by rfl) ?_ Q0.out ?_
     rotate_left
     ·intro w hSw
      try dsimp only at hSw
      go_simp
      try with_reducible rfl
     try simp only [Act.put, setIfInBounds_toArray, set_cons_zero, set_cons_succ]
     refine until_pure 5 (v := ?_) (by rfl) (by kernel_rfl) (by exact fun _ _ _ h => h) (by rfl) ?_ ?_
     rotate_left
     ·intro w
      go_simp
      try with_reducible rfl
     try simp only [Act.put, setIfInBounds_toArray, set_cons_zero, set_cons_succ]
     refine until_pure 6 (v := ?_) (by rfl) (by kernel_rfl) (by exact fun _ _ _ h => h) (by rfl) ?_ ?_
     rotate_left
     ·intro w
      go_simp
      try with_reducible rfl
     try simp only [Act.put, setIfInBounds_toArray, set_cons_zero, set_cons_succ]
     refine until_one 7 (by rfl) (by kernel_rfl) (fun K hK => ?_)
     go_simp
     refine cB.mono ?_
     rintro e wd ⟨y, rfl, ⟨y0, y1⟩, hA, hm⟩
     obtain ⟨k, rfl⟩ : ∃ k : Nat, y = (k : Int) := ⟨y.toNat, by omega⟩
     have S8 : Hid (WSt w p g (w.heap.size + 1) 63 wd t' v' b bt es) := S3.out.drew.draw hA hm
     have hkd : Blk wd g #[.int .i64 t', .int .i64 v', .int .i64 b, .int .i64 bt, .slice A7 nl c7] 26 := (hm.block g hk7.lt (by have := S3.out.o; omega)).trans hk7
     have hOd : Owns wd w.heap.size 58 2 (.slice A7 nl c7) (entR es) := (hO7.kept fun _ _ _ => rfl : Owns w6.drew w.heap.size 58 2 (.slice A7 nl c7) (entR es)).mod hm S3.out.o.1 (Nat.le_refl _)
     have hOk : Owns wd w.heap.size 58 2 (.slice A7 k c7) (entR (es.take k)) := by
      have e : entR (es.take k) = (entR es).take k := by simp [entR, List.map_take]
      rw [e]
      exact hOd.first k (by rw [entR_length, HNl.out]; omega)
     have hct := fun wx => cut_ents A7 nl c7 k (by have := hOd.lies.room.2; omega) wx
     have S9 : Hid (WSt w p g (w.heap.size + 1) 63 (wd.setCell ⟨g, 4, none⟩ (.slice A7 k c7)) t' v' b bt (es.take k)) :=
      S8.out.setE hkd hOk S8.out.a (Mod.of_below (Below.refl _ _)) rfl rfl (by rw [List.length_take]; have := S8.out.n; omega) (fun x hx => S8.out.d x (List.mem_of_mem_take hx))
     have d4 := hkd.cell 4 _ rfl
     have f4 := hkd.free 4
     clear hA hm cB hkd hOd hk7 hO7 hOk
     go_wp2_with fail
     refine hK.out _ _ (fun _ _ => d4) ?_
     clear hK K
     try simp only [Act.put, setIfInBounds_toArray, set_cons_zero, set_cons_succ]
     refine until_pure 8 (v := ?_) (by rfl) (by kernel_rfl) (by exact fun _ _ _ h => h) (by rfl) ?_ ?_
     rotate_left
     ·intro w
      go_simp
      try with_reducible rfl
     try simp only [Act.put, setIfInBounds_toArray, set_cons_zero, set_cons_succ]
     refine until_pure 9 (v := ?_) (by rfl) (by kernel_rfl) (by exact fun _ _ _ h => h) (by rfl) ?_ ?_
     rotate_left
     ·intro w
      go_simp
      try with_reducible rfl
     try simp only [Act.put, setIfInBounds_toArray, set_cons_zero, set_cons_succ]
     refine until_one 10 (by rfl) (by kernel_rfl) (fun K hK => ?_)
     go_simp
     refine hK.out _ _ (fun h => by cases h) ?_
     clear hK K
     try simp only [Act.put, setIfInBounds_toArray, set_cons_zero, set_cons_succ]
     refine until_done (by kernel_rfl) ?_ _
     go_wp2_with fail
     go_meet
     exact ⟨_, S9.out⟩
   case rest =>
    obtain ⟨es', hS⟩ := hcut
    have S4 : Hid (WSt w p g (w.heap.size + 1) 63 wc t' v' b bt es') := hS
    clear hS S3
    generalize wc = w7 at *
    go_wp2_with fail
    refine (belowS w7 p 4 (by omega) (by omega) S4.out.a).mono ?_
    rintro e w8 ⟨y, rfl, ⟨y0, y1⟩, hA, hm⟩
    obtain ⟨n0, rfl⟩ : ∃ k : Nat, y = (k : Int) := ⟨y.toNat, by omega⟩
    have S5 : Hid (WSt w p g (w.heap.size + 1) 63 w8 t' v' b bt es') := S4.out.draw hA hm
    clear hA hm S4
    go_upto_block 0 with fail
    go_cut [6] from 6 to 81 (fun s6 wc => ∃ es'' : List Ent, WSt w p g (w.heap.size + 1) 63 wc t' v' b bt es'')
    case first =>
     go_wp2_with fail
     go_loopw [6] (fun s6 wr => ∃ (k : Nat) (es'' : List Ent), k ≤ 4 ∧ s6 = .int .i64 (k : Int) ∧ WSt w p g (w.heap.size + 1) 63 wr t' v' b bt es'') (fun i _ => (intOf i).toNat)
     case atStart => exact ⟨n0, es', by omega, rfl, S5.out⟩
     case round =>
      obtain ⟨k, f, hk, rfl, hS⟩ := hrel
      have SR : Hid (WSt w p g (w.heap.size + 1) 63 wr t' v' b bt f) := hS
      clear hS
      obtain ⟨A7, c7, ⟨k0, k1, k2, k3, k4⟩, kf, hk7, hO7⟩ := SR.out.out
      have hn7 := SR.out.n
      generalize hnl : f.length = nl at *
      have HNl : Hid (f.length = nl) := hnl
      clear hnl
      by_cases hk0 : 0 < k
      rotate_left
      ·obtain rfl : k = 0 := by omega
       go_wp2_with fail
       go_meet
       exact ⟨_, SR.out⟩
      have q0 : (0 : Int) < (k : Int) := by omega
      by_cases ht0 : 0 < t'
      rotate_left
      ·have dt : decide (0 < t') = false := decide_eq_false ht0
       go_wp2_with fail
       go_meet
       exact ⟨_, SR.out⟩
      have dt : decide (0 < t') = true := decide_eq_true ht0
      by_cases hl0 : (nl : Int) < 60
      rotate_left
      ·have dl : decide ((nl : Int) < 60) = false := decide_eq_false hl0
       go_wp2_with fail
       go_meet
       exact ⟨_, SR.out⟩
      have dl : decide ((nl : Int) < 60) = true := decide_eq_true hl0
      obtain ⟨z, gz⟩ : ∃ z, IntKind.i64.wrap (b + (nl : Int)) = z := ⟨_, rfl⟩
      by_cases hi0 : z < 100000
      rotate_left
      ·have di : decide (z < 100000) = false := decide_eq_false hi0
       go_wp2_with fail
       go_meet
       exact ⟨_, SR.out⟩
      have di : decide (z < 100000) = true := decide_eq_true hi0
      have Q0 : Hid (wr.drew.cell? ⟨g, 4, none⟩ = some (.slice A7 nl c7) ∧ wr.drew.cell? ⟨g, 0, none⟩ = some (.int .i64 t')) := ⟨k4, k0⟩
      have cB := text_some wr.drew p 6 (by omega) (by omega) SR.out.drew.a
      go_wp2_with fail
      refine wp_region_until (fun w' => w'.cell? ⟨g, 4, none⟩ = some (.slice A7 nl c7) ∧ w'.cell? ⟨g, 0, none⟩ = some (.int .i64 t')) (fun i => i == 8 || i == 10) 11 (by rfl) (by kernel_rfl) ?_
      refine until_pure 0 (v := ?_) (by rfl) (by kernel_rfl) (by exact fun _ _ _ h => h) (by rfl) ?_ ?_
      rotate_left
      ·intro w
       go_simp
       try with_reducible rfl
      try simp only [Act.put, setIfInBounds_toArray, set_cons_zero, set_cons_succ]
      refine until_take 1 (v := ?_) (by rfl) (by kernel_rfl) (by exact fun _ _ _ h => h) (by rfl) ?_ Q0.out ?_
      rotate_left
      ·intro w hSw
       try dsimp only at hSw
       go_simp
       try with_reducible rfl
      try simp only [Act.put, setIfInBounds_toArray, set_cons_zero, set_cons_succ]
      refine until_pure 2 (v := ?_) (by rfl) (by kernel_rfl) (by exact fun _ _ _ h => h) (by rfl) ?_ ?_
      rotate_left
      ·intro w
       go_simp
       try with_reducible rfl
      try simp only [Act.put, setIfInBounds_toArray, set_cons_zero, set_cons_succ]
      refine until_take 3 (v := ?_) (by rfl) (by kernel_rfl) (by exact fun _ _ _ h => h) (by rfl) ?_ Q0.out ?_
      rotate_left
      ·intro w hSw
       try dsimp only at hSw
       go_simp
       try with_reducible rfl
      try simp only [Act.put, setIfInBounds_toArray, set_cons_zero, set_cons_succ]
      refine until_pure 4 (v := ?_) (by rfl) (by kernel_rfl) (by exact fun _ _ _ h => h) (by rfl) ?_ ?_
      rotate_left
      ·intro w
       go_simp
       try with_reducible rfl
      try simp only [Act.put, setIfInBounds_toArray, set_cons_zero, set_cons_succ]
      refine until_one 5 (by rfl) (by kernel_rfl) (fun K hK => ?_)
      go_simp
      refine cB.mono ?_
      rintro e wd ⟨d, rfl, hdz, hA, hm⟩
      have S8 : Hid (WSt w p g (w.heap.size + 1) 63 wd t' v' b bt f) := SR.out.drew.draw hA hm
      have hkd : Blk wd g #[.int .i64 t', .int .i64 v', .int .i64 b, .int .i64 bt, .slice A7 nl c7] 26 := (hm.block g hk7.lt (by have := SR.out.o; omega)).trans hk7
      have hOd : Owns wd w.heap.size 58 2 (.slice A7 nl c7) (entR f) := (hO7.kept fun _ _ _ => rfl : Owns wr.drew w.heap.size 58 2 (.slice A7 nl c7) (entR f)).mod hm SR.out.o.1 (Nat.le_refl _)
      have KD : Hid (Blk wd g #[.int .i64 t', .int .i64 v', .int .i64 b, .int .i64 bt, .slice A7 nl c7] 26) := hkd
      have OD : Hid (Owns wd w.heap.size 58 2 (.slice A7 nl c7) (entR f)) := hOd
      have d4 := hkd.cell 4 _ rfl
      have d0 := hkd.cell 0 _ rfl
      have HDt : Hid (d.size ≤ 1000) := hdz
      obtain ⟨nA, nm, nc, Y5, r5, hO5, hb5, hk5, -⟩ := run_append_row (P := Try.prog) wd 24 24 58 (.agg #[.int .i64 0, .string ⟨#[]⟩]) 2 24 Try.underlying24 Try.infoEntB rfl (by omega) w.heap.size (.slice A7 nl c7) (entR f) OD.out [.int .i64 t', .string d] rfl (by intro y hy; simp at hy; rcases hy with rfl | rfl <;> rfl) (by rw [entR_length, HNl.out]; omega) (by omega) S8.out.m.size
      clear hA hm cB hkd hOd hk7 hO7 k0 k1 k2 k3 k4 kf hdz
      go_wp2_with fail
      refine hK.out _ _ (fun _ _ => ⟨d4, d0⟩) ?_
      clear hK K
      try simp only [Act.put, setIfInBounds_toArray, set_cons_zero, set_cons_succ]
      refine until_pure 6 (v := ?_) (by rfl) (by kernel_rfl) (by exact fun _ _ _ h => h) (by rfl) ?_ ?_
      rotate_left
      ·intro w
       go_simp
       try with_reducible rfl
      try simp only [Act.put, setIfInBounds_toArray, set_cons_zero, set_cons_succ]
      refine until_one 7 (by rfl) (by kernel_rfl) (fun K hK => ?_)
      go_simp
      refine hK.out _ _ (fun _ h => ⟨cell_alloc_w h.1 _, cell_alloc_w h.2 _⟩) ?_
      clear hK K
      try simp only [Act.put, setIfInBounds_toArray, set_cons_zero, set_cons_succ]
      refine until_one 8 (by rfl) (by kernel_rfl) (fun K hK => ?_)
      refine step_append_run (by rfl) (.tmp 73) (.tmp 79) 24 (by rfl) _ _ _ _ (by rfl) (by rfl) r5 ?_
      refine hK.out _ _ (fun h => by cases h) ?_
      clear hK K
      try simp only [Act.put, setIfInBounds_toArray, set_cons_zero, set_cons_succ]
      have hO8 : Owns Y5 w.heap.size 58 2 (.slice nA nm nc) (entR (f ++ [(⟨t', d⟩ : Ent)])) := by unfold entR; rw [List.map_append]; exact hO5
      have hg7 : Y5.heap[g]? = wd.heap[g]? := hk5 g KD.out.lt (OD.out.notBlk KD.out (by decide))
      have hR7 : Y5.heap[(w.heap.size + 1)]? = wd.heap[(w.heap.size + 1)]? := hk5 _ S8.out.r.lt (OD.out.notBlk S8.out.r (by decide))
      have S9 : Hid (WSt w p g (w.heap.size + 1) 63 (Y5.setCell ⟨g, 4, none⟩ (.slice nA nm nc)) t' v' b bt (f ++ [(⟨t', d⟩ : Ent)])) :=
       S8.out.setE KD.out hO8 (S8.out.a.below hb5 S8.out.o.1) (Mod.of_below hb5) hg7 hR7 (by rw [List.length_append, HNl.out]; simp; omega) (fun x hx => by
        rcases List.mem_append.1 hx with hx | hx
        ·exact S8.out.d x hx
        ·rw [List.mem_singleton.1 hx]; exact HDt.out)
      have hk8 : Blk Y5 g #[.int .i64 t', .int .i64 v', .int .i64 b, .int .i64 bt, .slice A7 nl c7] 26 := hg7.trans KD.out
      have m4 := hk8.cell 4 _ rfl
      have mf := hk8.free 4
      clear hO8 hg7 hR7 hk8 hO5 hb5 hk5
      refine until_pure 9 (v := ?_) (by rfl) (by kernel_rfl) (by exact fun _ _ _ h => h) (by rfl) ?_ ?_
      rotate_left
      ·intro w
       go_simp
       try with_reducible rfl
      try simp only [Act.put, setIfInBounds_toArray, set_cons_zero, set_cons_succ]
      refine until_one 10 (by rfl) (by kernel_rfl) (fun K hK => ?_)
      go_simp
      refine hK.out _ _ (fun h => by cases h) ?_
      clear hK K
      try simp only [Act.put, setIfInBounds_toArray, set_cons_zero, set_cons_succ]
      refine until_done (by kernel_rfl) ?_ _
      have gk : IntKind.i64.wrap ((k : Int) - 1) = ((k - 1 : Nat) : Int) := by rw [IntKind.wrap_i64]; omega
      go_wp2_with fail
      go_roundw
      case rel => exact ⟨k - 1, _, by omega, rfl, S9.out⟩
      case measure => simp [intOf]; omega
    case rest =>
     obtain ⟨es'', hS⟩ := hcut
     have S7 : Hid (WSt w p g (w.heap.size + 1) 63 wc t' v' b bt es'') := hS
     clear hS S5
     generalize wc = wg at *
     obtain ⟨AZ, cZ, ⟨k0, k1, k2, k3, k4⟩, kf, hkZ, hOZ⟩ := S7.out.out
     have r0 := S7.out.r
     have r1 := r0.set 0 (.int .i64 t')
     have r2 := r1.set 1 (.int .i64 v')
     have r3 := r2.set 2 (.int .i64 b)
     have r4 := r3.set 3 (.int .i64 bt)
     have r5 := r4.set 4 (.slice AZ es''.length cZ)
     have y0 := r0.cell 0 _ rfl
     have y1 := r1.cell 1 _ rfl
     have y2 := r2.cell 2 _ rfl
     have y3 := r3.cell 3 _ rfl
     have y4 := r4.cell 4 _ rfl
     have f0 := r0.free 0
     have f1 := r1.free 1
     have f2 := r2.free 2
     have f3 := r3.free 3
     have f4 := r4.free 4
     have x0 := r5.cell 0 (.int .i64 t') rfl
     have x1 := r5.cell 1 (.int .i64 v') rfl
     have x2 := r5.cell 2 (.int .i64 b) rfl
     have x3 := r5.cell 3 (.int .i64 bt) rfl
     have x4 := r5.cell 4 (.slice AZ es''.length cZ) rfl
     have hne := hOZ.notBlk r0 (by decide)
     have OF : Hid (Owns (((((wg.setCell ⟨(w.heap.size + 1), 0, none⟩ (.int .i64 t')).setCell ⟨(w.heap.size + 1), 1, none⟩ (.int .i64 v')).setCell ⟨(w.heap.size + 1), 2, none⟩ (.int .i64 b)).setCell ⟨(w.heap.size + 1), 3, none⟩ (.int .i64 bt)).setCell ⟨(w.heap.size + 1), 4, none⟩ (.slice AZ es''.length cZ)) w.heap.size 58 2 (.slice AZ es''.length cZ) (entR es'')) := ((((hOZ.other hne _ _).other hne _ _).other hne _ _).other hne _ _).other hne _ _
     have BF : Hid (Below w.heap.size wg (((((wg.setCell ⟨(w.heap.size + 1), 0, none⟩ (.int .i64 t')).setCell ⟨(w.heap.size + 1), 1, none⟩ (.int .i64 v')).setCell ⟨(w.heap.size + 1), 2, none⟩ (.int .i64 b)).setCell ⟨(w.heap.size + 1), 3, none⟩ (.int .i64 bt)).setCell ⟨(w.heap.size + 1), 4, none⟩ (.slice AZ es''.length cZ))) := (((((Below.refl w.heap.size wg).setCell (show w.heap.size ≤ (w.heap.size + 1) from S7.out.o.2.1) _).setCell (show w.heap.size ≤ (w.heap.size + 1) from S7.out.o.2.1) _).setCell (show w.heap.size ≤ (w.heap.size + 1) from S7.out.o.2.1) _).setCell (show w.heap.size ≤ (w.heap.size + 1) from S7.out.o.2.1) _).setCell (show w.heap.size ≤ (w.heap.size + 1) from S7.out.o.2.1) _
     have AF : Hid (AtS (((((wg.setCell ⟨(w.heap.size + 1), 0, none⟩ (.int .i64 t')).setCell ⟨(w.heap.size + 1), 1, none⟩ (.int .i64 v')).setCell ⟨(w.heap.size + 1), 2, none⟩ (.int .i64 b)).setCell ⟨(w.heap.size + 1), 3, none⟩ (.int .i64 bt)).setCell ⟨(w.heap.size + 1), 4, none⟩ (.slice AZ es''.length cZ)) p) := S7.out.a.below BF.out S7.out.o.1
     have MF : Hid (Mod w.heap.size p w (((((wg.setCell ⟨(w.heap.size + 1), 0, none⟩ (.int .i64 t')).setCell ⟨(w.heap.size + 1), 1, none⟩ (.int .i64 v')).setCell ⟨(w.heap.size + 1), 2, none⟩ (.int .i64 b)).setCell ⟨(w.heap.size + 1), 3, none⟩ (.int .i64 bt)).setCell ⟨(w.heap.size + 1), 4, none⟩ (.slice AZ es''.length cZ))) := S7.out.m.trans (Mod.of_below BF.out)
     clear r0 r1 r2 r3 r4 r5 hkZ hOZ hne kf
     go_wp2_with fail
     exact bodyPost_ret (v := .agg #[.int .i64 t', .int .i64 v', .int .i64 b, .int .i64 bt, .slice AZ es''.length cZ]) (by simp [results, Try.f15, go_sem, x0, x1, x2, x3, x4]) rfl ⟨_, ⟨t', v', b, bt, es''⟩, rfl, ⟨_, rfl, OF.out⟩, S7.out.n, S7.out.d, by constructor <;> (show _ ≤ _) <;> dsimp only <;> omega, AF.out, MF.out⟩
end Go.Proofs.Ytfmannphobjgpaa
