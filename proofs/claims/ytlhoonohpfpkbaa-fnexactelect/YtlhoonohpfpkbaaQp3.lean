/- Clone StCopyI CoCp CoOf CoSay RcSpec RcImpl RcOf WokSpec WokImpl -/
import Derived.Test.YtlhoonohpfpkbaaRows
import Derived.Shelf.Pu.Clone
import Derived.WalkKit
import Derived.Below
import Derived.Test.YtlhoonohpfpkbaaQp2
import Derived.Test.YtlhoonohpfpkbaaQp1
import Derived.Handy
import Derived.Deep.RegionHeld3
import Derived.Test.YtlhoonohpfpkbaaQp0
import Derived.Deep.Cut
import Derived.Deep.CutRange
import Derived.Deep.RegionWith
open List (setIfInBounds_toArray set_cons_zero set_cons_succ)
namespace Go.Proofs.Ytlhoonohpfpkbaa
open Go.RowKit
def cloneRen : Go.Shelf.Ren := ⟨fun _ => 85, fun | 37 => 82 | 47 => 108 | t => t, fun g => g⟩
theorem clone_lays : Go.Proofs.LaysPu.n25 Try.prog cloneRen where
 mixed := by kernel_rfl
 f25 := Try.func85.trans (congrArg some (by kernel_rfl))
 t0 := Try.underlying0
 a0 := Try.isAgg0
 z0 := Try.sizeOf0
 v0 := Try.zeroValue0
 i0 := by kernel_rfl
 t3 := Try.underlying3
 a3 := Try.isAgg3
 z3 := Try.sizeOf3
 v3 := Try.zeroValue3
 i3 := by kernel_rfl
 t4 := Try.underlying4
 a4 := Try.isAgg4
 z4 := Try.sizeOf4
 v4 := Try.zeroValue4
 i4 := by kernel_rfl
 t5 := Try.underlying5
 a5 := Try.isAgg5
 z5 := Try.sizeOf5
 v5 := Try.zeroValue5
 i5 := by kernel_rfl
 t9 := Try.underlying9
 a9 := Try.isAgg9
 z9 := Try.sizeOf9
 v9 := Try.zeroValue9
 i9 := by kernel_rfl
 t37 := Try.underlying82
 a37 := Try.isAgg82
 z37 := Try.sizeOf82
 v37 := Try.zeroValue82
 i37 := by kernel_rfl
 t47 := Try.underlying108
 a47 := Try.isAgg108
 z47 := Try.sizeOf108
 v47 := Try.zeroValue108
 i47 := by kernel_rfl
theorem clone (s : ByteArray) (w : World) (hs : s.size ≤ 281474976710656) :
  Calls Try.prog 76 #[.string s] w fun e w' => e = .returned (.string s) ∧ Below w.heap.size w w' := by
 have c1 : Calls Try.prog 85 #[.string s] w fun e w' => e = .returned (.string s) ∧ Below w.heap.size w w' := AnyPu.stringslite_Clone clone_lays s w hs
 clear hs
 go_enter Try.func76, Try.ntmps76
 go_wp2_with fail
 refine c1.mono ?_
 rintro e w1 ⟨rfl, hb1⟩
 go_wp2_with fail
 go_ret
 exact ⟨rfl, hb1⟩
end Go.Proofs.Ytlhoonohpfpkbaa
namespace Go.Proofs.Ytlhoonohpfpkbaa
open Go.ChangeShapes Go.WideShapes Go.ChangeAt Go.RowKit Go.PlainAid
set_option linter.unusedVariables false
theorem Hid.mkC {p : Prop} (h : p) : Hid p := h
theorem cell_alloc_keepC {w : World} {p : Addr} {v : Value} (h : w.cell? p = some v) (o : Obj) : (w.alloc o).cell? p = some v := by
 have hl : p.block < w.heap.size := by
  rcases Nat.lt_or_ge p.block w.heap.size with h1 | h1
  ·exact h1
  ·simp [World.cell?, Array.getElem?_eq_none h1] at h
 exact (((Below.refl w.heap.size w).alloc (Nat.le_refl _) o).cell hl).trans h
theorem ent_cellsC (t : Int) (d : ByteArray) : ∀ u ∈ ([.int .i64 t, .string d] : List Value), u.oneCell' = true := by
 intro u hu
 simp only [List.mem_cons, List.not_mem_nil, or_false] at hu
 rcases hu with rfl | rfl <;> rfl
set_option maxRecDepth 20000 in
set_option maxHeartbeats 8000000 in
theorem copyEntsI (l : List Ent) (v : Value) (w : World) (B : Nat) (hv : Lies w B 2 v (entR l)) (hn : l.length ≤ 1048576) (hd : ∀ y ∈ l, y.data.size ≤ 1048576) (hB : B ≤ w.heap.size) :
  Calls Try.prog 72 #[v] w fun e w' => (∃ u, e = .returned u ∧ Owns w' w.heap.size 71 2 u (entR l)) ∧ Below w.heap.size w w' := by
 obtain ⟨A, cap, rfl, hlk⟩ := ent_look hv
 have HL := Hid.mkC hlk
 have HB : Hid (B ≤ w.heap.size) := hB
 have HD : Hid (∀ i, i < l.length → (l.getD i default).data.size ≤ 1048576) := fun i hi => hd _ (getD_mem l i hi)
 have HT : Hid (∀ i, i < l.length → entR (l.take (i + 1)) = entR (l.take i) ++ [entC (l.getD i default)]) := fun i hi => entR_snoc l i hi
 have HTA : Hid (l.take l.length = l) := List.take_length
 have HLN : Hid (∀ i, (entR (l.take i)).length ≤ 2097152) := fun i => by rw [entR_length, List.length_take]; omega
 clear hv hlk hB hd
 generalize hN : l.length = n at *
 clear hN
 have qn : (n : Int) ≤ 1048576 := by omega
 go_enter Try.func72, Try.ntmps72
 go_wp2_with fail
 go_loopw [3, 8] (fun v3 v8 wr => ∃ i : Nat, i ≤ n ∧ v8 = .int .i64 (i : Int) ∧ Owns wr w.heap.size 71 2 v3 (entR (l.take i)) ∧ Below w.heap.size w wr) (fun _ v _ => n - (intOf v).toNat)
 case atStart => exact ⟨0, Nat.zero_le _, rfl, Owns.nil _ _ _ _, Below.refl _ _⟩
 case round =>
  obtain ⟨i, hi, rfl, ho, hd⟩ := hrel
  obtain ⟨Ae, me, ce, rfl⟩ := ho.shape
  have O3 := Hid.mkC ho
  have D3 := Hid.mkC hd
  clear ho hd
  by_cases hlt : i < n
  ·have q4 : (i : Int) < (n : Int) := by omega
   obtain ⟨g, off, rfl, hg, e0, e1⟩ := HL.out i hlt
   have hgw : g < w.heap.size := Nat.lt_of_lt_of_le hg HB.out
   rw [← D3.out.cell (p := ⟨_, _, none⟩) hgw] at e0 e1
   have hds := HD.out i hlt
   have HTi : Hid (entR (l.take (i + 1)) = entR (l.take i) ++ [entC (l.getD i default)]) := HT.out i hlt
   have HLi : Hid ((entR (l.take i)).length ≤ 2097152) := HLN.out i
   generalize l.getD i default = y at *
   obtain ⟨yt, yd⟩ := y
   simp only at e0 e1 hds
   have cC := fun wx => clone yd wx (by omega)
   have al := (Below.refl wr.heap.size wr).alloc (Nat.le_refl _) (.cells #[.int .i64 yt, .string yd] 71)
   have KE := Hid.mkC (Blk.new wr #[.int .i64 yt, .string yd] 71)
   have D4 : Hid (Below w.heap.size w (wr.alloc (.cells #[.int .i64 yt, .string yd] 71))) := D3.out.trans (al.mono D3.out.size)
   have O4 := Hid.mkC (O3.out.on al)
   clear al hds hgw hg
   go_wp2_with fail
   clear e0 e1 O3 D3
   generalize wr.heap.size = ge at *
   generalize wr.alloc (.cells #[.int .i64 yt, .string yd] 71) = Z at *
   have HS1 : Hid (∀ wx, Below Z.heap.size Z wx → wx.cell? ⟨ge, 0, none⟩ = some (.int .i64 yt) ∧ wx.cell? ⟨ge, 1, none⟩ = some (.string yd)) := fun wx hx => ⟨(KE.out.on hx KE.out.lt).cell 0 _ rfl, (KE.out.on hx KE.out.lt).cell 1 _ rfl⟩
   refine wp_region_until (fun w' => w'.cell? ⟨ge, 0, none⟩ = some (.int .i64 yt) ∧ w'.cell? ⟨ge, 1, none⟩ = some (.string yd)) (fun i => i == 8) 10 (by rfl) (by kernel_rfl) ?_
   have V0 : Hid (Below Z.heap.size Z Z.drew) := (Below.refl _ _).drew
   generalize Z.drew = Y0 at *
   refine tF 0 (HS1.out _ V0.out) ?_
   refine tF 1 (HS1.out _ V0.out) ?_
   refine tF 2 (HS1.out _ V0.out) ?_
   refine tF 3 (HS1.out _ V0.out) ?_
   refine tF 4 (HS1.out _ V0.out) ?_
   refine uNe 5 (fun K hK => ?_)
   go_simp
   refine (cC Y0).mono ?_
   rintro e Y1 ⟨rfl, hb⟩
   have V1 : Hid (Below Z.heap.size Z Y1) := V0.out.trans (hb.mono V0.out.size)
   clear hb V0 cC
   refine hK.out _ _ (fun _ _ => HS1.out _ V1.out) ?_
   clear hK K
   try simp only [Act.put, zQ1, zQ2, zQ3]
   refine pF 6 ?_
   have O5 := Hid.mkC (O4.out.on V1.out)
   have D5 : Hid (Below w.heap.size w Y1) := D4.out.trans (V1.out.mono D4.out.size)
   obtain ⟨nA, nm, nc, w5, r5, hO5, hb5, hk5, -⟩ := run_append_row (P := Try.prog) Y1 27 27 71 (.agg #[.int .i64 0, .string ⟨#[]⟩]) 2 24 Try.underlying27 Try.infoEnt rfl (by omega) w.heap.size (.slice Ae me ce) (entR (l.take i)) O5.out [.int .i64 yt, .string yd] rfl (ent_cellsC _ _) HLi.out (by omega) D5.out.size
   refine uNe 7 (fun K hK => ?_)
   go_simp
   refine hK.out _ _ (fun _ h => ⟨cell_alloc_keepC h.1 _, cell_alloc_keepC h.2 _⟩) ?_
   clear hK K
   try simp only [Act.put, zQ1, zQ2, zQ3]
   refine uNe 8 (fun K hK => ?_)
   refine step_append_run (by rfl) (.tmp 12) (.tmp 19) 27 (by rfl) _ _ _ _ (by rfl) (by rfl) r5 ?_
   have O6 : Hid (Owns w5 w.heap.size 71 2 (.slice nA nm nc) (entR (l.take (i + 1)))) := by unfold Hid; rw [HTi.out]; exact hO5
   have D6 : Hid (Below w.heap.size w w5) := D5.out.trans hb5
   clear hO5 hb5 hk5 r5 O5 D5 O4 D4 V1 KE HS1
   refine hK.out _ _ (fun h => by cases h) ?_
   clear hK K
   try simp only [Act.put, zQ1, zQ2, zQ3]
   refine pF 9 ?_
   refine until_done (by kernel_rfl) ?_ _
   try go_wp2_with fail
   go_roundw
   case rel => exact ⟨i + 1, by omega, by go_num, O6.out, D6.out⟩
   case measure => simp [intOf]; omega
  ·obtain rfl : i = n := by omega
   rw [HTA.out] at O3
   go_wp2_with fail
   go_ret
   exact ⟨⟨_, rfl, O3.out⟩, D3.out⟩
end Go.Proofs.Ytlhoonohpfpkbaa
namespace Go.Proofs.Ytlhoonohpfpkbaa
open Go.ChangeShapes Go.WideShapes Go.ChangeAt Go.RowKit Go.PlainAid
set_option linter.unusedVariables false
set_option maxRecDepth 100000 in
set_option maxHeartbeats 1000000 in
theorem cloneInts (l : List Int) (v : Value) (w : World) (base : Nat) (hv : Nums w base v l) (hl : l.length ≤ 1048576) :
  Calls Try.prog 73 #[v] w fun e w' => (∃ u, e = .returned u ∧ Nums w' w.heap.size u l) ∧ Below w.heap.size w w' := by
 rcases hv.form with ⟨rfl, rfl⟩ | ⟨g, cap, rfl, h1, h2, h3, h4⟩
 ·refine (AnyE.slices_Clone_nil Try.cloneI 0 0 w).mono ?_
  intro e w' h
  first
   | (obtain ⟨rfl, rfl⟩ := h; exact ⟨⟨_, rfl, Nums.nil _ _⟩, Below.refl _ _⟩)
   | (obtain ⟨rfl, hb⟩ := h; exact ⟨⟨_, rfl, Nums.nil _ _⟩, hb⟩)
 obtain ⟨i0, hi, hz0, hz1, hz2⟩ := info_parts Try.infoInt
 have hc := fun j u (hj : (numCells l)[j]? = some u) => show w.cell? ⟨g, 0 + j, none⟩ = some u by
  have hjl : j < l.length := by have := (List.getElem?_eq_some_iff.1 hj).1; simpa [numCells] using this
  rw [Nat.zero_add, hv.cell j hjl]
  rw [← hj]
  simp [numCells, hjl]
 refine (AnyE.slices_Clone Try.cloneI i0 _ 1 8 hi hz0 hz1 hz2 rfl (by omega) Try.sizeOf3 g 0 l.length cap (numCells l) w (by simp [numCells]) (by unfold maxLen; omega) (by omega) hc ?_).mono ?_
 ·intro y hy
  obtain ⟨z, _, rfl⟩ := List.mem_map.1 hy
  rfl
 ·rintro e w' ⟨u, rfl, hO, _, hb⟩
  exact ⟨⟨u, rfl, hO⟩, hb⟩
end Go.Proofs.Ytlhoonohpfpkbaa
namespace Go.Proofs.Ytlhoonohpfpkbaa
open Go.ChangeShapes Go.WideShapes Go.ChangeAt Go.RowKit Go.PlainAid
set_option linter.unusedVariables false
theorem Owns.notBlk {w : World} {base sz : Nat} {e : TypeId} {v : Value} {R : List (List Value)} (h : Owns w base e sz v R) {g : Nat} {cs : Array Value} {t : TypeId} {fz : Nat × Nat} (hB : w.heap[g]? = some (.cells cs t fz)) (ht : t ≠ e) : v.ownBlock ≠ some g := fun hk => by
 rcases h.2.2 with ⟨rfl, _⟩ | ⟨g1, c1, cur1, rfl, _, k1, _⟩
 ·cases hk
 ·cases hk
  rw [k1] at hB
  cases hB
  exact ht rfl
end Go.Proofs.Ytlhoonohpfpkbaa
namespace Go.Proofs.Ytlhoonohpfpkbaa
open Go.ChangeShapes Go.WideShapes Go.ChangeAt Go.RowKit Go.PlainAid
set_option linter.unusedVariables false
theorem Try.infoMsg : (Try.prog.info? 48).map (fun i => (i.zero, i.size, i.bytes)) = some (some (.agg #[.int .i64 0, .int .i64 0, .int .i64 0, .int .i64 0, .int .i64 0, .int .i64 0, .int .i64 0, .bool false, .slice none 0 0, .string ⟨#[]⟩]), 10, 104) := by kernel_rfl
theorem Owns.kind {w : World} {base sz : Nat} {e : TypeId} {v : Value} {R : List (List Value)} (h : Owns w base e sz v R) {g : Nat} (hg : v.ownBlock = some g) : ∃ cs fz, w.heap[g]? = some (.cells cs e fz) := by
 rcases h.2.2 with ⟨rfl, _⟩ | ⟨g1, c1, cur1, rfl, _, k1, _⟩
 ·cases hg
 ·cases hg
  exact ⟨_, _, k1⟩
theorem CoRows.app {w w' : World} {base b : Nat} {x : Cor} {ul uy un um v : Value} {R : List (List Value)} (h : CoRows w base x ul uy un um) (hv : Owns w b 48 10 v R) (hk : ∀ g, g < w.heap.size → v.ownBlock ≠ some g → w'.heap[g]? = w.heap[g]?) : CoRows w' base x ul uy un um := by
 refine ⟨h.l.kept fun g hg e => hk g hg fun q => ?_, h.y.kept fun g hg e => hk g hg fun q => ?_, h.n.kept fun g hg e => hk g hg fun q => ?_, h.m.kept fun g hg e => hk g hg fun q => ?_, h.yn, h.ym, h.nm⟩
 ·obtain ⟨cs, fz, e'⟩ := hv.kind q
  exact h.l.notBlk e' (by decide) e
 ·obtain ⟨cs, fz, e'⟩ := hv.kind q
  exact h.y.notBlk e' (by decide) e
 ·obtain ⟨cs, fz, e'⟩ := hv.kind q
  exact h.n.notBlk e' (by decide) e
 ·obtain ⟨cs, fz, e'⟩ := hv.kind q
  exact h.m.notBlk e' (by decide) e
def KeepI (w w' : World) : Prop := ∀ (g : Nat) (cs : Array Value) (fz : Nat × Nat), w.heap[g]? = some (.cells cs 3 fz) → w'.heap[g]? = w.heap[g]?
theorem KeepI.of {w w' : World} (h : Below w.heap.size w w') : KeepI w w' := fun g cs fz e => h.block g (by
 rcases Nat.lt_or_ge g w.heap.size with h1 | h1
 ·exact h1
 ·rw [Array.getElem?_eq_none h1] at e; cases e)
theorem KeepI.trans {w w' w'' : World} (h : KeepI w w') (h' : KeepI w' w'') : KeepI w w'' := fun g cs fz e => (h' g cs fz ((h g cs fz e).trans e)).trans (h g cs fz e)
theorem Nums.keepI {w w' : World} {b : Nat} {v : Value} {l : List Int} (h : Nums w b v l) (hk : KeepI w w') : Nums w' b v l := h.kept fun g hg e => by
 obtain ⟨cs, fz, e'⟩ := h.kind e
 exact hk g cs fz e'
theorem msg_one (p : Mg × Value) (h : p.2.oneCell' = true) : ∀ u ∈ mgC p, u.oneCell' = true := by
 intro u hu
 simp only [mgC, List.mem_cons, List.not_mem_nil, or_false] at hu
 rcases hu with rfl | rfl | rfl | rfl | rfl | rfl | rfl | rfl | rfl | rfl
 all_goals first | rfl | exact h
set_option maxRecDepth 20000 in
set_option maxHeartbeats 8000000 in
theorem sayI (ci cp ct cv cr cd cb cbt : Int) (lg : List Ent) (cc : Int) (ys ns ms : List Int) (A0 : Option Addr) (An0 Ac0 : Nat) (A1 : Option Addr) (An1 Ac1 : Nat) (A2 : Option Addr) (An2 Ac2 : Nat) (A3 : Option Addr) (An3 Ac3 : Nat) (A4 : Option Addr) (An4 Ac4 : Nat) (L : List (Mg × Value)) (mk mf md mt mi mit mc : Int) (my : Bool) (es : List Ent) (da : ByteArray) (ue : Value) (w : World) (base p : Nat) (hsp : SpkO w base p ⟨ci, cp, ct, cv, cr, cd, cb, cbt, lg, cc, ys, ns, ms⟩ (.slice A0 An0 Ac0) (.slice A1 An1 Ac1) (.slice A2 An2 Ac2) (.slice A3 An3 Ac3) (.slice A4 An4 Ac4) L) (hu : Owns w base 71 2 ue (entR es)) (hap : ∀ q ∈ L, Apart q.2 ue) (hal : ∀ g, ue.ownBlock = some g → blkF (.slice A0 An0 Ac0) ≠ some g) (hL : L.length ≤ 1000) (hbs : base ≤ w.heap.size) :
  Calls Try.prog 59 #[.pointer (some ⟨p, 0, none⟩), .agg #[.int .i64 mk, .int .i64 mf, .int .i64 md, .int .i64 mt, .int .i64 mi, .int .i64 mit, .int .i64 mc, .bool my, ue, .string da]] w fun e w' => e = .returned (.tuple #[]) ∧ (∃ us, SpkO w' base p ⟨ci, cp, ct, cv, cr, cd, cb, cbt, lg, cc, ys, ns, ms⟩ (.slice A0 An0 Ac0) (.slice A1 An1 Ac1) (.slice A2 An2 Ac2) (.slice A3 An3 Ac3) (us) (L ++ [(⟨mk, ci, md, ct, mi, mit, mc, my, es, da⟩, ue)])) ∧ Below base w w' ∧ KeepI w w' := by
 have SP := Hid.mk hsp
 have HU := Hid.mk hu
 have HAP : Hid (∀ q ∈ L, Apart q.2 ue) := hap
 have HAL : Hid (∀ g, ue.ownBlock = some g → blkF (.slice A0 An0 Ac0) ≠ some g) := hal
 have HBS : Hid (base ≤ w.heap.size) := hbs
 have HLn : Hid ((mgR L).length ≤ 2097152) := by unfold Hid; rw [mgR_length]; omega
 obtain ⟨Ue, Un, Uc, rfl⟩ := hu.shape
 have HPL : Hid (p < w.heap.size) := hsp.b.lt
 clear hsp hu hap hal hbs hL
 obtain ⟨W0, hW0⟩ : ∃ W0, W0 = w.alloc (.cells #[.int .i64 mk, .int .i64 mf, .int .i64 md, .int .i64 mt, .int .i64 mi, .int .i64 mit, .int .i64 mc, .bool my, .slice Ue Un Uc, .string da] 48) := ⟨_, rfl⟩
 have B0 : Hid (Below w.heap.size w W0) := by unfold Hid; rw [hW0]; exact (Below.refl _ w).alloc (Nat.le_refl _) _
 have M0 : Hid (Blk W0 w.heap.size #[.int .i64 mk, .int .i64 mf, .int .i64 md, .int .i64 mt, .int .i64 mi, .int .i64 mit, .int .i64 mc, .bool my, .slice Ue Un Uc, .string da] 48) := by unfold Hid; rw [hW0]; exact Blk.new w _ _
 have P0 : Hid (Blk W0 p #[.int .i64 ci, .int .i64 cp, .int .i64 ct, .int .i64 cv, .int .i64 cr, .int .i64 cd, .int .i64 cb, .int .i64 cbt, .slice A0 An0 Ac0, .int .i64 cc, .slice A1 An1 Ac1, .slice A2 An2 Ac2, .slice A3 An3 Ac3, .slice A4 An4 Ac4] 74) := SP.out.b.on B0.out HPL.out
 go_enter Try.func59, Try.ntmps59
 go_wp2_with fail
 rw [← hW0]
 clear hW0
 refine wp_region_until (fun w' => w'.cell? ⟨p, 0, none⟩ = some (.int .i64 ci) ∧ w'.cell? ⟨p, 2, none⟩ = some (.int .i64 ct)) (fun _ => false) 14 (by rfl) (by kernel_rfl) ?_
 have V0 : Hid (Below w.heap.size w W0.drew) := B0.out.trans ((Below.refl _ W0).drew.mono B0.out.size)
 have M1 := Hid.mk (M0.out.on ((Below.refl _ W0).drew) M0.out.lt)
 have P1 := Hid.mk (P0.out.on ((Below.refl _ W0).drew) P0.out.lt)
 generalize W0.drew = Y0 at *
 clear B0 M0 P0
 have SS0 := Hid.mk (show (fun w' => w'.cell? ⟨p, 0, none⟩ = some (.int .i64 ci) ∧ w'.cell? ⟨p, 2, none⟩ = some (.int .i64 ct)) Y0 from ⟨P1.out.cell 0 _ rfl, P1.out.cell 2 _ rfl⟩)
 refine tF 0 SS0.out ?_
 refine tF 1 SS0.out ?_
 refine tF 2 SS0.out ?_
 refine tF 3 SS0.out ?_
 refine tF 4 SS0.out ?_
 refine tF 5 SS0.out ?_
 refine tF 6 SS0.out ?_
 refine tF 7 SS0.out ?_
 refine tF 8 SS0.out ?_
 refine tF 9 SS0.out ?_
 refine tF 10 SS0.out ?_
 have f1 := M1.out.free 1
 have o1 := M1.out.cell 1 _ rfl
 have M2 := Hid.mk (M1.out.set 1 (.int .i64 ci))
 have P2 := Hid.mk (P1.out.other (show p ≠ w.heap.size by have := HPL.out; omega) 1 (.int .i64 ci))
 refine uNe 11 (fun K hK => ?_)
 go_simp
 refine hK.out _ _ (fun _ _ => ⟨P2.out.cell 0 _ rfl, P2.out.cell 2 _ rfl⟩) ?_
 clear hK K f1 o1
 try simp only [Act.put, zQ1, zQ2, zQ3]
 refine pF 12 ?_
 have f3 := M2.out.free 3
 have o3 := M2.out.cell 3 _ rfl
 have M3 := Hid.mk (M2.out.set 3 (.int .i64 ct))
 have P3 := Hid.mk (P2.out.other (show p ≠ w.heap.size by have := HPL.out; omega) 3 (.int .i64 ct))
 refine uNe 13 (fun K hK => ?_)
 go_simp
 refine hK.out _ _ (fun _ _ => ⟨P3.out.cell 0 _ rfl, P3.out.cell 2 _ rfl⟩) ?_
 clear hK K f3 o3
 try simp only [Act.put, zQ1, zQ2, zQ3]
 refine until_done (by kernel_rfl) ?_ _
 have V3 : Hid (Below w.heap.size w ((Y0.setCell ⟨w.heap.size, 1, none⟩ (.int .i64 ci)).setCell ⟨w.heap.size, 3, none⟩ (.int .i64 ct))) := (V0.out.setCell (Nat.le_refl _) _).setCell (Nat.le_refl _) _
 have MM : Hid (Blk ((Y0.setCell ⟨w.heap.size, 1, none⟩ (.int .i64 ci)).setCell ⟨w.heap.size, 3, none⟩ (.int .i64 ct)) w.heap.size #[.int .i64 mk, .int .i64 ci, .int .i64 md, .int .i64 ct, .int .i64 mi, .int .i64 mit, .int .i64 mc, .bool my, .slice Ue Un Uc, .string da] 48) := M3.out
 have PP : Hid (Blk ((Y0.setCell ⟨w.heap.size, 1, none⟩ (.int .i64 ci)).setCell ⟨w.heap.size, 3, none⟩ (.int .i64 ct)) p #[.int .i64 ci, .int .i64 cp, .int .i64 ct, .int .i64 cv, .int .i64 cr, .int .i64 cd, .int .i64 cb, .int .i64 cbt, .slice A0 An0 Ac0, .int .i64 cc, .slice A1 An1 Ac1, .slice A2 An2 Ac2, .slice A3 An3 Ac3, .slice A4 An4 Ac4] 74) := P3.out
 clear V0 M1 M2 M3 P1 P2 P3 SS0
 try go_wp2_with fail
 generalize (Y0.setCell ⟨w.heap.size, 1, none⟩ (.int .i64 ci)).setCell ⟨w.heap.size, 3, none⟩ (.int .i64 ct) = W4 at *
 refine wp_region_until (fun w' => w'.cell? ⟨p, 13, none⟩ = some (.slice A4 An4 Ac4) ∧ w'.cell? ⟨w.heap.size, 0, none⟩ = some (.int .i64 mk) ∧ w'.cell? ⟨w.heap.size, 1, none⟩ = some (.int .i64 ci) ∧ w'.cell? ⟨w.heap.size, 2, none⟩ = some (.int .i64 md) ∧ w'.cell? ⟨w.heap.size, 3, none⟩ = some (.int .i64 ct) ∧ w'.cell? ⟨w.heap.size, 4, none⟩ = some (.int .i64 mi) ∧ w'.cell? ⟨w.heap.size, 5, none⟩ = some (.int .i64 mit) ∧ w'.cell? ⟨w.heap.size, 6, none⟩ = some (.int .i64 mc) ∧ w'.cell? ⟨w.heap.size, 7, none⟩ = some (.bool my) ∧ w'.cell? ⟨w.heap.size, 8, none⟩ = some (.slice Ue Un Uc) ∧ w'.cell? ⟨w.heap.size, 9, none⟩ = some (.string da)) (fun i => i == 10) 11 (by rfl) (by kernel_rfl) ?_
 have V4 : Hid (Below w.heap.size w W4.drew) := V3.out.trans ((Below.refl _ W4).drew.mono V3.out.size)
 have M4 := Hid.mk (MM.out.on ((Below.refl _ W4).drew) MM.out.lt)
 have P4 := Hid.mk (PP.out.on ((Below.refl _ W4).drew) PP.out.lt)
 generalize W4.drew = Y4 at *
 clear V3 MM PP
 have SS1 := Hid.mk (show (fun w' => w'.cell? ⟨p, 13, none⟩ = some (.slice A4 An4 Ac4) ∧ w'.cell? ⟨w.heap.size, 0, none⟩ = some (.int .i64 mk) ∧ w'.cell? ⟨w.heap.size, 1, none⟩ = some (.int .i64 ci) ∧ w'.cell? ⟨w.heap.size, 2, none⟩ = some (.int .i64 md) ∧ w'.cell? ⟨w.heap.size, 3, none⟩ = some (.int .i64 ct) ∧ w'.cell? ⟨w.heap.size, 4, none⟩ = some (.int .i64 mi) ∧ w'.cell? ⟨w.heap.size, 5, none⟩ = some (.int .i64 mit) ∧ w'.cell? ⟨w.heap.size, 6, none⟩ = some (.int .i64 mc) ∧ w'.cell? ⟨w.heap.size, 7, none⟩ = some (.bool my) ∧ w'.cell? ⟨w.heap.size, 8, none⟩ = some (.slice Ue Un Uc) ∧ w'.cell? ⟨w.heap.size, 9, none⟩ = some (.string da)) Y4 from ⟨P4.out.cell 13 _ rfl, M4.out.cell 0 _ rfl, M4.out.cell 1 _ rfl, M4.out.cell 2 _ rfl, M4.out.cell 3 _ rfl, M4.out.cell 4 _ rfl, M4.out.cell 5 _ rfl, M4.out.cell 6 _ rfl, M4.out.cell 7 _ rfl, M4.out.cell 8 _ rfl, M4.out.cell 9 _ rfl⟩)
 refine tF 0 SS1.out ?_
 refine tF 1 SS1.out ?_
 refine tF 2 SS1.out ?_
 refine tF 3 SS1.out ?_
 refine tF 4 SS1.out ?_
 refine tF 5 SS1.out ?_
 have SP4 := Hid.mk (SP.out.on V4.out)
 obtain ⟨nA, nm, nc, W5, r5, hO5, hb5, hk5, -⟩ := run_append_row (P := Try.prog) Y4 30 30 48 (.agg #[.int .i64 0, .int .i64 0, .int .i64 0, .int .i64 0, .int .i64 0, .int .i64 0, .int .i64 0, .bool false, .slice none 0 0, .string ⟨#[]⟩]) 10 104 Try.underlying30 Try.infoMsg rfl (by omega) base (.slice A4 An4 Ac4) (mgR L) SP4.out.m.r (mgC (⟨mk, ci, md, ct, mi, mit, mc, my, es, da⟩, .slice Ue Un Uc)) rfl (msg_one _ rfl) HLn.out (by omega) (Nat.le_trans HBS.out V4.out.size)
 have bz : Below Y4.heap.size Y4 (Y4.alloc (.cells #[.int .i64 mk, .int .i64 ci, .int .i64 md, .int .i64 ct, .int .i64 mi, .int .i64 mit, .int .i64 mc, .bool my, .slice Ue Un Uc, .string da] 48)) := (Below.refl _ _).alloc (Nat.le_refl _) _
 refine uNe 6 (fun K hK => ?_)
 go_simp
 refine hK.out _ _ (fun _ _ => ⟨(P4.out.on bz P4.out.lt).cell 13 _ rfl, (M4.out.on bz M4.out.lt).cell 0 _ rfl, (M4.out.on bz M4.out.lt).cell 1 _ rfl, (M4.out.on bz M4.out.lt).cell 2 _ rfl, (M4.out.on bz M4.out.lt).cell 3 _ rfl, (M4.out.on bz M4.out.lt).cell 4 _ rfl, (M4.out.on bz M4.out.lt).cell 5 _ rfl, (M4.out.on bz M4.out.lt).cell 6 _ rfl, (M4.out.on bz M4.out.lt).cell 7 _ rfl, (M4.out.on bz M4.out.lt).cell 8 _ rfl, (M4.out.on bz M4.out.lt).cell 9 _ rfl⟩) ?_
 clear hK K bz
 try simp only [Act.put, zQ1, zQ2, zQ3]
 refine uNe 7 (fun K hK => ?_)
 refine step_append_run (by rfl) (.tmp 20) (.tmp 22) 30 (by rfl) _ _ _ _ (by rfl) (by rfl) r5 ?_
 have O5 := Hid.mk hO5
 have B5 : Hid (Below base w W5) := (V4.out.mono HBS.out).trans hb5
 have K5 : Hid (∀ g, g < Y4.heap.size → (Value.slice A4 An4 Ac4).ownBlock ≠ some g → W5.heap[g]? = Y4.heap[g]?) := hk5
 have P5 : Hid (Blk W5 p #[.int .i64 ci, .int .i64 cp, .int .i64 ct, .int .i64 cv, .int .i64 cr, .int .i64 cd, .int .i64 cb, .int .i64 cbt, .slice A0 An0 Ac0, .int .i64 cc, .slice A1 An1 Ac1, .slice A2 An2 Ac2, .slice A3 An3 Ac3, .slice A4 An4 Ac4] 74) := (K5.out p P4.out.lt (SP4.out.m.r.notBlk P4.out (by decide))).trans P4.out
 have M5 : Hid (Blk W5 w.heap.size #[.int .i64 mk, .int .i64 ci, .int .i64 md, .int .i64 ct, .int .i64 mi, .int .i64 mit, .int .i64 mc, .bool my, .slice Ue Un Uc, .string da] 48) := (K5.out _ M4.out.lt (fun e => by have := (SP.out.m.r.lt _ e).2; omega)).trans M4.out
 clear hO5 hb5 hk5 r5
 refine hK.out _ _ (fun _ _ => ⟨P5.out.cell 13 _ rfl, M5.out.cell 0 _ rfl, M5.out.cell 1 _ rfl, M5.out.cell 2 _ rfl, M5.out.cell 3 _ rfl, M5.out.cell 4 _ rfl, M5.out.cell 5 _ rfl, M5.out.cell 6 _ rfl, M5.out.cell 7 _ rfl, M5.out.cell 8 _ rfl, M5.out.cell 9 _ rfl⟩) ?_
 clear hK K SS1
 try simp only [Act.put, zQ1, zQ2, zQ3]
 refine pF 8 ?_
 refine pF 9 ?_
 have f13 := P5.out.free 13
 have o13 := P5.out.cell 13 _ rfl
 refine uNe 10 (fun K hK => ?_)
 go_simp
 refine hK.out _ _ (fun h => by cases h) ?_
 clear hK K f13 o13
 try simp only [Act.put, zQ1, zQ2, zQ3]
 refine until_done (by kernel_rfl) ?_ _
 have FS : Hid (∃ us, SpkO (W5.setCell ⟨p, 13, none⟩ (.slice nA nm nc)) base p ⟨ci, cp, ct, cv, cr, cd, cb, cbt, lg, cc, ys, ns, ms⟩ (.slice A0 An0 Ac0) (.slice A1 An1 Ac1) (.slice A2 An2 Ac2) (.slice A3 An3 Ac3) (us) (L ++ [(⟨mk, ci, md, ct, mi, mit, mc, my, es, da⟩, .slice Ue Un Uc)])) := by
  have hp : ∀ k, k ≠ p → (W5.setCell ⟨p, 13, none⟩ (.slice nA nm nc)).heap[k]? = W5.heap[k]? := fun k hk => Below.heap_setCell _ _ _ _ hk
  have hR5 := (SP4.out.r).app SP4.out.m.r K5.out
  have hE5 : ∀ q ∈ L, Owns W5 base 71 2 q.2 (entR q.1.ents) := fun q hq => (SP4.out.m.e q hq).kept fun g hg e => K5.out g hg fun e' => by
   obtain ⟨cs, fz, e1⟩ := SP4.out.m.r.kind e'
   exact (SP4.out.m.e q hq).notBlk e1 (by decide) e
  have hU5 : Owns W5 base 71 2 (.slice Ue Un Uc) (entR es) := (HU.out.on V4.out).kept fun g hg e => K5.out g hg fun e' => by
   obtain ⟨cs, fz, e1⟩ := SP4.out.m.r.kind e'
   exact (HU.out.on V4.out).notBlk e1 (by decide) e
  refine ⟨.slice nA nm nc, P5.out.set 13 _, ⟨hR5.l.kept fun g hg e => hp g fun q => hR5.l.notBlk P5.out (by decide) (by rw [← q]; exact e), hR5.y.kept fun g hg e => hp g fun q => hR5.y.notBlk P5.out (by decide) (by rw [← q]; exact e), hR5.n.kept fun g hg e => hp g fun q => hR5.n.notBlk P5.out (by decide) (by rw [← q]; exact e), hR5.m.kept fun g hg e => hp g fun q => hR5.m.notBlk P5.out (by decide) (by rw [← q]; exact e), hR5.yn, hR5.ym, hR5.nm⟩, ⟨?_, fun q hq => ?_, ?_⟩, fun q hq => ?_, SP.out.p⟩
  ·rw [mgR_append]
   exact O5.out.kept fun g hg e => hp g fun q => O5.out.notBlk P5.out (by decide) (by rw [← q]; exact e)
  ·rcases List.mem_append.1 hq with hq | hq
   ·exact (hE5 q hq).kept fun g hg e => hp g fun q' => (hE5 q hq).notBlk P5.out (by decide) (by rw [← q']; exact e)
   ·rw [List.mem_singleton.1 hq]
    exact hU5.kept fun g hg e => hp g fun q' => hU5.notBlk P5.out (by decide) (by rw [← q']; exact e)
  ·rw [List.pairwise_append]
   exact ⟨SP.out.m.a, List.pairwise_singleton _ _, fun a ha b hb => by rw [List.mem_singleton.1 hb]; exact HAP.out a ha⟩
  ·rcases List.mem_append.1 hq with hq | hq
   ·exact SP.out.a q hq
   ·rw [List.mem_singleton.1 hq]
    exact HAL.out
 have FB : Hid (Below base w (W5.setCell ⟨p, 13, none⟩ (.slice nA nm nc))) := B5.out.setCell SP.out.p _
 have FK : Hid (KeepI w (W5.setCell ⟨p, 13, none⟩ (.slice nA nm nc))) := fun g cs fz e => by
  have hg : g < w.heap.size := by
   rcases Nat.lt_or_ge g w.heap.size with h1 | h1
   ·exact h1
   ·rw [Array.getElem?_eq_none h1] at e; cases e
  have e4 := (V4.out.block g hg).trans e
  have hgp : g ≠ p := fun q => by
   have hb := SP.out.b
   unfold Blk at hb
   rw [q, hb] at e
   cases e
  rw [Below.heap_setCell _ _ _ _ hgp, K5.out g (Nat.lt_of_lt_of_le hg V4.out.size) (fun h => by
   obtain ⟨cs', fz', e'⟩ := SP4.out.m.r.kind h
   rw [e4] at e'
   cases e')]
  exact V4.out.block g hg
 clear SP4 P4 M4 P5 M5 O5 K5 B5 V4
 try go_wp2_with fail
 exact bodyPost_end (v := .tuple #[]) (by simp [results, go_sem]) rfl ⟨rfl, FS.out, FB.out, FK.out⟩
end Go.Proofs.Ytlhoonohpfpkbaa
namespace Go.Proofs.Ytlhoonohpfpkbaa
open Go.ChangeShapes Go.WideShapes Go.ChangeAt Go.RowKit Go.PlainAid
set_option linter.unusedVariables false
theorem toList_beq (a b : ByteArray) : (a.toList == b.toList) = decide (a = b) := by
 rw [Lib.toList_data, Lib.toList_data]
 by_cases h : a = b
 ·subst h
  simp
 ·rw [decide_eq_false h, beq_eq_false_iff_ne]
  intro e
  exact h (ByteArray.ext (Array.toList_inj.1 e))
theorem empty_beq (d : ByteArray) : d.toList.isEmpty = decide (d = ByteArray.empty) := by
 have h := toList_beq d ByteArray.empty
 rw [← h]
 have : ByteArray.empty.toList = [] := by rw [Lib.toList_data]; rfl
 rw [this]
 cases d.toList <;> rfl
set_option maxHeartbeats 400000 in
theorem inB (x lo hi : Int) (w : World) : Calls Try.prog 47 #[.int .i64 x, .int .i64 lo, .int .i64 hi] w fun e w' => e = .returned (.bool (inIt x lo hi)) ∧ w = w' := by
 by_cases h1 : lo ≤ x
 ·go_enter Try.func47, Try.ntmps47
  go_wp2
  go_ret
  exact ⟨by simp [inIt, h1], rfl⟩
 ·have z : decide (lo ≤ x) = false := decide_eq_false h1
  have z2 : x < lo := by omega
  go_enter Try.func47, Try.ntmps47
  go_wp2
  go_ret
  exact ⟨by unfold inIt; rw [z]; rfl, rfl⟩
set_option maxHeartbeats 400000 in
theorem basedV (i t : Int) (w : World) : Calls Try.prog 67 #[.int .i64 i, .int .i64 t] w fun e w' => e = .returned (.bool (based i t)) ∧ w = w' := by
 by_cases h1 : i = 0
 ·subst h1
  go_enter Try.func67, Try.ntmps67
  go_wp2
  go_ret
  exact ⟨by unfold based; rw [if_pos rfl]; exact congrArg (fun b => Ending.returned (.bool b)) (by by_cases h : t = 0 <;> simp [h]), rfl⟩
 ·have z : (i == 0) = false := by simpa using h1
  have a1 := inB i 1 100000
  have a2 := inB t 1 100000
  have HE : Hid (based i t = (inIt i 1 100000 && inIt t 1 100000)) := by unfold Hid based; rw [if_neg h1]
  cases h2 : inIt i 1 100000 <;> rw [h2] at a1 HE <;> clear h1 h2
  ·go_enter Try.func67, Try.ntmps67
   go_wp2_with fail
   refine (a1 _).mono ?_
   rintro e w' ⟨rfl, rfl⟩
   go_wp2_with fail
   go_ret
   exact ⟨by rw [HE.out]; rfl, rfl⟩
  ·go_enter Try.func67, Try.ntmps67
   go_wp2_with fail
   refine (a1 _).mono ?_
   rintro e w' ⟨rfl, rfl⟩
   go_wp2_with fail
   refine (a2 _).mono ?_
   rintro e w' ⟨rfl, rfl⟩
   go_wp2_with fail
   go_ret
   exact ⟨by rw [HE.out]; rfl, rfl⟩
end Go.Proofs.Ytlhoonohpfpkbaa
namespace Go.Proofs.Ytlhoonohpfpkbaa
open Go.ChangeShapes Go.WideShapes Go.ChangeAt Go.RowKit Go.PlainAid
set_option linter.unusedVariables false
def bnd (k t i v n : Int) : Bool := decide ((k = 1 ∧ 0 ≤ t ∧ t ≤ 100000 ∧ -1 ≤ v ∧ v ≤ 4) ∨ (k = 4 ∧ i = 0 ∧ t = 0) ∨ ((k = 4 ∧ i ≠ 0 ∨ k = 2) ∧ 1 ≤ t ∧ t ≤ 100000 ∧ n ≤ 900 ∧ 1 ≤ i ∧ i ≤ 100000) ∨ (k = 3 ∧ 1 ≤ i ∧ i ≤ 100000))
def kindV (r : Rcd) : Value :=
 if r.kind = 1 then .iface 111 (.agg #[.int .i64 r.term, .int .i64 r.vote])
 else if r.kind = 2 then .iface 113 (.agg #[.int .i64 r.index, .int .i64 r.term, .string r.data])
 else if r.kind = 3 then .iface 115 (.agg #[.int .i64 r.index])
 else .iface 117 (.agg #[.int .i64 r.index, .int .i64 r.term])
set_option maxHeartbeats 4000000 in
theorem inBoundsV (k t i v : Int) (d : ByteArray) (w : World) (hd : d.size ≤ maxLen) : Calls Try.prog 91 #[.agg #[.int .i64 k, .int .i64 t, .int .i64 i, .int .i64 v, .string d]] w fun e w' => e = .returned (.bool (bnd k t i v d.size)) ∧ Below w.heap.size w w' := by
 have HB : Hid (Below w.heap.size w (w.alloc (.cells #[.int .i64 k, .int .i64 t, .int .i64 i, .int .i64 v, .string d] 93))) := (Below.refl _ _).alloc (Nat.le_refl _) _
 have hdi : (d.size : Int) ≤ 9223372036854775807 := by unfold maxLen at hd; omega
 clear hd
 by_cases k1 : k = 1
 ·subst k1
  by_cases h4 : 0 ≤ t
  ·by_cases h3 : t ≤ 100000
   ·by_cases h2 : -1 ≤ v
    ·by_cases h1 : v < 5
     ·go_enter Try.func91, Try.ntmps91
      go_wp2
      go_ret
      exact ⟨by first | (rw [show bnd _ _ _ _ _ = true from decide_eq_true (by omega)]; rfl) | (rw [show bnd _ _ _ _ _ = false from decide_eq_false (by omega)]; rfl), HB.out⟩
     ·go_enter Try.func91, Try.ntmps91
      go_wp2
      go_ret
      exact ⟨by first | (rw [show bnd _ _ _ _ _ = true from decide_eq_true (by omega)]; rfl) | (rw [show bnd _ _ _ _ _ = false from decide_eq_false (by omega)]; rfl), HB.out⟩
    ·go_enter Try.func91, Try.ntmps91
     go_wp2
     go_ret
     exact ⟨by first | (rw [show bnd _ _ _ _ _ = true from decide_eq_true (by omega)]; rfl) | (rw [show bnd _ _ _ _ _ = false from decide_eq_false (by omega)]; rfl), HB.out⟩
   ·go_enter Try.func91, Try.ntmps91
    go_wp2
    go_ret
    exact ⟨by first | (rw [show bnd _ _ _ _ _ = true from decide_eq_true (by omega)]; rfl) | (rw [show bnd _ _ _ _ _ = false from decide_eq_false (by omega)]; rfl), HB.out⟩
  ·go_enter Try.func91, Try.ntmps91
   go_wp2
   go_ret
   exact ⟨by first | (rw [show bnd _ _ _ _ _ = true from decide_eq_true (by omega)]; rfl) | (rw [show bnd _ _ _ _ _ = false from decide_eq_false (by omega)]; rfl), HB.out⟩
 by_cases k4 : k = 4
 ·subst k4
  by_cases i0 : i = 0
  ·subst i0
   by_cases t0 : t = 0
   ·subst t0
    go_enter Try.func91, Try.ntmps91
    go_wp2
    go_ret
    exact ⟨by first | (rw [show bnd _ _ _ _ _ = true from decide_eq_true (by omega)]; rfl) | (rw [show bnd _ _ _ _ _ = false from decide_eq_false (by omega)]; rfl), HB.out⟩
   ·have zt : (t == 0) = false := by simpa using t0
    go_enter Try.func91, Try.ntmps91
    go_wp2
    go_ret
    exact ⟨by first | (rw [show bnd _ _ _ _ _ = true from decide_eq_true (by omega)]; rfl) | (rw [show bnd _ _ _ _ _ = false from decide_eq_false (by omega)]; rfl), HB.out⟩
  ·have zi : (i == 0) = false := by simpa using i0
   by_cases g3 : t < 1
   ·go_enter Try.func91, Try.ntmps91
    go_wp2
    go_ret
    exact ⟨by first | (rw [show bnd _ _ _ _ _ = true from decide_eq_true (by omega)]; rfl) | (rw [show bnd _ _ _ _ _ = false from decide_eq_false (by omega)]; rfl), HB.out⟩
   ·by_cases g2 : 100000 < t
    ·go_enter Try.func91, Try.ntmps91
     go_wp2
     go_ret
     exact ⟨by first | (rw [show bnd _ _ _ _ _ = true from decide_eq_true (by omega)]; rfl) | (rw [show bnd _ _ _ _ _ = false from decide_eq_false (by omega)]; rfl), HB.out⟩
    ·by_cases g1 : 900 < (d.size : Int)
     ·go_enter Try.func91, Try.ntmps91
      go_wp2
      go_ret
      exact ⟨by first | (rw [show bnd _ _ _ _ _ = true from decide_eq_true (by omega)]; rfl) | (rw [show bnd _ _ _ _ _ = false from decide_eq_false (by omega)]; rfl), HB.out⟩
     ·by_cases h2 : 1 ≤ i
      ·by_cases h1 : i ≤ 100000
       ·go_enter Try.func91, Try.ntmps91
        go_wp2
        go_ret
        exact ⟨by first | (rw [show bnd _ _ _ _ _ = true from decide_eq_true (by omega)]; rfl) | (rw [show bnd _ _ _ _ _ = false from decide_eq_false (by omega)]; rfl), HB.out⟩
       ·go_enter Try.func91, Try.ntmps91
        go_wp2
        go_ret
        exact ⟨by first | (rw [show bnd _ _ _ _ _ = true from decide_eq_true (by omega)]; rfl) | (rw [show bnd _ _ _ _ _ = false from decide_eq_false (by omega)]; rfl), HB.out⟩
      ·go_enter Try.func91, Try.ntmps91
       go_wp2
       go_ret
       exact ⟨by first | (rw [show bnd _ _ _ _ _ = true from decide_eq_true (by omega)]; rfl) | (rw [show bnd _ _ _ _ _ = false from decide_eq_false (by omega)]; rfl), HB.out⟩
 by_cases k2 : k = 2
 ·subst k2
  by_cases g3 : t < 1
  ·go_enter Try.func91, Try.ntmps91
   go_wp2
   go_ret
   exact ⟨by first | (rw [show bnd _ _ _ _ _ = true from decide_eq_true (by omega)]; rfl) | (rw [show bnd _ _ _ _ _ = false from decide_eq_false (by omega)]; rfl), HB.out⟩
  ·by_cases g2 : 100000 < t
   ·go_enter Try.func91, Try.ntmps91
    go_wp2
    go_ret
    exact ⟨by first | (rw [show bnd _ _ _ _ _ = true from decide_eq_true (by omega)]; rfl) | (rw [show bnd _ _ _ _ _ = false from decide_eq_false (by omega)]; rfl), HB.out⟩
   ·by_cases g1 : 900 < (d.size : Int)
    ·go_enter Try.func91, Try.ntmps91
     go_wp2
     go_ret
     exact ⟨by first | (rw [show bnd _ _ _ _ _ = true from decide_eq_true (by omega)]; rfl) | (rw [show bnd _ _ _ _ _ = false from decide_eq_false (by omega)]; rfl), HB.out⟩
    ·by_cases h2 : 1 ≤ i
     ·by_cases h1 : i ≤ 100000
      ·go_enter Try.func91, Try.ntmps91
       go_wp2
       go_ret
       exact ⟨by first | (rw [show bnd _ _ _ _ _ = true from decide_eq_true (by omega)]; rfl) | (rw [show bnd _ _ _ _ _ = false from decide_eq_false (by omega)]; rfl), HB.out⟩
      ·go_enter Try.func91, Try.ntmps91
       go_wp2
       go_ret
       exact ⟨by first | (rw [show bnd _ _ _ _ _ = true from decide_eq_true (by omega)]; rfl) | (rw [show bnd _ _ _ _ _ = false from decide_eq_false (by omega)]; rfl), HB.out⟩
     ·go_enter Try.func91, Try.ntmps91
      go_wp2
      go_ret
      exact ⟨by first | (rw [show bnd _ _ _ _ _ = true from decide_eq_true (by omega)]; rfl) | (rw [show bnd _ _ _ _ _ = false from decide_eq_false (by omega)]; rfl), HB.out⟩
 by_cases k3 : k = 3
 ·subst k3
  by_cases h2 : 1 ≤ i
  ·by_cases h1 : i ≤ 100000
   ·go_enter Try.func91, Try.ntmps91
    go_wp2
    go_ret
    exact ⟨by first | (rw [show bnd _ _ _ _ _ = true from decide_eq_true (by omega)]; rfl) | (rw [show bnd _ _ _ _ _ = false from decide_eq_false (by omega)]; rfl), HB.out⟩
   ·go_enter Try.func91, Try.ntmps91
    go_wp2
    go_ret
    exact ⟨by first | (rw [show bnd _ _ _ _ _ = true from decide_eq_true (by omega)]; rfl) | (rw [show bnd _ _ _ _ _ = false from decide_eq_false (by omega)]; rfl), HB.out⟩
  ·go_enter Try.func91, Try.ntmps91
   go_wp2
   go_ret
   exact ⟨by first | (rw [show bnd _ _ _ _ _ = true from decide_eq_true (by omega)]; rfl) | (rw [show bnd _ _ _ _ _ = false from decide_eq_false (by omega)]; rfl), HB.out⟩
 have y1 : (k == 1) = false := by simpa using k1
 have y2 : (k == 2) = false := by simpa using k2
 have y3 : (k == 3) = false := by simpa using k3
 have y4 : (k == 4) = false := by simpa using k4
 go_enter Try.func91, Try.ntmps91
 go_wp2
 go_ret
 exact ⟨by first | (rw [show bnd _ _ _ _ _ = true from decide_eq_true (by omega)]; rfl) | (rw [show bnd _ _ _ _ _ = false from decide_eq_false (by omega)]; rfl), HB.out⟩
set_option maxHeartbeats 1000000 in
theorem kindOfV (k t i v : Int) (d : ByteArray) (w : World) : Calls Try.prog 92 #[.agg #[.int .i64 k, .int .i64 t, .int .i64 i, .int .i64 v, .string d]] w fun e w' => e = .returned (kindV ⟨k, t, i, v, d⟩) ∧ Below w.heap.size w w' := by
 have HB : Hid (Below w.heap.size w (w.alloc (.cells #[.int .i64 k, .int .i64 t, .int .i64 i, .int .i64 v, .string d] 93))) := (Below.refl _ _).alloc (Nat.le_refl _) _
 by_cases k1 : k = 1
 ·subst k1
  go_enter Try.func92, Try.ntmps92
  go_wp2
  go_ret
  exact ⟨rfl, HB.out⟩
 by_cases k2 : k = 2
 ·subst k2
  go_enter Try.func92, Try.ntmps92
  go_wp2
  go_ret
  exact ⟨rfl, HB.out⟩
 by_cases k3 : k = 3
 ·subst k3
  go_enter Try.func92, Try.ntmps92
  go_wp2
  go_ret
  exact ⟨rfl, HB.out⟩
 have y1 : (k == 1) = false := by simpa using k1
 have y2 : (k == 2) = false := by simpa using k2
 have y3 : (k == 3) = false := by simpa using k3
 have HE : Hid (kindV ⟨k, t, i, v, d⟩ = .iface 117 (.agg #[.int .i64 i, .int .i64 t])) := by unfold Hid kindV; rw [if_neg k1, if_neg k2, if_neg k3]
 clear k1 k2 k3
 go_enter Try.func92, Try.ntmps92
 go_wp2
 go_ret
 exact ⟨by rw [HE.out]; rfl, HB.out⟩
theorem below_alloc2' (w : World) (a b : Obj) : Below w.heap.size w ((w.alloc a).alloc b) := ((Below.refl _ w).alloc (Nat.le_refl _) a).alloc (by simp) b
set_option maxHeartbeats 400000 in
theorem hardRec (t v : Int) (w : World) : Calls Try.prog 109 #[.agg #[.int .i64 t, .int .i64 v]] w fun e w' => e = .returned (.agg #[.int .i64 1, .int .i64 t, .int .i64 0, .int .i64 v, .string ⟨#[]⟩]) ∧ Below w.heap.size w w' := by
 go_enter Try.func109, Try.ntmps109
 go_wp2
 exact bodyPost_ret (v := .agg #[.int .i64 1, .int .i64 t, .int .i64 0, .int .i64 v, .string ⟨#[]⟩]) (by simp [results, go_sem]) rfl ⟨rfl, below_alloc2' _ _ _⟩
set_option maxHeartbeats 400000 in
theorem entryRec (i t : Int) (d : ByteArray) (w : World) : Calls Try.prog 110 #[.agg #[.int .i64 i, .int .i64 t, .string d]] w fun e w' => e = .returned (.agg #[.int .i64 2, .int .i64 t, .int .i64 i, .int .i64 0, .string d]) ∧ Below w.heap.size w w' := by
 go_enter Try.func110, Try.ntmps110
 go_wp2
 exact bodyPost_ret (v := .agg #[.int .i64 2, .int .i64 t, .int .i64 i, .int .i64 0, .string d]) (by simp [results, go_sem]) rfl ⟨rfl, below_alloc2' _ _ _⟩
set_option maxHeartbeats 400000 in
theorem cutRec (i : Int) (w : World) : Calls Try.prog 111 #[.agg #[.int .i64 i]] w fun e w' => e = .returned (.agg #[.int .i64 3, .int .i64 0, .int .i64 i, .int .i64 0, .string ⟨#[]⟩]) ∧ Below w.heap.size w w' := by
 go_enter Try.func111, Try.ntmps111
 go_wp2
 exact bodyPost_ret (v := .agg #[.int .i64 3, .int .i64 0, .int .i64 i, .int .i64 0, .string ⟨#[]⟩]) (by simp [results, go_sem]) rfl ⟨rfl, below_alloc2' _ _ _⟩
set_option maxHeartbeats 400000 in
theorem baseRec (i t : Int) (w : World) : Calls Try.prog 112 #[.agg #[.int .i64 i, .int .i64 t]] w fun e w' => e = .returned (.agg #[.int .i64 4, .int .i64 t, .int .i64 i, .int .i64 0, .string ⟨#[]⟩]) ∧ Below w.heap.size w w' := by
 go_enter Try.func112, Try.ntmps112
 go_wp2
 exact bodyPost_ret (v := .agg #[.int .i64 4, .int .i64 t, .int .i64 i, .int .i64 0, .string ⟨#[]⟩]) (by simp [results, go_sem]) rfl ⟨rfl, below_alloc2' _ _ _⟩
end Go.Proofs.Ytlhoonohpfpkbaa
namespace Go.Proofs.Ytlhoonohpfpkbaa
open Go.ChangeShapes Go.WideShapes Go.ChangeAt Go.RowKit Go.PlainAid
set_option linter.unusedVariables false
def recV (r : Rcd) : Value := if recOk r = true then kindV r else .nilIface
def rest0 (k t i v : Int) (d : ByteArray) : Bool :=
 if k = 1 then decide (i = 0) && decide (d = ByteArray.empty) else if k = 2 then decide (v = 0)
 else if k = 3 then decide (t = 0) && decide (v = 0) && decide (d = ByteArray.empty) else decide (v = 0) && decide (d = ByteArray.empty)
theorem recOk_iff (k t i v : Int) (d : ByteArray) : recOk ⟨k, t, i, v, d⟩ = (bnd k t i v d.size && rest0 k t i v d) := by
 rw [Bool.eq_iff_iff]
 unfold recOk bnd rest0 based inIt
 have hz : d = ByteArray.empty → (d.size : Int) = 0 := fun h => by subst h; rfl
 by_cases k1 : k = 1
 ·subst k1
  simp
  constructor <;> intro h <;> simp [h]
 by_cases k2 : k = 2
 ·subst k2
  simp
  omega
 by_cases k3 : k = 3
 ·subst k3
  simp
  constructor <;> intro h <;> simp [h]
 by_cases k4 : k = 4
 ·subst k4
  by_cases hd : d = ByteArray.empty
  ·have := hz hd
   by_cases hi : i = 0
   ·subst hi
    simp [hd]
   ·simp [hd, hi]
    omega
  ·simp [hd]
 ·simp [k1, k2, k3, k4]
theorem empty_eqs (d : ByteArray) : ([] == d.toList) = decide (d = ByteArray.empty) := by
 rw [← empty_beq]
 cases d.toList <;> rfl
set_option maxHeartbeats 1000000 in
theorem recordOf_no (k t i v : Int) (d : ByteArray) (w : World) (hd : d.size ≤ maxLen) (hn : bnd k t i v d.size = false) : Calls Try.prog 87 #[.agg #[.int .i64 k, .int .i64 t, .int .i64 i, .int .i64 v, .string d]] w fun e w' => e = .returned .nilIface ∧ Below w.heap.size w w' := by
 have c1 := fun wx => inBoundsV k t i v d wx hd
 rw [hn] at c1
 have hb0 : Below w.heap.size w (w.alloc (.cells #[.int .i64 k, .int .i64 t, .int .i64 i, .int .i64 v, .string d] 93)) := (Below.refl _ _).alloc (Nat.le_refl _) _
 go_enter Try.func87, Try.ntmps87
 go_wp2_with fail
 generalize w.alloc (.cells #[.int .i64 k, .int .i64 t, .int .i64 i, .int .i64 v, .string d] 93) = W at *
 refine (c1 _).mono ?_
 rintro e w1 ⟨rfl, hb1⟩
 have B1 : Hid (Below w.heap.size w w1) := hb0.trans (hb1.mono hb0.size)
 clear hb0 hb1 c1
 go_wp2_with fail
 go_ret
 exact ⟨rfl, B1.out⟩
set_option maxHeartbeats 2000000 in
theorem recordOf_hard (t i v : Int) (d : ByteArray) (w : World) (hd : d.size ≤ maxLen) (hn : bnd 1 t i v d.size = true) : Calls Try.prog 87 #[.agg #[.int .i64 1, .int .i64 t, .int .i64 i, .int .i64 v, .string d]] w fun e w' => e = .returned (recV ⟨1, t, i, v, d⟩) ∧ Below w.heap.size w w' := by
 have HE : Hid (recV ⟨1, t, i, v, d⟩ = if (decide (i = 0) && decide (d = ByteArray.empty)) = true then kindV ⟨1, t, i, v, d⟩ else .nilIface) := by unfold Hid recV; rw [recOk_iff, hn, Bool.true_and]; rfl
 have c1 := fun wx => inBoundsV 1 t i v d wx hd
 rw [hn] at c1
 have c2 := fun wx => kindOfV 1 t i v d wx
 have c3 := fun wx => hardRec t v wx
 have hb0 : Below w.heap.size w (w.alloc (.cells #[.int .i64 1, .int .i64 t, .int .i64 i, .int .i64 v, .string d] 93)) := (Below.refl _ _).alloc (Nat.le_refl _) _
 have k0 := Blk.new w #[.int .i64 1, .int .i64 t, .int .i64 i, .int .i64 v, .string d] 93
 clear hd hn
 go_enter Try.func87, Try.ntmps87
 go_wp2_with fail
 generalize w.alloc (.cells #[.int .i64 1, .int .i64 t, .int .i64 i, .int .i64 v, .string d] 93) = W at *
 refine (c1 _).mono ?_
 rintro e w1 ⟨rfl, hb1⟩
 have B1 : Hid (Below w.heap.size w w1) := hb0.trans (hb1.mono hb0.size)
 have k1 := k0.on hb1 k0.lt
 clear hb0 hb1 c1 k0
 have e0 := k1.cell 0 (.int .i64 1) rfl
 have e1 := k1.cell 1 (.int .i64 t) rfl
 have e2 := k1.cell 2 (.int .i64 i) rfl
 have e3 := k1.cell 3 (.int .i64 v) rfl
 have e4 := k1.cell 4 (.string d) rfl
 have K1 : Hid (Blk w1 w.heap.size _ _) := k1
 clear k1
 go_wp2_with fail
 refine (c2 _).mono ?_
 rintro e w2 ⟨rfl, hb2⟩
 have B2 : Hid (Below w.heap.size w w2) := B1.out.trans (hb2.mono B1.out.size)
 have k2 := K1.out.on hb2 K1.out.lt
 have hlt : w.heap.size < w2.heap.size := k2.lt
 clear hb2 e0 e1 e2 e3 e4 K1 B1
 have e0 := k2.cell 0 (.int .i64 1) rfl
 have e1 := k2.cell 1 (.int .i64 t) rfl
 have e2 := k2.cell 2 (.int .i64 i) rfl
 have e3 := k2.cell 3 (.int .i64 v) rfl
 have e4 := k2.cell 4 (.string d) rfl
 clear k2 c2
 rw [show kindV ⟨1, t, i, v, d⟩ = .iface 111 (.agg #[.int .i64 t, .int .i64 v]) from rfl]
 by_cases hzi : i = 0
 ·subst hzi
  rw [decide_eq_true rfl] at HE
  have hb1 := empty_beq d
  have hb2 := empty_eqs d
  cases hdd : decide (d = ByteArray.empty) <;> rw [hdd] at hb1 hb2 HE <;> clear hdd
  ·have HE : Hid (recV ⟨1, t, 0, v, d⟩ = .nilIface) := by unfold Hid; rw [HE.out]; rfl
   go_wp2_with fail
   go_region_with (go_at_call 109; refine (c3 _).mono ?_; rintro e w3 ⟨rfl, hb3⟩; have a0 := (hb3.cell (p := ⟨w.heap.size, 0, none⟩) hlt).trans e0; have a1 := (hb3.cell (p := ⟨w.heap.size, 1, none⟩) hlt).trans e1; have a2 := (hb3.cell (p := ⟨w.heap.size, 2, none⟩) hlt).trans e2; have a3 := (hb3.cell (p := ⟨w.heap.size, 3, none⟩) hlt).trans e3; have a4 := (hb3.cell (p := ⟨w.heap.size, 4, none⟩) hlt).trans e4)
   all_goals go_wp2_with fail
   all_goals go_ret
   all_goals exact ⟨by rw [HE.out]; first | rfl | simp [kindV], B2.out.trans (((Below.refl _ w2).drew.trans hb3).mono B2.out.size)⟩
  ·have HE : Hid (recV ⟨1, t, 0, v, d⟩ = kindV ⟨1, t, 0, v, d⟩) := by unfold Hid; rw [HE.out]; rfl
   go_wp2_with fail
   go_region_with (go_at_call 109; refine (c3 _).mono ?_; rintro e w3 ⟨rfl, hb3⟩; have a0 := (hb3.cell (p := ⟨w.heap.size, 0, none⟩) hlt).trans e0; have a1 := (hb3.cell (p := ⟨w.heap.size, 1, none⟩) hlt).trans e1; have a2 := (hb3.cell (p := ⟨w.heap.size, 2, none⟩) hlt).trans e2; have a3 := (hb3.cell (p := ⟨w.heap.size, 3, none⟩) hlt).trans e3; have a4 := (hb3.cell (p := ⟨w.heap.size, 4, none⟩) hlt).trans e4)
   all_goals go_wp2_with fail
   all_goals go_ret
   all_goals exact ⟨by rw [HE.out]; first | rfl | simp [kindV], B2.out.trans (((Below.refl _ w2).drew.trans hb3).mono B2.out.size)⟩
 ·rw [decide_eq_false hzi] at HE
  have HE : Hid (recV ⟨1, t, i, v, d⟩ = .nilIface) := by unfold Hid; rw [HE.out]; first | rfl | simp
  have zi : ((0 : Int) == i) = false := by simpa using Ne.symm hzi
  go_wp2_with fail
  go_region_with (go_at_call 109; refine (c3 _).mono ?_; rintro e w3 ⟨rfl, hb3⟩; have a0 := (hb3.cell (p := ⟨w.heap.size, 0, none⟩) hlt).trans e0; have a1 := (hb3.cell (p := ⟨w.heap.size, 1, none⟩) hlt).trans e1; have a2 := (hb3.cell (p := ⟨w.heap.size, 2, none⟩) hlt).trans e2; have a3 := (hb3.cell (p := ⟨w.heap.size, 3, none⟩) hlt).trans e3; have a4 := (hb3.cell (p := ⟨w.heap.size, 4, none⟩) hlt).trans e4)
  all_goals go_wp2_with fail
  all_goals go_ret
  all_goals exact ⟨by rw [HE.out]; first | rfl | simp [kindV], B2.out.trans (((Below.refl _ w2).drew.trans hb3).mono B2.out.size)⟩
set_option maxHeartbeats 2000000 in
theorem recordOf_entry (t i v : Int) (d : ByteArray) (w : World) (hd : d.size ≤ maxLen) (hn : bnd 2 t i v d.size = true) : Calls Try.prog 87 #[.agg #[.int .i64 2, .int .i64 t, .int .i64 i, .int .i64 v, .string d]] w fun e w' => e = .returned (recV ⟨2, t, i, v, d⟩) ∧ Below w.heap.size w w' := by
 have HE : Hid (recV ⟨2, t, i, v, d⟩ = if (decide (v = 0)) = true then kindV ⟨2, t, i, v, d⟩ else .nilIface) := by unfold Hid recV; rw [recOk_iff, hn, Bool.true_and]; rfl
 have c1 := fun wx => inBoundsV 2 t i v d wx hd
 rw [hn] at c1
 have c2 := fun wx => kindOfV 2 t i v d wx
 have c3 := fun wx => entryRec i t d wx
 have hb0 : Below w.heap.size w (w.alloc (.cells #[.int .i64 2, .int .i64 t, .int .i64 i, .int .i64 v, .string d] 93)) := (Below.refl _ _).alloc (Nat.le_refl _) _
 have k0 := Blk.new w #[.int .i64 2, .int .i64 t, .int .i64 i, .int .i64 v, .string d] 93
 clear hd hn
 go_enter Try.func87, Try.ntmps87
 go_wp2_with fail
 generalize w.alloc (.cells #[.int .i64 2, .int .i64 t, .int .i64 i, .int .i64 v, .string d] 93) = W at *
 refine (c1 _).mono ?_
 rintro e w1 ⟨rfl, hb1⟩
 have B1 : Hid (Below w.heap.size w w1) := hb0.trans (hb1.mono hb0.size)
 have k1 := k0.on hb1 k0.lt
 clear hb0 hb1 c1 k0
 have e0 := k1.cell 0 (.int .i64 2) rfl
 have e1 := k1.cell 1 (.int .i64 t) rfl
 have e2 := k1.cell 2 (.int .i64 i) rfl
 have e3 := k1.cell 3 (.int .i64 v) rfl
 have e4 := k1.cell 4 (.string d) rfl
 have K1 : Hid (Blk w1 w.heap.size _ _) := k1
 clear k1
 go_wp2_with fail
 refine (c2 _).mono ?_
 rintro e w2 ⟨rfl, hb2⟩
 have B2 : Hid (Below w.heap.size w w2) := B1.out.trans (hb2.mono B1.out.size)
 have k2 := K1.out.on hb2 K1.out.lt
 have hlt : w.heap.size < w2.heap.size := k2.lt
 clear hb2 e0 e1 e2 e3 e4 K1 B1
 have e0 := k2.cell 0 (.int .i64 2) rfl
 have e1 := k2.cell 1 (.int .i64 t) rfl
 have e2 := k2.cell 2 (.int .i64 i) rfl
 have e3 := k2.cell 3 (.int .i64 v) rfl
 have e4 := k2.cell 4 (.string d) rfl
 clear k2 c2
 rw [show kindV ⟨2, t, i, v, d⟩ = .iface 113 (.agg #[.int .i64 i, .int .i64 t, .string d]) from rfl]
 by_cases hzv : v = 0
 ·subst hzv
  rw [decide_eq_true rfl] at HE
  have HE : Hid (recV ⟨2, t, i, 0, d⟩ = kindV ⟨2, t, i, 0, d⟩) := by unfold Hid; rw [HE.out]; rfl
  go_wp2_with fail
  go_region_with (go_at_call 110; refine (c3 _).mono ?_; rintro e w3 ⟨rfl, hb3⟩; have a0 := (hb3.cell (p := ⟨w.heap.size, 0, none⟩) hlt).trans e0; have a1 := (hb3.cell (p := ⟨w.heap.size, 1, none⟩) hlt).trans e1; have a2 := (hb3.cell (p := ⟨w.heap.size, 2, none⟩) hlt).trans e2; have a3 := (hb3.cell (p := ⟨w.heap.size, 3, none⟩) hlt).trans e3; have a4 := (hb3.cell (p := ⟨w.heap.size, 4, none⟩) hlt).trans e4)
  all_goals go_wp2_with fail
  all_goals go_ret
  all_goals exact ⟨by rw [HE.out]; first | rfl | simp [kindV], B2.out.trans (((Below.refl _ w2).drew.trans hb3).mono B2.out.size)⟩
 ·rw [decide_eq_false hzv] at HE
  have HE : Hid (recV ⟨2, t, i, v, d⟩ = .nilIface) := by unfold Hid; rw [HE.out]; first | rfl | simp
  have zv : ((0 : Int) == v) = false := by simpa using Ne.symm hzv
  go_wp2_with fail
  go_region_with (go_at_call 110; refine (c3 _).mono ?_; rintro e w3 ⟨rfl, hb3⟩; have a0 := (hb3.cell (p := ⟨w.heap.size, 0, none⟩) hlt).trans e0; have a1 := (hb3.cell (p := ⟨w.heap.size, 1, none⟩) hlt).trans e1; have a2 := (hb3.cell (p := ⟨w.heap.size, 2, none⟩) hlt).trans e2; have a3 := (hb3.cell (p := ⟨w.heap.size, 3, none⟩) hlt).trans e3; have a4 := (hb3.cell (p := ⟨w.heap.size, 4, none⟩) hlt).trans e4)
  all_goals go_wp2_with fail
  all_goals go_ret
  all_goals exact ⟨by rw [HE.out]; first | rfl | simp [kindV], B2.out.trans (((Below.refl _ w2).drew.trans hb3).mono B2.out.size)⟩
set_option maxHeartbeats 2000000 in
theorem recordOf_cut (t i v : Int) (d : ByteArray) (w : World) (hd : d.size ≤ maxLen) (hn : bnd 3 t i v d.size = true) : Calls Try.prog 87 #[.agg #[.int .i64 3, .int .i64 t, .int .i64 i, .int .i64 v, .string d]] w fun e w' => e = .returned (recV ⟨3, t, i, v, d⟩) ∧ Below w.heap.size w w' := by
 have HE : Hid (recV ⟨3, t, i, v, d⟩ = if (decide (t = 0) && decide (v = 0) && decide (d = ByteArray.empty)) = true then kindV ⟨3, t, i, v, d⟩ else .nilIface) := by unfold Hid recV; rw [recOk_iff, hn, Bool.true_and]; rfl
 have c1 := fun wx => inBoundsV 3 t i v d wx hd
 rw [hn] at c1
 have c2 := fun wx => kindOfV 3 t i v d wx
 have c3 := fun wx => cutRec i wx
 have hb0 : Below w.heap.size w (w.alloc (.cells #[.int .i64 3, .int .i64 t, .int .i64 i, .int .i64 v, .string d] 93)) := (Below.refl _ _).alloc (Nat.le_refl _) _
 have k0 := Blk.new w #[.int .i64 3, .int .i64 t, .int .i64 i, .int .i64 v, .string d] 93
 clear hd hn
 go_enter Try.func87, Try.ntmps87
 go_wp2_with fail
 generalize w.alloc (.cells #[.int .i64 3, .int .i64 t, .int .i64 i, .int .i64 v, .string d] 93) = W at *
 refine (c1 _).mono ?_
 rintro e w1 ⟨rfl, hb1⟩
 have B1 : Hid (Below w.heap.size w w1) := hb0.trans (hb1.mono hb0.size)
 have k1 := k0.on hb1 k0.lt
 clear hb0 hb1 c1 k0
 have e0 := k1.cell 0 (.int .i64 3) rfl
 have e1 := k1.cell 1 (.int .i64 t) rfl
 have e2 := k1.cell 2 (.int .i64 i) rfl
 have e3 := k1.cell 3 (.int .i64 v) rfl
 have e4 := k1.cell 4 (.string d) rfl
 have K1 : Hid (Blk w1 w.heap.size _ _) := k1
 clear k1
 go_wp2_with fail
 refine (c2 _).mono ?_
 rintro e w2 ⟨rfl, hb2⟩
 have B2 : Hid (Below w.heap.size w w2) := B1.out.trans (hb2.mono B1.out.size)
 have k2 := K1.out.on hb2 K1.out.lt
 have hlt : w.heap.size < w2.heap.size := k2.lt
 clear hb2 e0 e1 e2 e3 e4 K1 B1
 have e0 := k2.cell 0 (.int .i64 3) rfl
 have e1 := k2.cell 1 (.int .i64 t) rfl
 have e2 := k2.cell 2 (.int .i64 i) rfl
 have e3 := k2.cell 3 (.int .i64 v) rfl
 have e4 := k2.cell 4 (.string d) rfl
 clear k2 c2
 rw [show kindV ⟨3, t, i, v, d⟩ = .iface 115 (.agg #[.int .i64 i]) from rfl]
 by_cases hzt : t = 0
 ·subst hzt
  rw [decide_eq_true rfl] at HE
  by_cases hzv : v = 0
  ·subst hzv
   rw [decide_eq_true rfl] at HE
   have hb1 := empty_beq d
   have hb2 := empty_eqs d
   cases hdd : decide (d = ByteArray.empty) <;> rw [hdd] at hb1 hb2 HE <;> clear hdd
   ·have HE : Hid (recV ⟨3, 0, i, 0, d⟩ = .nilIface) := by unfold Hid; rw [HE.out]; rfl
    go_wp2_with fail
    go_region_with (go_at_call 111; refine (c3 _).mono ?_; rintro e w3 ⟨rfl, hb3⟩; have a0 := (hb3.cell (p := ⟨w.heap.size, 0, none⟩) hlt).trans e0; have a1 := (hb3.cell (p := ⟨w.heap.size, 1, none⟩) hlt).trans e1; have a2 := (hb3.cell (p := ⟨w.heap.size, 2, none⟩) hlt).trans e2; have a3 := (hb3.cell (p := ⟨w.heap.size, 3, none⟩) hlt).trans e3; have a4 := (hb3.cell (p := ⟨w.heap.size, 4, none⟩) hlt).trans e4)
    all_goals go_wp2_with fail
    all_goals go_ret
    all_goals exact ⟨by rw [HE.out]; first | rfl | simp [kindV], B2.out.trans (((Below.refl _ w2).drew.trans hb3).mono B2.out.size)⟩
   ·have HE : Hid (recV ⟨3, 0, i, 0, d⟩ = kindV ⟨3, 0, i, 0, d⟩) := by unfold Hid; rw [HE.out]; rfl
    go_wp2_with fail
    go_region_with (go_at_call 111; refine (c3 _).mono ?_; rintro e w3 ⟨rfl, hb3⟩; have a0 := (hb3.cell (p := ⟨w.heap.size, 0, none⟩) hlt).trans e0; have a1 := (hb3.cell (p := ⟨w.heap.size, 1, none⟩) hlt).trans e1; have a2 := (hb3.cell (p := ⟨w.heap.size, 2, none⟩) hlt).trans e2; have a3 := (hb3.cell (p := ⟨w.heap.size, 3, none⟩) hlt).trans e3; have a4 := (hb3.cell (p := ⟨w.heap.size, 4, none⟩) hlt).trans e4)
    all_goals go_wp2_with fail
    all_goals go_ret
    all_goals exact ⟨by rw [HE.out]; first | rfl | simp [kindV], B2.out.trans (((Below.refl _ w2).drew.trans hb3).mono B2.out.size)⟩
  ·rw [decide_eq_false hzv] at HE
   have HE : Hid (recV ⟨3, 0, i, v, d⟩ = .nilIface) := by unfold Hid; rw [HE.out]; first | rfl | simp
   have zv : ((0 : Int) == v) = false := by simpa using Ne.symm hzv
   go_wp2_with fail
   go_region_with (go_at_call 111; refine (c3 _).mono ?_; rintro e w3 ⟨rfl, hb3⟩; have a0 := (hb3.cell (p := ⟨w.heap.size, 0, none⟩) hlt).trans e0; have a1 := (hb3.cell (p := ⟨w.heap.size, 1, none⟩) hlt).trans e1; have a2 := (hb3.cell (p := ⟨w.heap.size, 2, none⟩) hlt).trans e2; have a3 := (hb3.cell (p := ⟨w.heap.size, 3, none⟩) hlt).trans e3; have a4 := (hb3.cell (p := ⟨w.heap.size, 4, none⟩) hlt).trans e4)
   all_goals go_wp2_with fail
   all_goals go_ret
   all_goals exact ⟨by rw [HE.out]; first | rfl | simp [kindV], B2.out.trans (((Below.refl _ w2).drew.trans hb3).mono B2.out.size)⟩
 ·rw [decide_eq_false hzt] at HE
  have HE : Hid (recV ⟨3, t, i, v, d⟩ = .nilIface) := by unfold Hid; rw [HE.out]; first | rfl | simp
  have zt : ((0 : Int) == t) = false := by simpa using Ne.symm hzt
  go_wp2_with fail
  go_region_with (go_at_call 111; refine (c3 _).mono ?_; rintro e w3 ⟨rfl, hb3⟩; have a0 := (hb3.cell (p := ⟨w.heap.size, 0, none⟩) hlt).trans e0; have a1 := (hb3.cell (p := ⟨w.heap.size, 1, none⟩) hlt).trans e1; have a2 := (hb3.cell (p := ⟨w.heap.size, 2, none⟩) hlt).trans e2; have a3 := (hb3.cell (p := ⟨w.heap.size, 3, none⟩) hlt).trans e3; have a4 := (hb3.cell (p := ⟨w.heap.size, 4, none⟩) hlt).trans e4)
  all_goals go_wp2_with fail
  all_goals go_ret
  all_goals exact ⟨by rw [HE.out]; first | rfl | simp [kindV], B2.out.trans (((Below.refl _ w2).drew.trans hb3).mono B2.out.size)⟩
set_option maxHeartbeats 2000000 in
theorem recordOf_base (t i v : Int) (d : ByteArray) (w : World) (hd : d.size ≤ maxLen) (hn : bnd 4 t i v d.size = true) : Calls Try.prog 87 #[.agg #[.int .i64 4, .int .i64 t, .int .i64 i, .int .i64 v, .string d]] w fun e w' => e = .returned (recV ⟨4, t, i, v, d⟩) ∧ Below w.heap.size w w' := by
 have HE : Hid (recV ⟨4, t, i, v, d⟩ = if (decide (v = 0) && decide (d = ByteArray.empty)) = true then kindV ⟨4, t, i, v, d⟩ else .nilIface) := by unfold Hid recV; rw [recOk_iff, hn, Bool.true_and]; rfl
 have c1 := fun wx => inBoundsV 4 t i v d wx hd
 rw [hn] at c1
 have c2 := fun wx => kindOfV 4 t i v d wx
 have c3 := fun wx => baseRec i t wx
 have hb0 : Below w.heap.size w (w.alloc (.cells #[.int .i64 4, .int .i64 t, .int .i64 i, .int .i64 v, .string d] 93)) := (Below.refl _ _).alloc (Nat.le_refl _) _
 have k0 := Blk.new w #[.int .i64 4, .int .i64 t, .int .i64 i, .int .i64 v, .string d] 93
 clear hd hn
 go_enter Try.func87, Try.ntmps87
 go_wp2_with fail
 generalize w.alloc (.cells #[.int .i64 4, .int .i64 t, .int .i64 i, .int .i64 v, .string d] 93) = W at *
 refine (c1 _).mono ?_
 rintro e w1 ⟨rfl, hb1⟩
 have B1 : Hid (Below w.heap.size w w1) := hb0.trans (hb1.mono hb0.size)
 have k1 := k0.on hb1 k0.lt
 clear hb0 hb1 c1 k0
 have e0 := k1.cell 0 (.int .i64 4) rfl
 have e1 := k1.cell 1 (.int .i64 t) rfl
 have e2 := k1.cell 2 (.int .i64 i) rfl
 have e3 := k1.cell 3 (.int .i64 v) rfl
 have e4 := k1.cell 4 (.string d) rfl
 have K1 : Hid (Blk w1 w.heap.size _ _) := k1
 clear k1
 go_wp2_with fail
 refine (c2 _).mono ?_
 rintro e w2 ⟨rfl, hb2⟩
 have B2 : Hid (Below w.heap.size w w2) := B1.out.trans (hb2.mono B1.out.size)
 have k2 := K1.out.on hb2 K1.out.lt
 have hlt : w.heap.size < w2.heap.size := k2.lt
 clear hb2 e0 e1 e2 e3 e4 K1 B1
 have e0 := k2.cell 0 (.int .i64 4) rfl
 have e1 := k2.cell 1 (.int .i64 t) rfl
 have e2 := k2.cell 2 (.int .i64 i) rfl
 have e3 := k2.cell 3 (.int .i64 v) rfl
 have e4 := k2.cell 4 (.string d) rfl
 clear k2 c2
 rw [show kindV ⟨4, t, i, v, d⟩ = .iface 117 (.agg #[.int .i64 i, .int .i64 t]) from rfl]
 by_cases hzv : v = 0
 ·subst hzv
  rw [decide_eq_true rfl] at HE
  have hb1 := empty_beq d
  have hb2 := empty_eqs d
  cases hdd : decide (d = ByteArray.empty) <;> rw [hdd] at hb1 hb2 HE <;> clear hdd
  ·have HE : Hid (recV ⟨4, t, i, 0, d⟩ = .nilIface) := by unfold Hid; rw [HE.out]; rfl
   go_wp2_with fail
   go_region_with (go_at_call 112; refine (c3 _).mono ?_; rintro e w3 ⟨rfl, hb3⟩; have a0 := (hb3.cell (p := ⟨w.heap.size, 0, none⟩) hlt).trans e0; have a1 := (hb3.cell (p := ⟨w.heap.size, 1, none⟩) hlt).trans e1; have a2 := (hb3.cell (p := ⟨w.heap.size, 2, none⟩) hlt).trans e2; have a3 := (hb3.cell (p := ⟨w.heap.size, 3, none⟩) hlt).trans e3; have a4 := (hb3.cell (p := ⟨w.heap.size, 4, none⟩) hlt).trans e4)
   all_goals go_wp2_with fail
   all_goals go_ret
   all_goals exact ⟨by rw [HE.out]; first | rfl | simp [kindV], B2.out.trans (((Below.refl _ w2).drew.trans hb3).mono B2.out.size)⟩
  ·have HE : Hid (recV ⟨4, t, i, 0, d⟩ = kindV ⟨4, t, i, 0, d⟩) := by unfold Hid; rw [HE.out]; rfl
   go_wp2_with fail
   go_region_with (go_at_call 112; refine (c3 _).mono ?_; rintro e w3 ⟨rfl, hb3⟩; have a0 := (hb3.cell (p := ⟨w.heap.size, 0, none⟩) hlt).trans e0; have a1 := (hb3.cell (p := ⟨w.heap.size, 1, none⟩) hlt).trans e1; have a2 := (hb3.cell (p := ⟨w.heap.size, 2, none⟩) hlt).trans e2; have a3 := (hb3.cell (p := ⟨w.heap.size, 3, none⟩) hlt).trans e3; have a4 := (hb3.cell (p := ⟨w.heap.size, 4, none⟩) hlt).trans e4)
   all_goals go_wp2_with fail
   all_goals go_ret
   all_goals exact ⟨by rw [HE.out]; first | rfl | simp [kindV], B2.out.trans (((Below.refl _ w2).drew.trans hb3).mono B2.out.size)⟩
 ·rw [decide_eq_false hzv] at HE
  have HE : Hid (recV ⟨4, t, i, v, d⟩ = .nilIface) := by unfold Hid; rw [HE.out]; first | rfl | simp
  have zv : ((0 : Int) == v) = false := by simpa using Ne.symm hzv
  go_wp2_with fail
  go_region_with (go_at_call 112; refine (c3 _).mono ?_; rintro e w3 ⟨rfl, hb3⟩; have a0 := (hb3.cell (p := ⟨w.heap.size, 0, none⟩) hlt).trans e0; have a1 := (hb3.cell (p := ⟨w.heap.size, 1, none⟩) hlt).trans e1; have a2 := (hb3.cell (p := ⟨w.heap.size, 2, none⟩) hlt).trans e2; have a3 := (hb3.cell (p := ⟨w.heap.size, 3, none⟩) hlt).trans e3; have a4 := (hb3.cell (p := ⟨w.heap.size, 4, none⟩) hlt).trans e4)
  all_goals go_wp2_with fail
  all_goals go_ret
  all_goals exact ⟨by rw [HE.out]; first | rfl | simp [kindV], B2.out.trans (((Below.refl _ w2).drew.trans hb3).mono B2.out.size)⟩
theorem recordOfV (r : Rcd) (w : World) (hd : r.data.size ≤ maxLen) : Calls Try.prog 87 #[vRcd r] w fun e w' => e = .returned (recV r) ∧ Below w.heap.size w w' := by
 obtain ⟨k, t, i, v, d⟩ := r
 cases hn : bnd k t i v d.size
 ·have : recV ⟨k, t, i, v, d⟩ = .nilIface := by unfold recV; rw [recOk_iff, hn]; rfl
  rw [this]
  exact recordOf_no k t i v d w hd hn
 ·have hh := of_decide_eq_true hn
  rcases (show k = 1 ∨ k = 2 ∨ k = 3 ∨ k = 4 by omega) with rfl | rfl | rfl | rfl
  ·exact recordOf_hard t i v d w hd hn
  ·exact recordOf_entry t i v d w hd hn
  ·exact recordOf_cut t i v d w hd hn
  ·exact recordOf_base t i v d w hd hn
set_option maxHeartbeats 1000000 in
theorem implRecOk (r : Rcd) (w : World) (hd : r.data.size ≤ maxLen) : Calls Try.prog 79 #[vRcd r] w fun e w' => e = .returned (.bool (recOk r)) ∧ Below w.heap.size w w' := by
 have c1 := fun wx => recordOfV r wx hd
 have HE : Hid (recV r = if recOk r = true then kindV r else .nilIface) := rfl
 have HK : Hid (∃ a b, kindV r = .iface a b) := by
  unfold Hid kindV
  split
  ·exact ⟨_, _, rfl⟩
  split
  ·exact ⟨_, _, rfl⟩
  split
  ·exact ⟨_, _, rfl⟩
  ·exact ⟨_, _, rfl⟩
 unfold vRcd at *
 have hb0 : Below w.heap.size w (w.alloc (.cells #[.int .i64 r.kind, .int .i64 r.term, .int .i64 r.index, .int .i64 r.vote, .string r.data] 93)) := (Below.refl _ _).alloc (Nat.le_refl _) _
 go_enter Try.func79, Try.ntmps79
 go_wp2_with fail
 generalize w.alloc (.cells #[.int .i64 r.kind, .int .i64 r.term, .int .i64 r.index, .int .i64 r.vote, .string r.data] 93) = W at *
 refine (c1 _).mono ?_
 rintro e w1 ⟨rfl, hb1⟩
 have B1 : Hid (Below w.heap.size w w1) := hb0.trans (hb1.mono hb0.size)
 clear hb0 hb1 c1
 cases ho : recOk r
 ·rw [show recV r = .nilIface by rw [HE.out, ho]; rfl]
  go_wp2_with fail
  go_ret
  exact ⟨by rw [ho]; rfl, B1.out⟩
 ·obtain ⟨a, b, hk⟩ := HK.out
  rw [show recV r = .iface a b by rw [HE.out, ho, hk]; rfl]
  clear hk
  go_wp2_with fail
  go_ret
  exact ⟨by rw [ho]; rfl, B1.out⟩
end Go.Proofs.Ytlhoonohpfpkbaa
namespace Go.Proofs.Ytlhoonohpfpkbaa
open Go.ChangeShapes Go.WideShapes Go.ChangeAt Go.RowKit Go.PlainAid
set_option linter.unusedVariables false
theorem based_in (i t : Int) (h : based i t = true) : (0 ≤ i ∧ i ≤ 100000) ∧ 0 ≤ t ∧ t ≤ 100000 := by
 unfold based inIt at h
 split at h
 ·have := of_decide_eq_true h
  omega
 ·simp at h
  omega
theorem inIt_in (x lo hi : Int) (h : inIt x lo hi = true) : lo ≤ x ∧ x ≤ hi := by
 unfold inIt at h
 simpa using h
def lastAt (bt : Int) (l : List Ent) (k : Nat) : Int := if k = 0 then bt else (l.getD (k - 1) default).term
theorem ents_step (top last : Int) (l : List Ent) (k : Nat) (h : k < l.length) :
  entsOk top last (l.drop k) = (decide (1 ≤ (l.getD k default).term) && decide (last ≤ (l.getD k default).term) && decide ((l.getD k default).term ≤ top) && decide ((l.getD k default).data.size ≤ 900) && entsOk top (l.getD k default).term (l.drop (k + 1))) := by
 rw [List.drop_eq_getElem_cons h, ← getD_at l k h]
 rfl
theorem lastAt_succ (bt : Int) (l : List Ent) (k : Nat) : lastAt bt l (k + 1) = (l.getD k default).term := rfl
set_option maxHeartbeats 2000000 in
theorem specWalOk (x : Wl) (v : Value) (w : World) (B : Nat) (hv : WalV w B v x) (hf : FitsW x) (hB : B ≤ w.heap.size) : Calls Try.prog 48 #[v] w fun e w' => e = .returned (.bool (walOk x)) ∧ Below w.heap.size w w' := by
 obtain ⟨u, rfl, hl⟩ := hv
 obtain ⟨A, cap, rfl, hlk⟩ := ent_look hl
 have HL : Hid (∀ j, j < x.ents.length → ∃ g off, A = some ⟨g, off, none⟩ ∧ g < B ∧ _) := hlk
 have HB : Hid (B ≤ w.heap.size) := hB
 have hn0 := hf.n
 have HF : Hid (∀ e ∈ x.ents, e.data.size ≤ maxLen) := hf.d
 unfold maxLen at hn0
 have q1 : (x.ents.length : Int) ≤ 9223372036854775807 := by omega
 have HE : Hid (walOk x = (inIt x.term 0 100000 && inIt x.vote (-1) 4 && based x.base x.bterm && decide (x.bterm ≤ x.term) && decide (x.ents.length ≤ 60) && decide (x.base + x.ents.length ≤ 100000) && entsOk x.term x.bterm x.ents)) := rfl
 clear hl hlk hB hf hn0
 generalize hN : x.ents.length = n at *
 have B0 : Hid (Below w.heap.size w (w.alloc (.cells #[.int .i64 x.term, .int .i64 x.vote, .int .i64 x.base, .int .i64 x.bterm, .slice A n cap] 68))) := (Below.refl _ _).alloc (Nat.le_refl _) _
 have K0 : Hid (Blk (w.alloc (.cells #[.int .i64 x.term, .int .i64 x.vote, .int .i64 x.base, .int .i64 x.bterm, .slice A n cap] 68)) w.heap.size #[.int .i64 x.term, .int .i64 x.vote, .int .i64 x.base, .int .i64 x.bterm, .slice A n cap] 68) := Blk.new _ _ _
 have a1 := inB x.term 0 100000
 have a2 := inB x.vote (-1) 4
 have a3 := basedV x.base x.bterm
 cases h1 : inIt x.term 0 100000 <;> rw [h1] at a1 HE
 ·clear h1
  go_enter Try.func48, Try.ntmps48
  go_wp2_with fail
  refine (a1 _).mono ?_
  rintro e w' ⟨rfl, rfl⟩
  go_wp2_with fail
  go_ret
  exact ⟨by rw [HE.out]; rfl, B0.out⟩
 cases h2 : inIt x.vote (-1) 4 <;> rw [h2] at a2 HE
 ·clear h1 h2
  go_enter Try.func48, Try.ntmps48
  go_wp2_with fail
  refine (a1 _).mono ?_
  rintro e w' ⟨rfl, rfl⟩
  go_wp2_with fail
  refine (a2 _).mono ?_
  rintro e w' ⟨rfl, rfl⟩
  go_wp2_with fail
  go_ret
  exact ⟨by rw [HE.out]; rfl, B0.out⟩
 cases h3 : based x.base x.bterm <;> rw [h3] at a3 HE
 ·clear h1 h2 h3
  go_enter Try.func48, Try.ntmps48
  go_wp2_with fail
  refine (a1 _).mono ?_
  rintro e w' ⟨rfl, rfl⟩
  go_wp2_with fail
  refine (a2 _).mono ?_
  rintro e w' ⟨rfl, rfl⟩
  go_wp2_with fail
  refine (a3 _).mono ?_
  rintro e w' ⟨rfl, rfl⟩
  go_wp2_with fail
  go_ret
  exact ⟨by rw [HE.out]; rfl, B0.out⟩
 obtain ⟨b1, b2⟩ := based_in _ _ h3
 obtain ⟨p1, p2⟩ := inIt_in _ _ _ h1
 clear h1 h2 h3
 by_cases h4 : x.bterm ≤ x.term
 rotate_left
 ·rw [decide_eq_false h4] at HE
  have h4' : x.term < x.bterm := by omega
  clear h4
  go_enter Try.func48, Try.ntmps48
  go_wp2_with fail
  refine (a1 _).mono ?_
  rintro e w' ⟨rfl, rfl⟩
  go_wp2_with fail
  refine (a2 _).mono ?_
  rintro e w' ⟨rfl, rfl⟩
  go_wp2_with fail
  refine (a3 _).mono ?_
  rintro e w' ⟨rfl, rfl⟩
  go_wp2_with fail
  go_ret
  exact ⟨by rw [HE.out]; rfl, B0.out⟩
 rw [decide_eq_true h4] at HE
 by_cases h5 : n ≤ 60
 rotate_left
 ·rw [decide_eq_false h5] at HE
  have h5' : (60 : Int) < (n : Int) := by omega
  go_enter Try.func48, Try.ntmps48
  go_wp2_with fail
  refine (a1 _).mono ?_
  rintro e w' ⟨rfl, rfl⟩
  go_wp2_with fail
  refine (a2 _).mono ?_
  rintro e w' ⟨rfl, rfl⟩
  go_wp2_with fail
  refine (a3 _).mono ?_
  rintro e w' ⟨rfl, rfl⟩
  go_wp2_with fail
  go_ret
  exact ⟨by rw [HE.out]; rfl, B0.out⟩
 rw [decide_eq_true h5] at HE
 have h5' : (n : Int) ≤ 60 := by omega
 have hw1 : IntKind.i64.wrap (x.base + (n : Int)) = x.base + (n : Int) := by rw [IntKind.wrap_i64]; omega
 by_cases h6 : x.base + (n : Int) ≤ 100000
 rotate_left
 ·rw [decide_eq_false h6] at HE
  have h6' : (100000 : Int) < x.base + (n : Int) := by omega
  go_enter Try.func48, Try.ntmps48
  go_wp2_with fail
  refine (a1 _).mono ?_
  rintro e w' ⟨rfl, rfl⟩
  go_wp2_with fail
  refine (a2 _).mono ?_
  rintro e w' ⟨rfl, rfl⟩
  go_wp2_with fail
  refine (a3 _).mono ?_
  rintro e w' ⟨rfl, rfl⟩
  go_wp2_with fail
  go_ret
  exact ⟨by rw [HE.out]; rfl, B0.out⟩
 rw [decide_eq_true h6] at HE
 have HE : Hid (walOk x = entsOk x.term x.bterm x.ents) := by unfold Hid; rw [HE.out]; simp
 go_enter Try.func48, Try.ntmps48
 go_wp2_with fail
 refine (a1 _).mono ?_
 rintro e w' ⟨rfl, rfl⟩
 go_wp2_with fail
 refine (a2 _).mono ?_
 rintro e w' ⟨rfl, rfl⟩
 go_wp2_with fail
 refine (a3 _).mono ?_
 rintro e w' ⟨rfl, rfl⟩
 go_wp2_with fail
 generalize w.alloc (.cells #[.int .i64 x.term, .int .i64 x.vote, .int .i64 x.base, .int .i64 x.bterm, .slice A n cap] 68) = W at *
 clear a1 a2 a3 b1 b2 hw1 h6
 go_loopw [3, 4] (fun v3 v4 wr => ∃ k : Nat, k ≤ n ∧ v4 = .int .i64 (k : Int) ∧ v3 = .int .i64 (lastAt x.bterm x.ents k) ∧ Hid (walOk x = entsOk x.term (lastAt x.bterm x.ents k) (x.ents.drop k)) ∧ Below W.heap.size W wr) (fun _ i _ => n - (intOf i).toNat)
 case atStart => exact ⟨0, by omega, rfl, rfl, HE, Below.refl _ _⟩
 case round =>
  obtain ⟨k, hk, rfl, rfl, HR, hb⟩ := hrel
  have HB1 : Hid (Below W.heap.size W wr) := hb
  have hlt0 := K0.out.lt
  have c4 := (hb.cell (p := ⟨w.heap.size, 4, none⟩) hlt0).trans (K0.out.cell 4 (.slice A n cap) rfl)
  have c0 := (hb.cell (p := ⟨w.heap.size, 0, none⟩) hlt0).trans (K0.out.cell 0 (.int .i64 x.term) rfl)
  have hsz := hb.size
  clear hb hlt0
  by_cases hlt : k < n
  ·have q4 : (k : Int) < (n : Int) := by omega
   obtain ⟨g, off, rfl, hg, hc0, hc1⟩ := HL.out k (by omega)
   have hgw : g < W.heap.size := Nat.lt_of_lt_of_le hg (Nat.le_trans HB.out B0.out.size)
   have hgB : g < B := hg
   rw [← B0.out.cell (p := ⟨_, _, none⟩) (Nat.lt_of_lt_of_le hg HB.out), ← HB1.out.cell (p := ⟨_, _, none⟩) hgw] at hc0 hc1
   have HX := ents_step x.term (lastAt x.bterm x.ents k) x.ents k (by omega)
   have HX1 := lastAt_succ x.bterm x.ents k
   have hds := HF.out _ (getD_mem x.ents k (by omega))
   unfold maxLen at hds
   have hdi : ((x.ents.getD k default).data.size : Int) ≤ 9223372036854775807 := by omega
   have HXX : Hid (walOk x = (decide (1 ≤ (x.ents.getD k default).term) && decide (lastAt x.bterm x.ents k ≤ (x.ents.getD k default).term) && decide ((x.ents.getD k default).term ≤ x.term) && decide ((x.ents.getD k default).data.size ≤ 900) && entsOk x.term (x.ents.getD k default).term (x.ents.drop (k + 1)))) := HR.out.trans HX
   have HXS : Hid (lastAt x.bterm x.ents (k + 1) = (x.ents.getD k default).term) := HX1
   have HBF : Hid (Below w.heap.size w (wr.alloc (.cells #[.int .i64 (x.ents.getD k default).term, .string (x.ents.getD k default).data] 71))) := (B0.out.trans (HB1.out.mono B0.out.size)).alloc (Nat.le_trans B0.out.size HB1.out.size) _
   have HBG : Hid (Below W.heap.size W (wr.alloc (.cells #[.int .i64 (x.ents.getD k default).term, .string (x.ents.getD k default).data] 71))) := HB1.out.alloc HB1.out.size _
   clear HX HX1 HR hds
   generalize lastAt x.bterm x.ents k = la at *
   generalize x.ents.getD k default = y at *
   obtain ⟨yt, yd⟩ := y
   simp only at hc0 hc1 HXX HXS HBF HBG hdi
   have hw0 : w.heap.size < wr.heap.size := Nat.lt_of_lt_of_le K0.out.lt hsz
   have hgr : g < wr.heap.size := Nat.lt_of_lt_of_le hgw hsz
   by_cases h7 : 1 ≤ yt
   rotate_left
   ·rw [decide_eq_false h7] at HXX
    have h7' : yt < 1 := by omega
    clear h7
    have HXX : Hid (walOk x = false) := by unfold Hid; rw [HXX.out]; simp
    go_wp2_with fail
    go_ret
    exact ⟨by rw [HXX.out]; rfl, HBF.out⟩
   rw [decide_eq_true h7] at HXX
   by_cases h8 : la ≤ yt
   rotate_left
   ·rw [decide_eq_false h8] at HXX
    have h8' : yt < la := by omega
    clear h8
    have HXX : Hid (walOk x = false) := by unfold Hid; rw [HXX.out]; simp
    go_wp2_with fail
    go_ret
    exact ⟨by rw [HXX.out]; rfl, HBF.out⟩
   rw [decide_eq_true h8] at HXX
   by_cases h9 : yt ≤ x.term
   rotate_left
   ·rw [decide_eq_false h9] at HXX
    have h9' : x.term < yt := by omega
    clear h9
    have HXX : Hid (walOk x = false) := by unfold Hid; rw [HXX.out]; simp
    go_wp2_with fail
    go_ret
    exact ⟨by rw [HXX.out]; rfl, HBF.out⟩
   rw [decide_eq_true h9] at HXX
   by_cases hz : (yd.size : Int) ≤ 900
   rotate_left
   ·rw [decide_eq_false (show ¬ yd.size ≤ 900 by omega)] at HXX
    have hz' : 900 < (yd.size : Int) := by omega
    clear hz
    have HXX : Hid (walOk x = false) := by unfold Hid; rw [HXX.out]; simp
    go_wp2_with fail
    go_ret
    exact ⟨by rw [HXX.out]; rfl, HBF.out⟩
   rw [decide_eq_true (show yd.size ≤ 900 by omega)] at HXX
   have HXX : Hid (walOk x = entsOk x.term yt (x.ents.drop (k + 1))) := by unfold Hid; rw [HXX.out]; simp
   go_wp2_with fail
   go_roundw
   case rel => exact ⟨k + 1, by omega, by go_num, by rw [HXS.out], by rw [HXS.out]; exact HXX, HBG.out⟩
   case measure => simp [intOf]; omega
  ·obtain rfl : k = n := by omega
   have HXX : Hid (walOk x = true) := by
    unfold Hid
    rw [HR.out, ← hN, List.drop_length]
    rfl
   clear HR
   generalize lastAt x.bterm x.ents k = la at *
   go_wp2_with fail
   go_ret
   exact ⟨by rw [HXX.out]; rfl, B0.out.trans (HB1.out.mono B0.out.size)⟩
end Go.Proofs.Ytlhoonohpfpkbaa
namespace Go.Proofs.Ytlhoonohpfpkbaa
open Go.ChangeShapes Go.WideShapes Go.ChangeAt Go.RowKit Go.PlainAid
set_option linter.unusedVariables false
def leOk (top : Int) : Int → List Ent → Bool
 | _, [] => true
 | least, e :: r => decide (least ≤ e.term) && decide (e.term ≤ top) && decide (e.data.size ≤ 900) && leOk top e.term r
theorem entsOk_le (top : Int) : ∀ (l : List Ent) (last : Int), entsOk top last l = leOk top (max last 1) l
 | [], _ => rfl
 | e :: r, last => by
  unfold entsOk leOk
  rw [entsOk_le top r e.term]
  by_cases h1 : 1 ≤ e.term
  ·rw [Int.max_eq_left h1, decide_eq_true h1, Bool.true_and]
   congr 3
   rw [decide_eq_decide]
   omega
  ·rw [decide_eq_false h1, decide_eq_false (show ¬ max last 1 ≤ e.term by omega)]
   simp
def leAt (bt : Int) (l : List Ent) (k : Nat) : Int := if k = 0 then max bt 1 else (l.getD (k - 1) default).term
theorem le_step (top last : Int) (l : List Ent) (k : Nat) (h : k < l.length) :
  leOk top last (l.drop k) = (decide (last ≤ (l.getD k default).term) && decide ((l.getD k default).term ≤ top) && decide ((l.getD k default).data.size ≤ 900) && leOk top (l.getD k default).term (l.drop (k + 1))) := by
 rw [List.drop_eq_getElem_cons h, ← getD_at l k h]
 rfl
theorem leAt_succ (bt : Int) (l : List Ent) (k : Nat) : leAt bt l (k + 1) = (l.getD k default).term := rfl
def entsAll (x : Wl) : Bool := decide (x.ents.length ≤ 60) && decide (x.base + x.ents.length ≤ 100000) && entsOk x.term x.bterm x.ents
set_option maxHeartbeats 2000000 in
theorem entriesOkV (x : Wl) (v : Value) (w : World) (B : Nat) (hv : WalV w B v x) (hf : FitsW x) (hB : B ≤ w.heap.size) (hb1 : 0 ≤ x.base) (hb2 : x.base ≤ 100000) : Calls Try.prog 80 #[v] w fun e w' => e = .returned (.bool (entsAll x)) ∧ Below w.heap.size w w' := by
 obtain ⟨u, rfl, hl⟩ := hv
 obtain ⟨A, cap, rfl, hlk⟩ := ent_look hl
 have HL : Hid (∀ j, j < x.ents.length → ∃ g off, A = some ⟨g, off, none⟩ ∧ g < B ∧ _) := hlk
 have HB : Hid (B ≤ w.heap.size) := hB
 have hn0 := hf.n
 have HF : Hid (∀ e ∈ x.ents, e.data.size ≤ maxLen) := hf.d
 unfold maxLen at hn0
 have q1 : (x.ents.length : Int) ≤ 9223372036854775807 := by omega
 have HE : Hid (entsAll x = (decide (x.ents.length ≤ 60) && decide (x.base + x.ents.length ≤ 100000) && leOk x.term (max x.bterm 1) x.ents)) := by unfold Hid entsAll; rw [entsOk_le]
 clear hl hlk hB hf hn0
 generalize hN : x.ents.length = n at *
 have B0 : Hid (Below w.heap.size w (w.alloc (.cells #[.int .i64 x.term, .int .i64 x.vote, .int .i64 x.base, .int .i64 x.bterm, .slice A n cap] 68))) := (Below.refl _ _).alloc (Nat.le_refl _) _
 have K0 : Hid (Blk (w.alloc (.cells #[.int .i64 x.term, .int .i64 x.vote, .int .i64 x.base, .int .i64 x.bterm, .slice A n cap] 68)) w.heap.size #[.int .i64 x.term, .int .i64 x.vote, .int .i64 x.base, .int .i64 x.bterm, .slice A n cap] 68) := Blk.new _ _ _
 by_cases h5 : n ≤ 60
 rotate_left
 ·rw [decide_eq_false h5] at HE
  have h5' : (60 : Int) < (n : Int) := by omega
  go_enter Try.func80, Try.ntmps80
  go_wp2_with fail
  go_ret
  exact ⟨by rw [HE.out]; rfl, B0.out⟩
 rw [decide_eq_true h5] at HE
 have h5' : (n : Int) ≤ 60 := by omega
 have hw1 : IntKind.i64.wrap (x.base + (n : Int)) = x.base + (n : Int) := by rw [IntKind.wrap_i64]; omega
 by_cases h6 : x.base + (n : Int) ≤ 100000
 rotate_left
 ·rw [decide_eq_false h6] at HE
  have h6' : (100000 : Int) < x.base + (n : Int) := by omega
  go_enter Try.func80, Try.ntmps80
  go_wp2_with fail
  go_ret
  exact ⟨by rw [HE.out]; rfl, B0.out⟩
 rw [decide_eq_true h6] at HE
 have HE : Hid (entsAll x = leOk x.term (max x.bterm 1) x.ents) := by unfold Hid; rw [HE.out]; simp
 by_cases hm : 1 ≤ x.bterm
 all_goals try have hm2 : x.bterm < 1 := by omega
 all_goals
  go_enter Try.func80, Try.ntmps80
  go_wp2_with fail
  generalize w.alloc (.cells #[.int .i64 x.term, .int .i64 x.vote, .int .i64 x.base, .int .i64 x.bterm, .slice A n cap] 68) = W at *
  clear hw1 h6
  go_loopw [3, 25] (fun v3 v4 wr => ∃ k : Nat, k ≤ n ∧ v4 = .int .i64 (k : Int) ∧ v3 = .int .i64 (leAt x.bterm x.ents k) ∧ Hid (entsAll x = leOk x.term (leAt x.bterm x.ents k) (x.ents.drop k)) ∧ Below W.heap.size W wr) (fun _ i _ => n - (intOf i).toNat)
  case atStart => exact ⟨0, by omega, rfl, by first | rfl | (unfold leAt; simp [Int.max_def]; try omega), HE, Below.refl _ _⟩
  case round =>
   obtain ⟨k, hk, rfl, rfl, HR, hb⟩ := hrel
   have HB1 : Hid (Below W.heap.size W wr) := hb
   have hlt0 := K0.out.lt
   have c0 := (hb.cell (p := ⟨w.heap.size, 0, none⟩) hlt0).trans (K0.out.cell 0 (.int .i64 x.term) rfl)
   have hsz := hb.size
   clear hb hlt0
   by_cases hlt : k < n
   ·have q4 : (k : Int) < (n : Int) := by omega
    obtain ⟨g, off, rfl, hg, hc0, hc1⟩ := HL.out k (by omega)
    have hgw : g < W.heap.size := Nat.lt_of_lt_of_le hg (Nat.le_trans HB.out B0.out.size)
    rw [← B0.out.cell (p := ⟨_, _, none⟩) (Nat.lt_of_lt_of_le hg HB.out), ← HB1.out.cell (p := ⟨_, _, none⟩) hgw] at hc0 hc1
    have HX := le_step x.term (leAt x.bterm x.ents k) x.ents k (by omega)
    have HX1 := leAt_succ x.bterm x.ents k
    have hds := HF.out _ (getD_mem x.ents k (by omega))
    unfold maxLen at hds
    have hdi : ((x.ents.getD k default).data.size : Int) ≤ 9223372036854775807 := by omega
    have HXX : Hid (entsAll x = (decide (leAt x.bterm x.ents k ≤ (x.ents.getD k default).term) && decide ((x.ents.getD k default).term ≤ x.term) && decide ((x.ents.getD k default).data.size ≤ 900) && leOk x.term (x.ents.getD k default).term (x.ents.drop (k + 1)))) := HR.out.trans HX
    have HXS : Hid (leAt x.bterm x.ents (k + 1) = (x.ents.getD k default).term) := HX1
    have HBF : Hid (Below w.heap.size w (wr.alloc (.cells #[.int .i64 (x.ents.getD k default).term, .string (x.ents.getD k default).data] 71))) := (B0.out.trans (HB1.out.mono B0.out.size)).alloc (Nat.le_trans B0.out.size HB1.out.size) _
    have HBG : Hid (Below W.heap.size W (wr.alloc (.cells #[.int .i64 (x.ents.getD k default).term, .string (x.ents.getD k default).data] 71))) := HB1.out.alloc HB1.out.size _
    clear HX HX1 HR hds
    generalize leAt x.bterm x.ents k = la at *
    generalize x.ents.getD k default = y at *
    obtain ⟨yt, yd⟩ := y
    simp only at hc0 hc1 HXX HXS HBF HBG hdi
    have hw0 : w.heap.size < wr.heap.size := Nat.lt_of_lt_of_le K0.out.lt hsz
    have hgr : g < wr.heap.size := Nat.lt_of_lt_of_le hgw hsz
    by_cases h8 : la ≤ yt
    rotate_left
    ·rw [decide_eq_false h8] at HXX
     have h8' : yt < la := by omega
     clear h8
     have HXX : Hid (entsAll x = false) := by unfold Hid; rw [HXX.out]; simp
     go_wp2_with fail
     go_ret
     exact ⟨by rw [HXX.out]; rfl, HBF.out⟩
    rw [decide_eq_true h8] at HXX
    by_cases h9 : yt ≤ x.term
    rotate_left
    ·rw [decide_eq_false h9] at HXX
     have h9' : x.term < yt := by omega
     clear h9
     have HXX : Hid (entsAll x = false) := by unfold Hid; rw [HXX.out]; simp
     go_wp2_with fail
     go_ret
     exact ⟨by rw [HXX.out]; rfl, HBF.out⟩
    rw [decide_eq_true h9] at HXX
    by_cases hz : (yd.size : Int) ≤ 900
    rotate_left
    ·rw [decide_eq_false (show ¬ yd.size ≤ 900 by omega)] at HXX
     have hz' : 900 < (yd.size : Int) := by omega
     clear hz
     have HXX : Hid (entsAll x = false) := by unfold Hid; rw [HXX.out]; simp
     go_wp2_with fail
     go_ret
     exact ⟨by rw [HXX.out]; rfl, HBF.out⟩
    rw [decide_eq_true (show yd.size ≤ 900 by omega)] at HXX
    have HXX : Hid (entsAll x = leOk x.term yt (x.ents.drop (k + 1))) := by unfold Hid; rw [HXX.out]; simp
    go_wp2_with fail
    go_roundw
    case rel => exact ⟨k + 1, by omega, by go_num, by rw [HXS.out], by rw [HXS.out]; exact HXX, HBG.out⟩
    case measure => simp [intOf]; omega
   ·obtain rfl : k = n := by omega
    have HXX : Hid (entsAll x = true) := by
     unfold Hid
     rw [HR.out, ← hN, List.drop_length]
     rfl
    clear HR
    generalize leAt x.bterm x.ents k = la at *
    go_wp2_with fail
    go_ret
    exact ⟨by rw [HXX.out]; rfl, B0.out.trans (HB1.out.mono B0.out.size)⟩
theorem below_alloc3' (w : World) (a b c : Obj) : Below w.heap.size w (((w.alloc a).alloc b).alloc c) := (((Below.refl _ w).alloc (Nat.le_refl _) a).alloc (by simp) b).alloc (by simp; omega) c
theorem recOk_hard (t v : Int) : recOk ⟨1, t, 0, v, ⟨#[]⟩⟩ = (inIt t 0 100000 && inIt v (-1) 4) := by
 show (inIt t 0 100000 && inIt v (-1) 4 && decide ((0 : Int) = 0) && decide ((⟨#[]⟩ : ByteArray) = ByteArray.empty)) = _
 rw [decide_eq_true (show (0 : Int) = 0 from rfl), decide_eq_true (show (⟨#[]⟩ : ByteArray) = ByteArray.empty from rfl), Bool.and_true, Bool.and_true]
theorem recOk_base (i t : Int) : recOk ⟨4, t, i, 0, ⟨#[]⟩⟩ = based i t := by
 show (based i t && decide ((0 : Int) = 0) && decide ((⟨#[]⟩ : ByteArray) = ByteArray.empty)) = _
 rw [decide_eq_true (show (0 : Int) = 0 from rfl), decide_eq_true (show (⟨#[]⟩ : ByteArray) = ByteArray.empty from rfl), Bool.and_true, Bool.and_true]
set_option maxHeartbeats 2000000 in
theorem implWalOk (x : Wl) (v : Value) (w : World) (B : Nat) (hv : WalV w B v x) (hf : FitsW x) (hB : B ≤ w.heap.size) : Calls Try.prog 69 #[v] w fun e w' => e = .returned (.bool (walOk x)) ∧ Below w.heap.size w w' := by
 obtain ⟨u, rfl, hl⟩ := hv
 have HL : Hid (Lies w B 2 u (entR x.ents)) := hl
 have HF : Hid (FitsW x) := hf
 have HB : Hid (B ≤ w.heap.size) := hB
 have HE : Hid (walOk x = ((inIt x.term 0 100000 && inIt x.vote (-1) 4) && based x.base x.bterm && decide (x.bterm ≤ x.term) && entsAll x)) := by
  unfold Hid walOk entsAll
  simp only [Bool.and_assoc]
 have a1 := fun wx => implRecOk ⟨1, x.term, 0, x.vote, ⟨#[]⟩⟩ wx (by show (0 : Nat) ≤ _; exact Nat.zero_le _)
 have a2 := fun wx => implRecOk ⟨4, x.bterm, x.base, 0, ⟨#[]⟩⟩ wx (by show (0 : Nat) ≤ _; exact Nat.zero_le _)
 rw [recOk_hard] at a1
 rw [recOk_base] at a2
 unfold vRcd at a1 a2
 simp only at a1 a2
 clear hl hf hB
 cases h1 : (inIt x.term 0 100000 && inIt x.vote (-1) 4) <;> rw [h1] at a1 HE
 ·clear h1
  go_enter Try.func69, Try.ntmps69
  go_wp2_with fail
  have B0 := below_alloc3' w (.cells #[.int .i64 x.term, .int .i64 x.vote, .int .i64 x.base, .int .i64 x.bterm, u] 68) (.cells #[.int .i64 1, .int .i64 x.term, .int .i64 0, .int .i64 x.vote, .string ⟨#[]⟩] 93) (.cells #[.int .i64 4, .int .i64 x.bterm, .int .i64 x.base, .int .i64 0, .string ⟨#[]⟩] 93)
  have k0 := ((Blk.new w #[.int .i64 x.term, .int .i64 x.vote, .int .i64 x.base, .int .i64 x.bterm, u] 68).alloc (.cells #[.int .i64 1, .int .i64 x.term, .int .i64 0, .int .i64 x.vote, .string ⟨#[]⟩] 93)).alloc (.cells #[.int .i64 4, .int .i64 x.bterm, .int .i64 x.base, .int .i64 0, .string ⟨#[]⟩] 93)
  have k2 := Blk.new ((w.alloc (.cells #[.int .i64 x.term, .int .i64 x.vote, .int .i64 x.base, .int .i64 x.bterm, u] 68)).alloc (.cells #[.int .i64 1, .int .i64 x.term, .int .i64 0, .int .i64 x.vote, .string ⟨#[]⟩] 93)) #[.int .i64 4, .int .i64 x.bterm, .int .i64 x.base, .int .i64 0, .string ⟨#[]⟩] 93
  simp only [World.size_alloc] at k2
  generalize ((w.alloc (.cells #[.int .i64 x.term, .int .i64 x.vote, .int .i64 x.base, .int .i64 x.bterm, u] 68)).alloc (.cells #[.int .i64 1, .int .i64 x.term, .int .i64 0, .int .i64 x.vote, .string ⟨#[]⟩] 93)).alloc (.cells #[.int .i64 4, .int .i64 x.bterm, .int .i64 x.base, .int .i64 0, .string ⟨#[]⟩] 93) = W at *
  refine (a1 W).mono ?_
  rintro e w1 ⟨rfl, hb1⟩
  have B1 : Hid (Below w.heap.size w w1) := B0.trans (hb1.mono B0.size)
  clear B0 hb1 k0 k2
  go_wp2_with fail
  go_ret
  exact ⟨by rw [HE.out]; rfl, B1.out⟩
 clear h1
 cases h3 : based x.base x.bterm <;> rw [h3] at a2 HE
 ·clear h3
  go_enter Try.func69, Try.ntmps69
  go_wp2_with fail
  have B0 := below_alloc3' w (.cells #[.int .i64 x.term, .int .i64 x.vote, .int .i64 x.base, .int .i64 x.bterm, u] 68) (.cells #[.int .i64 1, .int .i64 x.term, .int .i64 0, .int .i64 x.vote, .string ⟨#[]⟩] 93) (.cells #[.int .i64 4, .int .i64 x.bterm, .int .i64 x.base, .int .i64 0, .string ⟨#[]⟩] 93)
  have k0 := ((Blk.new w #[.int .i64 x.term, .int .i64 x.vote, .int .i64 x.base, .int .i64 x.bterm, u] 68).alloc (.cells #[.int .i64 1, .int .i64 x.term, .int .i64 0, .int .i64 x.vote, .string ⟨#[]⟩] 93)).alloc (.cells #[.int .i64 4, .int .i64 x.bterm, .int .i64 x.base, .int .i64 0, .string ⟨#[]⟩] 93)
  have k2 := Blk.new ((w.alloc (.cells #[.int .i64 x.term, .int .i64 x.vote, .int .i64 x.base, .int .i64 x.bterm, u] 68)).alloc (.cells #[.int .i64 1, .int .i64 x.term, .int .i64 0, .int .i64 x.vote, .string ⟨#[]⟩] 93)) #[.int .i64 4, .int .i64 x.bterm, .int .i64 x.base, .int .i64 0, .string ⟨#[]⟩] 93
  simp only [World.size_alloc] at k2
  generalize ((w.alloc (.cells #[.int .i64 x.term, .int .i64 x.vote, .int .i64 x.base, .int .i64 x.bterm, u] 68)).alloc (.cells #[.int .i64 1, .int .i64 x.term, .int .i64 0, .int .i64 x.vote, .string ⟨#[]⟩] 93)).alloc (.cells #[.int .i64 4, .int .i64 x.bterm, .int .i64 x.base, .int .i64 0, .string ⟨#[]⟩] 93) = W at *
  refine (a1 W).mono ?_
  rintro e w1 ⟨rfl, hb1⟩
  have B1 : Hid (Below w.heap.size w w1) := B0.trans (hb1.mono B0.size)
  have K1 : Hid (Blk w1 w.heap.size #[.int .i64 x.term, .int .i64 x.vote, .int .i64 x.base, .int .i64 x.bterm, u] 68) := k0.on hb1 k0.lt
  have l2 := k2.on hb1 k2.lt
  have e0 := l2.cell 0 (.int .i64 4) rfl
  have e1 := l2.cell 1 (.int .i64 x.bterm) rfl
  have e2 := l2.cell 2 (.int .i64 x.base) rfl
  have e3 := l2.cell 3 (.int .i64 0) rfl
  have e4 := l2.cell 4 (.string ⟨#[]⟩) rfl
  clear B0 hb1 k0 k2 l2
  go_wp2_with fail
  refine (a2 w1).mono ?_
  rintro e w2 ⟨rfl, hb2⟩
  have B2 : Hid (Below w.heap.size w w2) := B1.out.trans (hb2.mono B1.out.size)
  have k2 := K1.out.on hb2 K1.out.lt
  clear e0 e1 e2 e3 e4 hb2
  have e0 := k2.cell 0 (.int .i64 x.term) rfl
  have e1 := k2.cell 1 (.int .i64 x.vote) rfl
  have e2 := k2.cell 2 (.int .i64 x.base) rfl
  have e3 := k2.cell 3 (.int .i64 x.bterm) rfl
  have e4 := k2.cell 4 (u) rfl
  clear k2
  go_wp2_with fail
  go_ret
  exact ⟨by rw [HE.out]; rfl, B2.out⟩
 obtain ⟨⟨b1, b2⟩, _⟩ := based_in _ _ h3
 clear h3
 by_cases h4 : x.bterm ≤ x.term
 rotate_left
 ·rw [decide_eq_false h4] at HE
  have h4' : x.term < x.bterm := by omega
  have z4 : decide (x.bterm ≤ x.term) = false := decide_eq_false h4
  clear h4
  go_enter Try.func69, Try.ntmps69
  go_wp2_with fail
  have B0 := below_alloc3' w (.cells #[.int .i64 x.term, .int .i64 x.vote, .int .i64 x.base, .int .i64 x.bterm, u] 68) (.cells #[.int .i64 1, .int .i64 x.term, .int .i64 0, .int .i64 x.vote, .string ⟨#[]⟩] 93) (.cells #[.int .i64 4, .int .i64 x.bterm, .int .i64 x.base, .int .i64 0, .string ⟨#[]⟩] 93)
  have k0 := ((Blk.new w #[.int .i64 x.term, .int .i64 x.vote, .int .i64 x.base, .int .i64 x.bterm, u] 68).alloc (.cells #[.int .i64 1, .int .i64 x.term, .int .i64 0, .int .i64 x.vote, .string ⟨#[]⟩] 93)).alloc (.cells #[.int .i64 4, .int .i64 x.bterm, .int .i64 x.base, .int .i64 0, .string ⟨#[]⟩] 93)
  have k2 := Blk.new ((w.alloc (.cells #[.int .i64 x.term, .int .i64 x.vote, .int .i64 x.base, .int .i64 x.bterm, u] 68)).alloc (.cells #[.int .i64 1, .int .i64 x.term, .int .i64 0, .int .i64 x.vote, .string ⟨#[]⟩] 93)) #[.int .i64 4, .int .i64 x.bterm, .int .i64 x.base, .int .i64 0, .string ⟨#[]⟩] 93
  simp only [World.size_alloc] at k2
  generalize ((w.alloc (.cells #[.int .i64 x.term, .int .i64 x.vote, .int .i64 x.base, .int .i64 x.bterm, u] 68)).alloc (.cells #[.int .i64 1, .int .i64 x.term, .int .i64 0, .int .i64 x.vote, .string ⟨#[]⟩] 93)).alloc (.cells #[.int .i64 4, .int .i64 x.bterm, .int .i64 x.base, .int .i64 0, .string ⟨#[]⟩] 93) = W at *
  refine (a1 W).mono ?_
  rintro e w1 ⟨rfl, hb1⟩
  have B1 : Hid (Below w.heap.size w w1) := B0.trans (hb1.mono B0.size)
  have K1 : Hid (Blk w1 w.heap.size #[.int .i64 x.term, .int .i64 x.vote, .int .i64 x.base, .int .i64 x.bterm, u] 68) := k0.on hb1 k0.lt
  have l2 := k2.on hb1 k2.lt
  have e0 := l2.cell 0 (.int .i64 4) rfl
  have e1 := l2.cell 1 (.int .i64 x.bterm) rfl
  have e2 := l2.cell 2 (.int .i64 x.base) rfl
  have e3 := l2.cell 3 (.int .i64 0) rfl
  have e4 := l2.cell 4 (.string ⟨#[]⟩) rfl
  clear B0 hb1 k0 k2 l2
  go_wp2_with fail
  refine (a2 w1).mono ?_
  rintro e w2 ⟨rfl, hb2⟩
  have B2 : Hid (Below w.heap.size w w2) := B1.out.trans (hb2.mono B1.out.size)
  have k2 := K1.out.on hb2 K1.out.lt
  clear e0 e1 e2 e3 e4 hb2
  have e0 := k2.cell 0 (.int .i64 x.term) rfl
  have e1 := k2.cell 1 (.int .i64 x.vote) rfl
  have e2 := k2.cell 2 (.int .i64 x.base) rfl
  have e3 := k2.cell 3 (.int .i64 x.bterm) rfl
  have e4 := k2.cell 4 (u) rfl
  clear k2
  go_wp2_with fail
  go_ret
  exact ⟨by rw [HE.out]; rfl, B2.out⟩
 rw [decide_eq_true h4] at HE
 go_enter Try.func69, Try.ntmps69
 go_wp2_with fail
 have B0 := below_alloc3' w (.cells #[.int .i64 x.term, .int .i64 x.vote, .int .i64 x.base, .int .i64 x.bterm, u] 68) (.cells #[.int .i64 1, .int .i64 x.term, .int .i64 0, .int .i64 x.vote, .string ⟨#[]⟩] 93) (.cells #[.int .i64 4, .int .i64 x.bterm, .int .i64 x.base, .int .i64 0, .string ⟨#[]⟩] 93)
 have k0 := ((Blk.new w #[.int .i64 x.term, .int .i64 x.vote, .int .i64 x.base, .int .i64 x.bterm, u] 68).alloc (.cells #[.int .i64 1, .int .i64 x.term, .int .i64 0, .int .i64 x.vote, .string ⟨#[]⟩] 93)).alloc (.cells #[.int .i64 4, .int .i64 x.bterm, .int .i64 x.base, .int .i64 0, .string ⟨#[]⟩] 93)
 have k2 := Blk.new ((w.alloc (.cells #[.int .i64 x.term, .int .i64 x.vote, .int .i64 x.base, .int .i64 x.bterm, u] 68)).alloc (.cells #[.int .i64 1, .int .i64 x.term, .int .i64 0, .int .i64 x.vote, .string ⟨#[]⟩] 93)) #[.int .i64 4, .int .i64 x.bterm, .int .i64 x.base, .int .i64 0, .string ⟨#[]⟩] 93
 simp only [World.size_alloc] at k2
 generalize ((w.alloc (.cells #[.int .i64 x.term, .int .i64 x.vote, .int .i64 x.base, .int .i64 x.bterm, u] 68)).alloc (.cells #[.int .i64 1, .int .i64 x.term, .int .i64 0, .int .i64 x.vote, .string ⟨#[]⟩] 93)).alloc (.cells #[.int .i64 4, .int .i64 x.bterm, .int .i64 x.base, .int .i64 0, .string ⟨#[]⟩] 93) = W at *
 refine (a1 W).mono ?_
 rintro e w1 ⟨rfl, hb1⟩
 have B1 : Hid (Below w.heap.size w w1) := B0.trans (hb1.mono B0.size)
 have K1 : Hid (Blk w1 w.heap.size #[.int .i64 x.term, .int .i64 x.vote, .int .i64 x.base, .int .i64 x.bterm, u] 68) := k0.on hb1 k0.lt
 have l2 := k2.on hb1 k2.lt
 have e0 := l2.cell 0 (.int .i64 4) rfl
 have e1 := l2.cell 1 (.int .i64 x.bterm) rfl
 have e2 := l2.cell 2 (.int .i64 x.base) rfl
 have e3 := l2.cell 3 (.int .i64 0) rfl
 have e4 := l2.cell 4 (.string ⟨#[]⟩) rfl
 clear B0 hb1 k0 k2 l2
 go_wp2_with fail
 refine (a2 w1).mono ?_
 rintro e w2 ⟨rfl, hb2⟩
 have B2 : Hid (Below w.heap.size w w2) := B1.out.trans (hb2.mono B1.out.size)
 have k2 := K1.out.on hb2 K1.out.lt
 clear e0 e1 e2 e3 e4 hb2
 have e0 := k2.cell 0 (.int .i64 x.term) rfl
 have e1 := k2.cell 1 (.int .i64 x.vote) rfl
 have e2 := k2.cell 2 (.int .i64 x.base) rfl
 have e3 := k2.cell 3 (.int .i64 x.bterm) rfl
 have e4 := k2.cell 4 (u) rfl
 clear k2
 go_wp2_with fail
 refine (entriesOkV x (.agg #[.int .i64 x.term, .int .i64 x.vote, .int .i64 x.base, .int .i64 x.bterm, u]) w2 B ⟨u, rfl, HL.out.on (B2.out.mono HB.out)⟩ HF.out (Nat.le_trans HB.out B2.out.size) b1 b2).mono ?_
 rintro e w3 ⟨rfl, hb3⟩
 have B3 : Hid (Below w.heap.size w w3) := B2.out.trans (hb3.mono B2.out.size)
 clear hb3
 have HE : Hid (walOk x = entsAll x) := by unfold Hid; rw [HE.out]; simp
 generalize entsAll x = z at *
 go_wp2_with fail
 go_ret
 exact ⟨by rw [HE.out]; first | rfl | simp, B3.out⟩
end Go.Proofs.Ytlhoonohpfpkbaa
