/- FlBlk FlSpot SrOk -/
import Derived.Test.YtikknmoeefipmaaGreatDoorQp10
import Derived.Test.YtikknmoeefipmaaGreatDoorQp12
import Derived.Test.YtikknmoeefipmaaGreatDoorQp3
import Derived.WalkKit
import Derived.ProofKit
import Derived.OpenShut
import Derived.Below
import Derived.WalkSmall
import Derived.BigQuiet
import Derived.Deep.QuietTactic
import Derived.Deep.RegionWith
import Derived.Handy
import Derived.Test.YtikknmoeefipmaaGreatDoorQp6
import Derived.Test.YtikknmoeefipmaaGreatDoorRows
open List (setIfInBounds_toArray set_cons_zero set_cons_succ)
namespace Go.Proofs.YtikknmoeefipmaaGreatDoor
open Go.ChangeShapes Go.WideShapes Go.ChangeAt Go.RowKit Go.PlainAid
set_option linter.unusedVariables false
set_option maxHeartbeats 4000000 in
theorem writeBlockV (t : ByteArray) (x : Ser) (v : Value) (w : World) (g B : Nat) (hb : CurB w g t t.size 177) (hv : Lies w B 2 v (ptR x.pts)) (h1 : 1 ≤ x.pts.length) (hok : POk x.pts) (hB : B ≤ g) (ht : t.size ≤ 900000) (hst : SumTab w) : Calls Tryz.prog 127 #[.pointer (some ⟨g, 0, none⟩), vSr x.key v] w fun e w' => e = .returned (vSp ⟨x.key, t.size, (showB x.pts).size, (tAt x.pts 0).toNat, (tAt x.pts (x.pts.length - 1)).toNat⟩) ∧ CurB w' g (t ++ showB x.pts) (t ++ showB x.pts).size 177 ∧ KeptBut g w w' := by
 obtain ⟨A, cap, rfl, hl⟩ := pt_look hv
 obtain ⟨gp, offp, rfl, hgp, hf0, _⟩ := hl 0 (by omega)
 obtain ⟨gp', offp', e', _, hf1, _⟩ := hl (x.pts.length - 1) (by omega)
 cases e'
 have ht0 := (hok.2 0 (by omega)).1.1
 have ht1 := (hok.2 (x.pts.length - 1) (by omega)).1.1
 have hn60 := hok.1
 rw [show offp + 0 * 2 = offp by omega] at hf0
 unfold vSr vSp
 have HV : Hid (Lies w B 2 (.slice (some ⟨gp, offp, none⟩) x.pts.length cap) (ptR x.pts)) := hv
 have E0 : Hid (((tAt x.pts 0).toNat : Int) = tAt x.pts 0) := by unfold Hid; omega
 have E1 : Hid (((tAt x.pts (x.pts.length - 1)).toNat : Int) = tAt x.pts (x.pts.length - 1)) := by unfold Hid; omega
 simp only
 rw [E0.out, E1.out]
 change w.cell? ⟨gp, offp, none⟩ = some (.int .i64 (tAt x.pts 0)) at hf0
 change w.cell? ⟨gp, offp + (x.pts.length - 1) * 2, none⟩ = some (.int .i64 (tAt x.pts (x.pts.length - 1))) at hf1
 clear E0 E1 ht0 ht1 hl hok
 generalize tAt x.pts 0 = t0 at *
 generalize tAt x.pts (x.pts.length - 1) = t1 at *
 obtain ⟨xk, xp⟩ := x
 simp only at *
 have sz0 := showB_size xp
 have HBw : Hid (CurB w g t t.size 177) := hb
 have HB : Hid (B ≤ g ∧ g < w.heap.size ∧ gp < B) := ⟨hB, Blk.lt hb, hgp⟩
 have HF0 : Hid (w.cell? ⟨gp, offp, none⟩ = some (.int .i64 t0)) := hf0
 have HF1 : Hid (w.cell? ⟨gp, offp + (xp.length - 1) * 2, none⟩ = some (.int .i64 t1)) := hf1
 have ST : Hid (SumTab w) := hst
 clear hb hv hB hgp hf0 hf1 hst
 generalize hn : xp.length = n at *
 have HNn : Hid (xp.length = n) := hn
 clear hn
 have b0 := (Blk.new w #[.string xk, .slice (some ⟨gp, offp, none⟩) n cap] 98).alloc (.cells #[.string ⟨#[]⟩, .int .i64 0, .int .i64 0, .int .i64 0, .int .i64 0] 180)
 have r0 := Blk.new (w.alloc (.cells #[.string xk, .slice (some ⟨gp, offp, none⟩) n cap] 98)) #[.string ⟨#[]⟩, .int .i64 0, .int .i64 0, .int .i64 0, .int .i64 0] 180
 have c0 : CurB ((w.alloc (.cells #[.string xk, .slice (some ⟨gp, offp, none⟩) n cap] 98)).alloc (.cells #[.string ⟨#[]⟩, .int .i64 0, .int .i64 0, .int .i64 0, .int .i64 0] 180)) g t t.size 177 := Blk.alloc (Blk.alloc HBw.out _) _
 rw [World.size_alloc] at r0
 have d0 : Below w.heap.size w ((w.alloc (.cells #[.string xk, .slice (some ⟨gp, offp, none⟩) n cap] 98)).alloc (.cells #[.string ⟨#[]⟩, .int .i64 0, .int .i64 0, .int .i64 0, .int .i64 0] 180)) := below_alloc2 _ _ _
 have m1 := Blk.cell b0 1 (.slice (some ⟨gp, offp, none⟩) n cap) rfl
 have m9 := Blk.cell c0 1 (.int .i64 (t.size : Int)) rfl
 go_enter Tryz.func127, Tryz.ntmps127
 go_wp2_with fail
 generalize hW0 : (w.alloc (.cells #[.string xk, .slice (some ⟨gp, offp, none⟩) n cap] 98)).alloc (.cells #[.string ⟨#[]⟩, .int .i64 0, .int .i64 0, .int .i64 0, .int .i64 0] 180) = W0 at *
 generalize hN : w.heap.size = N at *
 refine (placeV W0 g t.size m9).mono ?_
 rintro e w' ⟨rfl, rfl⟩
 have D0 : Hid (Below N w W0) := d0
 have L0 : Hid (Lies W0 B 2 (.slice (some ⟨gp, offp, none⟩) n cap) (ptR xp)) := HV.out.on (d0.mono (by have := HB.out; omega))
 go_wp2_with fail
 refine (implShowBlock xp (.slice (some ⟨gp, offp, none⟩) n cap) W0 B L0.out (by have := HNn.out; omega) (by have := D0.out.size; have := HB.out; omega) (ST.out.on (by rw [hN]; exact D0.out))).mono ?_
 rintro e X1 ⟨rfl, hb1⟩
 have b1 := b0.on hb1 b0.lt
 have r1 := r0.on hb1 r0.lt
 have C1 : Hid (CurB X1 g t t.size 177) := Blk.on c0 hb1 (Blk.lt c0)
 have D1 : Hid (Below N w X1) := D0.out.trans (hb1.mono (by rw [← hN]; exact D0.out.size))
 clear b0 r0 c0 hb1 m1 m9 d0 L0 D0
 have q0 : (t.size : Int) ≤ 900000 := by omega
 go_wp2_with fail
 refine (writeV t (showB xp) X1 g t.size C1.out (by omega)).mono ?_
 rintro e X2 ⟨⟨uu, rfl⟩, hC, hk⟩
 have hNg : N ≠ g := by have := HB.out; omega
 have hNg' : N + 1 ≠ g := by have := HB.out; omega
 have b2 := hk.blk b1 hNg
 have r2 := hk.blk r1 hNg'
 have C2 : Hid (CurB X2 g (t ++ showB xp) (t ++ showB xp).size 177) := hC
 have K2 : Hid (KeptBut g w X2) := (KeptBut.of (by rw [hN]; exact D1.out) (by rw [hN]; exact HB.out.2.1)).trans hk
 have F0 : Hid (X2.cell? ⟨gp, offp, none⟩ = some (.int .i64 t0)) := (K2.out.1.cell (p := ⟨gp, offp, none⟩) (by have := HB.out; simp only; omega)).trans HF0.out
 have F1 : Hid (X2.cell? ⟨gp, offp + (n - 1) * 2, none⟩ = some (.int .i64 t1)) := (K2.out.1.cell (p := ⟨gp, offp + (n - 1) * 2, none⟩) (by have := HB.out; simp only; omega)).trans HF1.out
 clear hC hk b1 r1 C1 D1
 have hsz : (t ++ showB xp).size = t.size + (showB xp).size := ByteArray.size_append
 generalize htz : (t ++ showB xp).size = tz at *
 generalize hsz' : (showB xp).size = sz at *
 have HTZ : Hid ((t ++ showB xp).size = tz ∧ (showB xp).size = sz) := ⟨htz, hsz'⟩
 have S0 : Hid (X2.drew.cell? ⟨N, 0, none⟩ = some (.string xk) ∧ X2.drew.cell? ⟨N, 1, none⟩ = some (.slice (some ⟨gp, offp, none⟩) n cap) ∧ X2.drew.cell? ⟨gp, offp, none⟩ = some (.int .i64 t0) ∧ X2.drew.cell? ⟨gp, offp + (n - 1) * 2, none⟩ = some (.int .i64 t1) ∧ X2.drew.cell? ⟨g, 1, none⟩ = some (.int .i64 (tz : Int))) := ⟨b2.cell 0 _ rfl, b2.cell 1 _ rfl, F0.out, F1.out, Blk.cell C2.out 1 _ rfl⟩
 have q3 : (1 : Int) ≤ (n : Int) := by omega
 have e3 : ((n : Int) - 1).toNat = n - 1 := by omega
 have e9 : IntKind.i64.wrap ((n : Int) - 1) = (n : Int) - 1 := by rw [IntKind.wrap_i64]; omega
 have e8 : IntKind.i64.wrap ((tz : Int) - (t.size : Int)) = (sz : Int) := by rw [IntKind.wrap_i64]; omega
 have e5 : (n : Int) - 1 < (n : Int) := by omega
 have q6 : (0 : Int) < (n : Int) := by omega
 have q7 : 0 < n := by omega
 have HR2 : Hid (Blk X2.drew (N + 1) #[.string ⟨#[]⟩, .int .i64 0, .int .i64 0, .int .i64 0, .int .i64 0] 180) := r2
 have C2d : Hid (CurB X2.drew g (t ++ showB xp) tz 177) := C2.out
 have K2d : Hid (KeptBut g w X2.drew) := K2.out.drew
 have HBn : Hid (N + 1 ≠ g ∧ N = w.heap.size) := ⟨hNg', hN.symm⟩
 clear b2 r2 F0 F1 hNg hNg' hsz htz
 go_wp2_with fail
 refine wp_region_until (fun w' => w'.cell? ⟨N, 0, none⟩ = some (.string xk) ∧ w'.cell? ⟨N, 1, none⟩ = some (.slice (some ⟨gp, offp, none⟩) n cap) ∧ w'.cell? ⟨gp, offp, none⟩ = some (.int .i64 t0) ∧ w'.cell? ⟨gp, offp + (n - 1) * 2, none⟩ = some (.int .i64 t1) ∧ w'.cell? ⟨g, 1, none⟩ = some (.int .i64 (tz : Int))) (fun _ => false) 25 (by rfl) (by kernel_rfl) ?_
 refine tKe 0 (v := ?_) S0.out ?_ ?_; rotate_left; focus (intro w hSw; (try dsimp only at hSw); go_simp; try with_reducible rfl)
 try simp only [Act.put, zQ1, zQ2, zQ3]
 refine tKe 1 (v := ?_) S0.out ?_ ?_; rotate_left; focus (intro w hSw; (try dsimp only at hSw); go_simp; try with_reducible rfl)
 try simp only [Act.put, zQ1, zQ2, zQ3]
 refine tKe 2 (v := ?_) S0.out ?_ ?_; rotate_left; focus (intro w hSw; (try dsimp only at hSw); go_simp; try with_reducible rfl)
 try simp only [Act.put, zQ1, zQ2, zQ3]
 refine tKe 3 (v := ?_) S0.out ?_ ?_; rotate_left; focus (intro w hSw; (try dsimp only at hSw); go_simp; try with_reducible rfl)
 try simp only [Act.put, zQ1, zQ2, zQ3]
 refine tKe 4 (v := ?_) S0.out ?_ ?_; rotate_left; focus (intro w hSw; (try dsimp only at hSw); go_simp; try with_reducible rfl)
 try simp only [Act.put, zQ1, zQ2, zQ3]
 refine tKe 5 (v := ?_) S0.out ?_ ?_; rotate_left; focus (intro w hSw; (try dsimp only at hSw); go_simp; try with_reducible rfl)
 try simp only [Act.put, zQ1, zQ2, zQ3]
 refine tKe 7 (v := ?_) S0.out ?_ ?_; rotate_left; focus (intro w hSw; (try dsimp only at hSw); go_simp; try with_reducible rfl)
 try simp only [Act.put, zQ1, zQ2, zQ3]
 refine tKe 9 (v := ?_) S0.out ?_ ?_; rotate_left; focus (intro w hSw; (try dsimp only at hSw); go_simp; try with_reducible rfl)
 try simp only [Act.put, zQ1, zQ2, zQ3]
 refine tKe 10 (v := ?_) S0.out ?_ ?_; rotate_left; focus (intro w hSw; (try dsimp only at hSw); go_simp; try with_reducible rfl)
 try simp only [Act.put, zQ1, zQ2, zQ3]
 refine tKe 11 (v := ?_) S0.out ?_ ?_; rotate_left; focus (intro w hSw; (try dsimp only at hSw); go_simp; try with_reducible rfl)
 try simp only [Act.put, zQ1, zQ2, zQ3]
 refine tKe 12 (v := ?_) S0.out ?_ ?_; rotate_left; focus (intro w hSw; (try dsimp only at hSw); go_simp; try with_reducible rfl)
 try simp only [Act.put, zQ1, zQ2, zQ3]
 refine tKe 13 (v := ?_) S0.out ?_ ?_; rotate_left; focus (intro w hSw; (try dsimp only at hSw); go_simp; try with_reducible rfl)
 try simp only [Act.put, zQ1, zQ2, zQ3]
 refine tKe 14 (v := ?_) S0.out ?_ ?_; rotate_left; focus (intro w hSw; (try dsimp only at hSw); go_simp; try with_reducible rfl)
 try simp only [Act.put, zQ1, zQ2, zQ3]
 refine tKe 15 (v := ?_) S0.out ?_ ?_; rotate_left; focus (intro w hSw; (try dsimp only at hSw); go_simp; try with_reducible rfl)
 try simp only [Act.put, zQ1, zQ2, zQ3]
 refine tKe 16 (v := ?_) S0.out ?_ ?_; rotate_left; focus (intro w hSw; (try dsimp only at hSw); go_simp; try with_reducible rfl)
 try simp only [Act.put, zQ1, zQ2, zQ3]
 refine tKe 17 (v := ?_) S0.out ?_ ?_; rotate_left; focus (intro w hSw; (try dsimp only at hSw); go_simp; try with_reducible rfl)
 try simp only [Act.put, zQ1, zQ2, zQ3]
 refine tKe 18 (v := ?_) S0.out ?_ ?_; rotate_left; focus (intro w hSw; (try dsimp only at hSw); go_simp; try with_reducible rfl)
 try simp only [Act.put, zQ1, zQ2, zQ3]
 refine tKe 19 (v := .int .i64 ((n : Int) - 1)) S0.out ?_ ?_
 ·intro w hSw
  try dsimp only at hSw
  go_simp
  try rw [e9]
 try simp only [Act.put, zQ1, zQ2, zQ3]
 refine tKe 20 (v := ?_) S0.out ?_ ?_; rotate_left; focus (intro w hSw; (try dsimp only at hSw); go_simp; try with_reducible rfl)
 try simp only [Act.put, zQ1, zQ2, zQ3]
 refine tKe 21 (v := ?_) S0.out ?_ ?_; rotate_left; focus (intro w hSw; (try dsimp only at hSw); go_simp; try with_reducible rfl)
 try simp only [Act.put, zQ1, zQ2, zQ3]
 refine tKe 22 (v := ?_) S0.out ?_ ?_; rotate_left; focus (intro w hSw; (try dsimp only at hSw); go_simp; try with_reducible rfl)
 try simp only [Act.put, zQ1, zQ2, zQ3]
 refine uNe 6 (fun K hK => ?_)
 go_simp
 refine (placeV _ g tz S0.out.2.2.2.2).mono ?_
 rintro e w' ⟨rfl, rfl⟩
 go_wp2_with fail
 refine hK.out _ _ (fun _ h => h) ?_
 clear hK K
 try simp only [Act.put, zQ1, zQ2, zQ3]
 refine tKe 8 (v := .int .i64 (sz : Int)) S0.out ?_ ?_
 ·intro w hSw
  try dsimp only at hSw
  go_simp
  try rw [e8]
 try simp only [Act.put, zQ1, zQ2, zQ3]
 refine pUr 23 (v := ?_) ?_ ?_; rotate_left; focus (intro w; go_simp; try with_reducible rfl)
 try simp only [Act.put, zQ1, zQ2, zQ3]
 have p0 : Blk X2 (N + 1) #[.string ⟨#[]⟩, .int .i64 0, .int .i64 0, .int .i64 0, .int .i64 0] 180 := HR2.out
 have g0 : X2.cell? ⟨N + 1, 0, none⟩ = some (.string ⟨#[]⟩) := p0.cell 0 _ rfl
 have h0 := p0.free 0
 have g1 : X2.cell? ⟨N + 1, 1, none⟩ = some (.int .i64 0) := p0.cell 1 _ rfl
 have h1 := p0.free 1
 have g2 : X2.cell? ⟨N + 1, 2, none⟩ = some (.int .i64 0) := p0.cell 2 _ rfl
 have h2 := p0.free 2
 have g3 : X2.cell? ⟨N + 1, 3, none⟩ = some (.int .i64 0) := p0.cell 3 _ rfl
 have h3 := p0.free 3
 have g4 : X2.cell? ⟨N + 1, 4, none⟩ = some (.int .i64 0) := p0.cell 4 _ rfl
 have h4 := p0.free 4
 have p1 := p0.set 0 (.string xk)
 have p2 := p1.set 1 (.int .i64 (t.size : Int))
 have p3 := p2.set 2 (.int .i64 (sz : Int))
 have p4 := p3.set 3 (.int .i64 t0)
 have p5 := p4.set 4 (.int .i64 t1)
 generalize hW5 : (((((X2.setCell ⟨N + 1, 0, none⟩ (.string xk)).setCell ⟨N + 1, 1, none⟩ (.int .i64 (t.size : Int))).setCell ⟨N + 1, 2, none⟩ (.int .i64 (sz : Int))).setCell ⟨N + 1, 3, none⟩ (.int .i64 t0)).setCell ⟨N + 1, 4, none⟩ (.int .i64 t1)) = W5 at p5
 have P5 : Hid (Blk W5.drew (N + 1) #[.string xk, .int .i64 (t.size : Int), .int .i64 (sz : Int), .int .i64 t0, .int .i64 t1] 180) := p5
 have PE : Hid (CurB W5.drew g (t ++ showB xp) tz 177) := by
  rw [← hW5]
  exact ((((Blk.other C2.out (Ne.symm HBn.out.1) _ _).other (Ne.symm HBn.out.1) _ _).other (Ne.symm HBn.out.1) _ _).other (Ne.symm HBn.out.1) _ _).other (Ne.symm HBn.out.1) _ _
 have KE : Hid (KeptBut g w W5.drew) := by
  rw [← hW5]
  have hk : w.heap.size ≤ N + 1 := by have := HBn.out.2; omega
  have hg : g ≤ N + 1 := by have := HB.out; omega
  exact (((((K2.out.setNew hk hg _ _).setNew hk hg _ _).setNew hk hg _ _).setNew hk hg _ _).setNew hk hg _ _).drew
 have SE : Hid (W5.drew.cell? ⟨N, 0, none⟩ = some (.string xk) ∧ W5.drew.cell? ⟨N, 1, none⟩ = some (.slice (some ⟨gp, offp, none⟩) n cap) ∧ W5.drew.cell? ⟨gp, offp, none⟩ = some (.int .i64 t0) ∧ W5.drew.cell? ⟨gp, offp + (n - 1) * 2, none⟩ = some (.int .i64 t1) ∧ W5.drew.cell? ⟨g, 1, none⟩ = some (.int .i64 (tz : Int))) := by
  have e1 : ∀ c o, c ≠ N + 1 → W5.cell? ⟨c, o, none⟩ = X2.cell? ⟨c, o, none⟩ := fun c o hc => by
   rw [← hW5]
   exact World.cell?_of_block (by rw [Below.heap_setCell _ _ _ _ (show c ≠ N + 1 from hc), Below.heap_setCell _ _ _ _ (show c ≠ N + 1 from hc), Below.heap_setCell _ _ _ _ (show c ≠ N + 1 from hc), Below.heap_setCell _ _ _ _ (show c ≠ N + 1 from hc), Below.heap_setCell _ _ _ _ (show c ≠ N + 1 from hc)])
  have hB := HB.out
  have hBn := HBn.out
  exact ⟨(e1 _ _ (by omega)).trans S0.out.1, (e1 _ _ (by omega)).trans S0.out.2.1, (e1 _ _ (by omega)).trans S0.out.2.2.1, (e1 _ _ (by omega)).trans S0.out.2.2.2.1, (e1 _ _ (by omega)).trans S0.out.2.2.2.2⟩
 clear p0 p1 p2 p3 p4 p5
 refine uNe 24 (fun K hK => ?_)
 go_simp
 refine hK.out _ _ (fun _ _ => SE.out) ?_
 clear hK K
 try simp only [Act.put, zQ1, zQ2, zQ3]
 have k0 := P5.out.cell 0 (.string xk) rfl
 have k1 := P5.out.cell 1 (.int .i64 (t.size : Int)) rfl
 have k2 := P5.out.cell 2 (.int .i64 (sz : Int)) rfl
 have k3 := P5.out.cell 3 (.int .i64 t0) rfl
 have k4 := P5.out.cell 4 (.int .i64 t1) rfl
 refine until_done (by kernel_rfl) ?_ _
 go_wp2_with fail
 exact bodyPost_ret (v := .agg #[.string xk, .int .i64 (t.size : Int), .int .i64 (sz : Int), .int .i64 t0, .int .i64 t1]) (by simp [results, go_sem, k0, k1, k2, k3, k4]) rfl ⟨by rw [HTZ.out.2], by rw [HTZ.out.1]; exact PE.out, KE.out⟩
end Go.Proofs.YtikknmoeefipmaaGreatDoor
namespace Go.Proofs.YtikknmoeefipmaaGreatDoor
open Go.ChangeShapes Go.WideShapes Go.ChangeAt Go.RowKit Go.PlainAid
set_option linter.unusedVariables false
def spT (x : Spot) : List UInt8 := vF 6 x.key.size ++ (bl x.key ++ (vF 6 x.at' ++ (vF 6 x.size ++ (vF 6 x.first ++ vF 6 x.last))))
theorem spT_is (x : Spot) : txt (vF 6 x.key.size) ++ x.key ++ txt (vF 6 x.at') ++ txt (vF 6 x.size) ++ txt (vF 6 x.first) ++ txt (vF 6 x.last) = txt (spT x) := by
 conv => lhs; rw [← txt_bl x.key, txt_bl x.key]
 rw [show x.key = txt (bl x.key) from (txt_bl _).symm]
 simp only [txt_cat]
 unfold spT
 rw [txt_bl]
 simp only [List.append_assoc]
set_option maxHeartbeats 4000000 in
theorem writeSpotV (t : ByteArray) (x : Spot) (w : World) (g p : Nat) (hb : CurB w g t p 177) (hx : SpFits x) (hs : t.size + x.key.size ≤ 900000) : Calls Tryz.prog 129 #[.pointer (some ⟨g, 0, none⟩), vSp x] w fun e w' => (∃ u, e = .returned u) ∧ CurB w' g (t ++ txt (spT x)) (t ++ txt (spT x)).size 177 ∧ KeptBut g w w' := by
 have HT : Hid (txt (vF 6 x.key.size) ++ x.key ++ txt (vF 6 x.at') ++ txt (vF 6 x.size) ++ txt (vF 6 x.first) ++ txt (vF 6 x.last) = txt (spT x)) := spT_is x
 have hz : ∀ n, (txt (vF 6 n)).size ≤ 7 := fun n => by rw [txt_size]; exact vF_length 6 n
 have z1 := hz x.key.size
 have z2 := hz x.at'
 have z3 := hz x.size
 have z4 := hz x.first
 have z5 := hz x.last
 have c1 := fun wx => impl_var x.key.size wx (by have := hx.1; omega)
 have c2 := fun wx => impl_var x.at' wx hx.2.1
 have c3 := fun wx => impl_var x.size wx hx.2.2.1
 have c4 := fun wx => impl_var x.first wx hx.2.2.2.1
 have c5 := fun wx => impl_var x.last wx hx.2.2.2.2
 have HBw : Hid (CurB w g t p 177) := hb
 clear hz hx hb
 generalize hS : spT x = sp at *
 clear hS
 obtain ⟨xk, xa, xz, xf, xl⟩ := x
 unfold vSp
 simp only at *
 generalize hw1 : txt (vF 6 xk.size) = y1 at *
 generalize hw2 : txt (vF 6 xa) = y2 at *
 generalize hw3 : txt (vF 6 xz) = y3 at *
 generalize hw4 : txt (vF 6 xf) = y4 at *
 generalize hw5 : txt (vF 6 xl) = y5 at *
 clear hw1 hw2 hw3 hw4 hw5
 have q0 : (t.size : Int) + (xk.size : Int) ≤ 900000 := by omega
 have a1 : ((y1 ++ xk).size : Int) = (y1.size : Int) + (xk.size : Int) := by rw [ByteArray.size_append]; omega
 have a2 : ((y1 ++ xk ++ y2).size : Int) = (y1.size : Int) + (xk.size : Int) + (y2.size : Int) := by rw [ByteArray.size_append, ByteArray.size_append]; omega
 have a3 : ((y1 ++ xk ++ y2 ++ y3).size : Int) = (y1.size : Int) + (xk.size : Int) + (y2.size : Int) + (y3.size : Int) := by rw [ByteArray.size_append, ByteArray.size_append, ByteArray.size_append]; omega
 have a4 : ((y1 ++ xk ++ y2 ++ y3 ++ y4).size : Int) = (y1.size : Int) + (xk.size : Int) + (y2.size : Int) + (y3.size : Int) + (y4.size : Int) := by rw [ByteArray.size_append, ByteArray.size_append, ByteArray.size_append, ByteArray.size_append]; omega
 have a5 : ((y1 ++ xk ++ y2 ++ y3 ++ y4 ++ y5).size : Int) = (y1.size : Int) + (xk.size : Int) + (y2.size : Int) + (y3.size : Int) + (y4.size : Int) + (y5.size : Int) := by rw [ByteArray.size_append, ByteArray.size_append, ByteArray.size_append, ByteArray.size_append, ByteArray.size_append]; omega
 have b1 : (y1.size : Int) + (xk.size : Int) ≤ 900007 := by omega
 have b2 : (y1.size : Int) + (xk.size : Int) + (y2.size : Int) ≤ 900014 := by omega
 have b3 : (y1.size : Int) + (xk.size : Int) + (y2.size : Int) + (y3.size : Int) ≤ 900021 := by omega
 have b4 : (y1.size : Int) + (xk.size : Int) + (y2.size : Int) + (y3.size : Int) + (y4.size : Int) ≤ 900028 := by omega
 have b5 : (y1.size : Int) + (xk.size : Int) + (y2.size : Int) + (y3.size : Int) + (y4.size : Int) + (y5.size : Int) ≤ 900035 := by omega
 have n1 : ¬ 9223372036854775807 < y1.size + xk.size := by omega
 have n2 : ¬ 9223372036854775807 < y1.size + xk.size + y2.size := by omega
 have n3 : ¬ 9223372036854775807 < y1.size + xk.size + y2.size + y3.size := by omega
 have n4 : ¬ 9223372036854775807 < y1.size + xk.size + y2.size + y3.size + y4.size := by omega
 have n5 : ¬ 9223372036854775807 < y1.size + xk.size + y2.size + y3.size + y4.size + y5.size := by omega
 have HZ : Hid (t.size + (y1 ++ xk ++ y2 ++ y3 ++ y4 ++ y5).size ≤ 1000000) := by unfold Hid; omega
 have K0 : Hid (Blk (w.alloc (.cells #[.string xk, .int .i64 (xa : Int), .int .i64 (xz : Int), .int .i64 (xf : Int), .int .i64 (xl : Int)] 180)).drew w.heap.size #[.string xk, .int .i64 (xa : Int), .int .i64 (xz : Int), .int .i64 (xf : Int), .int .i64 (xl : Int)] 180) := Blk.new w _ _
 have G0 : Hid (CurB (w.alloc (.cells #[.string xk, .int .i64 (xa : Int), .int .i64 (xz : Int), .int .i64 (xf : Int), .int .i64 (xl : Int)] 180)).drew g t p 177) := Blk.alloc HBw.out _
 have D0 : Hid (KeptBut g w (w.alloc (.cells #[.string xk, .int .i64 (xa : Int), .int .i64 (xz : Int), .int .i64 (xf : Int), .int .i64 (xl : Int)] 180)).drew) := (KeptBut.of ((Below.refl _ w).alloc (Nat.le_refl _) _) (Blk.lt HBw.out)).drew
 have S0 : Hid ((w.alloc (.cells #[.string xk, .int .i64 (xa : Int), .int .i64 (xz : Int), .int .i64 (xf : Int), .int .i64 (xl : Int)] 180)).drew.cell? ⟨w.heap.size, 0, none⟩ = some (.string xk) ∧ (w.alloc (.cells #[.string xk, .int .i64 (xa : Int), .int .i64 (xz : Int), .int .i64 (xf : Int), .int .i64 (xl : Int)] 180)).drew.cell? ⟨w.heap.size, 1, none⟩ = some (.int .i64 (xa : Int)) ∧ (w.alloc (.cells #[.string xk, .int .i64 (xa : Int), .int .i64 (xz : Int), .int .i64 (xf : Int), .int .i64 (xl : Int)] 180)).drew.cell? ⟨w.heap.size, 2, none⟩ = some (.int .i64 (xz : Int)) ∧ (w.alloc (.cells #[.string xk, .int .i64 (xa : Int), .int .i64 (xz : Int), .int .i64 (xf : Int), .int .i64 (xl : Int)] 180)).drew.cell? ⟨w.heap.size, 3, none⟩ = some (.int .i64 (xf : Int)) ∧ (w.alloc (.cells #[.string xk, .int .i64 (xa : Int), .int .i64 (xz : Int), .int .i64 (xf : Int), .int .i64 (xl : Int)] 180)).drew.cell? ⟨w.heap.size, 4, none⟩ = some (.int .i64 (xl : Int))) := ⟨K0.out.cell 0 _ rfl, K0.out.cell 1 _ rfl, K0.out.cell 2 _ rfl, K0.out.cell 3 _ rfl, K0.out.cell 4 _ rfl⟩
 go_enter Tryz.func129, Tryz.ntmps129
 go_wp2_with fail
 refine wp_region_until (fun w' => w'.cell? ⟨w.heap.size, 0, none⟩ = some (.string xk) ∧ w'.cell? ⟨w.heap.size, 1, none⟩ = some (.int .i64 (xa : Int)) ∧ w'.cell? ⟨w.heap.size, 2, none⟩ = some (.int .i64 (xz : Int)) ∧ w'.cell? ⟨w.heap.size, 3, none⟩ = some (.int .i64 (xf : Int)) ∧ w'.cell? ⟨w.heap.size, 4, none⟩ = some (.int .i64 (xl : Int))) (fun _ => false) 25 (by rfl) (by kernel_rfl) ?_
 refine tKe 0 (v := ?_) S0.out ?_ ?_; rotate_left; focus (intro w hSw; (try dsimp only at hSw); go_simp; try with_reducible rfl)
 try simp only [Act.put, zQ1, zQ2, zQ3]
 refine tKe 1 (v := ?_) S0.out ?_ ?_; rotate_left; focus (intro w hSw; (try dsimp only at hSw); go_simp; try with_reducible rfl)
 try simp only [Act.put, zQ1, zQ2, zQ3]
 refine tKe 2 (v := ?_) S0.out ?_ ?_; rotate_left; focus (intro w hSw; (try dsimp only at hSw); go_simp; try with_reducible rfl)
 try simp only [Act.put, zQ1, zQ2, zQ3]
 refine tKe 3 (v := ?_) S0.out ?_ ?_; rotate_left; focus (intro w hSw; (try dsimp only at hSw); go_simp; try with_reducible rfl)
 try simp only [Act.put, zQ1, zQ2, zQ3]
 refine tKe 5 (v := ?_) S0.out ?_ ?_; rotate_left; focus (intro w hSw; (try dsimp only at hSw); go_simp; try with_reducible rfl)
 try simp only [Act.put, zQ1, zQ2, zQ3]
 refine tKe 6 (v := ?_) S0.out ?_ ?_; rotate_left; focus (intro w hSw; (try dsimp only at hSw); go_simp; try with_reducible rfl)
 try simp only [Act.put, zQ1, zQ2, zQ3]
 refine tKe 8 (v := ?_) S0.out ?_ ?_; rotate_left; focus (intro w hSw; (try dsimp only at hSw); go_simp; try with_reducible rfl)
 try simp only [Act.put, zQ1, zQ2, zQ3]
 refine tKe 9 (v := ?_) S0.out ?_ ?_; rotate_left; focus (intro w hSw; (try dsimp only at hSw); go_simp; try with_reducible rfl)
 try simp only [Act.put, zQ1, zQ2, zQ3]
 refine tKe 12 (v := ?_) S0.out ?_ ?_; rotate_left; focus (intro w hSw; (try dsimp only at hSw); go_simp; try with_reducible rfl)
 try simp only [Act.put, zQ1, zQ2, zQ3]
 refine tKe 13 (v := ?_) S0.out ?_ ?_; rotate_left; focus (intro w hSw; (try dsimp only at hSw); go_simp; try with_reducible rfl)
 try simp only [Act.put, zQ1, zQ2, zQ3]
 refine tKe 16 (v := ?_) S0.out ?_ ?_; rotate_left; focus (intro w hSw; (try dsimp only at hSw); go_simp; try with_reducible rfl)
 try simp only [Act.put, zQ1, zQ2, zQ3]
 refine tKe 17 (v := ?_) S0.out ?_ ?_; rotate_left; focus (intro w hSw; (try dsimp only at hSw); go_simp; try with_reducible rfl)
 try simp only [Act.put, zQ1, zQ2, zQ3]
 refine tKe 20 (v := ?_) S0.out ?_ ?_; rotate_left; focus (intro w hSw; (try dsimp only at hSw); go_simp; try with_reducible rfl)
 try simp only [Act.put, zQ1, zQ2, zQ3]
 refine tKe 21 (v := ?_) S0.out ?_ ?_; rotate_left; focus (intro w hSw; (try dsimp only at hSw); go_simp; try with_reducible rfl)
 try simp only [Act.put, zQ1, zQ2, zQ3]
 refine uNe 4 (fun K hK => ?_)
 go_simp
 refine (c1 _).mono ?_
 rintro e X1 ⟨rfl, hb1⟩
 have K1 : Hid (Blk X1 w.heap.size #[.string xk, .int .i64 (xa : Int), .int .i64 (xz : Int), .int .i64 (xf : Int), .int .i64 (xl : Int)] 180) := K0.out.on hb1 K0.out.lt
 have G1 : Hid (CurB X1 g t p 177) := Blk.on G0.out hb1 (Blk.lt G0.out)
 have D1 : Hid (KeptBut g w X1) := D0.out.trans (KeptBut.of hb1 (Blk.lt G0.out))
 clear hb1
 go_wp2_with fail
 refine hK.out _ _ (fun _ _ => ⟨K1.out.cell 0 _ rfl, K1.out.cell 1 _ rfl, K1.out.cell 2 _ rfl, K1.out.cell 3 _ rfl, K1.out.cell 4 _ rfl⟩) ?_
 clear hK K
 try simp only [Act.put, zQ1, zQ2, zQ3]
 refine pUr 7 (v := ?_) ?_ ?_; rotate_left; focus (intro w; go_simp; try with_reducible rfl)
 try simp only [Act.put, zQ1, zQ2, zQ3]
 refine uNe 10 (fun K hK => ?_)
 go_simp
 refine (c2 _).mono ?_
 rintro e X2 ⟨rfl, hb2⟩
 have K2 : Hid (Blk X2 w.heap.size #[.string xk, .int .i64 (xa : Int), .int .i64 (xz : Int), .int .i64 (xf : Int), .int .i64 (xl : Int)] 180) := K1.out.on hb2 K1.out.lt
 have G2 : Hid (CurB X2 g t p 177) := Blk.on G1.out hb2 (Blk.lt G1.out)
 have D2 : Hid (KeptBut g w X2) := D1.out.trans (KeptBut.of hb2 (Blk.lt G1.out))
 clear hb2
 go_wp2_with fail
 refine hK.out _ _ (fun _ _ => ⟨K2.out.cell 0 _ rfl, K2.out.cell 1 _ rfl, K2.out.cell 2 _ rfl, K2.out.cell 3 _ rfl, K2.out.cell 4 _ rfl⟩) ?_
 clear hK K
 try simp only [Act.put, zQ1, zQ2, zQ3]
 refine pUr 11 (v := ?_) ?_ ?_; rotate_left; focus (intro w; go_simp; try with_reducible rfl)
 try simp only [Act.put, zQ1, zQ2, zQ3]
 refine uNe 14 (fun K hK => ?_)
 go_simp
 refine (c3 _).mono ?_
 rintro e X3 ⟨rfl, hb3⟩
 have K3 : Hid (Blk X3 w.heap.size #[.string xk, .int .i64 (xa : Int), .int .i64 (xz : Int), .int .i64 (xf : Int), .int .i64 (xl : Int)] 180) := K2.out.on hb3 K2.out.lt
 have G3 : Hid (CurB X3 g t p 177) := Blk.on G2.out hb3 (Blk.lt G2.out)
 have D3 : Hid (KeptBut g w X3) := D2.out.trans (KeptBut.of hb3 (Blk.lt G2.out))
 clear hb3
 go_wp2_with fail
 refine hK.out _ _ (fun _ _ => ⟨K3.out.cell 0 _ rfl, K3.out.cell 1 _ rfl, K3.out.cell 2 _ rfl, K3.out.cell 3 _ rfl, K3.out.cell 4 _ rfl⟩) ?_
 clear hK K
 try simp only [Act.put, zQ1, zQ2, zQ3]
 refine pUr 15 (v := ?_) ?_ ?_; rotate_left; focus (intro w; go_simp; try with_reducible rfl)
 try simp only [Act.put, zQ1, zQ2, zQ3]
 refine uNe 18 (fun K hK => ?_)
 go_simp
 refine (c4 _).mono ?_
 rintro e X4 ⟨rfl, hb4⟩
 have K4 : Hid (Blk X4 w.heap.size #[.string xk, .int .i64 (xa : Int), .int .i64 (xz : Int), .int .i64 (xf : Int), .int .i64 (xl : Int)] 180) := K3.out.on hb4 K3.out.lt
 have G4 : Hid (CurB X4 g t p 177) := Blk.on G3.out hb4 (Blk.lt G3.out)
 have D4 : Hid (KeptBut g w X4) := D3.out.trans (KeptBut.of hb4 (Blk.lt G3.out))
 clear hb4
 go_wp2_with fail
 refine hK.out _ _ (fun _ _ => ⟨K4.out.cell 0 _ rfl, K4.out.cell 1 _ rfl, K4.out.cell 2 _ rfl, K4.out.cell 3 _ rfl, K4.out.cell 4 _ rfl⟩) ?_
 clear hK K
 try simp only [Act.put, zQ1, zQ2, zQ3]
 refine pUr 19 (v := ?_) ?_ ?_; rotate_left; focus (intro w; go_simp; try with_reducible rfl)
 try simp only [Act.put, zQ1, zQ2, zQ3]
 refine uNe 22 (fun K hK => ?_)
 go_simp
 refine (c5 _).mono ?_
 rintro e X5 ⟨rfl, hb5⟩
 have K5 : Hid (Blk X5 w.heap.size #[.string xk, .int .i64 (xa : Int), .int .i64 (xz : Int), .int .i64 (xf : Int), .int .i64 (xl : Int)] 180) := K4.out.on hb5 K4.out.lt
 have G5 : Hid (CurB X5 g t p 177) := Blk.on G4.out hb5 (Blk.lt G4.out)
 have D5 : Hid (KeptBut g w X5) := D4.out.trans (KeptBut.of hb5 (Blk.lt G4.out))
 clear hb5
 go_wp2_with fail
 refine hK.out _ _ (fun _ _ => ⟨K5.out.cell 0 _ rfl, K5.out.cell 1 _ rfl, K5.out.cell 2 _ rfl, K5.out.cell 3 _ rfl, K5.out.cell 4 _ rfl⟩) ?_
 clear hK K
 try simp only [Act.put, zQ1, zQ2, zQ3]
 refine pUr 23 (v := ?_) ?_ ?_; rotate_left; focus (intro w; go_simp; try with_reducible rfl)
 try simp only [Act.put, zQ1, zQ2, zQ3]
 refine uNe 24 (fun K hK => ?_)
 go_simp
 refine (writeV t (y1 ++ xk ++ y2 ++ y3 ++ y4 ++ y5) _ g p G5.out HZ.out).mono ?_
 rintro e X6 ⟨⟨u, rfl⟩, hC, hk⟩
 rw [HT.out] at hC
 have K6 : Hid (Blk X6 w.heap.size #[.string xk, .int .i64 (xa : Int), .int .i64 (xz : Int), .int .i64 (xf : Int), .int .i64 (xl : Int)] 180) := hk.blk K5.out (by have := Blk.lt HBw.out; omega)
 have D6 : Hid (KeptBut g w X6) := D5.out.trans hk
 have C6 : Hid (CurB X6 g (t ++ txt sp) (t ++ txt sp).size 177) := hC
 clear hk hC
 go_wp2_with fail
 refine hK.out _ _ (fun _ _ => ⟨K6.out.cell 0 _ rfl, K6.out.cell 1 _ rfl, K6.out.cell 2 _ rfl, K6.out.cell 3 _ rfl, K6.out.cell 4 _ rfl⟩) ?_
 clear hK K
 try simp only [Act.put, zQ1, zQ2, zQ3]
 refine until_done (by kernel_rfl) ?_ _
 go_wp2_with fail
 exact bodyPost_end (v := .tuple #[]) (by simp [results, go_sem]) rfl ⟨⟨_, rfl⟩, C6.out, D6.out⟩
end Go.Proofs.YtikknmoeefipmaaGreatDoor
namespace Go.Proofs.YtikknmoeefipmaaGreatDoor
open Go.ChangeShapes Go.WideShapes Go.ChangeAt Go.RowKit Go.PlainAid
set_option linter.unusedVariables false
set_option maxHeartbeats 1000000 in
theorem implIsKey (s : ByteArray) (w : World) (hs : s.size ≤ maxLen) : Calls Tryz.prog 52 #[.string s] w fun e w' => e = .returned (.bool (decide (KOk s))) ∧ w = w' := by
 have hbt := get_bn s
 have q0 : (s.size : Int) ≤ 9223372036854775807 := by unfold maxLen at hs; omega
 have HD : Hid (∀ b, (b = true ↔ KOk s) → decide (KOk s) = b) := fun b hb => dec_of b hb
 have HV : Hid (KOk s ↔ 1 ≤ s.size ∧ s.size ≤ 8 ∧ ∀ j, j < s.size → 97 ≤ bn s j ∧ bn s j ≤ 122) := Iff.rfl
 clear hs
 by_cases h0 : s.size = 0
 ·obtain rfl : s = ⟨#[]⟩ := by
   have e : s.data.toList = [] := List.eq_nil_of_length_eq_zero (by rw [Array.length_toList]; exact h0)
   rw [← txt_toList s, e]
   rfl
  clear HV hbt q0 h0
  have he : decide (KOk ⟨#[]⟩) = false := HD.out false ⟨fun h => (by cases h), fun h => absurd h.1 (by simp [ByteArray.size])⟩
  rw [he]
  go_enter Tryz.func52, Tryz.ntmps52
  go_wp2
  go_ret
  exact ⟨rfl, rfl⟩
 have hne : s.toList.isEmpty = false := by
  rw [Lib.toList_data]
  cases e : s.data.toList with
  | nil => exact absurd (by rw [ByteArray.size, ← Array.length_toList, e]; rfl) h0
  | cons a l => rfl
 have H1 : Hid (1 ≤ s.size) := by unfold Hid; omega
 by_cases h2 : (8 : Int) < (s.size : Int)
 ·go_enter Tryz.func52, Tryz.ntmps52
  go_wp2
  go_ret
  refine ⟨?_, rfl⟩
  rw [HD.out false]
  ·rfl
  rw [HV.out]
  exact ⟨fun h => (by cases h), fun h => by omega⟩
 have q1 : (s.size : Int) ≤ 8 := by omega
 have q2 : decide ((8 : Int) < (s.size : Int)) = false := decide_eq_false h2
 clear h2 h0
 go_enter Tryz.func52, Tryz.ntmps52
 go_wp2_with fail
 go_loop [13] (fun v => ∃ k : Nat, k ≤ s.size ∧ v = .int .i64 (k : Int) ∧ Hid (∀ j, j < k → 97 ≤ bn s j ∧ bn s j ≤ 122)) (fun i => s.size - (intOf i).toNat)
 case atStart => exact ⟨0, by omega, rfl, fun j hj => by omega⟩
 case round =>
  obtain ⟨k, hk, rfl, HJ⟩ := hrel
  by_cases hlt : k < s.size
  ·have q4 : (k : Int) < (s.size : Int) := by omega
   have r2 := bn_lt s k
   have HNo : Hid ((bn s k < 97 ∨ 122 < bn s k) → decide (KOk s) = false) := fun h => by
    apply HD.out
    rw [HV.out]
    refine ⟨fun h => (by cases h), fun h2 => ?_⟩
    have := h2.2.2 k hlt
    omega
   by_cases c2 : (bn s k : Int) < 97
   ·go_wp2_with fail
    go_ret
    exact ⟨by rw [HNo.out (.inl (by omega))]; rfl, rfl⟩
   have d2 : decide ((bn s k : Int) < 97) = false := decide_eq_false c2
   by_cases c3 : (122 : Int) < (bn s k : Int)
   ·go_wp2_with fail
    go_ret
    exact ⟨by rw [HNo.out (.inr (by omega))]; rfl, rfl⟩
   have d3 : decide ((122 : Int) < (bn s k : Int)) = false := decide_eq_false c3
   go_wp2_with fail
   go_round
   case rel =>
    refine ⟨k + 1, by omega, by go_num, fun j hj => ?_⟩
    by_cases e : j = k
    ·rw [e]
     omega
    ·exact HJ.out j (by omega)
   case measure => simp [intOf]; omega
  ·obtain rfl : k = s.size := by omega
   go_wp2_with fail
   go_ret
   refine ⟨?_, rfl⟩
   rw [HD.out true]
   ·rfl
   rw [HV.out]
   exact ⟨fun _ => ⟨H1.out, by omega, HJ.out⟩, fun _ => rfl⟩
set_option maxHeartbeats 1000000 in
theorem specKey (s : ByteArray) (w : World) (hs : s.size ≤ maxLen) : Calls Tryz.prog 83 #[.string s] w fun e w' => e = .returned (.bool (decide (KOk s))) ∧ w = w' := by
 have hbt := get_bn s
 have q0 : (s.size : Int) ≤ 9223372036854775807 := by unfold maxLen at hs; omega
 have HD : Hid (∀ b, (b = true ↔ KOk s) → decide (KOk s) = b) := fun b hb => dec_of b hb
 have HV : Hid (KOk s ↔ 1 ≤ s.size ∧ s.size ≤ 8 ∧ ∀ j, j < s.size → 97 ≤ bn s j ∧ bn s j ≤ 122) := Iff.rfl
 clear hs
 by_cases h2 : (s.size : Int) < 1 ∨ (8 : Int) < (s.size : Int)
 ·have c1 := fun wx => in_no (s.size : Int) 1 8 wx h2
  have H2 : Hid ((s.size : Int) < 1 ∨ (8 : Int) < (s.size : Int)) := h2
  clear h2
  go_enter Tryz.func83, Tryz.ntmps83
  go_wp2_with fail
  refine (c1 _).mono ?_
  rintro e w' ⟨rfl, rfl⟩
  go_wp2_with fail
  go_ret
  refine ⟨?_, rfl⟩
  rw [HD.out false]
  ·rfl
  rw [HV.out]
  have := H2.out
  exact ⟨fun h => (by cases h), fun h => by omega⟩
 have c1 := fun wx => in_yes (s.size : Int) 1 8 wx (by omega) (by omega)
 have q1 : (s.size : Int) ≤ 8 := by omega
 have H1 : Hid (1 ≤ s.size) := by unfold Hid; omega
 clear h2
 go_enter Tryz.func83, Tryz.ntmps83
 go_wp2_with fail
 refine (c1 _).mono ?_
 rintro e w' ⟨rfl, rfl⟩
 go_wp2_with fail
 go_loop [3] (fun v => ∃ k : Nat, k ≤ s.size ∧ v = .int .i64 (k : Int) ∧ Hid (∀ j, j < k → 97 ≤ bn s j ∧ bn s j ≤ 122)) (fun i => s.size - (intOf i).toNat)
 case atStart => exact ⟨0, by omega, rfl, fun j hj => by omega⟩
 case round =>
  obtain ⟨k, hk, rfl, HJ⟩ := hrel
  by_cases hlt : k < s.size
  ·have q4 : (k : Int) < (s.size : Int) := by omega
   have r2 := bn_lt s k
   have HNo : Hid ((bn s k < 97 ∨ 122 < bn s k) → decide (KOk s) = false) := fun h => by
    apply HD.out
    rw [HV.out]
    refine ⟨fun h => (by cases h), fun h2 => ?_⟩
    have := h2.2.2 k hlt
    omega
   by_cases c2 : (bn s k : Int) < 97
   ·go_wp2_with fail
    go_ret
    exact ⟨by rw [HNo.out (.inl (by omega))]; rfl, rfl⟩
   have d2 : decide ((bn s k : Int) < 97) = false := decide_eq_false c2
   by_cases c3 : (122 : Int) < (bn s k : Int)
   ·go_wp2_with fail
    go_ret
    exact ⟨by rw [HNo.out (.inr (by omega))]; rfl, rfl⟩
   have d3 : decide ((122 : Int) < (bn s k : Int)) = false := decide_eq_false c3
   go_wp2_with fail
   go_round
   case rel =>
    refine ⟨k + 1, by omega, by go_num, fun j hj => ?_⟩
    by_cases e : j = k
    ·rw [e]
     omega
    ·exact HJ.out j (by omega)
   case measure => simp [intOf]; omega
  ·obtain rfl : k = s.size := by omega
   go_wp2_with fail
   go_ret
   refine ⟨?_, rfl⟩
   rw [HD.out true]
   ·rfl
   rw [HV.out]
   exact ⟨fun _ => ⟨H1.out, by omega, HJ.out⟩, fun _ => rfl⟩
set_option maxHeartbeats 4000000 in
theorem implSeriesOk (l : List Ser) (v : Value) (w : World) (B : Nat) (hv : SerV w B v l) (hn : SShort l) (hf : ∀ x ∈ l, x.key.size ≤ maxLen) (hB : B ≤ w.heap.size) : Calls Tryz.prog 55 #[v] w fun e w' => e = .returned (.bool (decide (SOk l))) ∧ Below w.heap.size w w' := by
 obtain ⟨A, cap, rfl, hl⟩ := hv.look
 have HL : Hid (∀ j, j < l.length → ∃ g off u, A = some ⟨g, off, none⟩ ∧ g < B ∧ w.cell? ⟨g, off + j * 2, none⟩ = some (.string (sAt l j).key) ∧ w.cell? ⟨g, off + j * 2 + 1, none⟩ = some u ∧ Lies w B 2 u (ptR (sAt l j).pts)) := hl
 have HB : Hid (B ≤ w.heap.size) := hB
 have HF : Hid (∀ j, j < l.length → (sAt l j).key.size ≤ maxLen ∧ (sAt l j).pts.length ≤ 1048576) := fun j hj => ⟨hf _ (getD_mem l j hj), hn.2 _ (getD_mem l j hj)⟩
 have HD : Hid (∀ b, (b = true ↔ SOk l) → decide (SOk l) = b) := fun b hb => dec_of b hb
 have HV : Hid (SOk l ↔ l.length ≤ 5 ∧ ∀ j, j < l.length → (KOk (sAt l j).key ∧ (0 < j → ahd (sAt l (j - 1)).key (sAt l j).key = true)) ∧ 1 ≤ (sAt l j).pts.length ∧ POk (sAt l j).pts) := Iff.rfl
 have q0 : (l.length : Int) ≤ 1048576 := by have := hn.1; omega
 clear hl hn hv hB hf
 generalize hN : l.length = n at *
 clear hN
 by_cases h2 : (5 : Int) < (n : Int)
 ·go_enter Tryz.func55, Tryz.ntmps55
  go_wp2
  go_ret
  refine ⟨?_, Below.refl _ _⟩
  rw [HD.out false]
  ·rfl
  rw [HV.out]
  exact ⟨fun h => (by cases h), fun h => by omega⟩
 have q1 : (n : Int) ≤ 5 := by omega
 clear h2
 go_enter Tryz.func55, Tryz.ntmps55
 go_wp2_with fail
 go_loopw [3, 11] (fun v3 v11 wr => ∃ (k : Nat) (m : ByteArray), k ≤ n ∧ v11 = .int .i64 (k : Int) ∧ v3 = .string m ∧ Hid ((k = 0 → m = ⟨#[]⟩) ∧ (0 < k → m = (sAt l (k - 1)).key)) ∧ Below w.heap.size w wr ∧ Hid (∀ j, j < k → (KOk (sAt l j).key ∧ (0 < j → ahd (sAt l (j - 1)).key (sAt l j).key = true)) ∧ 1 ≤ (sAt l j).pts.length ∧ POk (sAt l j).pts)) (fun _ i _ => n - (intOf i).toNat)
 case atStart => exact ⟨0, ⟨#[]⟩, by omega, rfl, rfl, ⟨fun _ => rfl, fun h => by omega⟩, Below.refl _ _, fun j hj => by omega⟩
 case round =>
  obtain ⟨k, m, hk, rfl, rfl, HM, hb, HJ⟩ := hrel
  have HB1 : Hid (Below w.heap.size w wr) := hb
  clear hb
  by_cases hlt : k < n
  ·have q2 : (k : Int) < (n : Int) := by omega
   obtain ⟨g, off, u, rfl, hg, e1, e2, hu⟩ := HL.out k hlt
   have hgw : g < w.heap.size := Nat.lt_of_lt_of_le hg HB.out
   rw [← HB1.out.cell (p := ⟨_, _, none⟩) hgw] at e1
   rw [← HB1.out.cell (p := ⟨_, _, none⟩) hgw] at e2
   have hfk := HF.out k hlt
   have HK : Hid ((sAt l k).key.size ≤ maxLen) := hfk.1
   have HPn : Hid ((sAt l k).pts.length ≤ 1048576) := hfk.2
   obtain ⟨A', cap', rfl, _⟩ := pt_look hu
   have HU : Hid (Lies wr B 2 (.slice A' (sAt l k).pts.length cap') (ptR (sAt l k).pts)) := hu.on (HB1.out.mono HB.out)
   clear hu hfk
   have HX : Hid ((ahd m (sAt l k).key = true ↔ (0 < k → ahd (sAt l (k - 1)).key (sAt l k).key = true)) ∨ ¬ KOk (sAt l k).key) := by
    by_cases hkk : KOk (sAt l k).key
    ·left
     by_cases h0 : k = 0
     ·rw [HM.out.1 h0]
      exact ⟨fun _ h => by omega, fun _ => ahd_empty _ hkk.1⟩
     ·rw [HM.out.2 (by omega)]
      exact ⟨fun h _ => h, fun h => h (by omega)⟩
    ·exact .inr hkk
   have HNo : Hid ((¬ KOk (sAt l k).key ∨ ahd m (sAt l k).key = false ∨ (sAt l k).pts.length = 0 ∨ ¬ POk (sAt l k).pts) → decide (SOk l) = false) := fun h => by
    apply HD.out
    rw [HV.out]
    refine ⟨fun h => (by cases h), fun h2 => ?_⟩
    have h3 := h2.2 k hlt
    rcases h with h | h | h | h
    ·exact absurd h3.1.1 h
    ·rcases HX.out with hx | hx
     ·have := hx.2 h3.1.2
      rw [h] at this
      cases this
     ·exact absurd h3.1.1 hx
    ·omega
    ·exact absurd h3.2.2 h
   have HYes : Hid ((KOk (sAt l k).key ∧ ahd m (sAt l k).key = true ∧ 1 ≤ (sAt l k).pts.length ∧ POk (sAt l k).pts) → (KOk (sAt l k).key ∧ (0 < k → ahd (sAt l (k - 1)).key (sAt l k).key = true)) ∧ 1 ≤ (sAt l k).pts.length ∧ POk (sAt l k).pts) := fun h => by
    rcases HX.out with hx | hx
    ·exact ⟨⟨h.1, hx.1 h.2.1⟩, h.2.2⟩
    ·exact absurd h.1 hx
   have HM2 : Hid (∀ x, x = sAt l k → ((k + 1 = 0 → x.key = ⟨#[]⟩) ∧ (0 < k + 1 → x.key = (sAt l (k + 1 - 1)).key))) := fun x hx => ⟨fun h => by omega, fun _ => by rw [Nat.add_sub_cancel, hx]⟩
   have HJ2 : Hid ((KOk (sAt l k).key ∧ (0 < k → ahd (sAt l (k - 1)).key (sAt l k).key = true)) ∧ 1 ≤ (sAt l k).pts.length ∧ POk (sAt l k).pts → ∀ j, j < k + 1 → (KOk (sAt l j).key ∧ (0 < j → ahd (sAt l (j - 1)).key (sAt l j).key = true)) ∧ 1 ≤ (sAt l j).pts.length ∧ POk (sAt l j).pts) := fun h j hj => by
    by_cases e : j = k
    ·rw [e]; exact h
    ·exact HJ.out j (by omega)
   clear HX
   generalize hx : sAt l k = x at *
   have HXx : Hid (x = sAt l k) := hx.symm
   clear hx hgw hg
   obtain ⟨xk, xp⟩ := x
   simp only at e1 e2 HK HPn HU HNo HYes HJ2
   have c1 := fun wx => implIsKey xk wx HK.out
   have HWa : Hid (∀ cs, Below w.heap.size w (wr.alloc (.cells cs 98))) := fun cs => HB1.out.alloc HB1.out.size _
   have HWu : Hid (∀ cs, Below wr.heap.size wr (wr.alloc (.cells cs 98))) := fun cs => (Below.refl _ wr).alloc (Nat.le_refl _) _
   by_cases k1 : ¬ KOk xk
   ·rw [decide_eq_false k1] at c1
    have K1 : Hid (¬ KOk xk) := k1
    clear k1
    go_wp2_with fail
    refine (c1 _).mono ?_
    rintro e w' ⟨rfl, rfl⟩
    go_wp2_with fail
    go_ret
    exact ⟨by rw [HNo.out (.inl K1.out)]; rfl, HWa.out _⟩
   have K1 : Hid (KOk xk) := (Decidable.not_not (p := KOk xk)).1 k1
   rw [decide_eq_true K1.out] at c1
   clear k1
   cases k2 : ahd m xk with
   | false =>
    have KN : Hid (decide (SOk l) = false) := HNo.out (.inr (.inl k2))
    rcases ahd_no k2 with hle | rfl
    ·clear k2
     go_wp2_with fail
     refine (c1 _).mono ?_
     rintro e w' ⟨rfl, rfl⟩
     go_wp2_with fail
     go_ret
     exact ⟨by rw [KN.out]; rfl, HWa.out _⟩
    ·have hle := less_irrefl xk.toList
     clear k2
     go_wp2_with fail
     refine (c1 _).mono ?_
     rintro e w' ⟨rfl, rfl⟩
     go_wp2_with fail
     go_ret
     exact ⟨by rw [KN.out]; rfl, HWa.out _⟩
   | true =>
   obtain ⟨hle, hle2⟩ := ahd_yes k2
   have K2 : Hid (ahd m xk = true) := k2
   clear k2
   by_cases k3 : xp.length = 0
   ·have K3 : Hid (xp.length = 0) := k3
    rw [k3] at HU e2
    clear k3
    go_wp2_with fail
    refine (c1 _).mono ?_
    rintro e w' ⟨rfl, rfl⟩
    go_wp2_with fail
    go_ret
    exact ⟨by rw [HNo.out (.inr (.inr (.inl K3.out)))]; rfl, HWa.out _⟩
   have K3 : Hid (1 ≤ xp.length) := by unfold Hid; omega
   have d3 : decide ((xp.length : Int) = 0) = false := decide_eq_false (by omega)
   have d4 : ((xp.length : Int) == 0) = false := by rw [beq_eq_false_iff_ne]; omega
   have c2 := fun (cs : Array Value) => implPointsOk xp (.slice A' xp.length cap') (wr.alloc (.cells cs 98)) B (HU.out.on ((HWu.out cs).mono (Nat.le_trans HB.out HB1.out.size))) HPn.out (Nat.le_trans HB.out (HWa.out cs).size)
   clear k3
   generalize hpn : xp.length = pn at *
   by_cases k4 : ¬ POk xp
   ·rw [decide_eq_false k4] at c2
    have K4 : Hid (¬ POk xp) := k4
    clear k4
    go_wp2_with fail
    refine (c1 _).mono ?_
    rintro e w' ⟨rfl, rfl⟩
    go_wp2_with fail
    refine (c2 _).mono ?_
    rintro e w' ⟨rfl, hb2⟩
    have B2 : Hid (Below w.heap.size w w') := (HWa.out _).trans (hb2.mono (HWa.out _).size)
    clear hb2
    go_wp2_with fail
    go_ret
    exact ⟨by rw [HNo.out (.inr (.inr (.inr K4.out)))]; rfl, B2.out⟩
   have K4 : Hid (POk xp) := (Decidable.not_not (p := POk xp)).1 k4
   rw [decide_eq_true K4.out] at c2
   clear k4
   go_wp2_with fail
   refine (c1 _).mono ?_
   rintro e w' ⟨rfl, rfl⟩
   go_wp2_with fail
   refine (c2 _).mono ?_
   rintro e w' ⟨rfl, hb2⟩
   have B2 : Hid (Below w.heap.size w w') := (HWa.out _).trans (hb2.mono (HWa.out _).size)
   have m0 := (Blk.new wr #[.string xk, .slice A' pn cap'] 98).on hb2 (by rw [World.size_alloc]; omega)
   have m1 := m0.cell 0 _ rfl
   clear hb2 m0
   go_wp2_with fail
   go_roundw
   case rel => exact ⟨k + 1, xk, by omega, by go_num, rfl, HM2.out ⟨xk, xp⟩ rfl, B2.out, HJ2.out (HYes.out ⟨K1.out, K2.out, K3.out, K4.out⟩)⟩
   case measure => simp [intOf]; omega
  ·obtain rfl : k = n := by omega
   go_wp2_with fail
   go_ret
   refine ⟨?_, HB1.out⟩
   rw [HD.out true]
   ·rfl
   rw [HV.out]
   exact ⟨fun _ => ⟨by omega, HJ.out⟩, fun _ => rfl⟩
end Go.Proofs.YtikknmoeefipmaaGreatDoor
