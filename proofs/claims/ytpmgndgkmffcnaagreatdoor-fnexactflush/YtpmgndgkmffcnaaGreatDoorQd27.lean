/- FlBlk -/
import Derived.Test.YtpmgndgkmffcnaaGreatDoorQd18
import Derived.Test.YtpmgndgkmffcnaaGreatDoorQd22
import Derived.Test.YtpmgndgkmffcnaaGreatDoorQd5
import Derived.WalkKit
import Derived.ProofKit
import Derived.OpenShut
import Derived.Below
import Derived.WalkSmall
import Derived.BigQuiet
import Derived.Deep.QuietTactic
import Derived.Deep.RegionWith
import Derived.Handy
open List (setIfInBounds_toArray set_cons_zero set_cons_succ)
namespace Go.Proofs.YtpmgndgkmffcnaaGreatDoor
open Go.ChangeShapes Go.WideShapes Go.ChangeAt Go.RowKit Go.PlainAid
set_option linter.unusedVariables false
set_option maxHeartbeats 4000000 in
theorem writeBlockV (t : ByteArray) (x : Ser) (v : Value) (w : World) (g B : Nat) (hb : CurB w g t t.size 113) (hv : Lies w B 2 v (ptR x.pts)) (h1 : 1 ≤ x.pts.length) (hok : POk x.pts) (hB : B ≤ g) (ht : t.size ≤ 900000) (hst : SumTab w) : Calls Tryz.prog 93 #[.pointer (some ⟨g, 0, none⟩), vSr x.key v] w fun e w' => e = .returned (vSp ⟨x.key, t.size, (showB x.pts).size, (tAt x.pts 0).toNat, (tAt x.pts (x.pts.length - 1)).toNat⟩) ∧ CurB w' g (t ++ showB x.pts) (t ++ showB x.pts).size 113 ∧ KeptBut g w w' := by
 obtain ⟨A, cap, rfl, hl⟩ := pt_look hv
 obtain ⟨gp, offp, rfl, hgp, hf0, _⟩ := hl 0 (by omega)
 obtain ⟨gp', offp', e', _, hf1, _⟩ := hl (x.pts.length - 1) (by omega)
 cases e'
 have ht0 := (hok.2 0 (by omega)).1.1
 have ht1 := (hok.2 (x.pts.length - 1) (by omega)).1.1
 have hn60 := hok.1
 rw [show offp + 0 * 2 = offp by omega] at hf0
 unfold vSr vSp
 have HV : Hid (Lies w B 2 (.slice (some ⟨gp, offp, none⟩) x.pts.length cap) (ptR x.pts)) := hv
 have E0 : Hid (((tAt x.pts 0).toNat : Int) = tAt x.pts 0) := by unfold Hid; omega
 have E1 : Hid (((tAt x.pts (x.pts.length - 1)).toNat : Int) = tAt x.pts (x.pts.length - 1)) := by unfold Hid; omega
 simp only
 rw [E0.out, E1.out]
 change w.cell? ⟨gp, offp, none⟩ = some (.int .i64 (tAt x.pts 0)) at hf0
 change w.cell? ⟨gp, offp + (x.pts.length - 1) * 2, none⟩ = some (.int .i64 (tAt x.pts (x.pts.length - 1))) at hf1
 clear E0 E1 ht0 ht1 hl hok
 generalize tAt x.pts 0 = t0 at *
 generalize tAt x.pts (x.pts.length - 1) = t1 at *
 obtain ⟨xk, xp⟩ := x
 simp only at *
 have sz0 := showB_size xp
 have HBw : Hid (CurB w g t t.size 113) := hb
 have HB : Hid (B ≤ g ∧ g < w.heap.size ∧ gp < B) := ⟨hB, Blk.lt hb, hgp⟩
 have HF0 : Hid (w.cell? ⟨gp, offp, none⟩ = some (.int .i64 t0)) := hf0
 have HF1 : Hid (w.cell? ⟨gp, offp + (xp.length - 1) * 2, none⟩ = some (.int .i64 t1)) := hf1
 have ST : Hid (SumTab w) := hst
 clear hb hv hB hgp hf0 hf1 hst
 generalize hn : xp.length = n at *
 have HNn : Hid (xp.length = n) := hn
 clear hn
 have b0 := (Blk.new w #[.string xk, .slice (some ⟨gp, offp, none⟩) n cap] 58).alloc (.cells #[.string ⟨#[]⟩, .int .i64 0, .int .i64 0, .int .i64 0, .int .i64 0] 116)
 have r0 := Blk.new (w.alloc (.cells #[.string xk, .slice (some ⟨gp, offp, none⟩) n cap] 58)) #[.string ⟨#[]⟩, .int .i64 0, .int .i64 0, .int .i64 0, .int .i64 0] 116
 have c0 : CurB ((w.alloc (.cells #[.string xk, .slice (some ⟨gp, offp, none⟩) n cap] 58)).alloc (.cells #[.string ⟨#[]⟩, .int .i64 0, .int .i64 0, .int .i64 0, .int .i64 0] 116)) g t t.size 113 := Blk.alloc (Blk.alloc HBw.out _) _
 rw [World.size_alloc] at r0
 have d0 : Below w.heap.size w ((w.alloc (.cells #[.string xk, .slice (some ⟨gp, offp, none⟩) n cap] 58)).alloc (.cells #[.string ⟨#[]⟩, .int .i64 0, .int .i64 0, .int .i64 0, .int .i64 0] 116)) := below_alloc2 _ _ _
 have m1 := Blk.cell b0 1 (.slice (some ⟨gp, offp, none⟩) n cap) rfl
 have m9 := Blk.cell c0 1 (.int .i64 (t.size : Int)) rfl
 go_enter Tryz.func93, Tryz.ntmps93
 go_wp2_with fail
 generalize hW0 : (w.alloc (.cells #[.string xk, .slice (some ⟨gp, offp, none⟩) n cap] 58)).alloc (.cells #[.string ⟨#[]⟩, .int .i64 0, .int .i64 0, .int .i64 0, .int .i64 0] 116) = W0 at *
 generalize hN : w.heap.size = N at *
 refine (placeV W0 g t.size m9).mono ?_
 rintro e w' ⟨rfl, rfl⟩
 have D0 : Hid (Below N w W0) := d0
 have L0 : Hid (Lies W0 B 2 (.slice (some ⟨gp, offp, none⟩) n cap) (ptR xp)) := HV.out.on (d0.mono (by have := HB.out; omega))
 go_wp2_with fail
 refine (implShowBlock xp (.slice (some ⟨gp, offp, none⟩) n cap) W0 B L0.out (by have := HNn.out; omega) (by have := D0.out.size; have := HB.out; omega) (ST.out.on (by rw [hN]; exact D0.out))).mono ?_
 rintro e X1 ⟨rfl, hb1⟩
 have b1 := b0.on hb1 b0.lt
 have r1 := r0.on hb1 r0.lt
 have C1 : Hid (CurB X1 g t t.size 113) := Blk.on c0 hb1 (Blk.lt c0)
 have D1 : Hid (Below N w X1) := D0.out.trans (hb1.mono (by rw [← hN]; exact D0.out.size))
 clear b0 r0 c0 hb1 m1 m9 d0 L0 D0
 have q0 : (t.size : Int) ≤ 900000 := by omega
 go_wp2_with fail
 refine (writeV t (showB xp) X1 g t.size C1.out (by omega)).mono ?_
 rintro e X2 ⟨⟨uu, rfl⟩, hC, hk⟩
 have hNg : N ≠ g := by have := HB.out; omega
 have hNg' : N + 1 ≠ g := by have := HB.out; omega
 have b2 := hk.blk b1 hNg
 have r2 := hk.blk r1 hNg'
 have C2 : Hid (CurB X2 g (t ++ showB xp) (t ++ showB xp).size 113) := hC
 have K2 : Hid (KeptBut g w X2) := (KeptBut.of (by rw [hN]; exact D1.out) (by rw [hN]; exact HB.out.2.1)).trans hk
 have F0 : Hid (X2.cell? ⟨gp, offp, none⟩ = some (.int .i64 t0)) := (K2.out.1.cell (p := ⟨gp, offp, none⟩) (by have := HB.out; simp only; omega)).trans HF0.out
 have F1 : Hid (X2.cell? ⟨gp, offp + (n - 1) * 2, none⟩ = some (.int .i64 t1)) := (K2.out.1.cell (p := ⟨gp, offp + (n - 1) * 2, none⟩) (by have := HB.out; simp only; omega)).trans HF1.out
 clear hC hk b1 r1 C1 D1
 have hsz : (t ++ showB xp).size = t.size + (showB xp).size := ByteArray.size_append
 generalize htz : (t ++ showB xp).size = tz at *
 generalize hsz' : (showB xp).size = sz at *
 have HTZ : Hid ((t ++ showB xp).size = tz ∧ (showB xp).size = sz) := ⟨htz, hsz'⟩
 have S0 : Hid (X2.drew.cell? ⟨N, 0, none⟩ = some (.string xk) ∧ X2.drew.cell? ⟨N, 1, none⟩ = some (.slice (some ⟨gp, offp, none⟩) n cap) ∧ X2.drew.cell? ⟨gp, offp, none⟩ = some (.int .i64 t0) ∧ X2.drew.cell? ⟨gp, offp + (n - 1) * 2, none⟩ = some (.int .i64 t1) ∧ X2.drew.cell? ⟨g, 1, none⟩ = some (.int .i64 (tz : Int))) := ⟨b2.cell 0 _ rfl, b2.cell 1 _ rfl, F0.out, F1.out, Blk.cell C2.out 1 _ rfl⟩
 have q3 : (1 : Int) ≤ (n : Int) := by omega
 have e3 : ((n : Int) - 1).toNat = n - 1 := by omega
 have e9 : IntKind.i64.wrap ((n : Int) - 1) = (n : Int) - 1 := by rw [IntKind.wrap_i64]; omega
 have e8 : IntKind.i64.wrap ((tz : Int) - (t.size : Int)) = (sz : Int) := by rw [IntKind.wrap_i64]; omega
 have e5 : (n : Int) - 1 < (n : Int) := by omega
 have q6 : (0 : Int) < (n : Int) := by omega
 have q7 : 0 < n := by omega
 have HR2 : Hid (Blk X2.drew (N + 1) #[.string ⟨#[]⟩, .int .i64 0, .int .i64 0, .int .i64 0, .int .i64 0] 116) := r2
 have C2d : Hid (CurB X2.drew g (t ++ showB xp) tz 113) := C2.out
 have K2d : Hid (KeptBut g w X2.drew) := K2.out.drew
 have HBn : Hid (N + 1 ≠ g ∧ N = w.heap.size) := ⟨hNg', hN.symm⟩
 clear b2 r2 F0 F1 hNg hNg' hsz htz
 go_wp2_with fail
 refine wp_region_until (fun w' => w'.cell? ⟨N, 0, none⟩ = some (.string xk) ∧ w'.cell? ⟨N, 1, none⟩ = some (.slice (some ⟨gp, offp, none⟩) n cap) ∧ w'.cell? ⟨gp, offp, none⟩ = some (.int .i64 t0) ∧ w'.cell? ⟨gp, offp + (n - 1) * 2, none⟩ = some (.int .i64 t1) ∧ w'.cell? ⟨g, 1, none⟩ = some (.int .i64 (tz : Int))) (fun _ => false) 25 (by rfl) (by kernel_rfl) ?_
 refine until_take 0 (v := ?_) (by rfl) (by kernel_rfl) (by exact fun _ _ _ h => h) (by rfl) ?_ S0.out ?_
 rotate_left
 ·intro w hSw
  try dsimp only at hSw
  go_simp
  try with_reducible rfl
 try simp only [Act.put, setIfInBounds_toArray, set_cons_zero, set_cons_succ]
 refine until_take 1 (v := ?_) (by rfl) (by kernel_rfl) (by exact fun _ _ _ h => h) (by rfl) ?_ S0.out ?_
 rotate_left
 ·intro w hSw
  try dsimp only at hSw
  go_simp
  try with_reducible rfl
 try simp only [Act.put, setIfInBounds_toArray, set_cons_zero, set_cons_succ]
 refine until_take 2 (v := ?_) (by rfl) (by kernel_rfl) (by exact fun _ _ _ h => h) (by rfl) ?_ S0.out ?_
 rotate_left
 ·intro w hSw
  try dsimp only at hSw
  go_simp
  try with_reducible rfl
 try simp only [Act.put, setIfInBounds_toArray, set_cons_zero, set_cons_succ]
 refine until_take 3 (v := ?_) (by rfl) (by kernel_rfl) (by exact fun _ _ _ h => h) (by rfl) ?_ S0.out ?_
 rotate_left
 ·intro w hSw
  try dsimp only at hSw
  go_simp
  try with_reducible rfl
 try simp only [Act.put, setIfInBounds_toArray, set_cons_zero, set_cons_succ]
 refine until_take 4 (v := ?_) (by rfl) (by kernel_rfl) (by exact fun _ _ _ h => h) (by rfl) ?_ S0.out ?_
 rotate_left
 ·intro w hSw
  try dsimp only at hSw
  go_simp
  try with_reducible rfl
 try simp only [Act.put, setIfInBounds_toArray, set_cons_zero, set_cons_succ]
 refine until_take 5 (v := ?_) (by rfl) (by kernel_rfl) (by exact fun _ _ _ h => h) (by rfl) ?_ S0.out ?_
 rotate_left
 ·intro w hSw
  try dsimp only at hSw
  go_simp
  try with_reducible rfl
 try simp only [Act.put, setIfInBounds_toArray, set_cons_zero, set_cons_succ]
 refine until_take 7 (v := ?_) (by rfl) (by kernel_rfl) (by exact fun _ _ _ h => h) (by rfl) ?_ S0.out ?_
 rotate_left
 ·intro w hSw
  try dsimp only at hSw
  go_simp
  try with_reducible rfl
 try simp only [Act.put, setIfInBounds_toArray, set_cons_zero, set_cons_succ]
 refine until_take 9 (v := ?_) (by rfl) (by kernel_rfl) (by exact fun _ _ _ h => h) (by rfl) ?_ S0.out ?_
 rotate_left
 ·intro w hSw
  try dsimp only at hSw
  go_simp
  try with_reducible rfl
 try simp only [Act.put, setIfInBounds_toArray, set_cons_zero, set_cons_succ]
 refine until_take 10 (v := ?_) (by rfl) (by kernel_rfl) (by exact fun _ _ _ h => h) (by rfl) ?_ S0.out ?_
 rotate_left
 ·intro w hSw
  try dsimp only at hSw
  go_simp
  try with_reducible rfl
 try simp only [Act.put, setIfInBounds_toArray, set_cons_zero, set_cons_succ]
 refine until_take 11 (v := ?_) (by rfl) (by kernel_rfl) (by exact fun _ _ _ h => h) (by rfl) ?_ S0.out ?_
 rotate_left
 ·intro w hSw
  try dsimp only at hSw
  go_simp
  try with_reducible rfl
 try simp only [Act.put, setIfInBounds_toArray, set_cons_zero, set_cons_succ]
 refine until_take 12 (v := ?_) (by rfl) (by kernel_rfl) (by exact fun _ _ _ h => h) (by rfl) ?_ S0.out ?_
 rotate_left
 ·intro w hSw
  try dsimp only at hSw
  go_simp
  try with_reducible rfl
 try simp only [Act.put, setIfInBounds_toArray, set_cons_zero, set_cons_succ]
 refine until_take 13 (v := ?_) (by rfl) (by kernel_rfl) (by exact fun _ _ _ h => h) (by rfl) ?_ S0.out ?_
 rotate_left
 ·intro w hSw
  try dsimp only at hSw
  go_simp
  try with_reducible rfl
 try simp only [Act.put, setIfInBounds_toArray, set_cons_zero, set_cons_succ]
 refine until_take 14 (v := ?_) (by rfl) (by kernel_rfl) (by exact fun _ _ _ h => h) (by rfl) ?_ S0.out ?_
 rotate_left
 ·intro w hSw
  try dsimp only at hSw
  go_simp
  try with_reducible rfl
 try simp only [Act.put, setIfInBounds_toArray, set_cons_zero, set_cons_succ]
 refine until_take 15 (v := ?_) (by rfl) (by kernel_rfl) (by exact fun _ _ _ h => h) (by rfl) ?_ S0.out ?_
 rotate_left
 ·intro w hSw
  try dsimp only at hSw
  go_simp
  try with_reducible rfl
 try simp only [Act.put, setIfInBounds_toArray, set_cons_zero, set_cons_succ]
 refine until_take 16 (v := ?_) (by rfl) (by kernel_rfl) (by exact fun _ _ _ h => h) (by rfl) ?_ S0.out ?_
 rotate_left
 ·intro w hSw
  try dsimp only at hSw
  go_simp
  try with_reducible rfl
 try simp only [Act.put, setIfInBounds_toArray, set_cons_zero, set_cons_succ]
 refine until_take 17 (v := ?_) (by rfl) (by kernel_rfl) (by exact fun _ _ _ h => h) (by rfl) ?_ S0.out ?_
 rotate_left
 ·intro w hSw
  try dsimp only at hSw
  go_simp
  try with_reducible rfl
 try simp only [Act.put, setIfInBounds_toArray, set_cons_zero, set_cons_succ]
 refine until_take 18 (v := ?_) (by rfl) (by kernel_rfl) (by exact fun _ _ _ h => h) (by rfl) ?_ S0.out ?_
 rotate_left
 ·intro w hSw
  try dsimp only at hSw
  go_simp
  try with_reducible rfl
 try simp only [Act.put, setIfInBounds_toArray, set_cons_zero, set_cons_succ]
 refine until_take 19 (v := .int .i64 ((n : Int) - 1)) (by rfl) (by kernel_rfl) (by exact fun _ _ _ h => h) (by rfl) ?_ S0.out ?_
 ·intro w hSw
  try dsimp only at hSw
  go_simp
  try rw [e9]
 try simp only [Act.put, setIfInBounds_toArray, set_cons_zero, set_cons_succ]
 refine until_take 20 (v := ?_) (by rfl) (by kernel_rfl) (by exact fun _ _ _ h => h) (by rfl) ?_ S0.out ?_
 rotate_left
 ·intro w hSw
  try dsimp only at hSw
  go_simp
  try with_reducible rfl
 try simp only [Act.put, setIfInBounds_toArray, set_cons_zero, set_cons_succ]
 refine until_take 21 (v := ?_) (by rfl) (by kernel_rfl) (by exact fun _ _ _ h => h) (by rfl) ?_ S0.out ?_
 rotate_left
 ·intro w hSw
  try dsimp only at hSw
  go_simp
  try with_reducible rfl
 try simp only [Act.put, setIfInBounds_toArray, set_cons_zero, set_cons_succ]
 refine until_take 22 (v := ?_) (by rfl) (by kernel_rfl) (by exact fun _ _ _ h => h) (by rfl) ?_ S0.out ?_
 rotate_left
 ·intro w hSw
  try dsimp only at hSw
  go_simp
  try with_reducible rfl
 try simp only [Act.put, setIfInBounds_toArray, set_cons_zero, set_cons_succ]
 refine until_one 6 (by rfl) (by kernel_rfl) (fun K hK => ?_)
 go_simp
 refine (placeV _ g tz S0.out.2.2.2.2).mono ?_
 rintro e w' ⟨rfl, rfl⟩
 go_wp2_with fail
 refine hK.out _ _ (fun _ h => h) ?_
 clear hK K
 try simp only [Act.put, setIfInBounds_toArray, set_cons_zero, set_cons_succ]
 refine until_take 8 (v := .int .i64 (sz : Int)) (by rfl) (by kernel_rfl) (by exact fun _ _ _ h => h) (by rfl) ?_ S0.out ?_
 ·intro w hSw
  try dsimp only at hSw
  go_simp
  try rw [e8]
 try simp only [Act.put, setIfInBounds_toArray, set_cons_zero, set_cons_succ]
 refine until_pure 23 (v := ?_) (by rfl) (by kernel_rfl) (by exact fun _ _ _ h => h) (by rfl) ?_ ?_
 rotate_left
 ·intro w
  go_simp
  try with_reducible rfl
 try simp only [Act.put, setIfInBounds_toArray, set_cons_zero, set_cons_succ]
 have p0 : Blk X2 (N + 1) #[.string ⟨#[]⟩, .int .i64 0, .int .i64 0, .int .i64 0, .int .i64 0] 116 := HR2.out
 have g0 : X2.cell? ⟨N + 1, 0, none⟩ = some (.string ⟨#[]⟩) := p0.cell 0 _ rfl
 have h0 := p0.free 0
 have g1 : X2.cell? ⟨N + 1, 1, none⟩ = some (.int .i64 0) := p0.cell 1 _ rfl
 have h1 := p0.free 1
 have g2 : X2.cell? ⟨N + 1, 2, none⟩ = some (.int .i64 0) := p0.cell 2 _ rfl
 have h2 := p0.free 2
 have g3 : X2.cell? ⟨N + 1, 3, none⟩ = some (.int .i64 0) := p0.cell 3 _ rfl
 have h3 := p0.free 3
 have g4 : X2.cell? ⟨N + 1, 4, none⟩ = some (.int .i64 0) := p0.cell 4 _ rfl
 have h4 := p0.free 4
 have p1 := p0.set 0 (.string xk)
 have p2 := p1.set 1 (.int .i64 (t.size : Int))
 have p3 := p2.set 2 (.int .i64 (sz : Int))
 have p4 := p3.set 3 (.int .i64 t0)
 have p5 := p4.set 4 (.int .i64 t1)
 generalize hW5 : (((((X2.setCell ⟨N + 1, 0, none⟩ (.string xk)).setCell ⟨N + 1, 1, none⟩ (.int .i64 (t.size : Int))).setCell ⟨N + 1, 2, none⟩ (.int .i64 (sz : Int))).setCell ⟨N + 1, 3, none⟩ (.int .i64 t0)).setCell ⟨N + 1, 4, none⟩ (.int .i64 t1)) = W5 at p5
 have P5 : Hid (Blk W5.drew (N + 1) #[.string xk, .int .i64 (t.size : Int), .int .i64 (sz : Int), .int .i64 t0, .int .i64 t1] 116) := p5
 have PE : Hid (CurB W5.drew g (t ++ showB xp) tz 113) := by
  rw [← hW5]
  exact ((((Blk.other C2.out (Ne.symm HBn.out.1) _ _).other (Ne.symm HBn.out.1) _ _).other (Ne.symm HBn.out.1) _ _).other (Ne.symm HBn.out.1) _ _).other (Ne.symm HBn.out.1) _ _
 have KE : Hid (KeptBut g w W5.drew) := by
  rw [← hW5]
  have hk : w.heap.size ≤ N + 1 := by have := HBn.out.2; omega
  have hg : g ≤ N + 1 := by have := HB.out; omega
  exact (((((K2.out.setNew hk hg _ _).setNew hk hg _ _).setNew hk hg _ _).setNew hk hg _ _).setNew hk hg _ _).drew
 have SE : Hid (W5.drew.cell? ⟨N, 0, none⟩ = some (.string xk) ∧ W5.drew.cell? ⟨N, 1, none⟩ = some (.slice (some ⟨gp, offp, none⟩) n cap) ∧ W5.drew.cell? ⟨gp, offp, none⟩ = some (.int .i64 t0) ∧ W5.drew.cell? ⟨gp, offp + (n - 1) * 2, none⟩ = some (.int .i64 t1) ∧ W5.drew.cell? ⟨g, 1, none⟩ = some (.int .i64 (tz : Int))) := by
  have e1 : ∀ c o, c ≠ N + 1 → W5.cell? ⟨c, o, none⟩ = X2.cell? ⟨c, o, none⟩ := fun c o hc => by
   rw [← hW5]
   exact World.cell?_of_block (by rw [Below.heap_setCell _ _ _ _ (show c ≠ N + 1 from hc), Below.heap_setCell _ _ _ _ (show c ≠ N + 1 from hc), Below.heap_setCell _ _ _ _ (show c ≠ N + 1 from hc), Below.heap_setCell _ _ _ _ (show c ≠ N + 1 from hc), Below.heap_setCell _ _ _ _ (show c ≠ N + 1 from hc)])
  have hB := HB.out
  have hBn := HBn.out
  exact ⟨(e1 _ _ (by omega)).trans S0.out.1, (e1 _ _ (by omega)).trans S0.out.2.1, (e1 _ _ (by omega)).trans S0.out.2.2.1, (e1 _ _ (by omega)).trans S0.out.2.2.2.1, (e1 _ _ (by omega)).trans S0.out.2.2.2.2⟩
 clear p0 p1 p2 p3 p4 p5
 refine until_one 24 (by rfl) (by kernel_rfl) (fun K hK => ?_)
 go_simp
 refine hK.out _ _ (fun _ _ => SE.out) ?_
 clear hK K
 try simp only [Act.put, setIfInBounds_toArray, set_cons_zero, set_cons_succ]
 have k0 := P5.out.cell 0 (.string xk) rfl
 have k1 := P5.out.cell 1 (.int .i64 (t.size : Int)) rfl
 have k2 := P5.out.cell 2 (.int .i64 (sz : Int)) rfl
 have k3 := P5.out.cell 3 (.int .i64 t0) rfl
 have k4 := P5.out.cell 4 (.int .i64 t1) rfl
 refine until_done (by kernel_rfl) ?_ _
 go_wp2_with fail
 exact bodyPost_ret (v := .agg #[.string xk, .int .i64 (t.size : Int), .int .i64 (sz : Int), .int .i64 t0, .int .i64 t1]) (by simp [results, go_sem, k0, k1, k2, k3, k4]) rfl ⟨by rw [HTZ.out.2], by rw [HTZ.out.1]; exact PE.out, KE.out⟩
end Go.Proofs.YtpmgndgkmffcnaaGreatDoor
