/- StCopy -/
import Derived.Test.YtdimaoloapbeoaaGreatDoorRows
import Derived.Test.YtdimaoloapbeoaaGreatDoorQv15
import Derived.Test.YtdimaoloapbeoaaGreatDoorQv17
import Derived.Handy
import Derived.Deep.RegionHeld3
namespace Go.Proofs.YtdimaoloapbeoaaGreatDoor
open Go.ChangeShapes Go.WideShapes Go.ChangeAt Go.RowKit Go.PlainAid
set_option linter.unusedVariables false
theorem below_alloc2'' (w : World) (a b : Obj) : Below w.heap.size w ((w.alloc a).alloc b) := ((Below.refl _ w).alloc (Nat.le_refl _) a).alloc (by simp) b
set_option maxRecDepth 20000 in
set_option maxHeartbeats 2000000 in
theorem copyS (x : Wl) (v : Value) (w : World) (B : Nat) (hv : WalV w B v x) (hn : x.ents.length ≤ 1048576) (hB : B ≤ w.heap.size) :
  Calls Tryz.prog 84 #[v] w fun e w' => ∃ u, e = .returned u ∧ WalO w' w.heap.size u x ∧ Below w.heap.size w w' := by
 obtain ⟨u, rfl, hl⟩ := hv
 have HB : Hid (B ≤ w.heap.size) := hB
 have HL : Hid (Lies w B 2 u (entR x.ents)) := hl
 have L1 : Hid (x.ents.length ≤ 1048576) := hn
 clear hl hB hn
 go_enter Tryz.func84, Tryz.ntmps84
 go_wp2_with (at_builtin; refine Shut.out ?_)
 have hb0 := below_alloc2'' w (.cells #[.int .i64 x.term, .int .i64 x.vote, .int .i64 x.base, .int .i64 x.bterm, u] 30) (.cells #[.int .i64 0, .int .i64 0, .int .i64 0, .int .i64 0, .slice none 0 0] 30)
 have bA := (Blk.new w #[.int .i64 x.term, .int .i64 x.vote, .int .i64 x.base, .int .i64 x.bterm, u] 30).alloc (.cells #[.int .i64 0, .int .i64 0, .int .i64 0, .int .i64 0, .slice none 0 0] 30)
 have bR := Blk.new (w.alloc (.cells #[.int .i64 x.term, .int .i64 x.vote, .int .i64 x.base, .int .i64 x.bterm, u] 30)) #[.int .i64 0, .int .i64 0, .int .i64 0, .int .i64 0, .slice none 0 0] 30
 have hsz : ((w.alloc (.cells #[.int .i64 x.term, .int .i64 x.vote, .int .i64 x.base, .int .i64 x.bterm, u] 30)).alloc (.cells #[.int .i64 0, .int .i64 0, .int .i64 0, .int .i64 0, .slice none 0 0] 30)).heap.size = w.heap.size + 1 + 1 := by simp
 simp only [World.size_alloc] at bR
 generalize (w.alloc (.cells #[.int .i64 x.term, .int .i64 x.vote, .int .i64 x.base, .int .i64 x.bterm, u] 30)).alloc (.cells #[.int .i64 0, .int .i64 0, .int .i64 0, .int .i64 0, .slice none 0 0] 30) = W at *
 have B0 : Hid (Below w.heap.size w W) := hb0
 have KA0 : Hid (Blk W w.heap.size #[.int .i64 x.term, .int .i64 x.vote, .int .i64 x.base, .int .i64 x.bterm, u] 30) := bA
 have KR0 : Hid (Blk W (w.heap.size + 1) #[.int .i64 0, .int .i64 0, .int .i64 0, .int .i64 0, .slice none 0 0] 30) := bR
 have Z0 : Hid (w.heap.size + 1 + 1 ≤ W.heap.size) := by unfold Hid; omega
 clear hb0 bA bR
 unfold Shut
 have hE := Owns.empty W (w.heap.size + 1 + 1) 59 2 Z0.out
 rw [hsz] at hE
 have hb := B0.out.alloc B0.out.size (.cells #[] 59)
 have hLs := HL.out.on (hb.mono HB.out)
 have s1 : ([] : List (List Value)).length + (entR x.ents).length ≤ 2097152 := by rw [entR_length]; have := L1.out; simp; omega
 have s2 : w.heap.size + 1 + 1 ≤ (W.alloc (.cells #[] 59)).heap.size := by rw [World.size_alloc]; have := Z0.out; omega
 refine wpList_append_all (w := W.alloc (.cells #[] 59)) rfl (.tmp 3) (.tmp 5) 28 59 (.agg #[.int .i64 0, .string ⟨#[]⟩]) 2 24 rfl Tryz.underlying28 Tryz.infoEnt rfl (by omega) (w.heap.size + 1 + 1) (.slice (some ⟨w.heap.size + 1 + 1, 0, none⟩) 0 0) u [] (entR x.ents) B rfl hE hLs (ent_one x.ents) rfl s1 (by omega) s2 ?_
 intro u1 w1 hO hb1 hk _
 obtain ⟨A1, m1, k1, rfl⟩ := hO.shape
 have O1 : Hid (Owns w1 (w.heap.size + 1 + 1) 59 2 (.slice A1 m1 k1) (entR x.ents)) := hO
 have hA : Blk w1 w.heap.size #[.int .i64 x.term, .int .i64 x.vote, .int .i64 x.base, .int .i64 x.bterm, u] 30 := (KA0.out.alloc _).on hb1 (by omega)
 have hR : Blk w1 (w.heap.size + 1) #[.int .i64 0, .int .i64 0, .int .i64 0, .int .i64 0, .slice none 0 0] 30 := (KR0.out.alloc _).on hb1 (by omega)
 have B1 : Hid (Below w.heap.size w w1) := hb.trans (hb1.mono (by omega))
 have KA1 : Hid (Blk w1 w.heap.size #[.int .i64 x.term, .int .i64 x.vote, .int .i64 x.base, .int .i64 x.bterm, u] 30) := hA
 have KR1 : Hid (Blk w1 (w.heap.size + 1) #[.int .i64 0, .int .i64 0, .int .i64 0, .int .i64 0, .slice none 0 0] 30) := hR
 have e0 := hA.cell 0 (.int .i64 x.term) rfl
 have f0 := hA.free 0
 have e1 := hA.cell 1 (.int .i64 x.vote) rfl
 have f1 := hA.free 1
 have e2 := hA.cell 2 (.int .i64 x.base) rfl
 have f2 := hA.free 2
 have e3 := hA.cell 3 (.int .i64 x.bterm) rfl
 have f3 := hA.free 3
 have e4 := hA.cell 4 (u) rfl
 have f4 := hA.free 4
 have r0 := hR.cell 0 (.int .i64 0) rfl
 have g0 := hR.free 0
 have r1 := hR.cell 1 (.int .i64 0) rfl
 have g1 := hR.free 1
 have r2 := hR.cell 2 (.int .i64 0) rfl
 have g2 := hR.free 2
 have r3 := hR.cell 3 (.int .i64 0) rfl
 have g3 := hR.free 3
 have r4 := hR.cell 4 (.slice none 0 0) rfl
 have g4 := hR.free 4
 have zl := hA.lt
 have zr := hR.lt
 clear hA hR hE hb hLs s1 s2 hO hb1 hk
 go_wp2_with fail
 have hF := (((((KR1.out.other (show w.heap.size + 1 ≠ w.heap.size by omega) 4 (.slice A1 m1 k1)).set 0 (.int .i64 x.term)).set 1 (.int .i64 x.vote)).set 2 (.int .i64 x.base)).set 3 (.int .i64 x.bterm)).set 4 (.slice A1 m1 k1)
 have OF := (((((O1.out.other (O1.out.below (show w.heap.size < _ by omega)) 4 (.slice A1 m1 k1)).other (O1.out.below (show w.heap.size + 1 < _ by omega)) 0 (.int .i64 x.term)).other (O1.out.below (show w.heap.size + 1 < _ by omega)) 1 (.int .i64 x.vote)).other (O1.out.below (show w.heap.size + 1 < _ by omega)) 2 (.int .i64 x.base)).other (O1.out.below (show w.heap.size + 1 < _ by omega)) 3 (.int .i64 x.bterm)).other (O1.out.below (show w.heap.size + 1 < _ by omega)) 4 (.slice A1 m1 k1)
 have FB := (((((B1.out.setCell (Nat.le_refl _) (.slice A1 m1 k1) (p := ⟨_, 4, none⟩)).setCell (show w.heap.size ≤ w.heap.size + 1 by omega) (.int .i64 x.term) (p := ⟨_, 0, none⟩)).setCell (show w.heap.size ≤ w.heap.size + 1 by omega) (.int .i64 x.vote) (p := ⟨_, 1, none⟩)).setCell (show w.heap.size ≤ w.heap.size + 1 by omega) (.int .i64 x.base) (p := ⟨_, 2, none⟩)).setCell (show w.heap.size ≤ w.heap.size + 1 by omega) (.int .i64 x.bterm) (p := ⟨_, 3, none⟩)).setCell (show w.heap.size ≤ w.heap.size + 1 by omega) (.slice A1 m1 k1) (p := ⟨_, 4, none⟩)
 clear e0 f0 e1 f1 e2 f2 e3 f3 e4 f4 r0 g0 r1 g1 r2 g2 r3 g3 r4 g4
 generalize (((((w1.setCell ⟨w.heap.size, 4, none⟩ (.slice A1 m1 k1)).setCell ⟨w.heap.size + 1, 0, none⟩ (.int .i64 x.term)).setCell ⟨w.heap.size + 1, 1, none⟩ (.int .i64 x.vote)).setCell ⟨w.heap.size + 1, 2, none⟩ (.int .i64 x.base)).setCell ⟨w.heap.size + 1, 3, none⟩ (.int .i64 x.bterm)).setCell ⟨w.heap.size + 1, 4, none⟩ (.slice A1 m1 k1) = WF at *
 have hG : Blk WF (w.heap.size + 1) #[.int .i64 x.term, .int .i64 x.vote, .int .i64 x.base, .int .i64 x.bterm, .slice A1 m1 k1] 30 := hF
 have mm0 := hG.cell 0 (.int .i64 x.term) rfl
 have mm1 := hG.cell 1 (.int .i64 x.vote) rfl
 have mm2 := hG.cell 2 (.int .i64 x.base) rfl
 have mm3 := hG.cell 3 (.int .i64 x.bterm) rfl
 have mm4 := hG.cell 4 (.slice A1 m1 k1) rfl
 exact bodyPost_ret (v := .agg #[.int .i64 x.term, .int .i64 x.vote, .int .i64 x.base, .int .i64 x.bterm, .slice A1 m1 k1]) (by simp [results, go_sem, mm0, mm1, mm2, mm3, mm4]) rfl ⟨_, rfl, ⟨_, rfl, OF.mono (by omega)⟩, FB⟩
end Go.Proofs.YtdimaoloapbeoaaGreatDoor
