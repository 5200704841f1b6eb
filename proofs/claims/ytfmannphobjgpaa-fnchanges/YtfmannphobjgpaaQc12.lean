/- CnDraw UntilF StCopyI -/
import Derived.Test.YtfmannphobjgpaaRows
import Derived.Test.YtfmannphobjgpaaQc10
import Derived.Test.YtfmannphobjgpaaQc0
import Derived.WalkKit
import Derived.ProofKit
import Derived.OpenShut
import Derived.Below
import Derived.WalkSmall
import Derived.BigQuiet
import Derived.Deep.QuietTactic
import Derived.Deep.RegionWith
import Derived.Handy
import Derived.Deep.Cut
import Derived.Deep.CutRange
import Derived.Test.YtfmannphobjgpaaQc11
import Derived.Deep.CutBlock
import Derived.Test.YtfmannphobjgpaaQc9
import Derived.Test.YtfmannphobjgpaaQc6
import Derived.Test.YtfmannphobjgpaaQc2
import Derived.Deep.RegionHeld3
open List (setIfInBounds_toArray set_cons_zero set_cons_succ)
namespace Go.Proofs.Ytfmannphobjgpaa
open Go.ChangeShapes Go.WideShapes Go.ChangeAt Go.RowKit Go.PlainAid
set_option linter.unusedVariables false
set_option maxRecDepth 20000 in
set_option maxHeartbeats 4000000 in
theorem drawChanges (w : World) (ao : Option Addr) (len cap : Nat) (cs : Nat → Nat) (hl : len ≤ 1048576) (h : CodeIs w w.heap.size ao len cs) :
  Calls Try.prog 5 #[.slice ao len cap] w fun e w' => (∃ u u' x y, e = .returned (.tuple #[u, u']) ∧ WalO w' w.heap.size u x ∧ WalO w' w.heap.size u' y ∧ (x.ents.length ≤ 63 ∧ ∀ e ∈ x.ents, e.data.size ≤ 1000) ∧ (y.ents.length ≤ 63 ∧ ∀ e ∈ y.ents, e.data.size ≤ 1000)) ∧ Below w.heap.size w w' := by
 have hal : Below w.heap.size w ((w.alloc (.cells #[.int .i64 0, .int .i64 0, .int .i64 0, .int .i64 0, .slice none 0 0] 26)).alloc (.cells #[.int .i64 0, .int .i64 0, .int .i64 0, .int .i64 0, .slice none 0 0] 26)) := ((Below.refl _ _).alloc (Nat.le_refl _) _).alloc (by simp) _
 have c0 := new_any ((w.alloc (.cells #[.int .i64 0, .int .i64 0, .int .i64 0, .int .i64 0, .slice none 0 0] 26)).alloc (.cells #[.int .i64 0, .int .i64 0, .int .i64 0, .int .i64 0, .slice none 0 0] 26)) ao len cap cs hl (h.on hal)
 have P0 : Hid (Blk ((w.alloc (.cells #[.int .i64 0, .int .i64 0, .int .i64 0, .int .i64 0, .slice none 0 0] 26)).alloc (.cells #[.int .i64 0, .int .i64 0, .int .i64 0, .int .i64 0, .slice none 0 0] 26)) w.heap.size #[.int .i64 0, .int .i64 0, .int .i64 0, .int .i64 0, .slice none 0 0] 26) := (Blk.new w _ _).alloc _
 have Q0 : Hid (Blk ((w.alloc (.cells #[.int .i64 0, .int .i64 0, .int .i64 0, .int .i64 0, .slice none 0 0] 26)).alloc (.cells #[.int .i64 0, .int .i64 0, .int .i64 0, .int .i64 0, .slice none 0 0] 26)) (w.heap.size + 1) #[.int .i64 0, .int .i64 0, .int .i64 0, .int .i64 0, .slice none 0 0] 26) := by
  have := Blk.new (w.alloc (.cells #[.int .i64 0, .int .i64 0, .int .i64 0, .int .i64 0, .slice none 0 0] 26)) #[.int .i64 0, .int .i64 0, .int .i64 0, .int .i64 0, .slice none 0 0] 26
  simp only [World.size_alloc] at this
  exact this
 have B0 : Hid (Below w.heap.size w ((w.alloc (.cells #[.int .i64 0, .int .i64 0, .int .i64 0, .int .i64 0, .slice none 0 0] 26)).alloc (.cells #[.int .i64 0, .int .i64 0, .int .i64 0, .int .i64 0, .slice none 0 0] 26))) := hal
 clear h hal
 go_enter Try.func5, Try.ntmps5
 go_wp2_with fail
 generalize (w.alloc (.cells #[.int .i64 0, .int .i64 0, .int .i64 0, .int .i64 0, .slice none 0 0] 26)).alloc (.cells #[.int .i64 0, .int .i64 0, .int .i64 0, .int .i64 0, .slice none 0 0] 26) = w0 at *
 refine c0.mono ?_
 rintro e wa ⟨rfl, hA, hb⟩
 have Aa : Hid (AtS wa w0.heap.size) := ⟨_, _, _, _, _, hA⟩
 have HQ0 : Hid (w.heap.size + 1 < w0.heap.size) := Q0.out.lt
 have Ba : Hid (Below w.heap.size w wa) := B0.out.trans (hb.mono B0.out.size)
 have Pa : Hid (Blk wa w.heap.size #[.int .i64 0, .int .i64 0, .int .i64 0, .int .i64 0, .slice none 0 0] 26) := P0.out.on hb P0.out.lt
 have Qa : Hid (Blk wa (w.heap.size + 1) #[.int .i64 0, .int .i64 0, .int .i64 0, .int .i64 0, .slice none 0 0] 26) := Q0.out.on hb Q0.out.lt
 clear hA hb c0 P0 Q0 B0
 generalize w0.heap.size = p at *
 go_wp2_with fail
 refine (anyWal_any wa p Aa.out).mono ?_
 rintro e w1 ⟨uw, ⟨t, v, b, bt, es⟩, rfl, ⟨ue, rfl, hO⟩, hn, hd, ht, hA, hm⟩
 dsimp only at hO hn hd ht
 obtain ⟨Ae, ce, rfl, -⟩ := ent_look hO.lies
 have HN : Hid (es.length ≤ 63 ∧ (∀ e ∈ es, e.data.size ≤ 1000) ∧ (-1000 ≤ t ∧ t ≤ 1000000)) := ⟨hn, hd, ht⟩
 have hbx : Below w1.heap.size w1 (w1.alloc (.cells #[.int .i64 t, .int .i64 v, .int .i64 b, .int .i64 bt, .slice Ae es.length ce] 26)) := (Below.refl _ _).alloc (Nat.le_refl _) _
 have A1 : Hid (AtS (w1.alloc (.cells #[.int .i64 t, .int .i64 v, .int .i64 b, .int .i64 bt, .slice Ae es.length ce] 26)) p) := hA.below hbx hA.lt
 have B1 : Hid (Below w.heap.size w (w1.alloc (.cells #[.int .i64 t, .int .i64 v, .int .i64 b, .int .i64 bt, .slice Ae es.length ce] 26))) := (Ba.out.trans ((hm.mono Ba.out.size).below (show w.heap.size ≤ p by have := HQ0.out; omega))).alloc (Nat.le_trans Ba.out.size hm.size) _
 have P1 : Hid (Blk (w1.alloc (.cells #[.int .i64 t, .int .i64 v, .int .i64 b, .int .i64 bt, .slice Ae es.length ce] 26)) w.heap.size #[.int .i64 0, .int .i64 0, .int .i64 0, .int .i64 0, .slice none 0 0] 26) := (Pa.out.mod hm Pa.out.lt (by have := HQ0.out; omega)).alloc _
 have Q1 : Hid (Blk (w1.alloc (.cells #[.int .i64 t, .int .i64 v, .int .i64 b, .int .i64 bt, .slice Ae es.length ce] 26)) (w.heap.size + 1) #[.int .i64 0, .int .i64 0, .int .i64 0, .int .i64 0, .slice none 0 0] 26) := (Qa.out.mod hm Qa.out.lt (by have := HQ0.out; omega)).alloc _
 have X1 : Hid (Blk (w1.alloc (.cells #[.int .i64 t, .int .i64 v, .int .i64 b, .int .i64 bt, .slice Ae es.length ce] 26)) w1.heap.size #[.int .i64 t, .int .i64 v, .int .i64 b, .int .i64 bt, .slice Ae es.length ce] 26) := Blk.new _ _ _
 have O1 : Hid (Owns (w1.alloc (.cells #[.int .i64 t, .int .i64 v, .int .i64 b, .int .i64 bt, .slice Ae es.length ce] 26)) wa.heap.size 58 2 (.slice Ae es.length ce) (entR es)) := hO.alloc _
 have HR : Hid (p < wa.heap.size ∧ w.heap.size ≤ wa.heap.size) := ⟨Aa.out.lt, Ba.out.size⟩
 have HQ1 : Hid (w.heap.size + 1 < p ∧ p < w1.heap.size) := ⟨HQ0.out, hA.lt⟩
 clear hbx hA hm hO hn hd ht Aa Ba Pa Qa HQ0
 go_wp2_with fail
 generalize w1.alloc (.cells #[.int .i64 t, .int .i64 v, .int .i64 b, .int .i64 bt, .slice Ae es.length ce] 26) = w2 at *
 refine (once_some w2 p 6 (by omega) A1.out).mono ?_
 rintro e w3 ⟨o, rfl, hA, hm⟩
 have A2 : Hid (AtS w3.drew p) := hA.below (Below.refl w3.heap.size w3).drew hA.lt
 have B2 : Hid (Below w.heap.size w w3.drew) := (B1.out.trans ((hm.mono B1.out.size).below (show w.heap.size ≤ p by have := HQ1.out; omega))).drew
 have P2 : Hid (Blk w3.drew w.heap.size #[.int .i64 0, .int .i64 0, .int .i64 0, .int .i64 0, .slice none 0 0] 26) := (show Blk w3 _ _ _ from P1.out.mod hm P1.out.lt (show w.heap.size ≠ p by have := HQ1.out; omega))
 have Q2 : Hid (Blk w3.drew (w.heap.size + 1) #[.int .i64 0, .int .i64 0, .int .i64 0, .int .i64 0, .slice none 0 0] 26) := (show Blk w3 _ _ _ from Q1.out.mod hm Q1.out.lt (show w.heap.size + 1 ≠ p by have := HQ1.out; omega))
 have KX : Hid (Blk w3.drew w1.heap.size #[.int .i64 t, .int .i64 v, .int .i64 b, .int .i64 bt, .slice Ae es.length ce] 26) := (show Blk w3 _ _ _ from X1.out.mod hm X1.out.lt (show w1.heap.size ≠ p by have := HQ1.out; omega))
 have O2 : Hid (Owns w3.drew wa.heap.size 58 2 (.slice Ae es.length ce) (entR es)) := (O1.out.mod hm HR.out.1 (Nat.le_refl _)).kept fun _ _ _ => rfl
 have HQ : Hid (w.heap.size + 1 < p ∧ p < w1.heap.size) := HQ1.out
 have S0 : Hid (w3.drew.cell? ⟨w1.heap.size, 0, none⟩ = some (.int .i64 t) ∧ w3.drew.cell? ⟨w1.heap.size, 1, none⟩ = some (.int .i64 v) ∧ w3.drew.cell? ⟨w1.heap.size, 2, none⟩ = some (.int .i64 b) ∧ w3.drew.cell? ⟨w1.heap.size, 3, none⟩ = some (.int .i64 bt) ∧ w3.drew.cell? ⟨w1.heap.size, 4, none⟩ = some (.slice Ae es.length ce)) := ⟨KX.out.cell 0 _ rfl, KX.out.cell 1 _ rfl, KX.out.cell 2 _ rfl, KX.out.cell 3 _ rfl, KX.out.cell 4 _ rfl⟩
 clear hA hm A1 B1 P1 Q1 X1 O1 HQ1
 cases o with
 | true =>
  go_wp2_with fail
  refine wp_region_until (fun w' => w'.cell? ⟨w1.heap.size, 0, none⟩ = some (.int .i64 t) ∧ w'.cell? ⟨w1.heap.size, 1, none⟩ = some (.int .i64 v) ∧ w'.cell? ⟨w1.heap.size, 2, none⟩ = some (.int .i64 b) ∧ w'.cell? ⟨w1.heap.size, 3, none⟩ = some (.int .i64 bt) ∧ w'.cell? ⟨w1.heap.size, 4, none⟩ = some (.slice Ae es.length ce)) (fun i => i == 3 || i == 4) 5 (by rfl) (by kernel_rfl) ?_
  generalize w3.drew = W2 at *
  refine until_take 0 (v := ?_) (by rfl) (by kernel_rfl) (by exact fun _ _ _ h => h) (by rfl) ?_ S0.out ?_
  rotate_left
  ·intro w hSw
   try dsimp only at hSw
   go_simp
   try with_reducible rfl
  try simp only [Act.put, setIfInBounds_toArray, set_cons_zero, set_cons_succ]
  refine until_pure 1 (v := ?_) (by rfl) (by kernel_rfl) (by exact fun _ _ _ h => h) (by rfl) ?_ ?_
  rotate_left
  ·intro w
   go_simp
   try with_reducible rfl
  try simp only [Act.put, setIfInBounds_toArray, set_cons_zero, set_cons_succ]
  refine until_one 2 (by rfl) (by kernel_rfl) (fun K hK => ?_)
  go_simp
  refine (anyWal_any W2 p A2.out).mono ?_
  rintro e W3 ⟨uw, y, rfl, ⟨ue, rfl, hOy⟩, hny, hdy, -, hA, hm⟩
  obtain ⟨Af, cf, rfl, -⟩ := ent_look hOy.lies
  have KX3 : Hid (Blk W3 w1.heap.size #[.int .i64 t, .int .i64 v, .int .i64 b, .int .i64 bt, .slice Ae es.length ce] 26) := KX.out.mod hm KX.out.lt (by have := HQ.out; omega)
  have P3 : Hid (Blk W3 w.heap.size #[.int .i64 0, .int .i64 0, .int .i64 0, .int .i64 0, .slice none 0 0] 26) := P2.out.mod hm P2.out.lt (by have := HQ.out; omega)
  have Q3 : Hid (Blk W3 (w.heap.size + 1) #[.int .i64 0, .int .i64 0, .int .i64 0, .int .i64 0, .slice none 0 0] 26) := Q2.out.mod hm Q2.out.lt (by have := HQ.out; omega)
  have O3 : Hid (Owns W3 w.heap.size 58 2 (.slice Ae es.length ce) (entR es)) := (O2.out.mod hm HR.out.1 (Nat.le_refl _)).mono HR.out.2
  have Y3 : Hid (Owns W3 w.heap.size 58 2 (.slice Af y.ents.length cf) (entR y.ents)) := hOy.mono B2.out.size
  have B3 : Hid (Below w.heap.size w W3) := B2.out.trans ((hm.mono B2.out.size).below (show w.heap.size ≤ p by have := HQ.out; omega))
  have HY : Hid (y.ents.length ≤ 63 ∧ ∀ e ∈ y.ents, e.data.size ≤ 1000) := ⟨hny, hdy⟩
  clear hOy hny hdy hA hm
  go_wp2_with fail
  refine hK.out _ _ (fun _ _ => ⟨KX3.out.cell 0 _ rfl, KX3.out.cell 1 _ rfl, KX3.out.cell 2 _ rfl, KX3.out.cell 3 _ rfl, KX3.out.cell 4 _ rfl⟩) ?_
  clear hK K
  try simp only [Act.put, setIfInBounds_toArray, set_cons_zero, set_cons_succ]
  have p0 := P3.out
  have p1 := p0.set 0 (.int .i64 t)
  have yp0 := p0.cell 0 _ rfl
  have fp0 := p0.free 0
  have p2 := p1.set 1 (.int .i64 v)
  have yp1 := p1.cell 1 _ rfl
  have fp1 := p1.free 1
  have p3 := p2.set 2 (.int .i64 b)
  have yp2 := p2.cell 2 _ rfl
  have fp2 := p2.free 2
  have p4 := p3.set 3 (.int .i64 bt)
  have yp3 := p3.cell 3 _ rfl
  have fp3 := p3.free 3
  have p5 := p4.set 4 (.slice Ae es.length ce)
  have yp4 := p4.cell 4 _ rfl
  have fp4 := p4.free 4
  have np := O3.out.notBlk p0 (by decide)
  have nq := Y3.out.notBlk p0 (by decide)
  have q0 : Blk (((((W3.setCell ⟨w.heap.size, 0, none⟩ (.int .i64 t)).setCell ⟨w.heap.size, 1, none⟩ (.int .i64 v)).setCell ⟨w.heap.size, 2, none⟩ (.int .i64 b)).setCell ⟨w.heap.size, 3, none⟩ (.int .i64 bt)).setCell ⟨w.heap.size, 4, none⟩ (.slice Ae es.length ce)) (w.heap.size + 1) #[.int .i64 0, .int .i64 0, .int .i64 0, .int .i64 0, .slice none 0 0] 26 := ((((Q3.out.other (show w.heap.size + 1 ≠ w.heap.size by omega) _ _).other (show w.heap.size + 1 ≠ w.heap.size by omega) _ _).other (show w.heap.size + 1 ≠ w.heap.size by omega) _ _).other (show w.heap.size + 1 ≠ w.heap.size by omega) _ _).other (show w.heap.size + 1 ≠ w.heap.size by omega) _ _
  have OP : Hid (Owns (((((W3.setCell ⟨w.heap.size, 0, none⟩ (.int .i64 t)).setCell ⟨w.heap.size, 1, none⟩ (.int .i64 v)).setCell ⟨w.heap.size, 2, none⟩ (.int .i64 b)).setCell ⟨w.heap.size, 3, none⟩ (.int .i64 bt)).setCell ⟨w.heap.size, 4, none⟩ (.slice Ae es.length ce)) w.heap.size 58 2 (.slice Ae es.length ce) (entR es)) := ((((O3.out.other np _ _).other np _ _).other np _ _).other np _ _).other np _ _
  have YP : Hid (Owns (((((W3.setCell ⟨w.heap.size, 0, none⟩ (.int .i64 t)).setCell ⟨w.heap.size, 1, none⟩ (.int .i64 v)).setCell ⟨w.heap.size, 2, none⟩ (.int .i64 b)).setCell ⟨w.heap.size, 3, none⟩ (.int .i64 bt)).setCell ⟨w.heap.size, 4, none⟩ (.slice Ae es.length ce)) w.heap.size 58 2 (.slice Af y.ents.length cf) (entR y.ents)) := ((((Y3.out.other nq _ _).other nq _ _).other nq _ _).other nq _ _).other nq _ _
  have BP : Hid (Below w.heap.size w (((((W3.setCell ⟨w.heap.size, 0, none⟩ (.int .i64 t)).setCell ⟨w.heap.size, 1, none⟩ (.int .i64 v)).setCell ⟨w.heap.size, 2, none⟩ (.int .i64 b)).setCell ⟨w.heap.size, 3, none⟩ (.int .i64 bt)).setCell ⟨w.heap.size, 4, none⟩ (.slice Ae es.length ce))) := (((((B3.out.setCell (Nat.le_refl _) _).setCell (Nat.le_refl _) _).setCell (Nat.le_refl _) _).setCell (Nat.le_refl _) _).setCell (Nat.le_refl _) _)
  have PP : Hid (Blk (((((W3.setCell ⟨w.heap.size, 0, none⟩ (.int .i64 t)).setCell ⟨w.heap.size, 1, none⟩ (.int .i64 v)).setCell ⟨w.heap.size, 2, none⟩ (.int .i64 b)).setCell ⟨w.heap.size, 3, none⟩ (.int .i64 bt)).setCell ⟨w.heap.size, 4, none⟩ (.slice Ae es.length ce)) w.heap.size #[.int .i64 t, .int .i64 v, .int .i64 b, .int .i64 bt, .slice Ae es.length ce] 26) := p5
  have QP : Hid (Blk (((((W3.setCell ⟨w.heap.size, 0, none⟩ (.int .i64 t)).setCell ⟨w.heap.size, 1, none⟩ (.int .i64 v)).setCell ⟨w.heap.size, 2, none⟩ (.int .i64 b)).setCell ⟨w.heap.size, 3, none⟩ (.int .i64 bt)).setCell ⟨w.heap.size, 4, none⟩ (.slice Ae es.length ce)) (w.heap.size + 1) #[.int .i64 0, .int .i64 0, .int .i64 0, .int .i64 0, .slice none 0 0] 26) := q0
  clear p0 p1 p2 p3 p4 p5 np nq q0
  refine until_one 3 (by rfl) (by kernel_rfl) (fun K hK => ?_)
  go_simp
  refine hK.out _ _ (fun h => by cases h) ?_
  clear hK K
  try simp only [Act.put, setIfInBounds_toArray, set_cons_zero, set_cons_succ]
  clear yp0 fp0 yp1 fp1 yp2 fp2 yp3 fp3 yp4 fp4
  generalize ((((W3.setCell ⟨w.heap.size, 0, none⟩ (.int .i64 t)).setCell ⟨w.heap.size, 1, none⟩ (.int .i64 v)).setCell ⟨w.heap.size, 2, none⟩ (.int .i64 b)).setCell ⟨w.heap.size, 3, none⟩ (.int .i64 bt)).setCell ⟨w.heap.size, 4, none⟩ (.slice Ae es.length ce) = W4 at *
  have q0 := QP.out
  have q1 := q0.set 0 (.int .i64 y.term)
  have yq0 := q0.cell 0 _ rfl
  have fq0 := q0.free 0
  have q2 := q1.set 1 (.int .i64 y.vote)
  have yq1 := q1.cell 1 _ rfl
  have fq1 := q1.free 1
  have q3 := q2.set 2 (.int .i64 y.base)
  have yq2 := q2.cell 2 _ rfl
  have fq2 := q2.free 2
  have q4 := q3.set 3 (.int .i64 y.bterm)
  have yq3 := q3.cell 3 _ rfl
  have fq3 := q3.free 3
  have q5 := q4.set 4 (.slice Af y.ents.length cf)
  have yq4 := q4.cell 4 _ rfl
  have fq4 := q4.free 4
  have nq := YP.out.notBlk q0 (by decide)
  have np := OP.out.notBlk q0 (by decide)
  have pF : Blk (((((W4.setCell ⟨w.heap.size + 1, 0, none⟩ (.int .i64 y.term)).setCell ⟨w.heap.size + 1, 1, none⟩ (.int .i64 y.vote)).setCell ⟨w.heap.size + 1, 2, none⟩ (.int .i64 y.base)).setCell ⟨w.heap.size + 1, 3, none⟩ (.int .i64 y.bterm)).setCell ⟨w.heap.size + 1, 4, none⟩ (.slice Af y.ents.length cf)) w.heap.size #[.int .i64 t, .int .i64 v, .int .i64 b, .int .i64 bt, .slice Ae es.length ce] 26 := ((((PP.out.other (show w.heap.size ≠ w.heap.size + 1 by omega) _ _).other (show w.heap.size ≠ w.heap.size + 1 by omega) _ _).other (show w.heap.size ≠ w.heap.size + 1 by omega) _ _).other (show w.heap.size ≠ w.heap.size + 1 by omega) _ _).other (show w.heap.size ≠ w.heap.size + 1 by omega) _ _
  have qF : Blk (((((W4.setCell ⟨w.heap.size + 1, 0, none⟩ (.int .i64 y.term)).setCell ⟨w.heap.size + 1, 1, none⟩ (.int .i64 y.vote)).setCell ⟨w.heap.size + 1, 2, none⟩ (.int .i64 y.base)).setCell ⟨w.heap.size + 1, 3, none⟩ (.int .i64 y.bterm)).setCell ⟨w.heap.size + 1, 4, none⟩ (.slice Af y.ents.length cf)) (w.heap.size + 1) #[.int .i64 y.term, .int .i64 y.vote, .int .i64 y.base, .int .i64 y.bterm, .slice Af y.ents.length cf] 26 := q5
  have OF : Hid (Owns (((((W4.setCell ⟨w.heap.size + 1, 0, none⟩ (.int .i64 y.term)).setCell ⟨w.heap.size + 1, 1, none⟩ (.int .i64 y.vote)).setCell ⟨w.heap.size + 1, 2, none⟩ (.int .i64 y.base)).setCell ⟨w.heap.size + 1, 3, none⟩ (.int .i64 y.bterm)).setCell ⟨w.heap.size + 1, 4, none⟩ (.slice Af y.ents.length cf)) w.heap.size 58 2 (.slice Ae es.length ce) (entR es)) := ((((OP.out.other np _ _).other np _ _).other np _ _).other np _ _).other np _ _
  have YF : Hid (Owns (((((W4.setCell ⟨w.heap.size + 1, 0, none⟩ (.int .i64 y.term)).setCell ⟨w.heap.size + 1, 1, none⟩ (.int .i64 y.vote)).setCell ⟨w.heap.size + 1, 2, none⟩ (.int .i64 y.base)).setCell ⟨w.heap.size + 1, 3, none⟩ (.int .i64 y.bterm)).setCell ⟨w.heap.size + 1, 4, none⟩ (.slice Af y.ents.length cf)) w.heap.size 58 2 (.slice Af y.ents.length cf) (entR y.ents)) := ((((YP.out.other nq _ _).other nq _ _).other nq _ _).other nq _ _).other nq _ _
  have BF : Hid (Below w.heap.size w (((((W4.setCell ⟨w.heap.size + 1, 0, none⟩ (.int .i64 y.term)).setCell ⟨w.heap.size + 1, 1, none⟩ (.int .i64 y.vote)).setCell ⟨w.heap.size + 1, 2, none⟩ (.int .i64 y.base)).setCell ⟨w.heap.size + 1, 3, none⟩ (.int .i64 y.bterm)).setCell ⟨w.heap.size + 1, 4, none⟩ (.slice Af y.ents.length cf))) := (((((BP.out.setCell (Nat.le_succ _) _).setCell (Nat.le_succ _) _).setCell (Nat.le_succ _) _).setCell (Nat.le_succ _) _).setCell (Nat.le_succ _) _)
  have m0 := pF.cell 0 (.int .i64 t) rfl
  have n0 := qF.cell 0 (.int .i64 y.term) rfl
  have m1 := pF.cell 1 (.int .i64 v) rfl
  have n1 := qF.cell 1 (.int .i64 y.vote) rfl
  have m2 := pF.cell 2 (.int .i64 b) rfl
  have n2 := qF.cell 2 (.int .i64 y.base) rfl
  have m3 := pF.cell 3 (.int .i64 bt) rfl
  have n3 := qF.cell 3 (.int .i64 y.bterm) rfl
  have m4 := pF.cell 4 (.slice Ae es.length ce) rfl
  have n4 := qF.cell 4 (.slice Af y.ents.length cf) rfl
  clear q0 q1 q2 q3 q4 q5 np nq pF qF
  refine until_one 4 (by rfl) (by kernel_rfl) (fun K hK => ?_)
  go_simp
  refine hK.out _ _ (fun h => by cases h) ?_
  clear hK K
  try simp only [Act.put, setIfInBounds_toArray, set_cons_zero, set_cons_succ]
  refine until_done (by kernel_rfl) ?_ _
  go_wp2_with fail
  exact bodyPost_ret (v := .tuple #[.agg #[.int .i64 t, .int .i64 v, .int .i64 b, .int .i64 bt, .slice Ae es.length ce], .agg #[.int .i64 y.term, .int .i64 y.vote, .int .i64 y.base, .int .i64 y.bterm, .slice Af y.ents.length cf]]) (by simp [results, Try.f5, go_sem, m0, n0, m1, n1, m2, n2, m3, n3, m4, n4]) rfl ⟨⟨_, _, ⟨t, v, b, bt, es⟩, y, rfl, ⟨_, rfl, OF.out⟩, ⟨_, rfl, YF.out⟩, ⟨HN.out.1, HN.out.2.1⟩, HY.out⟩, BF.out⟩
 | false =>
  go_wp2_with fail
  refine wp_region_until (fun w' => w'.cell? ⟨w1.heap.size, 0, none⟩ = some (.int .i64 t) ∧ w'.cell? ⟨w1.heap.size, 1, none⟩ = some (.int .i64 v) ∧ w'.cell? ⟨w1.heap.size, 2, none⟩ = some (.int .i64 b) ∧ w'.cell? ⟨w1.heap.size, 3, none⟩ = some (.int .i64 bt) ∧ w'.cell? ⟨w1.heap.size, 4, none⟩ = some (.slice Ae es.length ce)) (fun i => i == 4 || i == 5) 6 (by rfl) (by kernel_rfl) ?_
  generalize w3.drew = W2 at *
  refine until_take 0 (v := ?_) (by rfl) (by kernel_rfl) (by exact fun _ _ _ h => h) (by rfl) ?_ S0.out ?_
  rotate_left
  ·intro w hSw
   try dsimp only at hSw
   go_simp
   try with_reducible rfl
  try simp only [Act.put, setIfInBounds_toArray, set_cons_zero, set_cons_succ]
  refine until_pure 1 (v := ?_) (by rfl) (by kernel_rfl) (by exact fun _ _ _ h => h) (by rfl) ?_ ?_
  rotate_left
  ·intro w
   go_simp
   try with_reducible rfl
  try simp only [Act.put, setIfInBounds_toArray, set_cons_zero, set_cons_succ]
  refine until_take 2 (v := ?_) (by rfl) (by kernel_rfl) (by exact fun _ _ _ h => h) (by rfl) ?_ S0.out ?_
  rotate_left
  ·intro w hSw
   try dsimp only at hSw
   go_simp
   try with_reducible rfl
  try simp only [Act.put, setIfInBounds_toArray, set_cons_zero, set_cons_succ]
  refine until_one 3 (by rfl) (by kernel_rfl) (fun K hK => ?_)
  go_simp
  refine (next_any W2 p ⟨t, v, b, bt, es⟩ _ W2.heap.size A2.out ⟨_, rfl, O2.out.lies⟩ (Nat.le_refl _) HN.out.1 HN.out.2.1 HN.out.2.2).mono ?_
  rintro e W3 ⟨uw, y, rfl, ⟨ue, rfl, hOy⟩, hny, hdy, -, hA, hm⟩
  obtain ⟨Af, cf, rfl, -⟩ := ent_look hOy.lies
  have KX3 : Hid (Blk W3 w1.heap.size #[.int .i64 t, .int .i64 v, .int .i64 b, .int .i64 bt, .slice Ae es.length ce] 26) := KX.out.mod hm KX.out.lt (by have := HQ.out; omega)
  have P3 : Hid (Blk W3 w.heap.size #[.int .i64 0, .int .i64 0, .int .i64 0, .int .i64 0, .slice none 0 0] 26) := P2.out.mod hm P2.out.lt (by have := HQ.out; omega)
  have Q3 : Hid (Blk W3 (w.heap.size + 1) #[.int .i64 0, .int .i64 0, .int .i64 0, .int .i64 0, .slice none 0 0] 26) := Q2.out.mod hm Q2.out.lt (by have := HQ.out; omega)
  have O3 : Hid (Owns W3 w.heap.size 58 2 (.slice Ae es.length ce) (entR es)) := (O2.out.mod hm HR.out.1 (Nat.le_refl _)).mono HR.out.2
  have Y3 : Hid (Owns W3 w.heap.size 58 2 (.slice Af y.ents.length cf) (entR y.ents)) := hOy.mono B2.out.size
  have B3 : Hid (Below w.heap.size w W3) := B2.out.trans ((hm.mono B2.out.size).below (show w.heap.size ≤ p by have := HQ.out; omega))
  have HY : Hid (y.ents.length ≤ 63 ∧ ∀ e ∈ y.ents, e.data.size ≤ 1000) := ⟨hny, hdy⟩
  clear hOy hny hdy hA hm
  go_wp2_with fail
  refine hK.out _ _ (fun _ _ => ⟨KX3.out.cell 0 _ rfl, KX3.out.cell 1 _ rfl, KX3.out.cell 2 _ rfl, KX3.out.cell 3 _ rfl, KX3.out.cell 4 _ rfl⟩) ?_
  clear hK K
  try simp only [Act.put, setIfInBounds_toArray, set_cons_zero, set_cons_succ]
  have p0 := P3.out
  have p1 := p0.set 0 (.int .i64 t)
  have yp0 := p0.cell 0 _ rfl
  have fp0 := p0.free 0
  have p2 := p1.set 1 (.int .i64 v)
  have yp1 := p1.cell 1 _ rfl
  have fp1 := p1.free 1
  have p3 := p2.set 2 (.int .i64 b)
  have yp2 := p2.cell 2 _ rfl
  have fp2 := p2.free 2
  have p4 := p3.set 3 (.int .i64 bt)
  have yp3 := p3.cell 3 _ rfl
  have fp3 := p3.free 3
  have p5 := p4.set 4 (.slice Ae es.length ce)
  have yp4 := p4.cell 4 _ rfl
  have fp4 := p4.free 4
  have np := O3.out.notBlk p0 (by decide)
  have nq := Y3.out.notBlk p0 (by decide)
  have q0 : Blk (((((W3.setCell ⟨w.heap.size, 0, none⟩ (.int .i64 t)).setCell ⟨w.heap.size, 1, none⟩ (.int .i64 v)).setCell ⟨w.heap.size, 2, none⟩ (.int .i64 b)).setCell ⟨w.heap.size, 3, none⟩ (.int .i64 bt)).setCell ⟨w.heap.size, 4, none⟩ (.slice Ae es.length ce)) (w.heap.size + 1) #[.int .i64 0, .int .i64 0, .int .i64 0, .int .i64 0, .slice none 0 0] 26 := ((((Q3.out.other (show w.heap.size + 1 ≠ w.heap.size by omega) _ _).other (show w.heap.size + 1 ≠ w.heap.size by omega) _ _).other (show w.heap.size + 1 ≠ w.heap.size by omega) _ _).other (show w.heap.size + 1 ≠ w.heap.size by omega) _ _).other (show w.heap.size + 1 ≠ w.heap.size by omega) _ _
  have OP : Hid (Owns (((((W3.setCell ⟨w.heap.size, 0, none⟩ (.int .i64 t)).setCell ⟨w.heap.size, 1, none⟩ (.int .i64 v)).setCell ⟨w.heap.size, 2, none⟩ (.int .i64 b)).setCell ⟨w.heap.size, 3, none⟩ (.int .i64 bt)).setCell ⟨w.heap.size, 4, none⟩ (.slice Ae es.length ce)) w.heap.size 58 2 (.slice Ae es.length ce) (entR es)) := ((((O3.out.other np _ _).other np _ _).other np _ _).other np _ _).other np _ _
  have YP : Hid (Owns (((((W3.setCell ⟨w.heap.size, 0, none⟩ (.int .i64 t)).setCell ⟨w.heap.size, 1, none⟩ (.int .i64 v)).setCell ⟨w.heap.size, 2, none⟩ (.int .i64 b)).setCell ⟨w.heap.size, 3, none⟩ (.int .i64 bt)).setCell ⟨w.heap.size, 4, none⟩ (.slice Ae es.length ce)) w.heap.size 58 2 (.slice Af y.ents.length cf) (entR y.ents)) := ((((Y3.out.other nq _ _).other nq _ _).other nq _ _).other nq _ _).other nq _ _
  have BP : Hid (Below w.heap.size w (((((W3.setCell ⟨w.heap.size, 0, none⟩ (.int .i64 t)).setCell ⟨w.heap.size, 1, none⟩ (.int .i64 v)).setCell ⟨w.heap.size, 2, none⟩ (.int .i64 b)).setCell ⟨w.heap.size, 3, none⟩ (.int .i64 bt)).setCell ⟨w.heap.size, 4, none⟩ (.slice Ae es.length ce))) := (((((B3.out.setCell (Nat.le_refl _) _).setCell (Nat.le_refl _) _).setCell (Nat.le_refl _) _).setCell (Nat.le_refl _) _).setCell (Nat.le_refl _) _)
  have PP : Hid (Blk (((((W3.setCell ⟨w.heap.size, 0, none⟩ (.int .i64 t)).setCell ⟨w.heap.size, 1, none⟩ (.int .i64 v)).setCell ⟨w.heap.size, 2, none⟩ (.int .i64 b)).setCell ⟨w.heap.size, 3, none⟩ (.int .i64 bt)).setCell ⟨w.heap.size, 4, none⟩ (.slice Ae es.length ce)) w.heap.size #[.int .i64 t, .int .i64 v, .int .i64 b, .int .i64 bt, .slice Ae es.length ce] 26) := p5
  have QP : Hid (Blk (((((W3.setCell ⟨w.heap.size, 0, none⟩ (.int .i64 t)).setCell ⟨w.heap.size, 1, none⟩ (.int .i64 v)).setCell ⟨w.heap.size, 2, none⟩ (.int .i64 b)).setCell ⟨w.heap.size, 3, none⟩ (.int .i64 bt)).setCell ⟨w.heap.size, 4, none⟩ (.slice Ae es.length ce)) (w.heap.size + 1) #[.int .i64 0, .int .i64 0, .int .i64 0, .int .i64 0, .slice none 0 0] 26) := q0
  clear p0 p1 p2 p3 p4 p5 np nq q0
  refine until_one 4 (by rfl) (by kernel_rfl) (fun K hK => ?_)
  go_simp
  refine hK.out _ _ (fun h => by cases h) ?_
  clear hK K
  try simp only [Act.put, setIfInBounds_toArray, set_cons_zero, set_cons_succ]
  clear yp0 fp0 yp1 fp1 yp2 fp2 yp3 fp3 yp4 fp4
  generalize ((((W3.setCell ⟨w.heap.size, 0, none⟩ (.int .i64 t)).setCell ⟨w.heap.size, 1, none⟩ (.int .i64 v)).setCell ⟨w.heap.size, 2, none⟩ (.int .i64 b)).setCell ⟨w.heap.size, 3, none⟩ (.int .i64 bt)).setCell ⟨w.heap.size, 4, none⟩ (.slice Ae es.length ce) = W4 at *
  have q0 := QP.out
  have q1 := q0.set 0 (.int .i64 y.term)
  have yq0 := q0.cell 0 _ rfl
  have fq0 := q0.free 0
  have q2 := q1.set 1 (.int .i64 y.vote)
  have yq1 := q1.cell 1 _ rfl
  have fq1 := q1.free 1
  have q3 := q2.set 2 (.int .i64 y.base)
  have yq2 := q2.cell 2 _ rfl
  have fq2 := q2.free 2
  have q4 := q3.set 3 (.int .i64 y.bterm)
  have yq3 := q3.cell 3 _ rfl
  have fq3 := q3.free 3
  have q5 := q4.set 4 (.slice Af y.ents.length cf)
  have yq4 := q4.cell 4 _ rfl
  have fq4 := q4.free 4
  have nq := YP.out.notBlk q0 (by decide)
  have np := OP.out.notBlk q0 (by decide)
  have pF : Blk (((((W4.setCell ⟨w.heap.size + 1, 0, none⟩ (.int .i64 y.term)).setCell ⟨w.heap.size + 1, 1, none⟩ (.int .i64 y.vote)).setCell ⟨w.heap.size + 1, 2, none⟩ (.int .i64 y.base)).setCell ⟨w.heap.size + 1, 3, none⟩ (.int .i64 y.bterm)).setCell ⟨w.heap.size + 1, 4, none⟩ (.slice Af y.ents.length cf)) w.heap.size #[.int .i64 t, .int .i64 v, .int .i64 b, .int .i64 bt, .slice Ae es.length ce] 26 := ((((PP.out.other (show w.heap.size ≠ w.heap.size + 1 by omega) _ _).other (show w.heap.size ≠ w.heap.size + 1 by omega) _ _).other (show w.heap.size ≠ w.heap.size + 1 by omega) _ _).other (show w.heap.size ≠ w.heap.size + 1 by omega) _ _).other (show w.heap.size ≠ w.heap.size + 1 by omega) _ _
  have qF : Blk (((((W4.setCell ⟨w.heap.size + 1, 0, none⟩ (.int .i64 y.term)).setCell ⟨w.heap.size + 1, 1, none⟩ (.int .i64 y.vote)).setCell ⟨w.heap.size + 1, 2, none⟩ (.int .i64 y.base)).setCell ⟨w.heap.size + 1, 3, none⟩ (.int .i64 y.bterm)).setCell ⟨w.heap.size + 1, 4, none⟩ (.slice Af y.ents.length cf)) (w.heap.size + 1) #[.int .i64 y.term, .int .i64 y.vote, .int .i64 y.base, .int .i64 y.bterm, .slice Af y.ents.length cf] 26 := q5
  have OF : Hid (Owns (((((W4.setCell ⟨w.heap.size + 1, 0, none⟩ (.int .i64 y.term)).setCell ⟨w.heap.size + 1, 1, none⟩ (.int .i64 y.vote)).setCell ⟨w.heap.size + 1, 2, none⟩ (.int .i64 y.base)).setCell ⟨w.heap.size + 1, 3, none⟩ (.int .i64 y.bterm)).setCell ⟨w.heap.size + 1, 4, none⟩ (.slice Af y.ents.length cf)) w.heap.size 58 2 (.slice Ae es.length ce) (entR es)) := ((((OP.out.other np _ _).other np _ _).other np _ _).other np _ _).other np _ _
  have YF : Hid (Owns (((((W4.setCell ⟨w.heap.size + 1, 0, none⟩ (.int .i64 y.term)).setCell ⟨w.heap.size + 1, 1, none⟩ (.int .i64 y.vote)).setCell ⟨w.heap.size + 1, 2, none⟩ (.int .i64 y.base)).setCell ⟨w.heap.size + 1, 3, none⟩ (.int .i64 y.bterm)).setCell ⟨w.heap.size + 1, 4, none⟩ (.slice Af y.ents.length cf)) w.heap.size 58 2 (.slice Af y.ents.length cf) (entR y.ents)) := ((((YP.out.other nq _ _).other nq _ _).other nq _ _).other nq _ _).other nq _ _
  have BF : Hid (Below w.heap.size w (((((W4.setCell ⟨w.heap.size + 1, 0, none⟩ (.int .i64 y.term)).setCell ⟨w.heap.size + 1, 1, none⟩ (.int .i64 y.vote)).setCell ⟨w.heap.size + 1, 2, none⟩ (.int .i64 y.base)).setCell ⟨w.heap.size + 1, 3, none⟩ (.int .i64 y.bterm)).setCell ⟨w.heap.size + 1, 4, none⟩ (.slice Af y.ents.length cf))) := (((((BP.out.setCell (Nat.le_succ _) _).setCell (Nat.le_succ _) _).setCell (Nat.le_succ _) _).setCell (Nat.le_succ _) _).setCell (Nat.le_succ _) _)
  have m0 := pF.cell 0 (.int .i64 t) rfl
  have n0 := qF.cell 0 (.int .i64 y.term) rfl
  have m1 := pF.cell 1 (.int .i64 v) rfl
  have n1 := qF.cell 1 (.int .i64 y.vote) rfl
  have m2 := pF.cell 2 (.int .i64 b) rfl
  have n2 := qF.cell 2 (.int .i64 y.base) rfl
  have m3 := pF.cell 3 (.int .i64 bt) rfl
  have n3 := qF.cell 3 (.int .i64 y.bterm) rfl
  have m4 := pF.cell 4 (.slice Ae es.length ce) rfl
  have n4 := qF.cell 4 (.slice Af y.ents.length cf) rfl
  clear q0 q1 q2 q3 q4 q5 np nq pF qF
  refine until_one 5 (by rfl) (by kernel_rfl) (fun K hK => ?_)
  go_simp
  refine hK.out _ _ (fun h => by cases h) ?_
  clear hK K
  try simp only [Act.put, setIfInBounds_toArray, set_cons_zero, set_cons_succ]
  refine until_done (by kernel_rfl) ?_ _
  go_wp2_with fail
  exact bodyPost_ret (v := .tuple #[.agg #[.int .i64 t, .int .i64 v, .int .i64 b, .int .i64 bt, .slice Ae es.length ce], .agg #[.int .i64 y.term, .int .i64 y.vote, .int .i64 y.base, .int .i64 y.bterm, .slice Af y.ents.length cf]]) (by simp [results, Try.f5, go_sem, m0, n0, m1, n1, m2, n2, m3, n3, m4, n4]) rfl ⟨⟨_, _, ⟨t, v, b, bt, es⟩, y, rfl, ⟨_, rfl, OF.out⟩, ⟨_, rfl, YF.out⟩, ⟨HN.out.1, HN.out.2.1⟩, HY.out⟩, BF.out⟩
end Go.Proofs.Ytfmannphobjgpaa
namespace Go.Proofs.Ytfmannphobjgpaa
set_option linter.unusedVariables false
section
variable {P : Program} {Q : Exit → Act → World → Prop} {md : Region.Mode} {S : World → Prop} {T : Nat → Bool}
theorem tF {l : List Oper} (i : Nat) {oi : Oper} {rest : List Oper} {v : Value} {fuel : Nat} {listed : Array Bool} {a b : Act} {w : World} (hS : S w) (h : wpUntil P md l.toArray Q S T fuel (listed.setIfInBounds i true) b w) (hd : l.drop i = oi :: rest := by rfl) (hB : takeB md l.toArray T listed i = true := by kernel_rfl) (hw : Region.wanted oi (yielded l.toArray a.tmps) = true := by rfl) (hy : ∀ w, S w → (execOp a.eval oi).run P w = .ok (.value v) w := by intro w hSw; (try dsimp only at hSw); go_simp; try with_reducible rfl) (hb : a.put oi.dst v = b := by (try simp only [Act.put, setIfInBounds_toArray, set_cons_zero, set_cons_succ]); exact rfl) (hQ : ∀ c a w, Q (.panic c) (a.put oi.dst v) w → Q (.panic c) a w := by exact fun _ _ _ h => h) : wpUntil P md l.toArray Q S T (fuel + 1) listed a w := until_take i hd hB hQ hw hy hS (hb ▸ h)
theorem pF {l : List Oper} (i : Nat) {oi : Oper} {rest : List Oper} {v : Value} {fuel : Nat} {listed : Array Bool} {a b : Act} {w : World} (h : wpUntil P md l.toArray Q S T fuel (listed.setIfInBounds i true) b w) (hd : l.drop i = oi :: rest := by rfl) (hB : pureB md l.toArray listed i = true := by kernel_rfl) (hw : Region.wanted oi (yielded l.toArray a.tmps) = true := by rfl) (hy : ∀ w, (execOp a.eval oi).run P w = .ok (.value v) w := by intro w; go_simp; try with_reducible rfl) (hb : a.put oi.dst v = b := by (try simp only [Act.put, setIfInBounds_toArray, set_cons_zero, set_cons_succ]); exact rfl) (hQ : ∀ c a w, Q (.panic c) (a.put oi.dst v) w → Q (.panic c) a w := by exact fun _ _ _ h => h) : wpUntil P md l.toArray Q S T (fuel + 1) listed a w := until_pure i hd hB hQ hw hy (hb ▸ h)
end
end Go.Proofs.Ytfmannphobjgpaa
namespace Go.Proofs.Ytfmannphobjgpaa
open Go.ChangeShapes Go.WideShapes Go.ChangeAt Go.RowKit Go.PlainAid
set_option linter.unusedVariables false
set_option maxHeartbeats 400000 in
theorem firstV (A : Option Addr) (m c k : Nat) (w : World) (h : k ≤ m) (hc : m ≤ c) : Calls Try.prog 43 #[.slice A m c, .int .i64 (k : Int)] w fun e w' => e = .returned (if k = 0 then .slice none 0 0 else .slice A k c) ∧ w = w' := by
 by_cases h0 : k = 0
 ·subst h0
  rw [if_pos rfl]
  go_enter Try.func43, Try.ntmps43
  go_wp2
  go_ret
  exact ⟨rfl, rfl⟩
 ·rw [if_neg h0]
  have z : ((k : Int) == 0) = false := by simp only [beq_eq_false_iff_ne, ne_eq]; omega
  have i0 : (0 : Int) ≤ (k : Int) := by omega
  have i1 : (k : Int) ≤ (c : Int) := by omega
  have i2 : (k : Int) ≤ (m : Int) := by omega
  clear h h0 hc
  go_enter Try.func43, Try.ntmps43
  go_wp2
  go_ret
  exact ⟨rfl, rfl⟩
theorem Hid.mkC {p : Prop} (h : p) : Hid p := h
theorem cell_alloc_keepC {w : World} {p : Addr} {v : Value} (h : w.cell? p = some v) (o : Obj) : (w.alloc o).cell? p = some v := by
 have hl : p.block < w.heap.size := by
  rcases Nat.lt_or_ge p.block w.heap.size with h1 | h1
  ·exact h1
  ·simp [World.cell?, Array.getElem?_eq_none h1] at h
 exact (((Below.refl w.heap.size w).alloc (Nat.le_refl _) o).cell hl).trans h
theorem ent_cellsC (t : Int) (d : ByteArray) : ∀ u ∈ ([.int .i64 t, .string d] : List Value), u.oneCell' = true := by
 intro u hu
 simp only [List.mem_cons, List.not_mem_nil, or_false] at hu
 rcases hu with rfl | rfl <;> rfl
set_option maxRecDepth 20000 in
set_option maxHeartbeats 8000000 in
theorem copyEntsI (l : List Ent) (v : Value) (w : World) (B : Nat) (hv : Lies w B 2 v (entR l)) (hn : l.length ≤ 1048576) (hd : ∀ y ∈ l, y.data.size ≤ 1048576) (hB : B ≤ w.heap.size) :
  Calls Try.prog 44 #[v] w fun e w' => (∃ u, e = .returned u ∧ Owns w' w.heap.size 58 2 u (entR l)) ∧ Below w.heap.size w w' := by
 obtain ⟨A, cap, rfl, hlk⟩ := ent_look hv
 have HL := Hid.mkC hlk
 have HB : Hid (B ≤ w.heap.size) := hB
 have HD : Hid (∀ i, i < l.length → (l.getD i default).data.size ≤ 1048576) := fun i hi => hd _ (getD_mem l i hi)
 have HT : Hid (∀ i, i < l.length → entR (l.take (i + 1)) = entR (l.take i) ++ [entC (l.getD i default)]) := fun i hi => entR_snoc l i hi
 have HTA : Hid (l.take l.length = l) := List.take_length
 have HLN : Hid (∀ i, (entR (l.take i)).length ≤ 2097152) := fun i => by rw [entR_length, List.length_take]; omega
 clear hv hlk hB hd
 generalize hN : l.length = n at *
 clear hN
 have qn : (n : Int) ≤ 1048576 := by omega
 go_enter Try.func44, Try.ntmps44
 go_wp2_with fail
 go_loopw [3, 8] (fun v3 v8 wr => ∃ i : Nat, i ≤ n ∧ v8 = .int .i64 (i : Int) ∧ Owns wr w.heap.size 58 2 v3 (entR (l.take i)) ∧ Below w.heap.size w wr) (fun _ v _ => n - (intOf v).toNat)
 case atStart => exact ⟨0, Nat.zero_le _, rfl, Owns.nil _ _ _ _, Below.refl _ _⟩
 case round =>
  obtain ⟨i, hi, rfl, ho, hd⟩ := hrel
  obtain ⟨Ae, me, ce, rfl⟩ := ho.shape
  have O3 := Hid.mkC ho
  have D3 := Hid.mkC hd
  clear ho hd
  by_cases hlt : i < n
  ·have q4 : (i : Int) < (n : Int) := by omega
   obtain ⟨g, off, rfl, hg, e0, e1⟩ := HL.out i hlt
   have hgw : g < w.heap.size := Nat.lt_of_lt_of_le hg HB.out
   rw [← D3.out.cell (p := ⟨_, _, none⟩) hgw] at e0 e1
   have hds := HD.out i hlt
   have HTi : Hid (entR (l.take (i + 1)) = entR (l.take i) ++ [entC (l.getD i default)]) := HT.out i hlt
   have HLi : Hid ((entR (l.take i)).length ≤ 2097152) := HLN.out i
   generalize l.getD i default = y at *
   obtain ⟨yt, yd⟩ := y
   simp only at e0 e1 hds
   have cC := fun wx => clone yd wx (by omega)
   have al := (Below.refl wr.heap.size wr).alloc (Nat.le_refl _) (.cells #[.int .i64 yt, .string yd] 58)
   have KE := Hid.mkC (Blk.new wr #[.int .i64 yt, .string yd] 58)
   have D4 : Hid (Below w.heap.size w (wr.alloc (.cells #[.int .i64 yt, .string yd] 58))) := D3.out.trans (al.mono D3.out.size)
   have O4 := Hid.mkC (O3.out.on al)
   clear al hds hgw hg
   go_wp2_with fail
   clear e0 e1 O3 D3
   generalize wr.heap.size = ge at *
   generalize wr.alloc (.cells #[.int .i64 yt, .string yd] 58) = Z at *
   have HS1 : Hid (∀ wx, Below Z.heap.size Z wx → wx.cell? ⟨ge, 0, none⟩ = some (.int .i64 yt) ∧ wx.cell? ⟨ge, 1, none⟩ = some (.string yd)) := fun wx hx => ⟨(KE.out.on hx KE.out.lt).cell 0 _ rfl, (KE.out.on hx KE.out.lt).cell 1 _ rfl⟩
   refine wp_region_until (fun w' => w'.cell? ⟨ge, 0, none⟩ = some (.int .i64 yt) ∧ w'.cell? ⟨ge, 1, none⟩ = some (.string yd)) (fun i => i == 8) 10 (by rfl) (by kernel_rfl) ?_
   have V0 : Hid (Below Z.heap.size Z Z.drew) := (Below.refl _ _).drew
   generalize Z.drew = Y0 at *
   refine tF 0 (HS1.out _ V0.out) ?_
   refine tF 1 (HS1.out _ V0.out) ?_
   refine tF 2 (HS1.out _ V0.out) ?_
   refine tF 3 (HS1.out _ V0.out) ?_
   refine tF 4 (HS1.out _ V0.out) ?_
   refine until_one 5 (by rfl) (by kernel_rfl) (fun K hK => ?_)
   go_simp
   refine (cC Y0).mono ?_
   rintro e Y1 ⟨rfl, hb⟩
   have V1 : Hid (Below Z.heap.size Z Y1) := V0.out.trans (hb.mono V0.out.size)
   clear hb V0 cC
   refine hK.out _ _ (fun _ _ => HS1.out _ V1.out) ?_
   clear hK K
   try simp only [Act.put, setIfInBounds_toArray, set_cons_zero, set_cons_succ]
   refine pF 6 ?_
   have O5 := Hid.mkC (O4.out.on V1.out)
   have D5 : Hid (Below w.heap.size w Y1) := D4.out.trans (V1.out.mono D4.out.size)
   obtain ⟨nA, nm, nc, w5, r5, hO5, hb5, hk5, -⟩ := run_append_row (P := Try.prog) Y1 24 24 58 (.agg #[.int .i64 0, .string ⟨#[]⟩]) 2 24 Try.underlying24 Try.infoEnt rfl (by omega) w.heap.size (.slice Ae me ce) (entR (l.take i)) O5.out [.int .i64 yt, .string yd] rfl (ent_cellsC _ _) HLi.out (by omega) D5.out.size
   refine until_one 7 (by rfl) (by kernel_rfl) (fun K hK => ?_)
   go_simp
   refine hK.out _ _ (fun _ h => ⟨cell_alloc_keepC h.1 _, cell_alloc_keepC h.2 _⟩) ?_
   clear hK K
   try simp only [Act.put, setIfInBounds_toArray, set_cons_zero, set_cons_succ]
   refine until_one 8 (by rfl) (by kernel_rfl) (fun K hK => ?_)
   refine step_append_run (by rfl) (.tmp 12) (.tmp 19) 24 (by rfl) _ _ _ _ (by rfl) (by rfl) r5 ?_
   have O6 : Hid (Owns w5 w.heap.size 58 2 (.slice nA nm nc) (entR (l.take (i + 1)))) := by unfold Hid; rw [HTi.out]; exact hO5
   have D6 : Hid (Below w.heap.size w w5) := D5.out.trans hb5
   clear hO5 hb5 hk5 r5 O5 D5 O4 D4 V1 KE HS1
   refine hK.out _ _ (fun h => by cases h) ?_
   clear hK K
   try simp only [Act.put, setIfInBounds_toArray, set_cons_zero, set_cons_succ]
   refine pF 9 ?_
   refine until_done (by kernel_rfl) ?_ _
   try go_wp2_with fail
   go_roundw
   case rel => exact ⟨i + 1, by omega, by go_num, O6.out, D6.out⟩
   case measure => simp [intOf]; omega
  ·obtain rfl : i = n := by omega
   rw [HTA.out] at O3
   go_wp2_with fail
   go_ret
   exact ⟨⟨_, rfl, O3.out⟩, D3.out⟩
set_option maxRecDepth 20000 in
set_option maxHeartbeats 4000000 in
theorem copyI (x : Wl) (v : Value) (w : World) (B : Nat) (hv : WalV w B v x) (hn : x.ents.length ≤ 1048576) (hdd : ∀ e ∈ x.ents, e.data.size ≤ 1048576) (hB : B ≤ w.heap.size) :
  Calls Try.prog 24 #[v] w fun e w' => ∃ u, e = .returned u ∧ WalO w' w.heap.size u x ∧ Below w.heap.size w w' := by
 obtain ⟨u, rfl, hl⟩ := hv
 obtain ⟨A, cap, rfl, -⟩ := ent_look hl
 have HLI : Hid (Lies w B 2 (.slice A x.ents.length cap) (entR x.ents)) := hl
 have HB : Hid (B ≤ w.heap.size) := hB
 have L1 : Hid (x.ents.length ≤ 1048576) := hn
 have HDD : Hid (∀ e ∈ x.ents, e.data.size ≤ 1048576) := hdd
 clear hl hB hn hdd
 go_enter Try.func24, Try.ntmps24
 go_wp2_with fail
 have hb0 : Below w.heap.size w ((w.alloc (.cells #[.int .i64 x.term, .int .i64 x.vote, .int .i64 x.base, .int .i64 x.bterm, .slice A x.ents.length cap] 26)).alloc (.cells #[.int .i64 0, .int .i64 0, .int .i64 0, .int .i64 0, .slice none 0 0] 26)) := ((Below.refl _ w).alloc (Nat.le_refl _) _).alloc (by simp) _
 have bA := (Blk.new w #[.int .i64 x.term, .int .i64 x.vote, .int .i64 x.base, .int .i64 x.bterm, .slice A x.ents.length cap] 26).alloc (.cells #[.int .i64 0, .int .i64 0, .int .i64 0, .int .i64 0, .slice none 0 0] 26)
 have bR := Blk.new (w.alloc (.cells #[.int .i64 x.term, .int .i64 x.vote, .int .i64 x.base, .int .i64 x.bterm, .slice A x.ents.length cap] 26)) #[.int .i64 0, .int .i64 0, .int .i64 0, .int .i64 0, .slice none 0 0] 26
 have hsz : ((w.alloc (.cells #[.int .i64 x.term, .int .i64 x.vote, .int .i64 x.base, .int .i64 x.bterm, .slice A x.ents.length cap] 26)).alloc (.cells #[.int .i64 0, .int .i64 0, .int .i64 0, .int .i64 0, .slice none 0 0] 26)).heap.size = w.heap.size + 1 + 1 := by simp
 simp only [World.size_alloc] at bR
 generalize (w.alloc (.cells #[.int .i64 x.term, .int .i64 x.vote, .int .i64 x.base, .int .i64 x.bterm, .slice A x.ents.length cap] 26)).alloc (.cells #[.int .i64 0, .int .i64 0, .int .i64 0, .int .i64 0, .slice none 0 0] 26) = W at *
 have B0 : Hid (Below w.heap.size w W) := hb0
 have KA : Hid (Blk W w.heap.size #[.int .i64 x.term, .int .i64 x.vote, .int .i64 x.base, .int .i64 x.bterm, .slice A x.ents.length cap] 26) := bA
 have KR : Hid (Blk W (w.heap.size + 1) #[.int .i64 0, .int .i64 0, .int .i64 0, .int .i64 0, .slice none 0 0] 26) := bR
 have Z0 : Hid (W.heap.size = w.heap.size + 1 + 1) := hsz
 clear hb0 bA bR hsz
 have c := copyEntsI x.ents (.slice A x.ents.length cap) W B (HLI.out.on (B0.out.mono HB.out)) L1.out HDD.out (by have := Z0.out; have := HB.out; omega)
 have a4 := KA.out.cell 4 (.slice A x.ents.length cap) rfl
 try go_wp2_with fail
 refine c.mono ?_
 rintro e wr ⟨⟨u, rfl, ho⟩, hb1⟩
 clear c a4
 obtain ⟨sA, sm, sc, rfl⟩ := ho.shape
 rw [Z0.out] at ho hb1
 have hszr := hb1.size
 rw [Z0.out] at hszr
 have kA := KA.out.on hb1 (by omega)
 have kR := KR.out.on hb1 (by omega)
 have B1 : Hid (Below w.heap.size w wr) := B0.out.trans (hb1.mono (by omega))
 have O1 : Hid (Owns wr (w.heap.size + 1 + 1) 58 2 (.slice sA sm sc) (entR x.ents)) := ho
 clear ho hb1
 have e0 := kA.cell 0 (.int .i64 x.term) rfl
 have f0 := kA.free 0
 have e1 := kA.cell 1 (.int .i64 x.vote) rfl
 have f1 := kA.free 1
 have e2 := kA.cell 2 (.int .i64 x.base) rfl
 have f2 := kA.free 2
 have e3 := kA.cell 3 (.int .i64 x.bterm) rfl
 have f3 := kA.free 3
 have e4 := kA.cell 4 (.slice A x.ents.length cap) rfl
 have f4 := kA.free 4
 have r0 := kR.cell 0 (.int .i64 0) rfl
 have g0 := kR.free 0
 have r1 := kR.cell 1 (.int .i64 0) rfl
 have g1 := kR.free 1
 have r2 := kR.cell 2 (.int .i64 0) rfl
 have g2 := kR.free 2
 have r3 := kR.cell 3 (.int .i64 0) rfl
 have g3 := kR.free 3
 have r4 := kR.cell 4 (.slice none 0 0) rfl
 have g4 := kR.free 4
 have KR1 : Hid (Blk wr (w.heap.size + 1) #[.int .i64 0, .int .i64 0, .int .i64 0, .int .i64 0, .slice none 0 0] 26) := kR
 clear kA kR
 go_wp2_with fail
 have hF := (((((KR1.out.other (show w.heap.size + 1 ≠ w.heap.size by omega) 4 (.slice sA sm sc)).set 0 (.int .i64 x.term)).set 1 (.int .i64 x.vote)).set 2 (.int .i64 x.base)).set 3 (.int .i64 x.bterm)).set 4 (.slice sA sm sc)
 have OF := (((((O1.out.other (O1.out.below (show w.heap.size < _ by omega)) 4 (.slice sA sm sc)).other (O1.out.below (show w.heap.size + 1 < _ by omega)) 0 (.int .i64 x.term)).other (O1.out.below (show w.heap.size + 1 < _ by omega)) 1 (.int .i64 x.vote)).other (O1.out.below (show w.heap.size + 1 < _ by omega)) 2 (.int .i64 x.base)).other (O1.out.below (show w.heap.size + 1 < _ by omega)) 3 (.int .i64 x.bterm)).other (O1.out.below (show w.heap.size + 1 < _ by omega)) 4 (.slice sA sm sc)
 have FB := (((((B1.out.setCell (Nat.le_refl _) (.slice sA sm sc) (p := ⟨_, 4, none⟩)).setCell (show w.heap.size ≤ w.heap.size + 1 by omega) (.int .i64 x.term) (p := ⟨_, 0, none⟩)).setCell (show w.heap.size ≤ w.heap.size + 1 by omega) (.int .i64 x.vote) (p := ⟨_, 1, none⟩)).setCell (show w.heap.size ≤ w.heap.size + 1 by omega) (.int .i64 x.base) (p := ⟨_, 2, none⟩)).setCell (show w.heap.size ≤ w.heap.size + 1 by omega) (.int .i64 x.bterm) (p := ⟨_, 3, none⟩)).setCell (show w.heap.size ≤ w.heap.size + 1 by omega) (.slice sA sm sc) (p := ⟨_, 4, none⟩)
 clear e0 f0 e1 f1 e2 f2 e3 f3 e4 f4 r0 g0 r1 g1 r2 g2 r3 g3 r4 g4
 generalize (((((wr.setCell ⟨w.heap.size, 4, none⟩ (.slice sA sm sc)).setCell ⟨w.heap.size + 1, 0, none⟩ (.int .i64 x.term)).setCell ⟨w.heap.size + 1, 1, none⟩ (.int .i64 x.vote)).setCell ⟨w.heap.size + 1, 2, none⟩ (.int .i64 x.base)).setCell ⟨w.heap.size + 1, 3, none⟩ (.int .i64 x.bterm)).setCell ⟨w.heap.size + 1, 4, none⟩ (.slice sA sm sc) = WF at *
 have hG : Blk WF (w.heap.size + 1) #[.int .i64 x.term, .int .i64 x.vote, .int .i64 x.base, .int .i64 x.bterm, .slice sA sm sc] 26 := hF
 have mm0 := hG.cell 0 (.int .i64 x.term) rfl
 have mm1 := hG.cell 1 (.int .i64 x.vote) rfl
 have mm2 := hG.cell 2 (.int .i64 x.base) rfl
 have mm3 := hG.cell 3 (.int .i64 x.bterm) rfl
 have mm4 := hG.cell 4 (.slice sA sm sc) rfl
 exact bodyPost_ret (v := .agg #[.int .i64 x.term, .int .i64 x.vote, .int .i64 x.base, .int .i64 x.bterm, .slice sA sm sc]) (by simp [results, go_sem, mm0, mm1, mm2, mm3, mm4]) rfl ⟨_, rfl, ⟨_, rfl, OF.mono (by omega)⟩, FB⟩
end Go.Proofs.Ytfmannphobjgpaa
