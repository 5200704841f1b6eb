/- RpBeg RpCut RpImpl LawWalBack -/
import Derived.Test.YtgillglkmnocaaaDoorRows
import Derived.Test.YtgillglkmnocaaaDoorQw5
import Derived.Deep.Slices
import Derived.WalkKit
import Derived.ProofKit
import Derived.Test.YtgillglkmnocaaaDoorQw7
import Derived.Test.YtgillglkmnocaaaDoorQw2
import Derived.Test.YtgillglkmnocaaaDoorQw3
import Derived.Deep.RegionHeld3
import Derived.Test.YtgillglkmnocaaaDoorQw6
import Derived.Test.YtgillglkmnocaaaDoorQw9
import Derived.Laws.StructEq
import Derived.Laws.DeepStrings4
import Derived.OpenShut
import Derived.Below
import Derived.WalkSmall
import Derived.BigQuiet
import Derived.Deep.QuietTactic
import Derived.Deep.RegionWith
import Derived.Handy
open List (setIfInBounds_toArray set_cons_zero set_cons_succ)
namespace Go.Proofs.YtgillglkmnocaaaDoor
open Go.ChangeShapes Go.WideShapes Go.ChangeAt Go.RowKit Go.PlainAid
set_option linter.unusedVariables false
set_option maxHeartbeats 1000000 in
theorem begun_no (kv : Value) (w : World) (ta : ∀ wx : World, (Instr.typeAssert kv 47 38 true).run Tryd.prog wx = .ok (.tuple #[.agg #[.int .i64 0, .int .i64 0], .bool false]) wx) :
  Calls Tryd.prog 22 #[kv] w fun e w' => e = .returned (.tuple #[.agg #[.int .i64 0, .int .i64 0, .int .i64 0, .int .i64 0, .slice none 0 0], .bool false]) ∧ Below w.heap.size w w' := by
 go_enter Tryd.func22, Tryd.ntmps22
 go_wp2_with fail
 exact bodyPost_ret (v := .tuple #[.agg #[.int .i64 0, .int .i64 0, .int .i64 0, .int .i64 0, .slice none 0 0], .bool false]) (by simp [results, go_sem]) rfl ⟨rfl, (Below.refl _ w).alloc (Nat.le_refl _) _⟩
set_option maxHeartbeats 1000000 in
theorem begun_yes (i t : Int) (w : World) :
  Calls Tryd.prog 22 #[.iface 38 (.agg #[.int .i64 i, .int .i64 t])] w fun e w' => e = .returned (.tuple #[.agg #[.int .i64 t, .int .i64 (-1), .int .i64 i, .int .i64 t, .slice none 0 0], .bool true]) ∧ Below w.heap.size w w' := by
 have ta : ∀ wx : World, (Instr.typeAssert (.iface 38 (.agg #[.int .i64 i, .int .i64 t])) 47 38 true).run Tryd.prog wx = .ok (.tuple #[.agg #[.int .i64 i, .int .i64 t], .bool true]) wx := fun wx => by kernel_rfl
 go_enter Tryd.func22, Tryd.ntmps22
 go_wp2_with fail
 exact bodyPost_ret (v := .tuple #[.agg #[.int .i64 t, .int .i64 (-1), .int .i64 i, .int .i64 t, .slice none 0 0], .bool true]) (by simp [results, go_sem]) rfl ⟨rfl, ((Below.refl _ w).alloc (Nat.le_refl _) _).alloc (by simp) _⟩
theorem begunV (q : Rcd) (w : World) : Calls Tryd.prog 22 #[recV q] w fun e w' => e = .returned (if recOk q = true ∧ q.kind = 4 then .tuple #[.agg #[.int .i64 q.term, .int .i64 (-1), .int .i64 q.index, .int .i64 q.term, .slice none 0 0], .bool true] else .tuple #[.agg #[.int .i64 0, .int .i64 0, .int .i64 0, .int .i64 0, .slice none 0 0], .bool false]) ∧ Below w.heap.size w w' := by
 cases ho : recOk q
 ·have h1 : recV q = .nilIface := by unfold recV; rw [ho]; rfl
  rw [h1, if_neg (by simp)]
  exact begun_no _ w (fun wx => by kernel_rfl)
 ·have h1 : recV q = kindV q := by unfold recV; rw [if_pos ho]
  rw [h1]
  obtain ⟨k, t, i, vo, d⟩ := q
  rcases rest0_of k t i vo d ho with ⟨rfl, _, _⟩ | ⟨rfl, _⟩ | ⟨rfl, _, _, _⟩ | ⟨rfl, _, _⟩
  ·rw [if_neg (by simp)]
   exact begun_no _ w (fun wx => by kernel_rfl)
  ·rw [if_neg (by simp)]
   exact begun_no _ w (fun wx => by kernel_rfl)
  ·rw [if_neg (by simp)]
   exact begun_no _ w (fun wx => by kernel_rfl)
  ·rw [if_pos ⟨rfl, rfl⟩]
   exact begun_yes i t w
end Go.Proofs.YtgillglkmnocaaaDoor
namespace Go.Proofs.YtgillglkmnocaaaDoor
open Go.ChangeShapes Go.WideShapes Go.ChangeAt Go.RowKit Go.PlainAid
set_option linter.unusedVariables false
theorem elem_strs : Tryd.prog.elem 62 = 9 := by kernel_rfl
theorem size_str : (Tryd.prog.info? 9).map (·.size) = some 1 := by kernel_rfl
theorem cut_strs (g n c : Nat) (hn : 1 ≤ n) (hc : n ≤ c) : ∃ A' c', (∀ wx, (Instr.sliceAt 62 (.slice (some ⟨g, 0, none⟩) n c) (some (.int .i64 1)) none none).run Tryd.prog wx = .ok (.slice A' (n - 1) c') wx) ∧ (1 < n → A' = some ⟨g, 1, none⟩) := by
 have hu : Tryd.prog.underlying 62 = some (.slice (Tryd.prog.elem 62)) := by rw [elem_strs]; exact Tryd.underlying62
 have hz := size_str
 cases hq : Tryd.prog.info? 9 with
 | none => rw [hq] at hz; simp at hz
 | some i =>
  rw [hq] at hz
  have hi : i.size = 1 := by simpa using hz
  refine ⟨if c = 1 then some ⟨g, 0, none⟩ else some ⟨g, 1, none⟩, c - 1, fun wx => ?_, fun h => if_neg (by omega)⟩
  rw [run_sliceAt_slice wx 62 _ _ _ _ hu, run_slice_l wx 62 (some ⟨g, 0, none⟩) n c hu .i64 1 (by omega) (by omega), elem_strs]
  by_cases h1 : c = 1
  ·simp [sizeOf, typeInfo, hq, hi, sliced, h1]
  ·simp [sizeOf, typeInfo, hq, hi, sliced, h1, Addr.add]
theorem Strs.room {w : World} {base n c : Nat} {A : Option Addr} {l : List ByteArray} (h : Strs w base (.slice A n c) l) : l.length ≤ c ∧ n = l.length := by
 rcases h.2 with ⟨e, h0⟩ | ⟨g, cap, cur, e, _, _, hcap, _⟩
 ·cases e
  omega
 ·cases e
  exact ⟨by omega, rfl⟩
end Go.Proofs.YtgillglkmnocaaaDoor
namespace Go.Proofs.YtgillglkmnocaaaDoor
open Go.ChangeShapes Go.WideShapes Go.ChangeAt Go.RowKit Go.PlainAid
set_option linter.unusedVariables false
theorem stp_no {x : Wl} {s : ByteArray} (h : (stp x s).2 = false) : (stp x s).1 = x := by
 unfold stp at h ⊢
 cases hr : rd s with
 | none => rfl
 | some q =>
  rw [hr] at h
  simp only at h ⊢
  split
  ·rename_i hf
   rw [if_pos hf] at h
   cases h
  ·rfl
theorem wok_in {x : Wl} (h : walOk x = true) : x.ents.length ≤ 60 ∧ 0 ≤ x.base ∧ x.base ≤ 100000 := by
 have w := wOk_of h
 have := w.s
 exact ⟨w.n, based0 w.b, by omega⟩
set_option maxRecDepth 20000 in
set_option maxHeartbeats 16000000 in
theorem implReplay (s : ByteArray) (w : World) (hs : s.size ≤ 1048576) (ht : SumTab w) (a0 a1 a2 : Addr) (he : Errs w a0 a1 a2) :
  Calls Tryd.prog 8 #[.string s] w fun e w' => ∃ K u, Ends s K ∧ e = .returned (.tuple #[u, .int .i64 ((rep (bods s K)).2.1 : Int), .bool (rep (bods s K)).2.2]) ∧ WalO w' w.heap.size u (rep (bods s K)).1 ∧ Below w.heap.size w w' := by
 have HS : Hid (s.size ≤ 1048576) := hs
 have b0 : Below w.heap.size w (w.alloc (.cells #[.int .i64 0, .int .i64 0, .int .i64 0, .int .i64 0, .slice none 0 0] 26)) := (Below.refl _ _).alloc (Nat.le_refl _) _
 have k0 := Blk.new w #[.int .i64 0, .int .i64 0, .int .i64 0, .int .i64 0, .slice none 0 0] 26
 have cF := impl_frames s (w.alloc (.cells #[.int .i64 0, .int .i64 0, .int .i64 0, .int .i64 0, .slice none 0 0] 26)) hs (ht.on b0) a0 a1 a2 (he.on b0)
 clear hs ht he
 go_enter Tryd.func8, Tryd.ntmps8
 go_wp2_with fail
 generalize w.alloc (.cells #[.int .i64 0, .int .i64 0, .int .i64 0, .int .i64 0, .slice none 0 0] 26) = W at *
 refine cF.mono ?_
 rintro e w1 ⟨K, v, hE, rfl, hS, hb1⟩
 have B1 : Hid (Below w.heap.size w w1) := b0.trans (hb1.mono b0.size)
 have R1 : Hid (Blk w1 w.heap.size #[.int .i64 0, .int .i64 0, .int .i64 0, .int .i64 0, .slice none 0 0] 26) := k0.on hb1 k0.lt
 have HE : Hid (Ends s K) := hE
 have hK := hE.1.pos_le
 obtain ⟨A, cap, rfl, hlk⟩ := strs_look hS
 have hroom := hS.room.1
 have HSZ : Hid (∀ x ∈ bods s K, x.size ≤ 1048576) := fun x hx => Nat.le_trans (bods_size s K x hx) HS.out
 rw [bods_length] at hlk hroom ⊢
 have HRM : Hid (K ≤ cap) := hroom
 have HL : Hid (∀ j, j < K → ∃ g, A = some ⟨g, 0, none⟩ ∧ g < w1.heap.size ∧ W.heap.size ≤ g ∧ w1.cell? ⟨g, j, none⟩ = some (.string ((bods s K).getD j default))) := hlk
 have HN : Hid ((bods s K).length = K) := bods_length s K
 have qK : (K : Int) ≤ 200000 := by have := HS.out; omega
 have RL : Hid (w.heap.size < w1.heap.size) := R1.out.lt
 clear hE hS hb1 hlk k0 b0 cF hK hroom
 generalize hbs : bods s K = bs at *
 have HBS : Hid (bods s K = bs) := hbs
 clear hbs
 by_cases h0 : K = 0
 ·subst h0
  obtain rfl : bs = [] := List.eq_nil_of_length_eq_zero HN.out
  have r0 := R1.out.cell 0 (.int .i64 0) rfl
  have f0 := R1.out.free 0
  have r1 := R1.out.cell 1 (.int .i64 0) rfl
  have f1 := R1.out.free 1
  have r2 := R1.out.cell 2 (.int .i64 0) rfl
  have f2 := R1.out.free 2
  have r3 := R1.out.cell 3 (.int .i64 0) rfl
  have f3 := R1.out.free 3
  have r4 := R1.out.cell 4 (.slice none 0 0) rfl
  have f4 := R1.out.free 4
  go_wp2_with fail
  have hF := (((((R1.out.set 0 (.int .i64 0)).set 1 (.int .i64 0)).set 2 (.int .i64 0)).set 3 (.int .i64 0)).set 4 (.slice none 0 0))
  have FB := (((((B1.out.setCell (Nat.le_refl _) (.int .i64 0) (p := ⟨w.heap.size, 0, none⟩)).setCell (Nat.le_refl _) (.int .i64 0) (p := ⟨w.heap.size, 1, none⟩)).setCell (Nat.le_refl _) (.int .i64 0) (p := ⟨w.heap.size, 2, none⟩)).setCell (Nat.le_refl _) (.int .i64 0) (p := ⟨w.heap.size, 3, none⟩)).setCell (Nat.le_refl _) (.slice none 0 0) (p := ⟨w.heap.size, 4, none⟩))
  generalize (((((w1.setCell ⟨w.heap.size, 0, none⟩ (.int .i64 0)).setCell ⟨w.heap.size, 1, none⟩ (.int .i64 0)).setCell ⟨w.heap.size, 2, none⟩ (.int .i64 0)).setCell ⟨w.heap.size, 3, none⟩ (.int .i64 0)).setCell ⟨w.heap.size, 4, none⟩ (.slice none 0 0)) = WF at *
  have hG : Blk WF w.heap.size #[.int .i64 0, .int .i64 0, .int .i64 0, .int .i64 0, .slice none 0 0] 26 := hF
  have mm0 := hG.cell 0 (.int .i64 0) rfl
  have mm1 := hG.cell 1 (.int .i64 0) rfl
  have mm2 := hG.cell 2 (.int .i64 0) rfl
  have mm3 := hG.cell 3 (.int .i64 0) rfl
  have mm4 := hG.cell 4 (.slice none 0 0) rfl
  first
   | exact bodyPost_ret (v := .tuple #[.agg #[.int .i64 0, .int .i64 0, .int .i64 0, .int .i64 0, .slice none 0 0], .int .i64 0, .bool false]) (by simp [results, go_sem, mm0, mm1, mm2, mm3, mm4]) rfl ⟨0, _, HE.out, rfl, ⟨_, rfl, Owns.nil _ _ _ _⟩, FB⟩
   | exact bodyPost_ret (v := .tuple #[.agg #[.int .i64 0, .int .i64 0, .int .i64 0, .int .i64 0, .slice none 0 0], .int .i64 0, .bool false]) (by simp [results, go_sem, mm0, mm1, mm2, mm3, mm4]) rfl ⟨0, HE.out, _, rfl, ⟨_, rfl, Owns.nil _ _ _ _⟩, FB⟩
 have q0 : ((K : Int) == 0) = false := by simpa using h0
 obtain ⟨b, bt, rfl⟩ : ∃ b bt, bs = b :: bt := by
  cases bs with
  | nil => exact absurd HN.out.symm h0
  | cons b bt => exact ⟨b, bt, rfl⟩
 obtain ⟨g, rfl, hg, hWg, hc0⟩ := HL.out 0 (by omega)
 have hb0 : b.size ≤ 1048576 := HSZ.out b (List.mem_cons_self ..)
 have G1 : Hid (g < w1.heap.size) := hg
 obtain ⟨q, hqd, hrd, cQ⟩ := readRecA b hb0
 have cB := fun wx => begunV q wx
 have hbeg := beg_rec hrd
 replace hc0 : w1.cell? ⟨g, 0, none⟩ = some (.string b) := hc0
 obtain ⟨A', c', hcut, hA'⟩ := cut_strs g K cap (by omega) HRM.out
 have HA' : Hid (1 < K → A' = some ⟨g, 1, none⟩) := hA'
 clear hg hWg hrd hA'
 by_cases hk : recOk q = true ∧ q.kind = 4
 ·rw [if_pos hk] at cB hbeg
  have HOW : Hid (OnWay (b :: bt) 1 (begW q) (8 + b.size)) := OnWay.begin hbeg hb0
  clear hk
  generalize recV q = rv at *
  go_wp2_with fail
  refine (cQ w1).mono ?_
  rintro e w2 ⟨rfl, hb2⟩
  go_wp2_with fail
  refine (cB w2).mono ?_
  rintro e w3 ⟨rfl, hb3⟩
  have C3 : Below w1.heap.size w1 w3 := hb2.trans (hb3.mono hb2.size)
  have KX := Blk.new w3 #[.int .i64 q.term, .int .i64 (-1), .int .i64 q.index, .int .i64 q.term, .slice none 0 0] 26
  have CX := C3.alloc C3.size (.cells #[.int .i64 q.term, .int .i64 (-1), .int .i64 q.index, .int .i64 q.term, .slice none 0 0] 26)
  have hcx : (w3.alloc (.cells #[.int .i64 q.term, .int .i64 (-1), .int .i64 q.index, .int .i64 q.term, .slice none 0 0] 26)).cell? ⟨g, 0, none⟩ = some (.string b) := by rw [CX.cell (p := ⟨_, _, none⟩) G1.out]; exact hc0
  go_wp2_with fail
  generalize w3.alloc (.cells #[.int .i64 q.term, .int .i64 (-1), .int .i64 q.index, .int .i64 q.term, .slice none 0 0] 26) = w4 at *
  have LX : Hid (w1.heap.size ≤ w3.heap.size) := C3.size
  have L4 : Hid (w1.heap.size ≤ w4.heap.size) := CX.size
  have LX4 : Hid (w3.heap.size < w4.heap.size) := KX.lt
  clear hb2 hb3 C3 hcx hc0 cQ cB
  generalize w3.heap.size = zx at *
  have st : Below w1.heap.size w1 w4 ∧ Blk w4 zx #[.int .i64 q.term, .int .i64 (-1), .int .i64 q.index, .int .i64 q.term, .slice none 0 0] 26 := ⟨CX, KX⟩
  clear CX KX
  go_loopw [8, 9, 40] (fun v8 v9 v40 wr => ∃ (k nn : Nat) (x : Wl) (A1 : Option Addr) (m1 c1 : Nat), k ≤ K - 1 ∧ v8 = .bool true ∧ v9 = .int .i64 (nn : Int) ∧ v40 = .int .i64 (k : Int) ∧ OnWay (b :: bt) (k + 1) x nn ∧ Below w1.heap.size w1 wr ∧ w4.heap.size ≤ wr.heap.size ∧ Blk wr zx #[.int .i64 x.term, .int .i64 x.vote, .int .i64 x.base, .int .i64 x.bterm, .slice A1 m1 c1] 26 ∧ Owns wr w4.heap.size 61 2 (.slice A1 m1 c1) (entR x.ents)) (fun _ _ i _ => K - (intOf i).toNat)
  case atStart => exact ⟨0, 8 + b.size, begW q, none, 0, 0, by omega, rfl, by go_num, rfl, HOW.out, st.1, Nat.le_refl _, st.2, Owns.nil _ _ _ _⟩
  case round =>
   obtain ⟨k, nn, x, A1, m1, c1, hin, rfl, rfl, rfl, hOW, hC, hZ, hX, hO⟩ := hrel
   have OW : Hid (OnWay (b :: bt) (k + 1) x nn) := hOW
   have CR : Hid (Below w1.heap.size w1 wr) := hC
   have ZR : Hid (w4.heap.size ≤ wr.heap.size) := hZ
   have XR : Hid (Blk wr zx #[.int .i64 x.term, .int .i64 x.vote, .int .i64 x.base, .int .i64 x.bterm, .slice A1 m1 c1] 26) := hX
   have OR : Hid (Owns wr w4.heap.size 61 2 (.slice A1 m1 c1) (entR x.ents)) := hO
   have hnl := hOW.le
   have qnn : (nn : Int) ≤ 209716800000 := by omega
   clear hOW hC hZ hX hO hnl st HOW
   by_cases hlt : k < K - 1
   ·have q4 : (k : Int) < ((K - 1 : Nat) : Int) := by omega
    have hAe := HA'.out (by omega)
    subst hAe
    obtain ⟨g', eg, hg', _, hc⟩ := HL.out (k + 1) (by omega)
    cases eg
    rw [← CR.out.cell (p := ⟨_, _, none⟩) G1.out, Nat.add_comm k 1] at hc
    have hsz : ((b :: bt).getD (k + 1) default).size ≤ 1048576 := HSZ.out _ (getD_mem (b :: bt) (k + 1) (by rw [HN.out]; omega))
    obtain ⟨p, hpd, hrp, cP⟩ := readRecA ((b :: bt).getD (k + 1) default) hsz
    have cS := fun wx hx hb => steppedV x p (.agg #[.int .i64 x.term, .int .i64 x.vote, .int .i64 x.base, .int .i64 x.bterm, .slice A1 m1 c1]) wx w4.heap.size hx (wok_in OW.out.ok).1 (wok_in OW.out.ok).2.1 (wok_in OW.out.ok).2.2 hb hpd
    rw [stepR_stp hrp x] at cS
    have HNX : Hid (∀ hf : (stp x ((b :: bt).getD (k + 1) default)).2 = true, OnWay (b :: bt) (k + 1 + 1) (stp x ((b :: bt).getD (k + 1) default)).1 (nn + (8 + ((b :: bt).getD (k + 1) default).size))) := fun hf => OW.out.next (by rw [HN.out]; omega) hsz hf
    have HST : Hid (∀ hf : (stp x ((b :: bt).getD (k + 1) default)).2 = false, rep (b :: bt) = ((stp x ((b :: bt).getD (k + 1) default)).1, nn, true)) := fun hf => by rw [stp_no hf]; exact OW.out.stop (by rw [HN.out]; omega) hf
    rw [Nat.add_comm k 1] at hsz cP cS HNX HST
    generalize (b :: bt).getD (1 + k) default = si at *
    generalize stp x si = sp at *
    obtain ⟨y, fit⟩ := sp
    simp only at cS HNX HST
    generalize recV p = rv at *
    clear hg' OW hrp hpd
    have S0 : Hid (wr.drew.cell? ⟨zx, 0, none⟩ = some (.int .i64 x.term) ∧ wr.drew.cell? ⟨zx, 1, none⟩ = some (.int .i64 x.vote) ∧ wr.drew.cell? ⟨zx, 2, none⟩ = some (.int .i64 x.base) ∧ wr.drew.cell? ⟨zx, 3, none⟩ = some (.int .i64 x.bterm) ∧ wr.drew.cell? ⟨zx, 4, none⟩ = some (.slice A1 m1 c1)) := ⟨XR.out.cell 0 _ rfl, XR.out.cell 1 _ rfl, XR.out.cell 2 _ rfl, XR.out.cell 3 _ rfl, XR.out.cell 4 _ rfl⟩
    go_wp2_with fail
    refine wp_region_until (fun w' => w'.cell? ⟨zx, 0, none⟩ = some (.int .i64 x.term) ∧ w'.cell? ⟨zx, 1, none⟩ = some (.int .i64 x.vote) ∧ w'.cell? ⟨zx, 2, none⟩ = some (.int .i64 x.base) ∧ w'.cell? ⟨zx, 3, none⟩ = some (.int .i64 x.bterm) ∧ w'.cell? ⟨zx, 4, none⟩ = some (.slice A1 m1 c1)) (fun i => i == 7 || i == 8) 9 (by rfl) (by kernel_rfl) ?_
    have CRX : Hid (Below w1.heap.size w1 wr.drew) := CR.out.drew
    have ZRX : Hid (w4.heap.size ≤ wr.drew.heap.size) := ZR.out
    have XRX : Hid (Blk wr.drew zx #[.int .i64 x.term, .int .i64 x.vote, .int .i64 x.base, .int .i64 x.bterm, .slice A1 m1 c1] 26) := XR.out
    have ORX : Hid (Owns wr.drew w4.heap.size 61 2 (.slice A1 m1 c1) (entR x.ents)) := OR.out.heap rfl
    clear hc
    generalize wr.drew = rgX at *
    refine until_take 0 (v := ?_) (by rfl) (by kernel_rfl) (by exact fun _ _ _ h => h) (by rfl) ?_ S0.out ?_
    rotate_left
    ·intro w hSw
     try dsimp only at hSw
     go_simp
     try with_reducible rfl
    try simp only [Act.put, setIfInBounds_toArray, set_cons_zero, set_cons_succ]
    refine until_pure 1 (v := ?_) (by rfl) (by kernel_rfl) (by exact fun _ _ _ h => h) (by rfl) ?_ ?_
    rotate_left
    ·intro w
     go_simp
     try with_reducible rfl
    try simp only [Act.put, setIfInBounds_toArray, set_cons_zero, set_cons_succ]
    refine until_one 2 (by rfl) (by kernel_rfl) (fun KC hK => ?_)
    go_simp
    refine (cP rgX).mono ?_
    rintro e w5 ⟨rfl, hb5⟩
    have C5 : Hid (Below w1.heap.size w1 w5) := CRX.out.trans (hb5.mono CRX.out.size)
    have Z5 : Hid (w4.heap.size ≤ w5.heap.size) := Nat.le_trans ZRX.out hb5.size
    have X5 : Hid (Blk w5 zx #[.int .i64 x.term, .int .i64 x.vote, .int .i64 x.base, .int .i64 x.bterm, .slice A1 m1 c1] 26) := XRX.out.on hb5 XRX.out.lt
    have O5 : Hid (Owns w5 w4.heap.size 61 2 (.slice A1 m1 c1) (entR x.ents)) := ORX.out.on hb5
    clear hb5 cP
    go_wp2_with fail
    refine hK.out _ _ (fun _ _ => ⟨X5.out.cell 0 _ rfl, X5.out.cell 1 _ rfl, X5.out.cell 2 _ rfl, X5.out.cell 3 _ rfl, X5.out.cell 4 _ rfl⟩) ?_
    clear hK KC
    try simp only [Act.put, setIfInBounds_toArray, set_cons_zero, set_cons_succ]
    refine until_one 3 (by rfl) (by kernel_rfl) (fun KC hK => ?_)
    go_simp
    refine (cS w5 ⟨_, rfl, O5.out⟩ Z5.out).mono ?_
    rintro e w6 ⟨u4, b4, rfl, ⟨hO4, hbe⟩, hb6⟩
    replace hbe := hbe.symm
    subst hbe
    obtain ⟨s4, rfl, o4⟩ := hO4
    obtain ⟨A2, m2, c2, rfl⟩ := o4.shape
    have C6 : Hid (Below w1.heap.size w1 w6) := C5.out.trans (hb6.mono L4.out)
    have Z6 : Hid (w4.heap.size ≤ w6.heap.size) := Nat.le_trans Z5.out hb6.size
    have X6 : Hid (Blk w6 zx #[.int .i64 x.term, .int .i64 x.vote, .int .i64 x.base, .int .i64 x.bterm, .slice A1 m1 c1] 26) := X5.out.on hb6 LX4.out
    have O6 : Hid (Owns w6 w4.heap.size 61 2 (.slice A2 m2 c2) (entR y.ents)) := o4
    clear hb6 cS o4
    go_wp2_with fail
    refine hK.out _ _ (fun _ _ => ⟨X6.out.cell 0 _ rfl, X6.out.cell 1 _ rfl, X6.out.cell 2 _ rfl, X6.out.cell 3 _ rfl, X6.out.cell 4 _ rfl⟩) ?_
    clear hK KC
    try simp only [Act.put, setIfInBounds_toArray, set_cons_zero, set_cons_succ]
    refine until_pure 4 (v := ?_) (by rfl) (by kernel_rfl) (by exact fun _ _ _ h => h) (by rfl) ?_ ?_
    rotate_left
    ·intro w
     go_simp
     try with_reducible rfl
    try simp only [Act.put, setIfInBounds_toArray, set_cons_zero, set_cons_succ]
    refine until_pure 5 (v := ?_) (by rfl) (by kernel_rfl) (by exact fun _ _ _ h => h) (by rfl) ?_ ?_
    rotate_left
    ·intro w
     go_simp
     try with_reducible rfl
    try simp only [Act.put, setIfInBounds_toArray, set_cons_zero, set_cons_succ]
    refine until_pure 6 (v := ?_) (by rfl) (by kernel_rfl) (by exact fun _ _ _ h => h) (by rfl) ?_ ?_
    rotate_left
    ·intro w
     go_simp
     try with_reducible rfl
    try simp only [Act.put, setIfInBounds_toArray, set_cons_zero, set_cons_succ]
    refine until_one 7 (by rfl) (by kernel_rfl) (fun KC hK => ?_)
    have x0 := X6.out.cell 0 (.int .i64 x.term) rfl
    have f0 := X6.out.free 0
    have x1 := X6.out.cell 1 (.int .i64 x.vote) rfl
    have f1 := X6.out.free 1
    have x2 := X6.out.cell 2 (.int .i64 x.base) rfl
    have f2 := X6.out.free 2
    have x3 := X6.out.cell 3 (.int .i64 x.bterm) rfl
    have f3 := X6.out.free 3
    have x4 := X6.out.cell 4 (.slice A1 m1 c1) rfl
    have f4 := X6.out.free 4
    go_simp
    have X7 := (((((X6.out.set 0 (.int .i64 y.term)).set 1 (.int .i64 y.vote)).set 2 (.int .i64 y.base)).set 3 (.int .i64 y.bterm)).set 4 (.slice A2 m2 c2))
    have O7 := (((((O6.out.other (O6.out.notBlk X6.out (by decide)) 0 (.int .i64 y.term)).other (O6.out.notBlk X6.out (by decide)) 1 (.int .i64 y.vote)).other (O6.out.notBlk X6.out (by decide)) 2 (.int .i64 y.base)).other (O6.out.notBlk X6.out (by decide)) 3 (.int .i64 y.bterm)).other (O6.out.notBlk X6.out (by decide)) 4 (.slice A2 m2 c2))
    have C7 := (((((C6.out.setCell LX.out (.int .i64 y.term) (p := ⟨zx, 0, none⟩)).setCell LX.out (.int .i64 y.vote) (p := ⟨zx, 1, none⟩)).setCell LX.out (.int .i64 y.base) (p := ⟨zx, 2, none⟩)).setCell LX.out (.int .i64 y.bterm) (p := ⟨zx, 3, none⟩)).setCell LX.out (.slice A2 m2 c2) (p := ⟨zx, 4, none⟩))
    have Z7 : w4.heap.size ≤ ((((((w6.setCell ⟨zx, 0, none⟩ (.int .i64 y.term)).setCell ⟨zx, 1, none⟩ (.int .i64 y.vote)).setCell ⟨zx, 2, none⟩ (.int .i64 y.base)).setCell ⟨zx, 3, none⟩ (.int .i64 y.bterm)).setCell ⟨zx, 4, none⟩ (.slice A2 m2 c2))).heap.size := by simpa using Z6.out
    clear x0 x1 x2 x3 x4 f0 f1 f2 f3 f4 X6 O6 C6 Z6
    generalize (((((w6.setCell ⟨zx, 0, none⟩ (.int .i64 y.term)).setCell ⟨zx, 1, none⟩ (.int .i64 y.vote)).setCell ⟨zx, 2, none⟩ (.int .i64 y.base)).setCell ⟨zx, 3, none⟩ (.int .i64 y.bterm)).setCell ⟨zx, 4, none⟩ (.slice A2 m2 c2)) = w7 at *
    replace X7 : Blk w7 zx #[.int .i64 y.term, .int .i64 y.vote, .int .i64 y.base, .int .i64 y.bterm, .slice A2 m2 c2] 26 := X7
    refine hK.out _ _ (fun h => by cases h) ?_
    clear hK KC S0
    try simp only [Act.put, setIfInBounds_toArray, set_cons_zero, set_cons_succ]
    refine until_pure 8 (v := ?_) (by rfl) (by kernel_rfl) (by exact fun _ _ _ h => h) (by rfl) ?_ ?_
    rotate_left
    ·intro w
     go_simp
     try with_reducible rfl
    try simp only [Act.put, setIfInBounds_toArray, set_cons_zero, set_cons_succ]
    refine until_done (by kernel_rfl) ?_ _
    cases fit with
    | false =>
     have hrep := HST.out rfl
     have BR := B1.out.trans (C7.mono B1.out.size)
     have RR := R1.out.on C7 RL.out
     have x0 := X7.cell 0 (.int .i64 y.term) rfl
     have x1 := X7.cell 1 (.int .i64 y.vote) rfl
     have x2 := X7.cell 2 (.int .i64 y.base) rfl
     have x3 := X7.cell 3 (.int .i64 y.bterm) rfl
     have x4 := X7.cell 4 (.slice A2 m2 c2) rfl
     have r0 := RR.cell 0 (.int .i64 0) rfl
     have f0 := RR.free 0
     have r1 := RR.cell 1 (.int .i64 0) rfl
     have f1 := RR.free 1
     have r2 := RR.cell 2 (.int .i64 0) rfl
     have f2 := RR.free 2
     have r3 := RR.cell 3 (.int .i64 0) rfl
     have f3 := RR.free 3
     have r4 := RR.cell 4 (.slice none 0 0) rfl
     have f4 := RR.free 4
     go_wp2_with fail
     have hF := (((((RR.set 0 (.int .i64 y.term)).set 1 (.int .i64 y.vote)).set 2 (.int .i64 y.base)).set 3 (.int .i64 y.bterm)).set 4 (.slice A2 m2 c2))
     have FB := (((((BR.setCell (Nat.le_refl _) (.int .i64 y.term) (p := ⟨w.heap.size, 0, none⟩)).setCell (Nat.le_refl _) (.int .i64 y.vote) (p := ⟨w.heap.size, 1, none⟩)).setCell (Nat.le_refl _) (.int .i64 y.base) (p := ⟨w.heap.size, 2, none⟩)).setCell (Nat.le_refl _) (.int .i64 y.bterm) (p := ⟨w.heap.size, 3, none⟩)).setCell (Nat.le_refl _) (.slice A2 m2 c2) (p := ⟨w.heap.size, 4, none⟩))
     have FO := (((((O7.other (O7.notBlk RR (by decide)) 0 (.int .i64 y.term)).other (O7.notBlk RR (by decide)) 1 (.int .i64 y.vote)).other (O7.notBlk RR (by decide)) 2 (.int .i64 y.base)).other (O7.notBlk RR (by decide)) 3 (.int .i64 y.bterm)).other (O7.notBlk RR (by decide)) 4 (.slice A2 m2 c2))
     generalize (((((w7.setCell ⟨w.heap.size, 0, none⟩ (.int .i64 y.term)).setCell ⟨w.heap.size, 1, none⟩ (.int .i64 y.vote)).setCell ⟨w.heap.size, 2, none⟩ (.int .i64 y.base)).setCell ⟨w.heap.size, 3, none⟩ (.int .i64 y.bterm)).setCell ⟨w.heap.size, 4, none⟩ (.slice A2 m2 c2)) = WF at *
     have hG : Blk WF w.heap.size #[.int .i64 y.term, .int .i64 y.vote, .int .i64 y.base, .int .i64 y.bterm, .slice A2 m2 c2] 26 := hF
     have mm0 := hG.cell 0 (.int .i64 y.term) rfl
     have mm1 := hG.cell 1 (.int .i64 y.vote) rfl
     have mm2 := hG.cell 2 (.int .i64 y.base) rfl
     have mm3 := hG.cell 3 (.int .i64 y.bterm) rfl
     have mm4 := hG.cell 4 (.slice A2 m2 c2) rfl
     first
      | exact bodyPost_ret (v := .tuple #[.agg #[.int .i64 y.term, .int .i64 y.vote, .int .i64 y.base, .int .i64 y.bterm, .slice A2 m2 c2], .int .i64 (nn : Int), .bool true]) (by simp [results, go_sem, mm0, mm1, mm2, mm3, mm4]) rfl ⟨K, .agg #[.int .i64 y.term, .int .i64 y.vote, .int .i64 y.base, .int .i64 y.bterm, .slice A2 m2 c2], HE.out, by rw [HBS.out, hrep], by rw [HBS.out, hrep]; exact ⟨_, rfl, FO.mono (Nat.le_trans (Nat.le_of_lt RL.out) L4.out)⟩, FB⟩
      | exact bodyPost_ret (v := .tuple #[.agg #[.int .i64 y.term, .int .i64 y.vote, .int .i64 y.base, .int .i64 y.bterm, .slice A2 m2 c2], .int .i64 (nn : Int), .bool true]) (by simp [results, go_sem, mm0, mm1, mm2, mm3, mm4]) rfl ⟨K, HE.out, .agg #[.int .i64 y.term, .int .i64 y.vote, .int .i64 y.base, .int .i64 y.bterm, .slice A2 m2 c2], by rw [HBS.out, hrep], by rw [HBS.out, hrep]; exact ⟨_, rfl, FO.mono (Nat.le_trans (Nat.le_of_lt RL.out) L4.out)⟩, FB⟩
    | true =>
     have HW := HNX.out rfl
     rw [Nat.add_comm 1 k] at HW
     go_wp2_with fail
     go_roundw
     case rel => exact ⟨k + 1, nn + (8 + si.size), y, A2, m2, c2, by omega, rfl, by go_num, by go_num, HW, C7, Z7, X7, O7⟩
     case measure => simp [intOf]; omega
   ·have hrep := OW.out.done (by rw [HN.out]; omega)
    have BR := B1.out.trans (CR.out.mono B1.out.size)
    have RR := R1.out.on CR.out RL.out
    have x0 := XR.out.cell 0 (.int .i64 x.term) rfl
    have x1 := XR.out.cell 1 (.int .i64 x.vote) rfl
    have x2 := XR.out.cell 2 (.int .i64 x.base) rfl
    have x3 := XR.out.cell 3 (.int .i64 x.bterm) rfl
    have x4 := XR.out.cell 4 (.slice A1 m1 c1) rfl
    have r0 := RR.cell 0 (.int .i64 0) rfl
    have f0 := RR.free 0
    have r1 := RR.cell 1 (.int .i64 0) rfl
    have f1 := RR.free 1
    have r2 := RR.cell 2 (.int .i64 0) rfl
    have f2 := RR.free 2
    have r3 := RR.cell 3 (.int .i64 0) rfl
    have f3 := RR.free 3
    have r4 := RR.cell 4 (.slice none 0 0) rfl
    have f4 := RR.free 4
    go_wp2_with fail
    have hF := (((((RR.set 0 (.int .i64 x.term)).set 1 (.int .i64 x.vote)).set 2 (.int .i64 x.base)).set 3 (.int .i64 x.bterm)).set 4 (.slice A1 m1 c1))
    have FB := (((((BR.setCell (Nat.le_refl _) (.int .i64 x.term) (p := ⟨w.heap.size, 0, none⟩)).setCell (Nat.le_refl _) (.int .i64 x.vote) (p := ⟨w.heap.size, 1, none⟩)).setCell (Nat.le_refl _) (.int .i64 x.base) (p := ⟨w.heap.size, 2, none⟩)).setCell (Nat.le_refl _) (.int .i64 x.bterm) (p := ⟨w.heap.size, 3, none⟩)).setCell (Nat.le_refl _) (.slice A1 m1 c1) (p := ⟨w.heap.size, 4, none⟩))
    have FO := (((((OR.out.other (OR.out.notBlk RR (by decide)) 0 (.int .i64 x.term)).other (OR.out.notBlk RR (by decide)) 1 (.int .i64 x.vote)).other (OR.out.notBlk RR (by decide)) 2 (.int .i64 x.base)).other (OR.out.notBlk RR (by decide)) 3 (.int .i64 x.bterm)).other (OR.out.notBlk RR (by decide)) 4 (.slice A1 m1 c1))
    generalize (((((wr.setCell ⟨w.heap.size, 0, none⟩ (.int .i64 x.term)).setCell ⟨w.heap.size, 1, none⟩ (.int .i64 x.vote)).setCell ⟨w.heap.size, 2, none⟩ (.int .i64 x.base)).setCell ⟨w.heap.size, 3, none⟩ (.int .i64 x.bterm)).setCell ⟨w.heap.size, 4, none⟩ (.slice A1 m1 c1)) = WF at *
    have hG : Blk WF w.heap.size #[.int .i64 x.term, .int .i64 x.vote, .int .i64 x.base, .int .i64 x.bterm, .slice A1 m1 c1] 26 := hF
    have mm0 := hG.cell 0 (.int .i64 x.term) rfl
    have mm1 := hG.cell 1 (.int .i64 x.vote) rfl
    have mm2 := hG.cell 2 (.int .i64 x.base) rfl
    have mm3 := hG.cell 3 (.int .i64 x.bterm) rfl
    have mm4 := hG.cell 4 (.slice A1 m1 c1) rfl
    first
     | exact bodyPost_ret (v := .tuple #[.agg #[.int .i64 x.term, .int .i64 x.vote, .int .i64 x.base, .int .i64 x.bterm, .slice A1 m1 c1], .int .i64 (nn : Int), .bool true]) (by simp [results, go_sem, mm0, mm1, mm2, mm3, mm4]) rfl ⟨K, .agg #[.int .i64 x.term, .int .i64 x.vote, .int .i64 x.base, .int .i64 x.bterm, .slice A1 m1 c1], HE.out, by rw [HBS.out, hrep], by rw [HBS.out, hrep]; exact ⟨_, rfl, FO.mono (Nat.le_trans (Nat.le_of_lt RL.out) L4.out)⟩, FB⟩
     | exact bodyPost_ret (v := .tuple #[.agg #[.int .i64 x.term, .int .i64 x.vote, .int .i64 x.base, .int .i64 x.bterm, .slice A1 m1 c1], .int .i64 (nn : Int), .bool true]) (by simp [results, go_sem, mm0, mm1, mm2, mm3, mm4]) rfl ⟨K, HE.out, .agg #[.int .i64 x.term, .int .i64 x.vote, .int .i64 x.base, .int .i64 x.bterm, .slice A1 m1 c1], by rw [HBS.out, hrep], by rw [HBS.out, hrep]; exact ⟨_, rfl, FO.mono (Nat.le_trans (Nat.le_of_lt RL.out) L4.out)⟩, FB⟩
 ·rw [if_neg hk] at cB hbeg
  clear hk
  generalize recV q = rv at *
  go_wp2_with fail
  refine (cQ w1).mono ?_
  rintro e w2 ⟨rfl, hb2⟩
  go_wp2_with fail
  refine (cB w2).mono ?_
  rintro e w3 ⟨rfl, hb3⟩
  have C3 : Below w1.heap.size w1 w3 := hb2.trans (hb3.mono hb2.size)
  have B3 : Hid (Below w.heap.size w w3) := B1.out.trans (C3.mono B1.out.size)
  have R3 : Hid (Blk w3 w.heap.size #[.int .i64 0, .int .i64 0, .int .i64 0, .int .i64 0, .slice none 0 0] 26) := R1.out.on C3 RL.out
  clear hb2 hb3 C3 cQ cB
  have r0 := (R3.out.alloc (.cells #[.int .i64 0, .int .i64 0, .int .i64 0, .int .i64 0, .slice none 0 0] 26)).cell 0 (.int .i64 0) rfl
  have f0 := (R3.out.alloc (.cells #[.int .i64 0, .int .i64 0, .int .i64 0, .int .i64 0, .slice none 0 0] 26)).free 0
  have r1 := (R3.out.alloc (.cells #[.int .i64 0, .int .i64 0, .int .i64 0, .int .i64 0, .slice none 0 0] 26)).cell 1 (.int .i64 0) rfl
  have f1 := (R3.out.alloc (.cells #[.int .i64 0, .int .i64 0, .int .i64 0, .int .i64 0, .slice none 0 0] 26)).free 1
  have r2 := (R3.out.alloc (.cells #[.int .i64 0, .int .i64 0, .int .i64 0, .int .i64 0, .slice none 0 0] 26)).cell 2 (.int .i64 0) rfl
  have f2 := (R3.out.alloc (.cells #[.int .i64 0, .int .i64 0, .int .i64 0, .int .i64 0, .slice none 0 0] 26)).free 2
  have r3 := (R3.out.alloc (.cells #[.int .i64 0, .int .i64 0, .int .i64 0, .int .i64 0, .slice none 0 0] 26)).cell 3 (.int .i64 0) rfl
  have f3 := (R3.out.alloc (.cells #[.int .i64 0, .int .i64 0, .int .i64 0, .int .i64 0, .slice none 0 0] 26)).free 3
  have r4 := (R3.out.alloc (.cells #[.int .i64 0, .int .i64 0, .int .i64 0, .int .i64 0, .slice none 0 0] 26)).cell 4 (.slice none 0 0) rfl
  have f4 := (R3.out.alloc (.cells #[.int .i64 0, .int .i64 0, .int .i64 0, .int .i64 0, .slice none 0 0] 26)).free 4
  go_wp2_with fail
  have hF := ((((((R3.out.alloc (.cells #[.int .i64 0, .int .i64 0, .int .i64 0, .int .i64 0, .slice none 0 0] 26)).set 0 (.int .i64 0)).set 1 (.int .i64 0)).set 2 (.int .i64 0)).set 3 (.int .i64 0)).set 4 (.slice none 0 0))
  have FB := ((((((B3.out.alloc B3.out.size (.cells #[.int .i64 0, .int .i64 0, .int .i64 0, .int .i64 0, .slice none 0 0] 26)).setCell (Nat.le_refl _) (.int .i64 0) (p := ⟨w.heap.size, 0, none⟩)).setCell (Nat.le_refl _) (.int .i64 0) (p := ⟨w.heap.size, 1, none⟩)).setCell (Nat.le_refl _) (.int .i64 0) (p := ⟨w.heap.size, 2, none⟩)).setCell (Nat.le_refl _) (.int .i64 0) (p := ⟨w.heap.size, 3, none⟩)).setCell (Nat.le_refl _) (.slice none 0 0) (p := ⟨w.heap.size, 4, none⟩))
  generalize ((((((w3.alloc (.cells #[.int .i64 0, .int .i64 0, .int .i64 0, .int .i64 0, .slice none 0 0] 26)).setCell ⟨w.heap.size, 0, none⟩ (.int .i64 0)).setCell ⟨w.heap.size, 1, none⟩ (.int .i64 0)).setCell ⟨w.heap.size, 2, none⟩ (.int .i64 0)).setCell ⟨w.heap.size, 3, none⟩ (.int .i64 0)).setCell ⟨w.heap.size, 4, none⟩ (.slice none 0 0)) = WF at *
  have hG : Blk WF w.heap.size #[.int .i64 0, .int .i64 0, .int .i64 0, .int .i64 0, .slice none 0 0] 26 := hF
  have mm0 := hG.cell 0 (.int .i64 0) rfl
  have mm1 := hG.cell 1 (.int .i64 0) rfl
  have mm2 := hG.cell 2 (.int .i64 0) rfl
  have mm3 := hG.cell 3 (.int .i64 0) rfl
  have mm4 := hG.cell 4 (.slice none 0 0) rfl
  first
   | exact bodyPost_ret (v := .tuple #[.agg #[.int .i64 0, .int .i64 0, .int .i64 0, .int .i64 0, .slice none 0 0], .int .i64 0, .bool false]) (by simp [results, go_sem, mm0, mm1, mm2, mm3, mm4]) rfl ⟨K, .agg #[.int .i64 0, .int .i64 0, .int .i64 0, .int .i64 0, .slice none 0 0], HE.out, by rw [HBS.out, rep_none hbeg]; rfl, by rw [HBS.out, rep_none hbeg]; exact ⟨_, rfl, Owns.nil _ _ _ _⟩, FB⟩
   | exact bodyPost_ret (v := .tuple #[.agg #[.int .i64 0, .int .i64 0, .int .i64 0, .int .i64 0, .slice none 0 0], .int .i64 0, .bool false]) (by simp [results, go_sem, mm0, mm1, mm2, mm3, mm4]) rfl ⟨K, HE.out, .agg #[.int .i64 0, .int .i64 0, .int .i64 0, .int .i64 0, .slice none 0 0], by rw [HBS.out, rep_none hbeg]; rfl, by rw [HBS.out, rep_none hbeg]; exact ⟨_, rfl, Owns.nil _ _ _ _⟩, FB⟩
end Go.Proofs.YtgillglkmnocaaaDoor
namespace Go.Proofs.YtgillglkmnocaaaDoor
open Go.ChangeShapes Go.WideShapes Go.ChangeAt Go.RowKit Go.PlainAid
set_option linter.unusedVariables false
theorem elem_ent : Tryd.prog.elem 24 = 61 := by kernel_rfl
theorem size_ent : (Tryd.prog.info? 61).map (·.size) = some 2 := by kernel_rfl
set_option maxRecDepth 100000 in
theorem cut_ents (A : Option Addr) (n c k : Nat) (hk : k ≤ c) (wx : World) : (Instr.sliceAt 24 (.slice A n c) none (some (.int .i64 (k : Int))) none).run Tryd.prog wx = .ok (.slice A k c) wx := by
 have hu : Tryd.prog.underlying 24 = some (.slice (Tryd.prog.elem 24)) := by rw [elem_ent]; exact Tryd.underlying24
 have hz := size_ent
 cases hq : Tryd.prog.info? 61 with
 | none => rw [hq] at hz; simp at hz
 | some i =>
  rw [run_sliceAt_slice wx 24 _ _ _ _ hu, run_slice_h wx 24 A n c hu .i64 (k : Int) (by omega) (by omega), elem_ent]
  have e : A.map (·.add (0 * i.size)) = A := by
   cases A <;> simp [Addr.add]
  simp [sizeOf, typeInfo, hq, sliced]
  intro _
  simpa using e
set_option maxRecDepth 20000 in
set_option maxHeartbeats 8000000 in
theorem law_fnWalBack (ao : Option Addr) (len cap : Nat) (cs : Nat → Nat) (w : World) (h : CodeIs w w.heap.size ao len cs) (hl : len ≤ 9223372036854775807) (ht : SumTab w) (a0 a1 a2 : Addr) (he : Errs w a0 a1 a2) : Calls Tryd.prog 3 #[.slice ao len cap] w fun e w' => e = .returned (.bool true) ∧ Below w.heap.size w w' := by
 by_cases hbig : 1048576 < len
 ·have c0 := big_yes w ao len cap hbig hl
  go_enter Tryd.func3, Tryd.ntmps3
  go_wp2_with fail
  refine c0.mono ?_
  rintro e w' ⟨rfl, rfl⟩
  go_wp2_with fail
  go_ret
  exact ⟨rfl, Below.refl _ _⟩
 have c0 := big_no w ao len cap (by omega)
 have cD := drawWalText w ao len cap cs (by omega) h
 have ST : Hid (SumTab w) := ht
 have ER : Hid (Errs w a0 a1 a2) := he
 clear hbig h hl ht he
 go_enter Tryd.func3, Tryd.ntmps3
 go_wp2_with fail
 refine c0.mono ?_
 rintro e w' ⟨rfl, rfl⟩
 go_wp2_with fail
 refine cD.mono ?_
 rintro e w1 ⟨⟨uw, x, rfl, ⟨ue, rfl, hO⟩, hxn, hxd⟩, hb⟩
 obtain ⟨As, cs0, rfl, -⟩ := ent_look hO.lies
 have hroom := hO.lies.room.2
 have HF : Hid (FitsW x) := ⟨by unfold maxLen; omega, fun e he => by have := hxd e he; unfold maxLen; omega⟩
 have HXn : Hid (x.ents.length ≤ 63 ∧ x.ents.length ≤ cs0) := ⟨hxn, hroom⟩
 have B1 : Hid (Below w.heap.size w w1) := hb
 obtain ⟨X1, hX1⟩ : ∃ X1, X1 = w1.alloc (.cells #[.int .i64 x.term, .int .i64 x.vote, .int .i64 x.base, .int .i64 x.bterm, .slice As x.ents.length cs0] 26) := ⟨_, rfl⟩
 have bX : Below w1.heap.size w1 X1 := by rw [hX1]; exact (Below.refl _ _).alloc (Nat.le_refl _) _
 have K1 : Hid (Blk X1 w1.heap.size #[.int .i64 x.term, .int .i64 x.vote, .int .i64 x.base, .int .i64 x.bterm, .slice As x.ents.length cs0] 26) := by unfold Hid; rw [hX1]; exact Blk.new _ _ _
 have V1 : Hid (WalV X1 X1.heap.size (.agg #[.int .i64 x.term, .int .i64 x.vote, .int .i64 x.base, .int .i64 x.bterm, .slice As x.ents.length cs0]) x) := ⟨_, rfl, (hO.on bX).lies⟩
 have BX : Hid (Below w.heap.size w X1) := B1.out.trans (bX.mono B1.out.size)
 have cT := implWalText x (.agg #[.int .i64 x.term, .int .i64 x.vote, .int .i64 x.base, .int .i64 x.bterm, .slice As x.ents.length cs0]) X1 X1.heap.size V1.out HF.out (Nat.le_refl _) (ST.out.on BX.out)
 have k0 := K1.out.cell 0 _ rfl
 have k1 := K1.out.cell 1 _ rfl
 have k2 := K1.out.cell 2 _ rfl
 have k3 := K1.out.cell 3 _ rfl
 have k4 := K1.out.cell 4 _ rfl
 clear hb hO bX cD c0 hroom hxn hxd
 go_wp2_with fail
 rw [← hX1]
 refine cT.mono ?_
 rintro e w2 ⟨rfl, hb⟩
 have G1 : Hid (w1.heap.size < X1.heap.size) := K1.out.lt
 have K2 : Hid (Blk w2 w1.heap.size #[.int .i64 x.term, .int .i64 x.vote, .int .i64 x.base, .int .i64 x.bterm, .slice As x.ents.length cs0] 26) := K1.out.on hb K1.out.lt
 have V2 : Hid (WalV w2 X1.heap.size (.agg #[.int .i64 x.term, .int .i64 x.vote, .int .i64 x.base, .int .i64 x.bterm, .slice As x.ents.length cs0]) x) := V1.out.on hb
 have B2 : Hid (Below w.heap.size w w2) := BX.out.trans (hb.mono BX.out.size)
 have Z2 : Hid (X1.heap.size ≤ w2.heap.size) := hb.size
 have cK := specWalOk x (.agg #[.int .i64 x.term, .int .i64 x.vote, .int .i64 x.base, .int .i64 x.bterm, .slice As x.ents.length cs0]) w2 X1.heap.size V2.out HF.out hb.size
 have l0 := K2.out.cell 0 _ rfl
 have l1 := K2.out.cell 1 _ rfl
 have l2 := K2.out.cell 2 _ rfl
 have l3 := K2.out.cell 3 _ rfl
 have l4 := K2.out.cell 4 _ rfl
 clear hb cT k0 k1 k2 k3 k4 hX1
 by_cases hok : walOk x = true
 rotate_left
 ·have hok' : walOk x = false := by simpa using hok
  rw [hok'] at cK
  have hs : walT x = ⟨#[]⟩ := if_neg hok
  rw [hs]
  clear hok hok' hs
  go_wp2_with fail
  refine cK.mono ?_
  rintro e w3 ⟨rfl, hb⟩
  have B3 : Hid (Below w.heap.size w w3) := B2.out.trans (hb.mono B2.out.size)
  clear hb
  go_wp2_with fail
  go_ret
  exact ⟨rfl, B3.out⟩
 rw [hok] at cK
 have HW : Hid (WOk x) := wOk_of hok
 clear hok
 go_wp2_with fail
 refine cK.mono ?_
 rintro e w3 ⟨rfl, hb⟩
 have K3 : Hid (Blk w3 w1.heap.size #[.int .i64 x.term, .int .i64 x.vote, .int .i64 x.base, .int .i64 x.bterm, .slice As x.ents.length cs0] 26) := K2.out.on hb K2.out.lt
 have V3 : Hid (WalV w3 X1.heap.size (.agg #[.int .i64 x.term, .int .i64 x.vote, .int .i64 x.base, .int .i64 x.bterm, .slice As x.ents.length cs0]) x) := V2.out.on (hb.mono Z2.out)
 have B3 : Hid (Below w.heap.size w w3) := B2.out.trans (hb.mono B2.out.size)
 have Z3 : Hid (X1.heap.size ≤ w3.heap.size) := Nat.le_trans Z2.out hb.size
 have hsz : (walT x).size ≤ 200000 := by
  have h1 := catF_size (walRecs x)
  have h2 := walRecs_length x
  have h3 := HXn.out.1
  rw [h2] at h1
  unfold walT
  split
  ·omega
  ·exact Nat.zero_le _
 have hs0 : 0 < (walT x).size := by
  rw [walT_size HW.out, walRecs_eq]
  simp [bytesR]
  omega
 have HRw : Hid (∀ K, Ends (walT x) K → rep (bods (walT x) K) = (x, (walT x).size, true)) := fun K hK => rep_whole HW.out K hK
 have HRc : Hid (∀ K, Ends ((walT x).extract 0 ((walT x).size - 1)) K → ∃ n, n < (walT x).size ∧ (rep (bods ((walT x).extract 0 ((walT x).size - 1)) K)).2 = (n, true) ∧
  ((x.ents = [] ∧ (rep (bods ((walT x).extract 0 ((walT x).size - 1)) K)).1.ents = []) ∨ ∃ m, x.ents.length = m + 1 ∧ (rep (bods ((walT x).extract 0 ((walT x).size - 1)) K)).1 = { x with ents := x.ents.take m })) := fun K hK => rep_cut HW.out K hK
 generalize walT x = s at *
 have q1 : (s.size : Int) ≤ 200000 := by omega
 have q2 : 0 < (s.size : Int) := by omega
 have cR := implReplay s w3 (by omega) (ST.out.on B3.out) a0 a1 a2 (ER.out.on B3.out)
 clear hb cK l0 l1 l2 l3 l4 K1 V1 K2 V2
 go_wp2_with fail
 refine cR.mono ?_
 rintro e w4 ⟨K, u2, hK, rfl, hO, hb⟩
 rw [HRw.out K hK] at hO ⊢
 dsimp only at hO ⊢
 obtain ⟨ue2, rfl, hO2⟩ := hO
 obtain ⟨A2, c2, rfl, -⟩ := ent_look hO2.lies
 have B4 : Hid (Below w.heap.size w w4) := B3.out.trans (hb.mono B3.out.size)
 obtain ⟨X4, hX4⟩ : ∃ X4, X4 = w4.alloc (.cells #[.int .i64 x.term, .int .i64 x.vote, .int .i64 x.base, .int .i64 x.bterm, .slice A2 x.ents.length c2] 26) := ⟨_, rfl⟩
 have bX : Below w4.heap.size w4 X4 := by rw [hX4]; exact (Below.refl _ _).alloc (Nat.le_refl _) _
 have J4 : Hid (Blk X4 w4.heap.size #[.int .i64 x.term, .int .i64 x.vote, .int .i64 x.base, .int .i64 x.bterm, .slice A2 x.ents.length c2] 26) := by unfold Hid; rw [hX4]; exact Blk.new _ _ _
 have K4 : Hid (Blk X4 w1.heap.size #[.int .i64 x.term, .int .i64 x.vote, .int .i64 x.base, .int .i64 x.bterm, .slice As x.ents.length cs0] 26) := by
  unfold Hid
  exact (K3.out.on hb K3.out.lt).on bX (Nat.lt_of_lt_of_le K3.out.lt hb.size)
 have V4 : Hid (WalV X4 X1.heap.size (.agg #[.int .i64 x.term, .int .i64 x.vote, .int .i64 x.base, .int .i64 x.bterm, .slice As x.ents.length cs0]) x) := (V3.out.on (hb.mono Z3.out)).on (bX.mono (Nat.le_trans Z3.out hb.size))
 have U4 : Hid (WalV X4 X4.heap.size (.agg #[.int .i64 x.term, .int .i64 x.vote, .int .i64 x.base, .int .i64 x.bterm, .slice A2 x.ents.length c2]) x) := ⟨_, rfl, (hO2.on bX).lies⟩
 have BX4 : Hid (Below w.heap.size w X4) := B4.out.trans (bX.mono B4.out.size)
 have Z4 : Hid (X1.heap.size ≤ X4.heap.size) := Nat.le_trans (Nat.le_trans Z3.out hb.size) bX.size
 have cS := sameW x (.agg #[.int .i64 x.term, .int .i64 x.vote, .int .i64 x.base, .int .i64 x.bterm, .slice A2 x.ents.length c2]) (.agg #[.int .i64 x.term, .int .i64 x.vote, .int .i64 x.base, .int .i64 x.bterm, .slice As x.ents.length cs0]) X4 X4.heap.size U4.out (V4.out.mono Z4.out) (Nat.le_refl _) (by have := HXn.out; omega)
 have k0 := K4.out.cell 0 _ rfl
 have k1 := K4.out.cell 1 _ rfl
 have k2 := K4.out.cell 2 _ rfl
 have k3 := K4.out.cell 3 _ rfl
 have k4 := K4.out.cell 4 _ rfl
 have j0 := J4.out.cell 0 _ rfl
 have j1 := J4.out.cell 1 _ rfl
 have j2 := J4.out.cell 2 _ rfl
 have j3 := J4.out.cell 3 _ rfl
 have j4 := J4.out.cell 4 _ rfl
 clear hb cR hO2 bX K3 V3 hK
 rw [hX4] at k0 k1 k2 k3 k4 j0 j1 j2 j3 j4
 go_wp2_with fail
 rw [← hX4]
 refine cS.mono ?_
 rintro e w5 ⟨rfl, hb⟩
 have K5 : Hid (Blk w5 w1.heap.size #[.int .i64 x.term, .int .i64 x.vote, .int .i64 x.base, .int .i64 x.bterm, .slice As x.ents.length cs0] 26) := K4.out.on hb K4.out.lt
 have V5 : Hid (WalV w5 X1.heap.size (.agg #[.int .i64 x.term, .int .i64 x.vote, .int .i64 x.base, .int .i64 x.bterm, .slice As x.ents.length cs0]) x) := V4.out.on (hb.mono Z4.out)
 have B5 : Hid (Below w.heap.size w w5) := BX4.out.trans (hb.mono BX4.out.size)
 have Z5 : Hid (X1.heap.size ≤ w5.heap.size) := Nat.le_trans Z4.out hb.size
 have hcs : (s.extract 0 (s.size - 1)).size ≤ 1048576 := by rw [ByteArray.size_extract]; omega
 have cR := implReplay (s.extract 0 (s.size - 1)) w5 hcs (ST.out.on B5.out) a0 a1 a2 (ER.out.on B5.out)
 have q3 : (0 : Int) ≤ (s.size : Int) - 1 := by omega
 have q4 : (s.size : Int) - 1 ≤ (s.size : Int) := by omega
 have g1 : IntKind.i64.wrap ((s.size : Int) - 1) = (s.size : Int) - 1 := by rw [IntKind.wrap_i64]; omega
 clear hb cS k0 k1 k2 k3 k4 j0 j1 j2 j3 j4 K4 V4 J4 U4 hX4
 go_wp2_with fail
 refine cR.mono ?_
 rintro e w6 ⟨K2, u3, hK2, rfl, hO3, hb⟩
 obtain ⟨n, hn, hr2, hr⟩ := HRc.out K2 hK2
 generalize rep (bods (s.extract 0 (s.size - 1)) K2) = z at hO3 hr2 hr ⊢
 obtain ⟨y, n', b'⟩ := z
 obtain ⟨rfl, rfl⟩ := Prod.mk.inj hr2
 dsimp only at hO3 hr ⊢
 obtain ⟨ue3, rfl, hO⟩ := hO3
 obtain ⟨A3, c3, rfl, -⟩ := ent_look hO.lies
 have q5 : (n' : Int) < (s.size : Int) := by omega
 have B6 : Hid (Below w.heap.size w w6) := B5.out.trans (hb.mono B5.out.size)
 have hb6 : Below w6.heap.size w6 (w6.alloc (.cells #[.int .i64 y.term, .int .i64 y.vote, .int .i64 y.base, .int .i64 y.bterm, .slice A3 y.ents.length c3] 26)) := (Below.refl _ _).alloc (Nat.le_refl _) _
 obtain ⟨X6, hX6⟩ : ∃ X6, X6 = w6.alloc (.cells #[.int .i64 y.term, .int .i64 y.vote, .int .i64 y.base, .int .i64 y.bterm, .slice A3 y.ents.length c3] 26) := ⟨_, rfl⟩
 rw [← hX6] at hb6
 have J6 : Hid (Blk X6 w6.heap.size #[.int .i64 y.term, .int .i64 y.vote, .int .i64 y.base, .int .i64 y.bterm, .slice A3 y.ents.length c3] 26) := by unfold Hid; rw [hX6]; exact Blk.new _ _ _
 have K6 : Hid (Blk X6 w1.heap.size #[.int .i64 x.term, .int .i64 x.vote, .int .i64 x.base, .int .i64 x.bterm, .slice As x.ents.length cs0] 26) := by
  unfold Hid
  exact (K5.out.on hb K5.out.lt).on hb6 (Nat.lt_of_lt_of_le K5.out.lt hb.size)
 have V6 : Hid (Lies X6 X6.heap.size 2 (.slice As x.ents.length cs0) (entR x.ents)) := by
  obtain ⟨u, e, hl⟩ := (V5.out.on (hb.mono Z5.out)).on (hb6.mono (Nat.le_trans Z5.out hb.size))
  injection e with e
  injection e with e
  simp at e
  subst e
  exact hl.mono (Nat.le_trans (Nat.le_trans Z5.out hb.size) hb6.size)
 have U6 : Hid (Lies X6 X6.heap.size 2 (.slice A3 y.ents.length c3) (entR y.ents)) := (hO.on hb6).lies
 have BX6 : Hid (Below w.heap.size w X6) := B6.out.trans (hb6.mono B6.out.size)
 have cS : Hid (∀ m, y.ents = x.ents.take m → m ≤ x.ents.length → ∀ wx, wx.heap = X6.heap → Calls Tryd.prog 10 #[.slice A3 y.ents.length c3, .slice As m cs0] wx fun e w' => e = .returned (.bool true) ∧ Like wx w') := fun m hm hml wx hx => by
  have h1 := U6.out.heap hx
  have h2 := (V6.out.first m (by rw [entR_length]; omega)).heap hx
  have e : (entR x.ents).take m = entR (x.ents.take m) := by simp [entR, List.map_take]
  rw [e] at h2
  have hlt : (x.ents.take m).length = m := by rw [List.length_take]; omega
  rw [hm] at h1 ⊢
  exact sameEnts (x.ents.take m) _ _ wx _ h1 h2 (by have := HXn.out; omega)
 have hr' : (x.ents.length = 0 ∧ y.ents.length = 0) ∨ ∃ m, x.ents.length = m + 1 ∧ y.ents.length = m ∧ y.ents = x.ents.take m ∧ y.term = x.term ∧ y.vote = x.vote := by
  rcases hr with ⟨e1, e2⟩ | ⟨m, em, e⟩
  ·exact .inl ⟨by rw [e1]; rfl, by rw [e2]; rfl⟩
  ·exact .inr ⟨m, em, by rw [e]; simp; omega, by rw [e], by rw [e], by rw [e]⟩
 have k0 : X6.cell? ⟨w1.heap.size, 0, none⟩ = some (.int .i64 x.term) := K6.out.cell 0 _ rfl
 have k1 : X6.cell? ⟨w1.heap.size, 1, none⟩ = some (.int .i64 x.vote) := K6.out.cell 1 _ rfl
 have k4 : X6.cell? ⟨w1.heap.size, 4, none⟩ = some (.slice As x.ents.length cs0) := K6.out.cell 4 _ rfl
 have j0 : X6.cell? ⟨w6.heap.size, 0, none⟩ = some (.int .i64 y.term) := J6.out.cell 0 _ rfl
 have j1 : X6.cell? ⟨w6.heap.size, 1, none⟩ = some (.int .i64 y.vote) := J6.out.cell 1 _ rfl
 have j4 : X6.cell? ⟨w6.heap.size, 4, none⟩ = some (.slice A3 y.ents.length c3) := J6.out.cell 4 _ rfl
 clear hb cR hO hb6 K5 V5 hK2 hn hr hr2 K6 J6 V6 U6 HRw HRc HF HW
 rcases hr' with ⟨e1, e2⟩ | ⟨m, em, en, ey, et, ev⟩
 ·rw [e1] at k4
  rw [e2] at j4
  clear cS k0 k1 j0 j1
  rw [hX6] at k4 j4
  have HX6 : Hid (X6 = _) := hX6
  clear hX6
  have q6 : (((0 : Nat) : Int) == 0) = true := by rfl
  generalize x.ents.length = L at *
  generalize y.ents.length = M at *
  subst e1 e2
  go_wp2_with fail
  rw [← HX6.out]
  go_ret
  exact ⟨rfl, BX6.out⟩
 have cS' : Hid (∀ wx, wx.heap = X6.heap → Calls Tryd.prog 10 #[.slice A3 y.ents.length c3, .slice As m cs0] wx fun e w' => e = .returned (.bool true) ∧ Like wx w') := cS.out m ey (by omega)
 have HX6 : Hid (X6 = _) := hX6
 have hmc : m ≤ cs0 := by have := HXn.out; omega
 have hct := fun wx => cut_ents As x.ents.length cs0 m hmc wx
 have hL : x.ents.length ≤ 63 := HXn.out.1
 have g2 : IntKind.i64.wrap ((x.ents.length : Int) - 1) = (m : Int) := by rw [IntKind.wrap_i64]; omega
 have q6 : ((x.ents.length : Int) == 0) = false := beq_eq_false_iff_ne.2 (by omega)
 rw [et] at j0
 rw [ev] at j1
 have kk4 : X6.cell? ⟨w1.heap.size, 4, none⟩ = some (.slice As x.ents.length cs0) := k4
 rw [hX6] at k4
 clear cS ey hX6 et ev
 replace en := en.symm
 generalize y.ents.length = M at *
 generalize x.ents.length = L at *
 subst en
 have HL : Hid (L = m + 1) := em
 clear em hL
 go_wp2_with fail
 rw [← HX6.out]
 have S0 : Hid (X6.drew.cell? ⟨w6.heap.size, 4, none⟩ = some (.slice A3 m c3) ∧ X6.drew.cell? ⟨w1.heap.size, 4, none⟩ = some (.slice As L cs0) ∧ X6.drew.cell? ⟨w6.heap.size, 0, none⟩ = some (.int .i64 x.term) ∧ X6.drew.cell? ⟨w1.heap.size, 0, none⟩ = some (.int .i64 x.term) ∧ X6.drew.cell? ⟨w6.heap.size, 1, none⟩ = some (.int .i64 x.vote) ∧ X6.drew.cell? ⟨w1.heap.size, 1, none⟩ = some (.int .i64 x.vote)) := ⟨j4, kk4, j0, k0, j1, k1⟩
 clear k4 kk4 j4 k0 k1 j0 j1
 refine wp_region_until (fun w' => w'.cell? ⟨w6.heap.size, 4, none⟩ = some (.slice A3 m c3) ∧ w'.cell? ⟨w1.heap.size, 4, none⟩ = some (.slice As L cs0) ∧ w'.cell? ⟨w6.heap.size, 0, none⟩ = some (.int .i64 x.term) ∧ w'.cell? ⟨w1.heap.size, 0, none⟩ = some (.int .i64 x.term) ∧ w'.cell? ⟨w6.heap.size, 1, none⟩ = some (.int .i64 x.vote) ∧ w'.cell? ⟨w1.heap.size, 1, none⟩ = some (.int .i64 x.vote)) (fun _ => false) 34 (by rfl) (by kernel_rfl) ?_
 refine until_pure 0 (v := ?_) (by rfl) (by kernel_rfl) (by exact fun _ _ _ h => h) (by rfl) ?_ ?_
 rotate_left
 ·intro w
  go_simp
  try with_reducible rfl
 try simp only [Act.put, setIfInBounds_toArray, set_cons_zero, set_cons_succ]
 refine until_pure 1 (v := ?_) (by rfl) (by kernel_rfl) (by exact fun _ _ _ h => h) (by rfl) ?_ ?_
 rotate_left
 ·intro w
  go_simp
  try with_reducible rfl
 try simp only [Act.put, setIfInBounds_toArray, set_cons_zero, set_cons_succ]
 refine until_pure 2 (v := ?_) (by rfl) (by kernel_rfl) (by exact fun _ _ _ h => h) (by rfl) ?_ ?_
 rotate_left
 ·intro w
  go_simp
  try with_reducible rfl
 try simp only [Act.put, setIfInBounds_toArray, set_cons_zero, set_cons_succ]
 refine until_pure 3 (v := ?_) (by rfl) (by kernel_rfl) (by exact fun _ _ _ h => h) (by rfl) ?_ ?_
 rotate_left
 ·intro w
  go_simp
  try with_reducible rfl
 try simp only [Act.put, setIfInBounds_toArray, set_cons_zero, set_cons_succ]
 refine until_pure 4 (v := ?_) (by rfl) (by kernel_rfl) (by exact fun _ _ _ h => h) (by rfl) ?_ ?_
 rotate_left
 ·intro w
  go_simp
  try with_reducible rfl
 try simp only [Act.put, setIfInBounds_toArray, set_cons_zero, set_cons_succ]
 refine until_pure 5 (v := ?_) (by rfl) (by kernel_rfl) (by exact fun _ _ _ h => h) (by rfl) ?_ ?_
 rotate_left
 ·intro w
  go_simp
  try with_reducible rfl
 try simp only [Act.put, setIfInBounds_toArray, set_cons_zero, set_cons_succ]
 refine until_pure 6 (v := ?_) (by rfl) (by kernel_rfl) (by exact fun _ _ _ h => h) (by rfl) ?_ ?_
 rotate_left
 ·intro w
  go_simp
  try with_reducible rfl
 try simp only [Act.put, setIfInBounds_toArray, set_cons_zero, set_cons_succ]
 refine until_pure 7 (v := ?_) (by rfl) (by kernel_rfl) (by exact fun _ _ _ h => h) (by rfl) ?_ ?_
 rotate_left
 ·intro w
  go_simp
  try with_reducible rfl
 try simp only [Act.put, setIfInBounds_toArray, set_cons_zero, set_cons_succ]
 refine until_pure 8 (v := ?_) (by rfl) (by kernel_rfl) (by exact fun _ _ _ h => h) (by rfl) ?_ ?_
 rotate_left
 ·intro w
  go_simp
  try with_reducible rfl
 try simp only [Act.put, setIfInBounds_toArray, set_cons_zero, set_cons_succ]
 refine until_take 9 (v := ?_) (by rfl) (by kernel_rfl) (by exact fun _ _ _ h => h) (by rfl) ?_ S0.out ?_
 rotate_left
 ·intro w hSw
  try dsimp only at hSw
  go_simp
  try with_reducible rfl
 try simp only [Act.put, setIfInBounds_toArray, set_cons_zero, set_cons_succ]
 refine until_pure 10 (v := ?_) (by rfl) (by kernel_rfl) (by exact fun _ _ _ h => h) (by rfl) ?_ ?_
 rotate_left
 ·intro w
  go_simp
  try with_reducible rfl
 try simp only [Act.put, setIfInBounds_toArray, set_cons_zero, set_cons_succ]
 refine until_take 11 (v := ?_) (by rfl) (by kernel_rfl) (by exact fun _ _ _ h => h) (by rfl) ?_ S0.out ?_
 rotate_left
 ·intro w hSw
  try dsimp only at hSw
  go_simp
  try with_reducible rfl
 try simp only [Act.put, setIfInBounds_toArray, set_cons_zero, set_cons_succ]
 refine until_pure 12 (v := ?_) (by rfl) (by kernel_rfl) (by exact fun _ _ _ h => h) (by rfl) ?_ ?_
 rotate_left
 ·intro w
  go_simp
  try with_reducible rfl
 try simp only [Act.put, setIfInBounds_toArray, set_cons_zero, set_cons_succ]
 refine until_take 13 (v := ?_) (by rfl) (by kernel_rfl) (by exact fun _ _ _ h => h) (by rfl) ?_ S0.out ?_
 rotate_left
 ·intro w hSw
  try dsimp only at hSw
  go_simp
  try with_reducible rfl
 try simp only [Act.put, setIfInBounds_toArray, set_cons_zero, set_cons_succ]
 refine until_pure 14 (v := ?_) (by rfl) (by kernel_rfl) (by exact fun _ _ _ h => h) (by rfl) ?_ ?_
 rotate_left
 ·intro w
  go_simp
  try with_reducible rfl
 try simp only [Act.put, setIfInBounds_toArray, set_cons_zero, set_cons_succ]
 refine until_pure 15 (v := ?_) (by rfl) (by kernel_rfl) (by exact fun _ _ _ h => h) (by rfl) ?_ ?_
 rotate_left
 ·intro w
  go_simp
  try with_reducible rfl
 try simp only [Act.put, setIfInBounds_toArray, set_cons_zero, set_cons_succ]
 refine until_pure 16 (v := ?_) (by rfl) (by kernel_rfl) (by exact fun _ _ _ h => h) (by rfl) ?_ ?_
 rotate_left
 ·intro w
  go_simp
  try with_reducible rfl
 try simp only [Act.put, setIfInBounds_toArray, set_cons_zero, set_cons_succ]
 refine until_one 17 (by rfl) (by kernel_rfl) (fun K hK => ?_)
 go_simp
 refine (cS'.out _ (by first | rfl | simp)).mono ?_
 rintro e w7 ⟨rfl, hL7⟩
 have S7 : Hid (w7.cell? ⟨w6.heap.size, 4, none⟩ = some (.slice A3 m c3) ∧ w7.cell? ⟨w1.heap.size, 4, none⟩ = some (.slice As L cs0) ∧ w7.cell? ⟨w6.heap.size, 0, none⟩ = some (.int .i64 x.term) ∧ w7.cell? ⟨w1.heap.size, 0, none⟩ = some (.int .i64 x.term) ∧ w7.cell? ⟨w6.heap.size, 1, none⟩ = some (.int .i64 x.vote) ∧ w7.cell? ⟨w1.heap.size, 1, none⟩ = some (.int .i64 x.vote)) := by
  have h := S0.out
  unfold Hid
  simp only [cell?_heap hL7.1]
  exact h
 have B7 : Hid (Below w.heap.size w w7) := BX6.out.drew.trans (hL7.below.mono BX6.out.size)
 clear hL7 cS' S0
 go_wp2_with fail
 refine hK.out _ _ (fun _ _ => S7.out) ?_
 clear hK K
 try simp only [Act.put, setIfInBounds_toArray, set_cons_zero, set_cons_succ]
 refine until_pure 18 (v := ?_) (by rfl) (by kernel_rfl) (by exact fun _ _ _ h => h) (by rfl) ?_ ?_
 rotate_left
 ·intro w
  go_simp
  try with_reducible rfl
 try simp only [Act.put, setIfInBounds_toArray, set_cons_zero, set_cons_succ]
 refine until_pure 19 (v := ?_) (by rfl) (by kernel_rfl) (by exact fun _ _ _ h => h) (by rfl) ?_ ?_
 rotate_left
 ·intro w
  go_simp
  try with_reducible rfl
 try simp only [Act.put, setIfInBounds_toArray, set_cons_zero, set_cons_succ]
 refine until_pure 20 (v := ?_) (by rfl) (by kernel_rfl) (by exact fun _ _ _ h => h) (by rfl) ?_ ?_
 rotate_left
 ·intro w
  go_simp
  try with_reducible rfl
 try simp only [Act.put, setIfInBounds_toArray, set_cons_zero, set_cons_succ]
 refine until_take 21 (v := ?_) (by rfl) (by kernel_rfl) (by exact fun _ _ _ h => h) (by rfl) ?_ S7.out ?_
 rotate_left
 ·intro w hSw
  try dsimp only at hSw
  go_simp
  try with_reducible rfl
 try simp only [Act.put, setIfInBounds_toArray, set_cons_zero, set_cons_succ]
 refine until_pure 22 (v := ?_) (by rfl) (by kernel_rfl) (by exact fun _ _ _ h => h) (by rfl) ?_ ?_
 rotate_left
 ·intro w
  go_simp
  try with_reducible rfl
 try simp only [Act.put, setIfInBounds_toArray, set_cons_zero, set_cons_succ]
 refine until_take 23 (v := ?_) (by rfl) (by kernel_rfl) (by exact fun _ _ _ h => h) (by rfl) ?_ S7.out ?_
 rotate_left
 ·intro w hSw
  try dsimp only at hSw
  go_simp
  try with_reducible rfl
 try simp only [Act.put, setIfInBounds_toArray, set_cons_zero, set_cons_succ]
 refine until_pure 24 (v := ?_) (by rfl) (by kernel_rfl) (by exact fun _ _ _ h => h) (by rfl) ?_ ?_
 rotate_left
 ·intro w
  go_simp
  try with_reducible rfl
 try simp only [Act.put, setIfInBounds_toArray, set_cons_zero, set_cons_succ]
 refine until_pure 25 (v := ?_) (by rfl) (by kernel_rfl) (by exact fun _ _ _ h => h) (by rfl) ?_ ?_
 rotate_left
 ·intro w
  go_simp
  try with_reducible rfl
 try simp only [Act.put, setIfInBounds_toArray, set_cons_zero, set_cons_succ]
 refine until_pure 26 (v := ?_) (by rfl) (by kernel_rfl) (by exact fun _ _ _ h => h) (by rfl) ?_ ?_
 rotate_left
 ·intro w
  go_simp
  try with_reducible rfl
 try simp only [Act.put, setIfInBounds_toArray, set_cons_zero, set_cons_succ]
 refine until_pure 27 (v := ?_) (by rfl) (by kernel_rfl) (by exact fun _ _ _ h => h) (by rfl) ?_ ?_
 rotate_left
 ·intro w
  go_simp
  try with_reducible rfl
 try simp only [Act.put, setIfInBounds_toArray, set_cons_zero, set_cons_succ]
 refine until_take 28 (v := ?_) (by rfl) (by kernel_rfl) (by exact fun _ _ _ h => h) (by rfl) ?_ S7.out ?_
 rotate_left
 ·intro w hSw
  try dsimp only at hSw
  go_simp
  try with_reducible rfl
 try simp only [Act.put, setIfInBounds_toArray, set_cons_zero, set_cons_succ]
 refine until_pure 29 (v := ?_) (by rfl) (by kernel_rfl) (by exact fun _ _ _ h => h) (by rfl) ?_ ?_
 rotate_left
 ·intro w
  go_simp
  try with_reducible rfl
 try simp only [Act.put, setIfInBounds_toArray, set_cons_zero, set_cons_succ]
 refine until_take 30 (v := ?_) (by rfl) (by kernel_rfl) (by exact fun _ _ _ h => h) (by rfl) ?_ S7.out ?_
 rotate_left
 ·intro w hSw
  try dsimp only at hSw
  go_simp
  try with_reducible rfl
 try simp only [Act.put, setIfInBounds_toArray, set_cons_zero, set_cons_succ]
 refine until_pure 31 (v := ?_) (by rfl) (by kernel_rfl) (by exact fun _ _ _ h => h) (by rfl) ?_ ?_
 rotate_left
 ·intro w
  go_simp
  try with_reducible rfl
 try simp only [Act.put, setIfInBounds_toArray, set_cons_zero, set_cons_succ]
 refine until_pure 32 (v := ?_) (by rfl) (by kernel_rfl) (by exact fun _ _ _ h => h) (by rfl) ?_ ?_
 rotate_left
 ·intro w
  go_simp
  try with_reducible rfl
 try simp only [Act.put, setIfInBounds_toArray, set_cons_zero, set_cons_succ]
 refine until_pure 33 (v := ?_) (by rfl) (by kernel_rfl) (by exact fun _ _ _ h => h) (by rfl) ?_ ?_
 rotate_left
 ·intro w
  go_simp
  try with_reducible rfl
 try simp only [Act.put, setIfInBounds_toArray, set_cons_zero, set_cons_succ]
 refine until_done (by kernel_rfl) ?_ _
 go_wp2_with fail
 go_ret
 exact ⟨rfl, B7.out⟩
end Go.Proofs.YtgillglkmnocaaaDoor
