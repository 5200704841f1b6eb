/- CoCt CoMd CoS0 CoAw -/
import Derived.Test.YtlhoonohpfpkbaaRows
import Derived.Test.YtlhoonohpfpkbaaQp5
import Derived.Test.YtlhoonohpfpkbaaQp4
import Derived.Deep.Cut
import Derived.Handy
import Derived.Test.YtlhoonohpfpkbaaQp3
import Derived.Test.YtlhoonohpfpkbaaQp2
import Derived.Test.YtlhoonohpfpkbaaQp1
open List (setIfInBounds_toArray set_cons_zero set_cons_succ)
namespace Go.Proofs.Ytlhoonohpfpkbaa
open Go.ChangeShapes Go.WideShapes Go.ChangeAt Go.RowKit Go.PlainAid
set_option linter.unusedVariables false
theorem CoRows.atP {w : World} {base p : Nat} {x : Cor} {ul uy un um : Value} {cs : Array Value} (h : CoRows w base x ul uy un um) (hP : Blk w p cs 74) (j : Nat) (v : Value) : CoRows (w.setCell ⟨p, j, none⟩ v) base x ul uy un um := by
 have hp : ∀ k, k ≠ p → (w.setCell ⟨p, j, none⟩ v).heap[k]? = w.heap[k]? := fun k hk => Below.heap_setCell _ _ _ _ hk
 exact ⟨h.l.kept fun g hg e => hp g fun q => h.l.notBlk hP (by decide) (by rw [← q]; exact e), h.y.kept fun g hg e => hp g fun q => h.y.notBlk hP (by decide) (by rw [← q]; exact e), h.n.kept fun g hg e => hp g fun q => h.n.notBlk hP (by decide) (by rw [← q]; exact e), h.m.kept fun g hg e => hp g fun q => h.m.notBlk hP (by decide) (by rw [← q]; exact e), h.yn, h.ym, h.nm⟩
theorem MsO.atP {w : World} {base p : Nat} {us : Value} {L : List (Mg × Value)} {cs : Array Value} (h : MsO w base us L) (hP : Blk w p cs 74) (j : Nat) (v : Value) : MsO (w.setCell ⟨p, j, none⟩ v) base us L := by
 have hp : ∀ k, k ≠ p → (w.setCell ⟨p, j, none⟩ v).heap[k]? = w.heap[k]? := fun k hk => Below.heap_setCell _ _ _ _ hk
 exact ⟨h.r.kept fun g hg e => hp g fun q => h.r.notBlk hP (by decide) (by rw [← q]; exact e), fun a ha => (h.e a ha).kept fun g hg e => hp g fun q => (h.e a ha).notBlk hP (by decide) (by rw [← q]; exact e), h.a⟩
theorem CoRows.as {w : World} {base : Nat} {x y : Cor} {ul uy un um : Value} (h : CoRows w base x ul uy un um) (h1 : y.log = x.log) (h2 : y.yes = x.yes) (h3 : y.nxt = x.nxt) (h4 : y.mat = x.mat) : CoRows w base y ul uy un um := ⟨by rw [h1]; exact h.l, by rw [h2]; exact h.y, by rw [h3]; exact h.n, by rw [h4]; exact h.m, h.yn, h.ym, h.nm⟩
set_option maxHeartbeats 4000000 in
theorem reachedI (ci cp ct cv cr cd cb cbt : Int) (lg : List Ent) (cc : Int) (ys ns ms : List Int) (A0 : Option Addr) (An0 Ac0 : Nat) (A1 : Option Addr) (An1 Ac1 : Nat) (A2 : Option Addr) (An2 Ac2 : Nat) (A3 : Option Addr) (An3 Ac3 : Nat) (A4 : Option Addr) (An4 Ac4 : Nat) (L : List (Mg × Value)) (i : Int) (w : World) (base p : Nat) (hsp : SpkO w base p ⟨ci, cp, ct, cv, cr, cd, cb, cbt, lg, cc, ys, ns, ms⟩ (.slice A0 An0 Ac0) (.slice A1 An1 Ac1) (.slice A2 An2 Ac2) (.slice A3 An3 Ac3) (.slice A4 An4 Ac4) L) (hm5 : ms.length ≤ 1000) :
  Calls Try.prog 86 #[.pointer (some ⟨p, 0, none⟩), .int .i64 i] w fun e w' => e = .returned (.int .i64 (reachN ms i : Int)) ∧ w = w' := by
 have h12 := hsp.b.cell 12 _ rfl
 have HN := Hid.mk hsp.r.m
 obtain ⟨A3', c3', e3, _⟩ := hsp.r.m.shape
 cases e3
 have q1 : (ms.length : Int) ≤ 1000 := by omega
 have HRl : Hid (∀ k, reachN (ms.take k) i ≤ 1000) := fun k => by have := reachN_le (ms.take k) i; rw [List.length_take] at this; omega
 have HY : Hid (∀ k, k < ms.length → i ≤ ms.getD k 0 → reachN (ms.take (k + 1)) i = reachN (ms.take k) i + 1) := fun k h h' => reachN_yes h h'
 have HNo : Hid (∀ k, k < ms.length → ¬ i ≤ ms.getD k 0 → reachN (ms.take (k + 1)) i = reachN (ms.take k) i) := fun k h h' => reachN_no h h'
 have HFin : Hid (reachN (ms.take ms.length) i = reachN ms i) := by unfold Hid; rw [List.take_length]
 clear hsp hm5
 have HNl : Hid (Nums w base (.slice A3 ms.length Ac3) ms) := HN.out
 generalize hml : ms.length = n at *
 have HML : Hid (ms.length = n) := hml
 clear HN hml
 go_enter Try.func86, Try.ntmps86
 go_wp2_with fail
 go_loopw [5, 7, 14] (fun v5 v7 v14 wr => ∃ k : Nat, k ≤ n ∧ v14 = .int .i64 (k : Int) ∧ v5 = .int .i64 (reachN (ms.take k) i : Int) ∧ w = wr) (fun _ _ v _ => n - (intOf v).toNat)
 case atStart => exact ⟨0, by omega, rfl, rfl, rfl⟩
 case round =>
  obtain ⟨k, hk, rfl, rfl, rfl⟩ := hrel
  by_cases hlt : k < n
  ·have q2 : (k : Int) < (n : Int) := by omega
   obtain ⟨g3, e3, _, _⟩ := HNl.out.block (by rw [HML.out]; omega)
   subst e3
   have d0 := HNl.out.cell k (by rw [HML.out]; exact hlt)
   have hr := HRl.out k
   by_cases hi : i ≤ ms.getD k 0
   ·have HE := Hid.mk (HY.out k (by first | exact hlt | (rw [HML.out]; exact hlt)) hi)
    generalize ms.getD k 0 = z at *
    generalize reachN (ms.take k) i = rk at *
    have HE2 : Hid (((reachN (ms.take (k + 1)) i : Nat) : Int) = (rk : Int) + 1) := by unfold Hid; rw [HE.out]; omega
    have z1 : decide (i ≤ z) = true := decide_eq_true hi
    have q3 : (rk : Int) ≤ 1000 := by omega
    clear hi hr HE
    go_wp2_with fail
    go_roundw
    case rel => exact ⟨k + 1, by omega, by go_num, by rw [HE2.out], by first | rfl | trivial⟩
    case measure => simp [intOf]; omega
   ·have HE := Hid.mk (HNo.out k (by first | exact hlt | (rw [HML.out]; exact hlt)) (by omega))
    generalize ms.getD k 0 = z at *
    have z1 : decide (i ≤ z) = false := decide_eq_false hi
    clear hi hr
    go_wp2_with fail
    go_roundw
    case rel => exact ⟨k + 1, by omega, by go_num, by rw [HE.out], by first | rfl | trivial⟩
    case measure => simp [intOf]; omega
  ·obtain rfl : k = n := by omega
   go_wp2_with fail
   go_ret
   exact ⟨by rw [← HFin.out]; rfl, by first | rfl | trivial⟩
set_option maxRecDepth 20000 in
set_option maxHeartbeats 8000000 in
theorem countI (ci cp ct cv cr cd cb cbt : Int) (lg : List Ent) (cc : Int) (ys ns ms : List Int) (M : List Mg) (w : World) (base p : Nat) (hsp : Spk w base p ⟨ci, cp, ct, cv, cr, cd, cb, cbt, lg, cc, ys, ns, ms⟩ M) (hso : SendOk ⟨ci, cp, ct, cv, cr, cd, cb, cbt, lg, cc, ys, ns, ms⟩) (hbs : base ≤ w.heap.size) :
  Calls Try.prog 78 #[.pointer (some ⟨p, 0, none⟩)] w fun e w' => e = .returned (.tuple #[]) ∧ Spk w' base p (countX ⟨ci, cp, ct, cv, cr, cd, cb, cbt, lg, cc, ys, ns, ms⟩) M ∧ Below base w w' := by
 obtain ⟨ul, uy, un, um, us, L, hsp, hLM⟩ := hsp
 obtain ⟨A0, An0, Ac0, A1, An1, Ac1, A2, An2, Ac2, A3, An3, Ac3, A4, An4, Ac4, rfl, rfl, rfl, rfl, rfl⟩ := hsp.shape
 have HLM : Hid (L.map Prod.fst = M) := hLM
 have HBS : Hid (base ≤ w.heap.size) := hbs
 have hln : An0 = lg.length := by
  obtain ⟨A', c', e⟩ := hsp.r.l.shape
  rw [entR_length] at e
  cases e
  rfl
 have hb0 := hso.b0
 have hb1 := hso.b1
 have hn60 := hso.n
 have hcc := hso.c
 have hm5 : ms.length ≤ 1000 := by have h1 := hso.m; have h2 := hso.p1; simp only at h1 h2; omega
 unfold cLast at hcc
 simp only at hb0 hb1 hn60 hcc
 rw [← hln] at hn60 hcc
 obtain ⟨K, hK⟩ : ∃ K : Nat, cb + (An0 : Int) - cc = (K : Int) := ⟨(cb + (An0 : Int) - cc).toNat, by omega⟩
 have HFin : Hid (countX ⟨ci, cp, ct, cv, cr, cd, cb, cbt, lg, cc, ys, ns, ms⟩ = { (⟨ci, cp, ct, cv, cr, cd, cb, cbt, lg, cc, ys, ns, ms⟩ : Cor) with commit := cntFrom ⟨ci, cp, ct, cv, cr, cd, cb, cbt, lg, cc, ys, ns, ms⟩ K }) := by
  unfold Hid countX cLast
  simp only
  rw [← hln, show (cb + (An0 : Int) - cc).toNat = K by omega]
 have HYe : Hid (∀ k : Nat, cntAt ⟨ci, cp, ct, cv, cr, cd, cb, cbt, lg, cc, ys, ns, ms⟩ (cc + (k : Int) + 1) = true → cntFrom ⟨ci, cp, ct, cv, cr, cd, cb, cbt, lg, cc, ys, ns, ms⟩ (k + 1) = cc + (k : Int) + 1) := fun k h => cntFrom_yes h
 have HNo : Hid (∀ k : Nat, cntAt ⟨ci, cp, ct, cv, cr, cd, cb, cbt, lg, cc, ys, ns, ms⟩ (cc + (k : Int) + 1) = false → cntFrom ⟨ci, cp, ct, cv, cr, cd, cb, cbt, lg, cc, ys, ns, ms⟩ (k + 1) = cntFrom ⟨ci, cp, ct, cv, cr, cd, cb, cbt, lg, cc, ys, ns, ms⟩ k) := fun k h => cntFrom_no h
 have HC0 : Hid (cntFrom ⟨ci, cp, ct, cv, cr, cd, cb, cbt, lg, cc, ys, ns, ms⟩ 0 = cc) := rfl
 have HAt : Hid (∀ z, cntAt ⟨ci, cp, ct, cv, cr, cd, cb, cbt, lg, cc, ys, ns, ms⟩ z = (decide (termAt ⟨ci, cp, ct, cv, cr, cd, cb, cbt, lg, cc, ys, ns, ms⟩ z = ct) && decide (cp < 2 * (reachN ms z : Int)))) := fun z => rfl
 have cL := fun wx => lastI ci cp ct cv cr cd cb cbt cc A0 An0 Ac0 (.slice A1 An1 Ac1) (.slice A2 An2 Ac2) (.slice A3 An3 Ac3) wx (by omega) (by omega) (by omega)
 have cT0 := fun z wx h (h1 : cb ≤ z) (h2 : z ≤ cb + (An0 : Int)) => termI ci cp ct cv cr cd cb cbt lg cc ys ns ms A0 An0 Ac0 (.slice A1 An1 Ac1) (.slice A2 An2 Ac2) (.slice A3 An3 Ac3) z wx wx.heap.size h (by omega) (by omega) (by omega) h1 (by rw [← hln]; exact h2) (Nat.le_refl _)
 have cR0 := fun z wx h => reachedI ci cp ct cv cr cd cb cbt lg cc ys ns ms A0 An0 Ac0 A1 An1 Ac1 A2 An2 Ac2 A3 An3 Ac3 A4 An4 Ac4 L z wx base p h hm5
 have cM0 := fun (m : Nat) wx (h : m ≤ 1000) => majI ci cp ct cv cr cd cb cbt cc (m : Int) (.slice A0 An0 Ac0) (.slice A1 An1 Ac1) (.slice A2 An2 Ac2) (.slice A3 An3 Ac3) wx (by omega) (by omega)
 have HRn : Hid (∀ z, reachN ms z ≤ 1000) := fun z => Nat.le_trans (reachN_le ms z) hm5
 have HSp := Hid.mk hsp
 have PW : Hid (Blk w p #[.int .i64 ci, .int .i64 cp, .int .i64 ct, .int .i64 cv, .int .i64 cr, .int .i64 cd, .int .i64 cb, .int .i64 cbt, .slice A0 An0 Ac0, .int .i64 cc, .slice A1 An1 Ac1, .slice A2 An2 Ac2, .slice A3 An3 Ac3, .slice A4 An4 Ac4] 74) := hsp.b
 have HKb : Hid (cb ≤ cc ∧ cc + (K : Int) = cb + (An0 : Int) ∧ cb + (An0 : Int) ≤ 100060) := ⟨hcc.1, by omega, by omega⟩
 have hkb1 := HKb.out.1
 have hkb2 := HKb.out.2.2
 have hKK : (K : Int) = cb + (An0 : Int) - cc := hK.symm
 clear hsp hso hbs hLM hln hn60 hm5 hK
 obtain ⟨k0, k1, k2, k3, k4, k5, k6, k7, k8, k9, k10, k11, k12, k13⟩ := cells14 PW.out
 go_enter Try.func78, Try.ntmps78
 go_wp2_with fail
 refine (cL w).mono ?_
 rintro e w1 ⟨rfl, hb1'⟩
 have V1 := Hid.mk hb1'
 clear hb1' cL k0 k1 k2 k3 k4 k5 k6 k7 k8 k9 k10 k11 k12 k13
 go_wp2_with fail
 go_loopw [2] (fun v2 wr => ∃ k : Nat, k ≤ K ∧ v2 = .int .i64 (cc + (k : Int)) ∧ cntFrom ⟨ci, cp, ct, cv, cr, cd, cb, cbt, lg, cc, ys, ns, ms⟩ K = cntFrom ⟨ci, cp, ct, cv, cr, cd, cb, cbt, lg, cc, ys, ns, ms⟩ k ∧ Below w.heap.size w wr) (fun v _ => (intOf v - cc).toNat)
 case atStart => exact ⟨K, Nat.le_refl _, by rw [HKb.out.2.1], rfl, V1.out⟩
 case round =>
  obtain ⟨k, hk, rfl, hF, hB⟩ := hrel
  have HF := Hid.mk hF
  have BR := Hid.mk hB
  have PR := Hid.mk (PW.out.on hB PW.out.lt)
  have SR := Hid.mk (HSp.out.on hB)
  have k9 := PR.out.cell 9 _ rfl
  clear hF hB
  rcases k with _ | k
  ·have FS : Hid (Spk wr base p (countX ⟨ci, cp, ct, cv, cr, cd, cb, cbt, lg, cc, ys, ns, ms⟩) M) := by
    unfold Hid
    rw [HFin.out, HF.out, HC0.out]
    exact ⟨_, _, _, _, _, L, SR.out, HLM.out⟩
   have FB : Hid (Below base w wr) := BR.out.mono HBS.out
   have zz : decide (cc < cc + ((0 : Nat) : Int)) = false := decide_eq_false (by omega)
   have zz2 : decide (cc < cc) = false := decide_eq_false (by omega)
   go_wp2_with fail
   exact bodyPost_end (v := .tuple #[]) (by simp [results, go_sem]) rfl ⟨rfl, FS.out, FB.out⟩
  ·have hk1 : k + 1 ≤ K := hk
   have zz : decide (cc < cc + (k : Int) + 1) = true := decide_eq_true (by omega)
   have hcst : cc + (((k + 1 : Nat)) : Int) = cc + (k : Int) + 1 := by omega
   rw [hcst]
   have HRl : Hid (Lies wr wr.heap.size 2 (.slice A0 An0 Ac0) (entR lg)) := SR.out.r.l.lies
   have cT := fun wx (h : Lies wx wx.heap.size 2 (.slice A0 An0 Ac0) (entR lg)) => cT0 (cc + (k : Int) + 1) wx h (by omega) (by omega)
   have cR := fun wx h => cR0 (cc + (k : Int) + 1) wx h
   have cM := fun wx => cM0 (reachN ms (cc + (k : Int) + 1)) wx (HRn.out _)
   have hat := HAt.out (cc + (k : Int) + 1)
   have HY1 := Hid.mk (HYe.out k)
   have HN1 := Hid.mk (HNo.out k)
   have hrn := HRn.out (cc + (k : Int) + 1)
   have wk : IntKind.i64.wrap (cc + (k : Int) + 1 - 1) = cc + (k : Int) := by rw [IntKind.wrap_i64]; omega
   clear cT0 cR0 cM0 HYe HNo HAt HRn
   generalize termAt ⟨ci, cp, ct, cv, cr, cd, cb, cbt, lg, cc, ys, ns, ms⟩ (cc + (k : Int) + 1) = te at *
   generalize reachN ms (cc + (k : Int) + 1) = rn at *
   generalize cntAt ⟨ci, cp, ct, cv, cr, cd, cb, cbt, lg, cc, ys, ns, ms⟩ (cc + (k : Int) + 1) = ca at *
   by_cases ht : te = ct
   rotate_left
   ·have z1 : (te == ct) = false := beq_eq_false_iff_ne.2 ht
    rw [decide_eq_false ht, Bool.false_and] at hat
    clear ht
    go_wp2_with fail
    refine wp_region_until (fun w' => w'.cell? ⟨p, 0, none⟩ = some (.int .i64 ci) ∧ w'.cell? ⟨p, 1, none⟩ = some (.int .i64 cp) ∧ w'.cell? ⟨p, 2, none⟩ = some (.int .i64 ct) ∧ w'.cell? ⟨p, 3, none⟩ = some (.int .i64 cv) ∧ w'.cell? ⟨p, 4, none⟩ = some (.int .i64 cr) ∧ w'.cell? ⟨p, 5, none⟩ = some (.int .i64 cd) ∧ w'.cell? ⟨p, 6, none⟩ = some (.int .i64 cb) ∧ w'.cell? ⟨p, 7, none⟩ = some (.int .i64 cbt) ∧ w'.cell? ⟨p, 8, none⟩ = some (.slice A0 An0 Ac0) ∧ w'.cell? ⟨p, 9, none⟩ = some (.int .i64 cc) ∧ w'.cell? ⟨p, 10, none⟩ = some (.slice A1 An1 Ac1) ∧ w'.cell? ⟨p, 11, none⟩ = some (.slice A2 An2 Ac2) ∧ w'.cell? ⟨p, 12, none⟩ = some (.slice A3 An3 Ac3) ∧ w'.cell? ⟨p, 13, none⟩ = some (.slice A4 An4 Ac4)) (fun _ => false) 22 (by rfl) (by kernel_rfl) ?_
    have V0 : Hid (Below wr.heap.size wr wr.drew) := (Below.refl _ _).drew
    generalize wr.drew = Y0 at *
    have KP0 := Hid.mk (PR.out.on V0.out PR.out.lt)
    have SS0 := Hid.mk (show (fun w' => w'.cell? ⟨p, 0, none⟩ = some (.int .i64 ci) ∧ w'.cell? ⟨p, 1, none⟩ = some (.int .i64 cp) ∧ w'.cell? ⟨p, 2, none⟩ = some (.int .i64 ct) ∧ w'.cell? ⟨p, 3, none⟩ = some (.int .i64 cv) ∧ w'.cell? ⟨p, 4, none⟩ = some (.int .i64 cr) ∧ w'.cell? ⟨p, 5, none⟩ = some (.int .i64 cd) ∧ w'.cell? ⟨p, 6, none⟩ = some (.int .i64 cb) ∧ w'.cell? ⟨p, 7, none⟩ = some (.int .i64 cbt) ∧ w'.cell? ⟨p, 8, none⟩ = some (.slice A0 An0 Ac0) ∧ w'.cell? ⟨p, 9, none⟩ = some (.int .i64 cc) ∧ w'.cell? ⟨p, 10, none⟩ = some (.slice A1 An1 Ac1) ∧ w'.cell? ⟨p, 11, none⟩ = some (.slice A2 An2 Ac2) ∧ w'.cell? ⟨p, 12, none⟩ = some (.slice A3 An3 Ac3) ∧ w'.cell? ⟨p, 13, none⟩ = some (.slice A4 An4 Ac4)) Y0 from ⟨KP0.out.cell 0 _ rfl, KP0.out.cell 1 _ rfl, KP0.out.cell 2 _ rfl, KP0.out.cell 3 _ rfl, KP0.out.cell 4 _ rfl, KP0.out.cell 5 _ rfl, KP0.out.cell 6 _ rfl, KP0.out.cell 7 _ rfl, KP0.out.cell 8 _ rfl, KP0.out.cell 9 _ rfl, KP0.out.cell 10 _ rfl, KP0.out.cell 11 _ rfl, KP0.out.cell 12 _ rfl, KP0.out.cell 13 _ rfl⟩)
    refine pF 0 ?_
    refine pF 1 ?_
    refine pF 2 ?_
    refine tF 3 SS0.out ?_
    refine pF 4 ?_
    refine pF 6 ?_
    refine pF 7 ?_
    refine pF 8 ?_
    refine pF 9 ?_
    refine tF 10 SS0.out ?_
    refine uNe 5 (fun K hK => ?_)
    go_simp
    refine (cT Y0 (SR.out.on V0.out).r.l.lies).mono ?_
    rintro e Y1 ⟨rfl, hb⟩
    have V1 : Hid (Below wr.heap.size wr Y1) := V0.out.trans (hb.mono V0.out.size)
    have KP1 := Hid.mk (PR.out.on V1.out PR.out.lt)
    clear hb
    refine hK.out _ _ (fun _ _ => ⟨KP1.out.cell 0 _ rfl, KP1.out.cell 1 _ rfl, KP1.out.cell 2 _ rfl, KP1.out.cell 3 _ rfl, KP1.out.cell 4 _ rfl, KP1.out.cell 5 _ rfl, KP1.out.cell 6 _ rfl, KP1.out.cell 7 _ rfl, KP1.out.cell 8 _ rfl, KP1.out.cell 9 _ rfl, KP1.out.cell 10 _ rfl, KP1.out.cell 11 _ rfl, KP1.out.cell 12 _ rfl, KP1.out.cell 13 _ rfl⟩) ?_
    clear hK K
    try simp only [Act.put, zQ1, zQ2, zQ3]
    have SS1 := Hid.mk (show (fun w' => w'.cell? ⟨p, 0, none⟩ = some (.int .i64 ci) ∧ w'.cell? ⟨p, 1, none⟩ = some (.int .i64 cp) ∧ w'.cell? ⟨p, 2, none⟩ = some (.int .i64 ct) ∧ w'.cell? ⟨p, 3, none⟩ = some (.int .i64 cv) ∧ w'.cell? ⟨p, 4, none⟩ = some (.int .i64 cr) ∧ w'.cell? ⟨p, 5, none⟩ = some (.int .i64 cd) ∧ w'.cell? ⟨p, 6, none⟩ = some (.int .i64 cb) ∧ w'.cell? ⟨p, 7, none⟩ = some (.int .i64 cbt) ∧ w'.cell? ⟨p, 8, none⟩ = some (.slice A0 An0 Ac0) ∧ w'.cell? ⟨p, 9, none⟩ = some (.int .i64 cc) ∧ w'.cell? ⟨p, 10, none⟩ = some (.slice A1 An1 Ac1) ∧ w'.cell? ⟨p, 11, none⟩ = some (.slice A2 An2 Ac2) ∧ w'.cell? ⟨p, 12, none⟩ = some (.slice A3 An3 Ac3) ∧ w'.cell? ⟨p, 13, none⟩ = some (.slice A4 An4 Ac4)) Y1 from ⟨KP1.out.cell 0 _ rfl, KP1.out.cell 1 _ rfl, KP1.out.cell 2 _ rfl, KP1.out.cell 3 _ rfl, KP1.out.cell 4 _ rfl, KP1.out.cell 5 _ rfl, KP1.out.cell 6 _ rfl, KP1.out.cell 7 _ rfl, KP1.out.cell 8 _ rfl, KP1.out.cell 9 _ rfl, KP1.out.cell 10 _ rfl, KP1.out.cell 11 _ rfl, KP1.out.cell 12 _ rfl, KP1.out.cell 13 _ rfl⟩)
    refine pF 11 ?_
    refine pF 12 ?_
    refine sF 13 ?_
    refine sF 14 ?_
    refine sF 15 ?_
    refine sF 16 ?_
    refine sF 17 ?_
    refine sF 18 ?_
    refine sF 19 ?_
    refine sF 20 ?_
    refine pF 21 ?_
    refine until_done (by kernel_rfl) ?_ _
    have HF2 : Hid (cntFrom ⟨ci, cp, ct, cv, cr, cd, cb, cbt, lg, cc, ys, ns, ms⟩ K = cntFrom ⟨ci, cp, ct, cv, cr, cd, cb, cbt, lg, cc, ys, ns, ms⟩ k) := by unfold Hid; rw [HF.out]; exact HN1.out hat
    have BF : Hid (Below w.heap.size w Y1) := BR.out.trans (V1.out.mono BR.out.size)
    clear hat
    try go_wp2_with fail
    go_roundw
    case rel => exact ⟨k, by omega, rfl, HF2.out, BF.out⟩
    case measure => simp [intOf]; omega
   have z1 : (te == ct) = true := beq_iff_eq.2 ht
   rw [decide_eq_true ht, Bool.true_and] at hat
   clear ht
   by_cases hp2 : cp < 2 * (rn : Int)
   rotate_left
   ·have z2 : decide (cp < 2 * (rn : Int)) = false := decide_eq_false hp2
    rw [z2] at hat cM
    clear hp2
    go_wp2_with fail
    refine wp_region_until (fun w' => w'.cell? ⟨p, 0, none⟩ = some (.int .i64 ci) ∧ w'.cell? ⟨p, 1, none⟩ = some (.int .i64 cp) ∧ w'.cell? ⟨p, 2, none⟩ = some (.int .i64 ct) ∧ w'.cell? ⟨p, 3, none⟩ = some (.int .i64 cv) ∧ w'.cell? ⟨p, 4, none⟩ = some (.int .i64 cr) ∧ w'.cell? ⟨p, 5, none⟩ = some (.int .i64 cd) ∧ w'.cell? ⟨p, 6, none⟩ = some (.int .i64 cb) ∧ w'.cell? ⟨p, 7, none⟩ = some (.int .i64 cbt) ∧ w'.cell? ⟨p, 8, none⟩ = some (.slice A0 An0 Ac0) ∧ w'.cell? ⟨p, 9, none⟩ = some (.int .i64 cc) ∧ w'.cell? ⟨p, 10, none⟩ = some (.slice A1 An1 Ac1) ∧ w'.cell? ⟨p, 11, none⟩ = some (.slice A2 An2 Ac2) ∧ w'.cell? ⟨p, 12, none⟩ = some (.slice A3 An3 Ac3) ∧ w'.cell? ⟨p, 13, none⟩ = some (.slice A4 An4 Ac4)) (fun _ => false) 22 (by rfl) (by kernel_rfl) ?_
    have V0 : Hid (Below wr.heap.size wr wr.drew) := (Below.refl _ _).drew
    generalize wr.drew = Y0 at *
    have KP0 := Hid.mk (PR.out.on V0.out PR.out.lt)
    have SS0 := Hid.mk (show (fun w' => w'.cell? ⟨p, 0, none⟩ = some (.int .i64 ci) ∧ w'.cell? ⟨p, 1, none⟩ = some (.int .i64 cp) ∧ w'.cell? ⟨p, 2, none⟩ = some (.int .i64 ct) ∧ w'.cell? ⟨p, 3, none⟩ = some (.int .i64 cv) ∧ w'.cell? ⟨p, 4, none⟩ = some (.int .i64 cr) ∧ w'.cell? ⟨p, 5, none⟩ = some (.int .i64 cd) ∧ w'.cell? ⟨p, 6, none⟩ = some (.int .i64 cb) ∧ w'.cell? ⟨p, 7, none⟩ = some (.int .i64 cbt) ∧ w'.cell? ⟨p, 8, none⟩ = some (.slice A0 An0 Ac0) ∧ w'.cell? ⟨p, 9, none⟩ = some (.int .i64 cc) ∧ w'.cell? ⟨p, 10, none⟩ = some (.slice A1 An1 Ac1) ∧ w'.cell? ⟨p, 11, none⟩ = some (.slice A2 An2 Ac2) ∧ w'.cell? ⟨p, 12, none⟩ = some (.slice A3 An3 Ac3) ∧ w'.cell? ⟨p, 13, none⟩ = some (.slice A4 An4 Ac4)) Y0 from ⟨KP0.out.cell 0 _ rfl, KP0.out.cell 1 _ rfl, KP0.out.cell 2 _ rfl, KP0.out.cell 3 _ rfl, KP0.out.cell 4 _ rfl, KP0.out.cell 5 _ rfl, KP0.out.cell 6 _ rfl, KP0.out.cell 7 _ rfl, KP0.out.cell 8 _ rfl, KP0.out.cell 9 _ rfl, KP0.out.cell 10 _ rfl, KP0.out.cell 11 _ rfl, KP0.out.cell 12 _ rfl, KP0.out.cell 13 _ rfl⟩)
    refine pF 0 ?_
    refine pF 1 ?_
    refine pF 2 ?_
    refine tF 3 SS0.out ?_
    refine pF 4 ?_
    refine pF 6 ?_
    refine pF 7 ?_
    refine pF 8 ?_
    refine pF 9 ?_
    refine tF 10 SS0.out ?_
    refine uNe 5 (fun K hK => ?_)
    go_simp
    refine (cT Y0 (SR.out.on V0.out).r.l.lies).mono ?_
    rintro e Y1 ⟨rfl, hb⟩
    have V1 : Hid (Below wr.heap.size wr Y1) := V0.out.trans (hb.mono V0.out.size)
    have KP1 := Hid.mk (PR.out.on V1.out PR.out.lt)
    clear hb
    refine hK.out _ _ (fun _ _ => ⟨KP1.out.cell 0 _ rfl, KP1.out.cell 1 _ rfl, KP1.out.cell 2 _ rfl, KP1.out.cell 3 _ rfl, KP1.out.cell 4 _ rfl, KP1.out.cell 5 _ rfl, KP1.out.cell 6 _ rfl, KP1.out.cell 7 _ rfl, KP1.out.cell 8 _ rfl, KP1.out.cell 9 _ rfl, KP1.out.cell 10 _ rfl, KP1.out.cell 11 _ rfl, KP1.out.cell 12 _ rfl, KP1.out.cell 13 _ rfl⟩) ?_
    clear hK K
    try simp only [Act.put, zQ1, zQ2, zQ3]
    have SS1 := Hid.mk (show (fun w' => w'.cell? ⟨p, 0, none⟩ = some (.int .i64 ci) ∧ w'.cell? ⟨p, 1, none⟩ = some (.int .i64 cp) ∧ w'.cell? ⟨p, 2, none⟩ = some (.int .i64 ct) ∧ w'.cell? ⟨p, 3, none⟩ = some (.int .i64 cv) ∧ w'.cell? ⟨p, 4, none⟩ = some (.int .i64 cr) ∧ w'.cell? ⟨p, 5, none⟩ = some (.int .i64 cd) ∧ w'.cell? ⟨p, 6, none⟩ = some (.int .i64 cb) ∧ w'.cell? ⟨p, 7, none⟩ = some (.int .i64 cbt) ∧ w'.cell? ⟨p, 8, none⟩ = some (.slice A0 An0 Ac0) ∧ w'.cell? ⟨p, 9, none⟩ = some (.int .i64 cc) ∧ w'.cell? ⟨p, 10, none⟩ = some (.slice A1 An1 Ac1) ∧ w'.cell? ⟨p, 11, none⟩ = some (.slice A2 An2 Ac2) ∧ w'.cell? ⟨p, 12, none⟩ = some (.slice A3 An3 Ac3) ∧ w'.cell? ⟨p, 13, none⟩ = some (.slice A4 An4 Ac4)) Y1 from ⟨KP1.out.cell 0 _ rfl, KP1.out.cell 1 _ rfl, KP1.out.cell 2 _ rfl, KP1.out.cell 3 _ rfl, KP1.out.cell 4 _ rfl, KP1.out.cell 5 _ rfl, KP1.out.cell 6 _ rfl, KP1.out.cell 7 _ rfl, KP1.out.cell 8 _ rfl, KP1.out.cell 9 _ rfl, KP1.out.cell 10 _ rfl, KP1.out.cell 11 _ rfl, KP1.out.cell 12 _ rfl, KP1.out.cell 13 _ rfl⟩)
    refine pF 11 ?_
    refine pF 12 ?_
    refine pF 13 ?_
    refine pF 14 ?_
    refine pF 15 ?_
    refine tF 16 SS1.out ?_
    refine pF 17 ?_
    refine pF 18 ?_
    refine uNe 19 (fun K hK => ?_)
    go_simp
    refine (cR Y1 (SR.out.on V1.out)).mono ?_
    rintro e w9 ⟨rfl, rfl⟩
    refine hK.out _ _ (fun _ _ => ⟨KP1.out.cell 0 _ rfl, KP1.out.cell 1 _ rfl, KP1.out.cell 2 _ rfl, KP1.out.cell 3 _ rfl, KP1.out.cell 4 _ rfl, KP1.out.cell 5 _ rfl, KP1.out.cell 6 _ rfl, KP1.out.cell 7 _ rfl, KP1.out.cell 8 _ rfl, KP1.out.cell 9 _ rfl, KP1.out.cell 10 _ rfl, KP1.out.cell 11 _ rfl, KP1.out.cell 12 _ rfl, KP1.out.cell 13 _ rfl⟩) ?_
    clear hK K
    try simp only [Act.put, zQ1, zQ2, zQ3]
    refine uNe 20 (fun K hK => ?_)
    go_simp
    refine (cM Y1).mono ?_
    rintro e Y2 ⟨rfl, hb⟩
    have V2 : Hid (Below wr.heap.size wr Y2) := V1.out.trans (hb.mono V1.out.size)
    have KP2 := Hid.mk (PR.out.on V2.out PR.out.lt)
    clear hb
    refine hK.out _ _ (fun _ _ => ⟨KP2.out.cell 0 _ rfl, KP2.out.cell 1 _ rfl, KP2.out.cell 2 _ rfl, KP2.out.cell 3 _ rfl, KP2.out.cell 4 _ rfl, KP2.out.cell 5 _ rfl, KP2.out.cell 6 _ rfl, KP2.out.cell 7 _ rfl, KP2.out.cell 8 _ rfl, KP2.out.cell 9 _ rfl, KP2.out.cell 10 _ rfl, KP2.out.cell 11 _ rfl, KP2.out.cell 12 _ rfl, KP2.out.cell 13 _ rfl⟩) ?_
    clear hK K
    try simp only [Act.put, zQ1, zQ2, zQ3]
    have SS2 := Hid.mk (show (fun w' => w'.cell? ⟨p, 0, none⟩ = some (.int .i64 ci) ∧ w'.cell? ⟨p, 1, none⟩ = some (.int .i64 cp) ∧ w'.cell? ⟨p, 2, none⟩ = some (.int .i64 ct) ∧ w'.cell? ⟨p, 3, none⟩ = some (.int .i64 cv) ∧ w'.cell? ⟨p, 4, none⟩ = some (.int .i64 cr) ∧ w'.cell? ⟨p, 5, none⟩ = some (.int .i64 cd) ∧ w'.cell? ⟨p, 6, none⟩ = some (.int .i64 cb) ∧ w'.cell? ⟨p, 7, none⟩ = some (.int .i64 cbt) ∧ w'.cell? ⟨p, 8, none⟩ = some (.slice A0 An0 Ac0) ∧ w'.cell? ⟨p, 9, none⟩ = some (.int .i64 cc) ∧ w'.cell? ⟨p, 10, none⟩ = some (.slice A1 An1 Ac1) ∧ w'.cell? ⟨p, 11, none⟩ = some (.slice A2 An2 Ac2) ∧ w'.cell? ⟨p, 12, none⟩ = some (.slice A3 An3 Ac3) ∧ w'.cell? ⟨p, 13, none⟩ = some (.slice A4 An4 Ac4)) Y2 from ⟨KP2.out.cell 0 _ rfl, KP2.out.cell 1 _ rfl, KP2.out.cell 2 _ rfl, KP2.out.cell 3 _ rfl, KP2.out.cell 4 _ rfl, KP2.out.cell 5 _ rfl, KP2.out.cell 6 _ rfl, KP2.out.cell 7 _ rfl, KP2.out.cell 8 _ rfl, KP2.out.cell 9 _ rfl, KP2.out.cell 10 _ rfl, KP2.out.cell 11 _ rfl, KP2.out.cell 12 _ rfl, KP2.out.cell 13 _ rfl⟩)
    refine pF 21 ?_
    refine until_done (by kernel_rfl) ?_ _
    have HF2 : Hid (cntFrom ⟨ci, cp, ct, cv, cr, cd, cb, cbt, lg, cc, ys, ns, ms⟩ K = cntFrom ⟨ci, cp, ct, cv, cr, cd, cb, cbt, lg, cc, ys, ns, ms⟩ k) := by unfold Hid; rw [HF.out]; exact HN1.out hat
    have BF : Hid (Below w.heap.size w Y2) := BR.out.trans (V2.out.mono BR.out.size)
    clear hat
    try go_wp2_with fail
    go_roundw
    case rel => exact ⟨k, by omega, rfl, HF2.out, BF.out⟩
    case measure => simp [intOf]; omega
   have z2 : decide (cp < 2 * (rn : Int)) = true := decide_eq_true hp2
   rw [z2] at hat cM
   clear hp2
   go_wp2_with fail
   refine wp_region_until (fun w' => w'.cell? ⟨p, 0, none⟩ = some (.int .i64 ci) ∧ w'.cell? ⟨p, 1, none⟩ = some (.int .i64 cp) ∧ w'.cell? ⟨p, 2, none⟩ = some (.int .i64 ct) ∧ w'.cell? ⟨p, 3, none⟩ = some (.int .i64 cv) ∧ w'.cell? ⟨p, 4, none⟩ = some (.int .i64 cr) ∧ w'.cell? ⟨p, 5, none⟩ = some (.int .i64 cd) ∧ w'.cell? ⟨p, 6, none⟩ = some (.int .i64 cb) ∧ w'.cell? ⟨p, 7, none⟩ = some (.int .i64 cbt) ∧ w'.cell? ⟨p, 8, none⟩ = some (.slice A0 An0 Ac0) ∧ w'.cell? ⟨p, 9, none⟩ = some (.int .i64 cc) ∧ w'.cell? ⟨p, 10, none⟩ = some (.slice A1 An1 Ac1) ∧ w'.cell? ⟨p, 11, none⟩ = some (.slice A2 An2 Ac2) ∧ w'.cell? ⟨p, 12, none⟩ = some (.slice A3 An3 Ac3) ∧ w'.cell? ⟨p, 13, none⟩ = some (.slice A4 An4 Ac4)) (fun _ => false) 22 (by rfl) (by kernel_rfl) ?_
   have V0 : Hid (Below wr.heap.size wr wr.drew) := (Below.refl _ _).drew
   generalize wr.drew = Y0 at *
   have KP0 := Hid.mk (PR.out.on V0.out PR.out.lt)
   have SS0 := Hid.mk (show (fun w' => w'.cell? ⟨p, 0, none⟩ = some (.int .i64 ci) ∧ w'.cell? ⟨p, 1, none⟩ = some (.int .i64 cp) ∧ w'.cell? ⟨p, 2, none⟩ = some (.int .i64 ct) ∧ w'.cell? ⟨p, 3, none⟩ = some (.int .i64 cv) ∧ w'.cell? ⟨p, 4, none⟩ = some (.int .i64 cr) ∧ w'.cell? ⟨p, 5, none⟩ = some (.int .i64 cd) ∧ w'.cell? ⟨p, 6, none⟩ = some (.int .i64 cb) ∧ w'.cell? ⟨p, 7, none⟩ = some (.int .i64 cbt) ∧ w'.cell? ⟨p, 8, none⟩ = some (.slice A0 An0 Ac0) ∧ w'.cell? ⟨p, 9, none⟩ = some (.int .i64 cc) ∧ w'.cell? ⟨p, 10, none⟩ = some (.slice A1 An1 Ac1) ∧ w'.cell? ⟨p, 11, none⟩ = some (.slice A2 An2 Ac2) ∧ w'.cell? ⟨p, 12, none⟩ = some (.slice A3 An3 Ac3) ∧ w'.cell? ⟨p, 13, none⟩ = some (.slice A4 An4 Ac4)) Y0 from ⟨KP0.out.cell 0 _ rfl, KP0.out.cell 1 _ rfl, KP0.out.cell 2 _ rfl, KP0.out.cell 3 _ rfl, KP0.out.cell 4 _ rfl, KP0.out.cell 5 _ rfl, KP0.out.cell 6 _ rfl, KP0.out.cell 7 _ rfl, KP0.out.cell 8 _ rfl, KP0.out.cell 9 _ rfl, KP0.out.cell 10 _ rfl, KP0.out.cell 11 _ rfl, KP0.out.cell 12 _ rfl, KP0.out.cell 13 _ rfl⟩)
   refine pF 0 ?_
   refine pF 1 ?_
   refine pF 2 ?_
   refine tF 3 SS0.out ?_
   refine pF 4 ?_
   refine pF 6 ?_
   refine pF 7 ?_
   refine pF 8 ?_
   refine pF 9 ?_
   refine tF 10 SS0.out ?_
   refine uNe 5 (fun K hK => ?_)
   go_simp
   refine (cT Y0 (SR.out.on V0.out).r.l.lies).mono ?_
   rintro e Y1 ⟨rfl, hb⟩
   have V1 : Hid (Below wr.heap.size wr Y1) := V0.out.trans (hb.mono V0.out.size)
   have KP1 := Hid.mk (PR.out.on V1.out PR.out.lt)
   clear hb
   refine hK.out _ _ (fun _ _ => ⟨KP1.out.cell 0 _ rfl, KP1.out.cell 1 _ rfl, KP1.out.cell 2 _ rfl, KP1.out.cell 3 _ rfl, KP1.out.cell 4 _ rfl, KP1.out.cell 5 _ rfl, KP1.out.cell 6 _ rfl, KP1.out.cell 7 _ rfl, KP1.out.cell 8 _ rfl, KP1.out.cell 9 _ rfl, KP1.out.cell 10 _ rfl, KP1.out.cell 11 _ rfl, KP1.out.cell 12 _ rfl, KP1.out.cell 13 _ rfl⟩) ?_
   clear hK K
   try simp only [Act.put, zQ1, zQ2, zQ3]
   have SS1 := Hid.mk (show (fun w' => w'.cell? ⟨p, 0, none⟩ = some (.int .i64 ci) ∧ w'.cell? ⟨p, 1, none⟩ = some (.int .i64 cp) ∧ w'.cell? ⟨p, 2, none⟩ = some (.int .i64 ct) ∧ w'.cell? ⟨p, 3, none⟩ = some (.int .i64 cv) ∧ w'.cell? ⟨p, 4, none⟩ = some (.int .i64 cr) ∧ w'.cell? ⟨p, 5, none⟩ = some (.int .i64 cd) ∧ w'.cell? ⟨p, 6, none⟩ = some (.int .i64 cb) ∧ w'.cell? ⟨p, 7, none⟩ = some (.int .i64 cbt) ∧ w'.cell? ⟨p, 8, none⟩ = some (.slice A0 An0 Ac0) ∧ w'.cell? ⟨p, 9, none⟩ = some (.int .i64 cc) ∧ w'.cell? ⟨p, 10, none⟩ = some (.slice A1 An1 Ac1) ∧ w'.cell? ⟨p, 11, none⟩ = some (.slice A2 An2 Ac2) ∧ w'.cell? ⟨p, 12, none⟩ = some (.slice A3 An3 Ac3) ∧ w'.cell? ⟨p, 13, none⟩ = some (.slice A4 An4 Ac4)) Y1 from ⟨KP1.out.cell 0 _ rfl, KP1.out.cell 1 _ rfl, KP1.out.cell 2 _ rfl, KP1.out.cell 3 _ rfl, KP1.out.cell 4 _ rfl, KP1.out.cell 5 _ rfl, KP1.out.cell 6 _ rfl, KP1.out.cell 7 _ rfl, KP1.out.cell 8 _ rfl, KP1.out.cell 9 _ rfl, KP1.out.cell 10 _ rfl, KP1.out.cell 11 _ rfl, KP1.out.cell 12 _ rfl, KP1.out.cell 13 _ rfl⟩)
   refine pF 11 ?_
   refine pF 12 ?_
   refine pF 13 ?_
   refine pF 14 ?_
   refine pF 15 ?_
   refine tF 16 SS1.out ?_
   refine pF 17 ?_
   refine pF 18 ?_
   refine uNe 19 (fun K hK => ?_)
   go_simp
   refine (cR Y1 (SR.out.on V1.out)).mono ?_
   rintro e w9 ⟨rfl, rfl⟩
   refine hK.out _ _ (fun _ _ => ⟨KP1.out.cell 0 _ rfl, KP1.out.cell 1 _ rfl, KP1.out.cell 2 _ rfl, KP1.out.cell 3 _ rfl, KP1.out.cell 4 _ rfl, KP1.out.cell 5 _ rfl, KP1.out.cell 6 _ rfl, KP1.out.cell 7 _ rfl, KP1.out.cell 8 _ rfl, KP1.out.cell 9 _ rfl, KP1.out.cell 10 _ rfl, KP1.out.cell 11 _ rfl, KP1.out.cell 12 _ rfl, KP1.out.cell 13 _ rfl⟩) ?_
   clear hK K
   try simp only [Act.put, zQ1, zQ2, zQ3]
   refine uNe 20 (fun K hK => ?_)
   go_simp
   refine (cM Y1).mono ?_
   rintro e Y2 ⟨rfl, hb⟩
   have V2 : Hid (Below wr.heap.size wr Y2) := V1.out.trans (hb.mono V1.out.size)
   have KP2 := Hid.mk (PR.out.on V2.out PR.out.lt)
   clear hb
   refine hK.out _ _ (fun _ _ => ⟨KP2.out.cell 0 _ rfl, KP2.out.cell 1 _ rfl, KP2.out.cell 2 _ rfl, KP2.out.cell 3 _ rfl, KP2.out.cell 4 _ rfl, KP2.out.cell 5 _ rfl, KP2.out.cell 6 _ rfl, KP2.out.cell 7 _ rfl, KP2.out.cell 8 _ rfl, KP2.out.cell 9 _ rfl, KP2.out.cell 10 _ rfl, KP2.out.cell 11 _ rfl, KP2.out.cell 12 _ rfl, KP2.out.cell 13 _ rfl⟩) ?_
   clear hK K
   try simp only [Act.put, zQ1, zQ2, zQ3]
   have SS2 := Hid.mk (show (fun w' => w'.cell? ⟨p, 0, none⟩ = some (.int .i64 ci) ∧ w'.cell? ⟨p, 1, none⟩ = some (.int .i64 cp) ∧ w'.cell? ⟨p, 2, none⟩ = some (.int .i64 ct) ∧ w'.cell? ⟨p, 3, none⟩ = some (.int .i64 cv) ∧ w'.cell? ⟨p, 4, none⟩ = some (.int .i64 cr) ∧ w'.cell? ⟨p, 5, none⟩ = some (.int .i64 cd) ∧ w'.cell? ⟨p, 6, none⟩ = some (.int .i64 cb) ∧ w'.cell? ⟨p, 7, none⟩ = some (.int .i64 cbt) ∧ w'.cell? ⟨p, 8, none⟩ = some (.slice A0 An0 Ac0) ∧ w'.cell? ⟨p, 9, none⟩ = some (.int .i64 cc) ∧ w'.cell? ⟨p, 10, none⟩ = some (.slice A1 An1 Ac1) ∧ w'.cell? ⟨p, 11, none⟩ = some (.slice A2 An2 Ac2) ∧ w'.cell? ⟨p, 12, none⟩ = some (.slice A3 An3 Ac3) ∧ w'.cell? ⟨p, 13, none⟩ = some (.slice A4 An4 Ac4)) Y2 from ⟨KP2.out.cell 0 _ rfl, KP2.out.cell 1 _ rfl, KP2.out.cell 2 _ rfl, KP2.out.cell 3 _ rfl, KP2.out.cell 4 _ rfl, KP2.out.cell 5 _ rfl, KP2.out.cell 6 _ rfl, KP2.out.cell 7 _ rfl, KP2.out.cell 8 _ rfl, KP2.out.cell 9 _ rfl, KP2.out.cell 10 _ rfl, KP2.out.cell 11 _ rfl, KP2.out.cell 12 _ rfl, KP2.out.cell 13 _ rfl⟩)
   refine pF 21 ?_
   refine until_done (by kernel_rfl) ?_ _
   have P3 := Hid.mk (PR.out.on V2.out PR.out.lt)
   have f9 := P3.out.free 9
   have o9 := P3.out.cell 9 _ rfl
   have FS : Hid (Spk (Y2.setCell ⟨p, 9, none⟩ (.int .i64 (cc + (k : Int) + 1))) base p (countX ⟨ci, cp, ct, cv, cr, cd, cb, cbt, lg, cc, ys, ns, ms⟩) M) := by
    unfold Hid
    rw [HFin.out, HF.out, HY1.out hat]
    exact ⟨_, _, _, _, _, L, ⟨P3.out.set 9 _, ((SR.out.on V2.out).r.atP P3.out 9 _).as rfl rfl rfl rfl, (SR.out.on V2.out).m.atP P3.out 9 _, SR.out.a, SR.out.p⟩, HLM.out⟩
   have FB : Hid (Below base w (Y2.setCell ⟨p, 9, none⟩ (.int .i64 (cc + (k : Int) + 1)))) := ((BR.out.trans (V2.out.mono BR.out.size)).mono HBS.out).setCell HSp.out.p _
   clear hat
   try go_wp2_with fail
   exact bodyPost_ret (v := .tuple #[]) (by simp [results, go_sem]) rfl ⟨rfl, FS.out, FB.out⟩
end Go.Proofs.Ytlhoonohpfpkbaa
namespace Go.Proofs.Ytlhoonohpfpkbaa
open Go.ChangeShapes Go.WideShapes Go.ChangeAt Go.RowKit Go.PlainAid
set_option linter.unusedVariables false
theorem CoRows.setM {w : World} {base g n c j : Nat} {x : Cor} {ul uy un : Value} {z : Int} (h : CoRows w base x ul uy un (.slice (some ⟨g, 0, none⟩) n c)) : CoRows (w.setCell ⟨g, j, none⟩ (.int .i64 z)) base { x with mat := x.mat.set j z } ul uy un (.slice (some ⟨g, 0, none⟩) n c) := by
 obtain ⟨cs, fz, e⟩ := h.m.kind (g := g) rfl
 exact ⟨h.l.kept fun k hk e' => Below.heap_setCell _ _ _ _ fun q => h.l.notBlk e (by decide) (by have q' : k = g := q; rw [← q']; exact e'), h.y.other (fun e' => h.ym g e' rfl) _ _, h.n.other (fun e' => h.nm g e' rfl) _ _, h.m.stored j z, h.yn, h.ym, h.nm⟩
theorem CoRows.setN {w : World} {base g n c j : Nat} {x : Cor} {ul uy um : Value} {z : Int} (h : CoRows w base x ul uy (.slice (some ⟨g, 0, none⟩) n c) um) : CoRows (w.setCell ⟨g, j, none⟩ (.int .i64 z)) base { x with nxt := x.nxt.set j z } ul uy (.slice (some ⟨g, 0, none⟩) n c) um := by
 obtain ⟨cs, fz, e⟩ := h.n.kind (g := g) rfl
 exact ⟨h.l.kept fun k hk e' => Below.heap_setCell _ _ _ _ fun q => h.l.notBlk e (by decide) (by have q' : k = g := q; rw [← q']; exact e'), h.y.other (fun e' => h.yn g e' rfl) _ _, h.n.stored j z, h.m.other (fun e' => h.nm g rfl e') _ _, h.yn, h.ym, h.nm⟩
theorem MsO.setI {w : World} {base b g n c j : Nat} {us : Value} {L : List (Mg × Value)} {l : List Int} {v : Value} (h : MsO w base us L) (hn : Nums w b (.slice (some ⟨g, 0, none⟩) n c) l) : MsO (w.setCell ⟨g, j, none⟩ v) base us L := by
 obtain ⟨cs, fz, e⟩ := hn.kind (g := g) rfl
 exact ⟨h.r.kept fun k hk e' => Below.heap_setCell _ _ _ _ fun q => h.r.notBlk e (by decide) (by have q' : k = g := q; rw [← q']; exact e'), fun a ha => (h.e a ha).kept fun k hk e' => Below.heap_setCell _ _ _ _ fun q => (h.e a ha).notBlk e (by decide) (by have q' : k = g := q; rw [← q']; exact e'), h.a⟩
theorem Blk.setI {w : World} {b g n c j p : Nat} {l : List Int} {v : Value} {cs : Array Value} (h : Blk w p cs 74) (hn : Nums w b (.slice (some ⟨g, 0, none⟩) n c) l) : Blk (w.setCell ⟨g, j, none⟩ v) p cs 74 := h.other (fun q => hn.notBlk h (by decide) (by rw [q]; rfl)) _ _
set_option maxRecDepth 20000 in
set_option maxHeartbeats 4000000 in
theorem matchedI (ci cp ct cv cr cd cb cbt : Int) (lg : List Ent) (cc : Int) (ys ns ms : List Int) (M : List Mg) (j : Nat) (z : Int) (w : World) (base p : Nat) (hsp : Spk w base p ⟨ci, cp, ct, cv, cr, cd, cb, cbt, lg, cc, ys, ns, ms⟩ M) (hjn : j < ns.length) (hjm : j < ms.length) (hz0 : 0 ≤ z) (hz1 : z ≤ 1000000) (hbs : base ≤ w.heap.size) :
  Calls Try.prog 77 #[.pointer (some ⟨p, 0, none⟩), .int .i64 (j : Int), .int .i64 z] w fun e w' => e = .returned (.tuple #[]) ∧ Spk w' base p (matX ⟨ci, cp, ct, cv, cr, cd, cb, cbt, lg, cc, ys, ns, ms⟩ j z) M ∧ Below base w w' := by
 obtain ⟨ul, uy, un, um, us, L, hsp, hLM⟩ := hsp
 obtain ⟨A0, An0, Ac0, A1, An1, Ac1, A2, An2, Ac2, A3, An3, Ac3, A4, An4, Ac4, rfl, rfl, rfl, rfl, rfl⟩ := hsp.shape
 obtain ⟨g2, e2, hg2b, hg2⟩ := hsp.r.n.block (by simp only; omega)
 obtain ⟨g3, e3, hg3b, hg3⟩ := hsp.r.m.block (by simp only; omega)
 subst e2
 subst e3
 have HLM : Hid (L.map Prod.fst = M) := hLM
 have HSp := Hid.mk hsp
 have PW : Hid (Blk w p #[.int .i64 ci, .int .i64 cp, .int .i64 ct, .int .i64 cv, .int .i64 cr, .int .i64 cd, .int .i64 cb, .int .i64 cbt, .slice A0 An0 Ac0, .int .i64 cc, .slice A1 An1 Ac1, .slice (some ⟨g2, 0, none⟩) An2 Ac2, .slice (some ⟨g3, 0, none⟩) An3 Ac3, .slice A4 An4 Ac4] 74) := hsp.b
 have q2 : (j : Int) < (An2 : Int) := by have := hsp.r.n.len; simp only at this; omega
 have q3 : (j : Int) < (An3 : Int) := by have := hsp.r.m.len; simp only at this; omega
 have wz : IntKind.i64.wrap (z + 1) = z + 1 := by rw [IntKind.wrap_i64]; omega
 have HB2 : Hid (base ≤ g2) := hg2b
 have HB3 : Hid (base ≤ g3) := hg3b
 clear hsp hLM
 go_enter Try.func77, Try.ntmps77
 go_wp2_with fail
 refine wp_region_until (fun w' => w'.cell? ⟨p, 11, none⟩ = some (.slice (some ⟨g2, 0, none⟩) An2 Ac2) ∧ w'.cell? ⟨p, 12, none⟩ = some (.slice (some ⟨g3, 0, none⟩) An3 Ac3)) (fun _ => false) 19 (by rfl) (by kernel_rfl) ?_
 have V0 : Hid (Below w.heap.size w w.drew) := (Below.refl _ _).drew
 generalize w.drew = Y0 at *
 have P0 := Hid.mk (PW.out.on V0.out PW.out.lt)
 have S0 := Hid.mk (HSp.out.on V0.out)
 have SS0 := Hid.mk (show (fun w' => w'.cell? ⟨p, 11, none⟩ = some (.slice (some ⟨g2, 0, none⟩) An2 Ac2) ∧ w'.cell? ⟨p, 12, none⟩ = some (.slice (some ⟨g3, 0, none⟩) An3 Ac3)) Y0 from ⟨P0.out.cell 11 _ rfl, P0.out.cell 12 _ rfl⟩)
 refine tF 0 SS0.out ?_
 refine tF 1 SS0.out ?_
 refine tF 2 SS0.out ?_
 refine tF 3 SS0.out ?_
 refine tF 4 SS0.out ?_
 refine tF 5 SS0.out ?_
 refine tF 6 SS0.out ?_
 refine tF 7 SS0.out ?_
 refine tF 8 SS0.out ?_
 refine tF 9 SS0.out ?_
 refine tF 10 SS0.out ?_
 refine pF 11 ?_
 refine pF 12 ?_
 refine pF 13 ?_
 refine pF 14 ?_
 refine tF 15 SS0.out ?_
 have o3 := S0.out.r.m.cell j (by simp only; exact hjm)
 have f3 := S0.out.r.m.frozen j
 have R1 := Hid.mk (S0.out.r.setM (j := j) (z := z))
 have M1 := Hid.mk (S0.out.m.setI (j := j) (v := .int .i64 z) S0.out.r.m)
 have P1 := Hid.mk (P0.out.setI (j := j) (v := .int .i64 z) S0.out.r.m)
 refine uNe 16 (fun K hK => ?_)
 go_simp
 refine hK.out _ _ (fun _ _ => ⟨P1.out.cell 11 _ rfl, P1.out.cell 12 _ rfl⟩) ?_
 clear hK K
 try simp only [Act.put, zQ1, zQ2, zQ3]
 have SS1 := Hid.mk (show (fun w' => w'.cell? ⟨p, 11, none⟩ = some (.slice (some ⟨g2, 0, none⟩) An2 Ac2) ∧ w'.cell? ⟨p, 12, none⟩ = some (.slice (some ⟨g3, 0, none⟩) An3 Ac3)) (Y0.setCell ⟨g3, j, none⟩ (.int .i64 z)) from ⟨P1.out.cell 11 _ rfl, P1.out.cell 12 _ rfl⟩)
 refine tF 17 SS1.out ?_
 have o2 := R1.out.n.cell j (by simp only; exact hjn)
 have f2 := R1.out.n.frozen j
 refine uNe 18 (fun K hK => ?_)
 have R2 := Hid.mk (R1.out.setN (j := j) (z := z + 1))
 have M2 := Hid.mk (M1.out.setI (j := j) (v := .int .i64 (z + 1)) R1.out.n)
 have P2 := Hid.mk (P1.out.setI (j := j) (v := .int .i64 (z + 1)) R1.out.n)
 go_simp
 refine hK.out _ _ (fun _ _ => ⟨P2.out.cell 11 _ rfl, P2.out.cell 12 _ rfl⟩) ?_
 clear hK K
 try simp only [Act.put, zQ1, zQ2, zQ3]
 refine until_done (by kernel_rfl) ?_ _
 have FS : Hid (Spk ((Y0.setCell ⟨g3, j, none⟩ (.int .i64 z)).setCell ⟨g2, j, none⟩ (.int .i64 (z + 1))) base p (matX ⟨ci, cp, ct, cv, cr, cd, cb, cbt, lg, cc, ys, ns, ms⟩ j z) M) := ⟨_, _, _, _, _, L, ⟨P2.out, R2.out.as rfl rfl rfl rfl, M2.out, S0.out.a, S0.out.p⟩, HLM.out⟩
 have FB : Hid (Below base w ((Y0.setCell ⟨g3, j, none⟩ (.int .i64 z)).setCell ⟨g2, j, none⟩ (.int .i64 (z + 1)))) := ((V0.out.mono hbs).setCell HB3.out _).setCell HB2.out _
 clear P0 P1 P2 R1 R2 M1 M2 S0 SS0
 try go_wp2_with fail
 exact bodyPost_end (v := .tuple #[]) (by simp [results, go_sem]) rfl ⟨rfl, FS.out, FB.out⟩
theorem roomI (ci cp ct cv cr cd cb cbt : Int) (cc : Int) (A0 : Option Addr) (n0 c0 : Nat) (u1 u2 u3 : Value) (w : World) (h0 : 0 ≤ cb) (h1 : cb ≤ 200000) (hn : n0 ≤ 1048576) : Calls Try.prog 65 #[.agg #[.int .i64 ci, .int .i64 cp, .int .i64 ct, .int .i64 cv, .int .i64 cr, .int .i64 cd, .int .i64 cb, .int .i64 cbt, .slice A0 n0 c0, .int .i64 cc, u1, u2, u3]] w fun e w' => e = .returned (.bool (decide (n0 < 60 ∧ cb + (n0 : Int) < 100000))) ∧ Below w.heap.size w w' := by
 have cL := fun wx => lastI ci cp ct cv cr cd cb cbt cc A0 n0 c0 u1 u2 u3 wx h0 h1 hn
 obtain ⟨X0, hX0⟩ : ∃ X0, X0 = w.alloc (.cells #[.int .i64 ci, .int .i64 cp, .int .i64 ct, .int .i64 cv, .int .i64 cr, .int .i64 cd, .int .i64 cb, .int .i64 cbt, .slice A0 n0 c0, .int .i64 cc, u1, u2, u3] 29) := ⟨_, rfl⟩
 have B0 : Hid (Below w.heap.size w X0) := by unfold Hid; rw [hX0]; exact (Below.refl _ _).alloc (Nat.le_refl _) _
 have q1 : (n0 : Int) ≤ 1048576 := by omega
 by_cases ha : n0 < 60
 ·have z1 : decide ((n0 : Int) < 60) = true := decide_eq_true (by omega)
  have HE : Hid (decide (n0 < 60 ∧ cb + (n0 : Int) < 100000) = decide (cb + (n0 : Int) < 100000)) := by unfold Hid; rw [decide_eq_decide]; exact ⟨fun h => h.2, fun h => ⟨ha, h⟩⟩
  clear ha
  go_enter Try.func65, Try.ntmps65
  go_wp2_with fail
  rw [← hX0]
  clear hX0
  refine (cL X0).mono ?_
  rintro e w2 ⟨rfl, hb⟩
  have B2 : Hid (Below w.heap.size w w2) := B0.out.trans (hb.mono B0.out.size)
  clear hb cL
  go_wp2_with fail
  go_ret
  exact ⟨by rw [HE.out]; rfl, B2.out⟩
 ·have z1 : decide ((n0 : Int) < 60) = false := decide_eq_false (by omega)
  have HE : Hid (decide (n0 < 60 ∧ cb + (n0 : Int) < 100000) = false) := decide_eq_false (fun h => ha h.1)
  clear ha
  go_enter Try.func65, Try.ntmps65
  go_wp2_with fail
  rw [← hX0]
  clear hX0
  go_ret
  exact ⟨by rw [HE.out]; rfl, B0.out⟩
end Go.Proofs.Ytlhoonohpfpkbaa
namespace Go.Proofs.Ytlhoonohpfpkbaa
open Go.ChangeShapes Go.WideShapes Go.ChangeAt Go.RowKit Go.PlainAid
set_option linter.unusedVariables false
theorem inIt_mk {x lo hi : Int} (h1 : lo ≤ x) (h2 : x ≤ hi) : inIt x lo hi = true := by unfold inIt; rw [decide_eq_true h1, decide_eq_true h2]; rfl
theorem Owns.lowM {X : World} {bs g j sz : Nat} {e : TypeId} {v u : Value} {r : List (List Value)} (h : Owns X bs e sz u r) (hl : g < bs) : Owns (X.setCell ⟨g, j, none⟩ v) bs e sz u r := h.other (h.below hl) j v
theorem resW5 {w : World} {g : Nat} {a0 a1 a2 a3 a4 x0 x1 x2 x3 x4 : Value} {t : TypeId} (h : Blk w g #[a0, a1, a2, a3, a4] t) :
  (w.cell? ⟨g, 0, none⟩ = some a0 ∧ w.frozen? ⟨g, 0, none⟩ = false) ∧ ((w.setCell ⟨g, 0, none⟩ x0).cell? ⟨g, 1, none⟩ = some a1 ∧ (w.setCell ⟨g, 0, none⟩ x0).frozen? ⟨g, 1, none⟩ = false) ∧ (((w.setCell ⟨g, 0, none⟩ x0).setCell ⟨g, 1, none⟩ x1).cell? ⟨g, 2, none⟩ = some a2 ∧ ((w.setCell ⟨g, 0, none⟩ x0).setCell ⟨g, 1, none⟩ x1).frozen? ⟨g, 2, none⟩ = false) ∧ ((((w.setCell ⟨g, 0, none⟩ x0).setCell ⟨g, 1, none⟩ x1).setCell ⟨g, 2, none⟩ x2).cell? ⟨g, 3, none⟩ = some a3 ∧ (((w.setCell ⟨g, 0, none⟩ x0).setCell ⟨g, 1, none⟩ x1).setCell ⟨g, 2, none⟩ x2).frozen? ⟨g, 3, none⟩ = false) ∧ (((((w.setCell ⟨g, 0, none⟩ x0).setCell ⟨g, 1, none⟩ x1).setCell ⟨g, 2, none⟩ x2).setCell ⟨g, 3, none⟩ x3).cell? ⟨g, 4, none⟩ = some a4 ∧ ((((w.setCell ⟨g, 0, none⟩ x0).setCell ⟨g, 1, none⟩ x1).setCell ⟨g, 2, none⟩ x2).setCell ⟨g, 3, none⟩ x3).frozen? ⟨g, 4, none⟩ = false) ∧
  (((((w.setCell ⟨g, 0, none⟩ x0).setCell ⟨g, 1, none⟩ x1).setCell ⟨g, 2, none⟩ x2).setCell ⟨g, 3, none⟩ x3).setCell ⟨g, 4, none⟩ x4).cell? ⟨g, 0, none⟩ = some x0 ∧ (((((w.setCell ⟨g, 0, none⟩ x0).setCell ⟨g, 1, none⟩ x1).setCell ⟨g, 2, none⟩ x2).setCell ⟨g, 3, none⟩ x3).setCell ⟨g, 4, none⟩ x4).cell? ⟨g, 1, none⟩ = some x1 ∧ (((((w.setCell ⟨g, 0, none⟩ x0).setCell ⟨g, 1, none⟩ x1).setCell ⟨g, 2, none⟩ x2).setCell ⟨g, 3, none⟩ x3).setCell ⟨g, 4, none⟩ x4).cell? ⟨g, 2, none⟩ = some x2 ∧ (((((w.setCell ⟨g, 0, none⟩ x0).setCell ⟨g, 1, none⟩ x1).setCell ⟨g, 2, none⟩ x2).setCell ⟨g, 3, none⟩ x3).setCell ⟨g, 4, none⟩ x4).cell? ⟨g, 3, none⟩ = some x3 ∧ (((((w.setCell ⟨g, 0, none⟩ x0).setCell ⟨g, 1, none⟩ x1).setCell ⟨g, 2, none⟩ x2).setCell ⟨g, 3, none⟩ x3).setCell ⟨g, 4, none⟩ x4).cell? ⟨g, 4, none⟩ = some x4 := by
 have h1 : Blk (w.setCell ⟨g, 0, none⟩ x0) g #[x0, a1, a2, a3, a4] t := h.set 0 x0
 have h2 : Blk ((w.setCell ⟨g, 0, none⟩ x0).setCell ⟨g, 1, none⟩ x1) g #[x0, x1, a2, a3, a4] t := h1.set 1 x1
 have h3 : Blk (((w.setCell ⟨g, 0, none⟩ x0).setCell ⟨g, 1, none⟩ x1).setCell ⟨g, 2, none⟩ x2) g #[x0, x1, x2, a3, a4] t := h2.set 2 x2
 have h4 : Blk ((((w.setCell ⟨g, 0, none⟩ x0).setCell ⟨g, 1, none⟩ x1).setCell ⟨g, 2, none⟩ x2).setCell ⟨g, 3, none⟩ x3) g #[x0, x1, x2, x3, a4] t := h3.set 3 x3
 have h5 : Blk (((((w.setCell ⟨g, 0, none⟩ x0).setCell ⟨g, 1, none⟩ x1).setCell ⟨g, 2, none⟩ x2).setCell ⟨g, 3, none⟩ x3).setCell ⟨g, 4, none⟩ x4) g #[x0, x1, x2, x3, x4] t := h4.set 4 x4
 exact ⟨⟨h.cell 0 _ rfl, h.free 0⟩, ⟨h1.cell 1 _ rfl, h1.free 1⟩, ⟨h2.cell 2 _ rfl, h2.free 2⟩, ⟨h3.cell 3 _ rfl, h3.free 3⟩, ⟨h4.cell 4 _ rfl, h4.free 4⟩, h5.cell 0 _ rfl, h5.cell 1 _ rfl, h5.cell 2 _ rfl, h5.cell 3 _ rfl, h5.cell 4 _ rfl⟩
theorem belowW5 {w w' : World} {B g : Nat} (h : Below B w w') (hg : B ≤ g) (x0 x1 x2 x3 x4 : Value) : Below B w (((((w'.setCell ⟨g, 0, none⟩ x0).setCell ⟨g, 1, none⟩ x1).setCell ⟨g, 2, none⟩ x2).setCell ⟨g, 3, none⟩ x3).setCell ⟨g, 4, none⟩ x4) := (((((h.setCell hg _).setCell hg _).setCell hg _).setCell hg _).setCell hg _)
theorem ownsW5 {w : World} {bs g sz : Nat} {e : TypeId} {u : Value} {r : List (List Value)} (h : Owns w bs e sz u r) (hl : g < bs) (x0 x1 x2 x3 x4 : Value) : Owns (((((w.setCell ⟨g, 0, none⟩ x0).setCell ⟨g, 1, none⟩ x1).setCell ⟨g, 2, none⟩ x2).setCell ⟨g, 3, none⟩ x3).setCell ⟨g, 4, none⟩ x4) bs e sz u r := (((((h.lowM hl).lowM hl).lowM hl).lowM hl).lowM hl)
set_option maxHeartbeats 1000000 in
theorem lastS (ci cp ct cv cr cd cb cbt : Int) (cc : Int) (A0 : Option Addr) (n0 c0 : Nat) (u1 u2 u3 : Value) (w : World) (h0 : 0 ≤ cb) (h1 : cb ≤ 200000) (hn : n0 ≤ 1048576) : Calls Try.prog 25 #[.agg #[.int .i64 ci, .int .i64 cp, .int .i64 ct, .int .i64 cv, .int .i64 cr, .int .i64 cd, .int .i64 cb, .int .i64 cbt, .slice A0 n0 c0, .int .i64 cc, u1, u2, u3]] w fun e w' => e = .returned (.int .i64 (cb + (n0 : Int))) ∧ Below w.heap.size w w' := by
 have w1 : IntKind.i64.wrap (cb + (n0 : Int)) = cb + (n0 : Int) := by rw [IntKind.wrap_i64]; omega
 have q : (n0 : Int) ≤ 1048576 := by omega
 go_enter Try.func25, Try.ntmps25
 go_wp2
 go_ret
 exact ⟨rfl, (Below.refl _ _).alloc (Nat.le_refl _) _⟩
set_option maxHeartbeats 2000000 in
theorem hasS (l : List Int) (v : Value) (x : Int) (w : World) (B : Nat) (hv : NumsV w B v l) (hn : l.length ≤ 1048576) : Calls Try.prog 50 #[v, .int .i64 x] w fun e w' => e = .returned (.bool (decide (x ∈ l))) ∧ w = w' := by
 obtain ⟨A, cap, rfl, _, _, hc⟩ := hv
 have HC : Hid (∀ j, j < l.length → ∃ g off, A = some ⟨g, off, none⟩ ∧ g < B ∧ w.cell? ⟨g, off + j, none⟩ = some (.int .i64 (l.getD j 0))) := hc
 have HMem : Hid (∀ j, j < l.length → l.getD j 0 ∈ l) := fun j hj => by rw [List.getD_eq_getElem?_getD, List.getElem?_eq_getElem hj]; exact List.getElem_mem hj
 have HAll : Hid ((∀ j, j < l.length → l.getD j 0 ≠ x) → x ∉ l) := fun h hm => by
  obtain ⟨j, hj, e⟩ := List.getElem_of_mem hm
  exact h j hj (by rw [List.getD_eq_getElem?_getD, List.getElem?_eq_getElem hj]; exact e)
 have q1 : (l.length : Int) ≤ 1048576 := by omega
 have HD : Hid (∀ b, (x ∈ l ↔ b = true) → decide (x ∈ l) = b) := fun b h => by cases b <;> simp_all
 clear hc
 generalize hN : l.length = n at *
 clear hN
 generalize decide (x ∈ l) = dd at *
 go_enter Try.func50, Try.ntmps50
 go_wp2_with fail
 go_loopw [5] (fun v5 wr => ∃ k : Nat, k ≤ n ∧ v5 = .int .i64 (k : Int) ∧ w = wr ∧ Hid (∀ j, j < k → l.getD j 0 ≠ x)) (fun v _ => n - (intOf v).toNat)
 case atStart => exact ⟨0, by omega, rfl, rfl, fun j hj => by omega⟩
 case round =>
  obtain ⟨k, hk, rfl, rfl, HR⟩ := hrel
  by_cases hlt : k < n
  ·have q2 : (k : Int) < (n : Int) := by omega
   obtain ⟨g, off, rfl, hg, d0⟩ := HC.out k hlt
   have HM : Hid (l.getD k 0 ∈ l) := HMem.out k hlt
   have HNx : Hid (∀ j, j < k + 1 → j = k ∨ l.getD j 0 ≠ x) := fun j hj => by
    by_cases h : j = k
    ·exact .inl h
    ·exact .inr (HR.out j (by omega))
   generalize hy : l.getD k 0 = y at *
   by_cases he : y = x
   ·subst he
    have HT : Hid (dd = true) := HD.out true ⟨fun _ => rfl, fun _ => HM.out⟩
    go_wp2_with fail
    go_ret
    exact ⟨by rw [HT.out]; rfl, rfl⟩
   ·have e1 : (y == x) = false := beq_eq_false_iff_ne.2 he
    have HNy : Hid (¬ y = x) := he
    have HY : Hid (l.getD k 0 = y) := hy
    clear hy he
    go_wp2_with fail
    go_roundw
    case rel => exact ⟨k + 1, by omega, by go_num, by trivial, fun j hj => (HNx.out j hj).elim (fun h => by rw [h, HY.out]; exact HNy.out) id⟩
    case measure => simp [intOf]; omega
  ·obtain rfl : k = n := by omega
   have HF : Hid (dd = false) := HD.out false ⟨fun h => absurd h (HAll.out HR.out), fun h => by cases h⟩
   go_wp2_with fail
   go_ret
   exact ⟨by rw [HF.out]; rfl, rfl⟩
set_option maxRecDepth 20000 in
set_option maxHeartbeats 4000000 in
theorem walS (ci cp ct cv cr cd cb cbt : Int) (lg : List Ent) (cc : Int) (A0 : Option Addr) (n0 c0 : Nat) (u1 u2 u3 : Value) (w : World) (B : Nat) (hv : Lies w B 2 (.slice A0 n0 c0) (entR lg)) (hn : lg.length ≤ 1048576) (hB : B ≤ w.heap.size) : Calls Try.prog 49 #[.agg #[.int .i64 ci, .int .i64 cp, .int .i64 ct, .int .i64 cv, .int .i64 cr, .int .i64 cd, .int .i64 cb, .int .i64 cbt, .slice A0 n0 c0, .int .i64 cc, u1, u2, u3]] w fun e w' => (∃ u, e = .returned (.agg #[.int .i64 ct, .int .i64 cv, .int .i64 cb, .int .i64 cbt, u]) ∧ Owns w' w.heap.size 71 2 u (entR lg)) ∧ Below w.heap.size w w' := by
 have HV : Hid (Lies w B 2 (.slice A0 n0 c0) (entR lg)) := hv
 have HBB : Hid (B ≤ w.heap.size) := hB
 have HLn : Hid ((entR ([] : List Ent)).length + (entR lg).length ≤ 2097152) := by unfold Hid; rw [entR_length, entR_length]; simp only [List.length_nil]; omega
 clear hv hB hn
 obtain ⟨X0, hX0⟩ : ∃ X0, X0 = (w.alloc (.cells #[.int .i64 ci, .int .i64 cp, .int .i64 ct, .int .i64 cv, .int .i64 cr, .int .i64 cd, .int .i64 cb, .int .i64 cbt, .slice A0 n0 c0, .int .i64 cc, u1, u2, u3] 29)).alloc (.cells #[.int .i64 0, .int .i64 0, .int .i64 0, .int .i64 0, .slice none 0 0] 68) := ⟨_, rfl⟩
 have B0 : Hid (Below w.heap.size w X0) := by unfold Hid; rw [hX0]; exact ((Below.refl _ w).alloc (Nat.le_refl _) _).alloc (by simp) _
 have K0 : Hid (Blk X0 w.heap.size #[.int .i64 ci, .int .i64 cp, .int .i64 ct, .int .i64 cv, .int .i64 cr, .int .i64 cd, .int .i64 cb, .int .i64 cbt, .slice A0 n0 c0, .int .i64 cc, u1, u2, u3] 29) := by unfold Hid; rw [hX0]; exact (Blk.new w _ _).alloc _
 have R0 : Hid (Blk X0 (w.heap.size + 1) #[.int .i64 0, .int .i64 0, .int .i64 0, .int .i64 0, .slice none 0 0] 68) := by unfold Hid; rw [hX0]; have := Blk.new (w.alloc (.cells #[.int .i64 ci, .int .i64 cp, .int .i64 ct, .int .i64 cv, .int .i64 cr, .int .i64 cd, .int .i64 cb, .int .i64 cbt, .slice A0 n0 c0, .int .i64 cc, u1, u2, u3] 29)) #[.int .i64 0, .int .i64 0, .int .i64 0, .int .i64 0, .slice none 0 0] 68; simp only [World.size_alloc] at this; exact this
 have HZ : Hid (X0.heap.size = w.heap.size + 2) := by unfold Hid; rw [hX0]; simp
 go_enter Try.func49, Try.ntmps49
 go_wp2_with fail
 rw [← hX0]
 clear hX0
 refine wp_region_until (fun w' => w'.cell? ⟨w.heap.size, 0, none⟩ = some (.int .i64 ci) ∧ w'.cell? ⟨w.heap.size, 1, none⟩ = some (.int .i64 cp) ∧ w'.cell? ⟨w.heap.size, 2, none⟩ = some (.int .i64 ct) ∧ w'.cell? ⟨w.heap.size, 3, none⟩ = some (.int .i64 cv) ∧ w'.cell? ⟨w.heap.size, 4, none⟩ = some (.int .i64 cr) ∧ w'.cell? ⟨w.heap.size, 5, none⟩ = some (.int .i64 cd) ∧ w'.cell? ⟨w.heap.size, 6, none⟩ = some (.int .i64 cb) ∧ w'.cell? ⟨w.heap.size, 7, none⟩ = some (.int .i64 cbt) ∧ w'.cell? ⟨w.heap.size, 8, none⟩ = some (.slice A0 n0 c0) ∧ w'.cell? ⟨w.heap.size, 9, none⟩ = some (.int .i64 cc) ∧ w'.cell? ⟨w.heap.size, 10, none⟩ = some (u1) ∧ w'.cell? ⟨w.heap.size, 11, none⟩ = some (u2) ∧ w'.cell? ⟨w.heap.size, 12, none⟩ = some (u3)) (fun i => i == 13) 14 (by rfl) (by kernel_rfl) ?_
 have V0 : Hid (Below X0.heap.size X0 X0.drew) := (Below.refl _ _).drew
 generalize X0.drew = Y0 at *
 have SS0 := Hid.mk (cellsC13 (K0.out.on V0.out K0.out.lt))
 refine tF 0 SS0.out ?_
 refine tF 1 SS0.out ?_
 refine tF 2 SS0.out ?_
 refine tF 3 SS0.out ?_
 refine tF 4 SS0.out ?_
 refine tF 5 SS0.out ?_
 refine tF 6 SS0.out ?_
 refine tF 7 SS0.out ?_
 refine tF 9 SS0.out ?_
 refine tF 10 SS0.out ?_
 refine uNe 8 (fun K hK => ?_)
 go_simp
 have ob := Owns.empty Y0 X0.heap.size 71 2 V0.out.size
 have bz : Below Y0.heap.size Y0 (Y0.alloc (.cells #[] 71)) := (Below.refl _ _).alloc (Nat.le_refl _) _
 generalize Y0.alloc (.cells #[] 71) = Y1 at *
 have V1 : Hid (Below X0.heap.size X0 Y1) := V0.out.trans (bz.mono V0.out.size)
 have OB1 : Hid (Owns Y1 X0.heap.size 71 2 (.slice (some ⟨Y0.heap.size, 0, none⟩) 0 0) (entR [])) := ob
 clear ob bz
 refine hK.out _ _ (fun _ _ => cellsC13 (K0.out.on V1.out K0.out.lt)) ?_
 clear hK K
 try simp only [Act.put, zQ1, zQ2, zQ3]
 refine uNe 11 (fun K hK => ?_)
 obtain ⟨Ap, mp, kp, Y2, hr, hOp, hbp, hkp⟩ := run_append_allC (P := Try.prog) Y1 27 27 71 (.agg #[.int .i64 0, .string ⟨#[]⟩]) 2 24 Try.underlying27 Try.infoEnt rfl (by omega) X0.heap.size _ _ (entR []) (entR lg) Y1.heap.size OB1.out ((HV.out.on ((B0.out.trans (V1.out.mono B0.out.size)).mono HBB.out)).mono (Nat.le_trans HBB.out (B0.out.trans (V1.out.mono B0.out.size)).size)) (ent_one _) HLn.out (by omega) V1.out.size
 refine step_append_run (by rfl) (.tmp 11) (.tmp 13) 27 (by rfl) _ _ _ _ (by rfl) (by rfl) hr ?_
 have V2 : Hid (Below X0.heap.size X0 Y2) := V1.out.trans hbp
 have OA2 : Hid (Owns Y2 X0.heap.size 71 2 (.slice Ap mp kp) (entR lg)) := hOp
 clear hr hOp hbp hkp
 refine hK.out _ _ (fun _ _ => cellsC13 (K0.out.on V2.out K0.out.lt)) ?_
 clear hK K
 try simp only [Act.put, zQ1, zQ2, zQ3]
 refine pF 12 ?_
 have RY := Hid.mk (R0.out.on V2.out R0.out.lt)
 have BY : Hid (Below w.heap.size w Y2) := B0.out.trans (V2.out.mono B0.out.size)
 refine uNe 13 (fun K hK => ?_)
 obtain ⟨⟨r0, g0⟩, ⟨r1, g1⟩, ⟨r2, g2⟩, ⟨r3, g3⟩, ⟨r4, g4⟩, z0, z1, z2, z3, z4⟩ := resW5 (x0 := .int .i64 ct) (x1 := .int .i64 cv) (x2 := .int .i64 cb) (x3 := .int .i64 cbt) (x4 := .slice Ap mp kp) RY.out
 go_simp
 refine hK.out _ _ (fun h => by cases h) ?_
 clear hK K r0 g0 r1 g1 r2 g2 r3 g3 r4 g4
 try simp only [Act.put, zQ1, zQ2, zQ3]
 refine until_done (by kernel_rfl) ?_ _
 have FO := Hid.mk (ownsW5 OA2.out (show w.heap.size + 1 < X0.heap.size by rw [HZ.out]; omega) (.int .i64 ct) (.int .i64 cv) (.int .i64 cb) (.int .i64 cbt) (.slice Ap mp kp))
 have FB := Hid.mk (belowW5 BY.out (show w.heap.size ≤ w.heap.size + 1 by omega) (.int .i64 ct) (.int .i64 cv) (.int .i64 cb) (.int .i64 cbt) (.slice Ap mp kp))
 have HX : Hid (w.heap.size ≤ X0.heap.size) := B0.out.size
 try go_wp2_with fail
 exact bodyPost_ret (v := .agg #[.int .i64 ct, .int .i64 cv, .int .i64 cb, .int .i64 cbt, .slice Ap mp kp]) (by simp [results, go_sem, z0, z1, z2, z3, z4]) rfl ⟨⟨_, rfl, FO.out.mono HX.out⟩, FB.out⟩
end Go.Proofs.Ytlhoonohpfpkbaa
namespace Go.Proofs.Ytlhoonohpfpkbaa
open Go.ChangeShapes Go.WideShapes Go.ChangeAt Go.RowKit Go.PlainAid
set_option linter.unusedVariables false
theorem ownsM13 {w : World} {bs g sz : Nat} {e : TypeId} {u : Value} {r : List (List Value)} (h : Owns w bs e sz u r) (hl : g < bs) (x0 x1 x2 x3 x4 x5 x6 x7 x8 x9 x10 x11 x12 : Value) : Owns (((((((((((((w.setCell ⟨g, 0, none⟩ x0).setCell ⟨g, 1, none⟩ x1).setCell ⟨g, 2, none⟩ x2).setCell ⟨g, 3, none⟩ x3).setCell ⟨g, 4, none⟩ x4).setCell ⟨g, 5, none⟩ x5).setCell ⟨g, 6, none⟩ x6).setCell ⟨g, 7, none⟩ x7).setCell ⟨g, 8, none⟩ x8).setCell ⟨g, 9, none⟩ x9).setCell ⟨g, 10, none⟩ x10).setCell ⟨g, 11, none⟩ x11).setCell ⟨g, 12, none⟩ x12) bs e sz u r := (((((((((((((h.lowM hl).lowM hl).lowM hl).lowM hl).lowM hl).lowM hl).lowM hl).lowM hl).lowM hl).lowM hl).lowM hl).lowM hl).lowM hl)
def SpkW (w : World) (base p : Nat) (x : Cor) (M : List Mg) : Prop := ∃ ul uy un um us L, SpkO w base p x ul uy un um us L ∧ L.map Prod.fst = M ∧ Owns w base 71 2 ul (entR x.log)
theorem SpkW.spk {w : World} {base p : Nat} {x : Cor} {M : List Mg} (h : SpkW w base p x M) : Spk w base p x M := by
 obtain ⟨ul, uy, un, um, us, L, h1, h2, _⟩ := h
 exact ⟨ul, uy, un, um, us, L, h1, h2⟩
theorem SpkW.on {w w' : World} {base p : Nat} {x : Cor} {M : List Mg} (h : SpkW w base p x M) (hb : Below w.heap.size w w') : SpkW w' base p x M := by
 obtain ⟨ul, uy, un, um, us, L, h1, h2, h3⟩ := h
 exact ⟨ul, uy, un, um, us, L, h1.on hb, h2, h3.on hb⟩
set_option maxRecDepth 20000 in
set_option maxHeartbeats 16000000 in
theorem copyCoW (ci cp ct cv cr cd cb cbt : Int) (lg : List Ent) (cc : Int) (ys ns ms : List Int) (u0 u1 u2 u3 : Value) (w : World) (B base : Nat) (hl : Lies w B 2 u0 (entR lg)) (hy : Nums w base u1 ys) (hn : Nums w base u2 ns) (hm : Nums w base u3 ms) (hs : ShortC ⟨ci, cp, ct, cv, cr, cd, cb, cbt, lg, cc, ys, ns, ms⟩) (hB : B ≤ w.heap.size) :
  Calls Try.prog 53 #[.agg #[.int .i64 ci, .int .i64 cp, .int .i64 ct, .int .i64 cv, .int .i64 cr, .int .i64 cd, .int .i64 cb, .int .i64 cbt, u0, .int .i64 cc, u1, u2, u3]] w fun e w' => ∃ u, e = .returned u ∧ (CorO w' w.heap.size u ⟨ci, cp, ct, cv, cr, cd, cb, cbt, lg, cc, ys, ns, ms⟩ ∧ ∀ ul uy un um, u = vCo ⟨ci, cp, ct, cv, cr, cd, cb, cbt, lg, cc, ys, ns, ms⟩ ul uy un um → Owns w' w.heap.size 71 2 ul (entR lg)) ∧ Below w.heap.size w w' := by
 have HBB : Hid (B ≤ w.heap.size) := hB
 have HL : Hid (Lies w B 2 u0 (entR lg)) := hl
 have HY : Hid (Nums w base u1 ys) := hy
 have HN : Hid (Nums w base u2 ns) := hn
 have HM : Hid (Nums w base u3 ms) := hm
 have HS : Hid (ShortC ⟨ci, cp, ct, cv, cr, cd, cb, cbt, lg, cc, ys, ns, ms⟩) := hs
 obtain ⟨A0, c0, rfl, _⟩ := ent_look hl
 obtain ⟨A1, c1, rfl, _⟩ := hy.shape
 obtain ⟨A2, c2, rfl, _⟩ := hn.shape
 obtain ⟨A3, c3, rfl, _⟩ := hm.shape
 clear hl hy hn hm hs hB
 generalize hg0 : lg.length = n0 at *
 generalize hg1 : ys.length = n1 at *
 generalize hg2 : ns.length = n2 at *
 generalize hg3 : ms.length = n3 at *
 clear hg0 hg1 hg2 hg3
 obtain ⟨W0, hW0⟩ : ∃ W0, W0 = (w.alloc (.cells #[.int .i64 ci, .int .i64 cp, .int .i64 ct, .int .i64 cv, .int .i64 cr, .int .i64 cd, .int .i64 cb, .int .i64 cbt, .slice A0 n0 c0, .int .i64 cc, .slice A1 n1 c1, .slice A2 n2 c2, .slice A3 n3 c3] 29)).alloc (.cells #[.int .i64 0, .int .i64 0, .int .i64 0, .int .i64 0, .int .i64 0, .int .i64 0, .int .i64 0, .int .i64 0, .slice none 0 0, .int .i64 0, .slice none 0 0, .slice none 0 0, .slice none 0 0] 29) := ⟨_, rfl⟩
 have B0 : Hid (Below w.heap.size w W0) := by unfold Hid; rw [hW0]; exact ((Below.refl _ w).alloc (Nat.le_refl _) _).alloc (by simp) _
 have KO0 : Hid (Blk W0 (w.heap.size) #[.int .i64 ci, .int .i64 cp, .int .i64 ct, .int .i64 cv, .int .i64 cr, .int .i64 cd, .int .i64 cb, .int .i64 cbt, .slice A0 n0 c0, .int .i64 cc, .slice A1 n1 c1, .slice A2 n2 c2, .slice A3 n3 c3] 29) := by unfold Hid; rw [hW0]; exact (Blk.new w _ _).alloc _
 have KR0 : Hid (Blk W0 (w.heap.size + 1) #[.int .i64 0, .int .i64 0, .int .i64 0, .int .i64 0, .int .i64 0, .int .i64 0, .int .i64 0, .int .i64 0, .slice none 0 0, .int .i64 0, .slice none 0 0, .slice none 0 0, .slice none 0 0] 29) := by unfold Hid; rw [hW0]; have := Blk.new (w.alloc (.cells #[.int .i64 ci, .int .i64 cp, .int .i64 ct, .int .i64 cv, .int .i64 cr, .int .i64 cd, .int .i64 cb, .int .i64 cbt, .slice A0 n0 c0, .int .i64 cc, .slice A1 n1 c1, .slice A2 n2 c2, .slice A3 n3 c3] 29)) #[.int .i64 0, .int .i64 0, .int .i64 0, .int .i64 0, .int .i64 0, .int .i64 0, .int .i64 0, .int .i64 0, .slice none 0 0, .int .i64 0, .slice none 0 0, .slice none 0 0, .slice none 0 0] 29; simp only [World.size_alloc] at this; exact this
 have HZ0 : Hid (w.heap.size + 1 + 1 ≤ W0.heap.size) := by unfold Hid; rw [hW0]; simp
 go_enter Try.func53, Try.ntmps53
 go_wp2_with fail
 rw [← hW0]
 clear hW0
 refine (copyEntsI lg (.slice A0 n0 c0) W0 B (HL.out.on (B0.out.mono HBB.out)) HS.out.n HS.out.d (Nat.le_trans HBB.out B0.out.size)).mono ?_
 rintro e W1 ⟨⟨q0, rfl, hO⟩, hb⟩
 obtain ⟨Bz, m0, k0, rfl⟩ := hO.shape
 have B1 : Hid (Below w.heap.size w W1) := B0.out.trans (hb.mono B0.out.size)
 have KO1 : Hid (Blk W1 (w.heap.size) #[.int .i64 ci, .int .i64 cp, .int .i64 ct, .int .i64 cv, .int .i64 cr, .int .i64 cd, .int .i64 cb, .int .i64 cbt, .slice A0 n0 c0, .int .i64 cc, .slice A1 n1 c1, .slice A2 n2 c2, .slice A3 n3 c3] 29) := KO0.out.on hb KO0.out.lt
 have KR1 : Hid (Blk W1 (w.heap.size + 1) #[.int .i64 0, .int .i64 0, .int .i64 0, .int .i64 0, .int .i64 0, .int .i64 0, .int .i64 0, .int .i64 0, .slice none 0 0, .int .i64 0, .slice none 0 0, .slice none 0 0, .slice none 0 0] 29) := KR0.out.on hb KR0.out.lt
 have HZ1 : Hid (w.heap.size + 1 + 1 ≤ W1.heap.size) := Nat.le_trans HZ0.out hb.size
 have P1 : Hid (Owns W1 (w.heap.size + 1 + 1) 71 2 (.slice Bz m0 k0) (entR lg)) := (hO.mono HZ0.out)
 clear hO hb KO0 KR0 B0 HZ0 
 have c8 := KO1.out.cell 8 _ rfl
 have f8 := KO1.out.free 8
 obtain ⟨Y1, hY1⟩ : ∃ Y1, Y1 = W1.setCell ⟨w.heap.size, 8, none⟩ (.slice Bz m0 k0) := ⟨_, rfl⟩
 have KO1' : Hid (Blk Y1 (w.heap.size) #[.int .i64 ci, .int .i64 cp, .int .i64 ct, .int .i64 cv, .int .i64 cr, .int .i64 cd, .int .i64 cb, .int .i64 cbt, .slice Bz m0 k0, .int .i64 cc, .slice A1 n1 c1, .slice A2 n2 c2, .slice A3 n3 c3] 29) := by unfold Hid; rw [hY1]; exact KO1.out.set 8 _
 have KR1' : Hid (Blk Y1 (w.heap.size + 1) #[.int .i64 0, .int .i64 0, .int .i64 0, .int .i64 0, .int .i64 0, .int .i64 0, .int .i64 0, .int .i64 0, .slice none 0 0, .int .i64 0, .slice none 0 0, .slice none 0 0, .slice none 0 0] 29) := by unfold Hid; rw [hY1]; exact KR1.out.other (show w.heap.size + 1 ≠ w.heap.size by omega) 8 _
 have B1' : Hid (Below w.heap.size w Y1) := by unfold Hid; rw [hY1]; exact B1.out.setCell (Nat.le_refl _) _ (p := ⟨_, 8, none⟩)
 have HZ1' : Hid (w.heap.size + 1 + 1 ≤ Y1.heap.size) := by unfold Hid; rw [hY1]; simpa using HZ1.out
 have P1' : Hid (Owns Y1 (w.heap.size + 1 + 1) 71 2 (.slice Bz m0 k0) (entR lg)) := by unfold Hid; rw [hY1]; exact P1.out.lowM (show w.heap.size < w.heap.size + 1 + 1 by omega)
 clear KO1 KR1 B1 HZ1 P1
 have l10 := KO1'.out.cell 10 _ rfl
 rw [hY1] at l10
 go_wp2_with fail
 rw [← hY1]
 clear hY1 c8 f8 l10
 refine (cloneInts ys (.slice A1 n1 c1) Y1 base (HY.out.on B1'.out) HS.out.y).mono ?_
 rintro e W2 ⟨⟨q1, rfl, hO⟩, hb⟩
 obtain ⟨By, k1, hu, -⟩ := hO.shape
 generalize ys.length = m1 at hu
 subst hu
 have B2 : Hid (Below w.heap.size w W2) := B1'.out.trans (hb.mono B1'.out.size)
 have KO2 : Hid (Blk W2 (w.heap.size) #[.int .i64 ci, .int .i64 cp, .int .i64 ct, .int .i64 cv, .int .i64 cr, .int .i64 cd, .int .i64 cb, .int .i64 cbt, .slice Bz m0 k0, .int .i64 cc, .slice A1 n1 c1, .slice A2 n2 c2, .slice A3 n3 c3] 29) := KO1'.out.on hb KO1'.out.lt
 have KR2 : Hid (Blk W2 (w.heap.size + 1) #[.int .i64 0, .int .i64 0, .int .i64 0, .int .i64 0, .int .i64 0, .int .i64 0, .int .i64 0, .int .i64 0, .slice none 0 0, .int .i64 0, .slice none 0 0, .slice none 0 0, .slice none 0 0] 29) := KR1'.out.on hb KR1'.out.lt
 have HZ2 : Hid (w.heap.size + 1 + 1 ≤ W2.heap.size) := Nat.le_trans HZ1'.out hb.size
 have P1 : Hid (Owns W2 (w.heap.size + 1 + 1) 71 2 (.slice Bz m0 k0) (entR lg)) := P1'.out.on hb
 have P2 : Hid (Nums W2 (w.heap.size + 1 + 1) (.slice By m1 k1) ys) := hO.mono HZ1'.out
 clear hO hb KO1' KR1' B1' HZ1' P1'
 have c10 := KO2.out.cell 10 _ rfl
 have f10 := KO2.out.free 10
 obtain ⟨Y2, hY2⟩ : ∃ Y2, Y2 = W2.setCell ⟨w.heap.size, 10, none⟩ (.slice By m1 k1) := ⟨_, rfl⟩
 have KO2' : Hid (Blk Y2 (w.heap.size) #[.int .i64 ci, .int .i64 cp, .int .i64 ct, .int .i64 cv, .int .i64 cr, .int .i64 cd, .int .i64 cb, .int .i64 cbt, .slice Bz m0 k0, .int .i64 cc, .slice By m1 k1, .slice A2 n2 c2, .slice A3 n3 c3] 29) := by unfold Hid; rw [hY2]; exact KO2.out.set 10 _
 have KR2' : Hid (Blk Y2 (w.heap.size + 1) #[.int .i64 0, .int .i64 0, .int .i64 0, .int .i64 0, .int .i64 0, .int .i64 0, .int .i64 0, .int .i64 0, .slice none 0 0, .int .i64 0, .slice none 0 0, .slice none 0 0, .slice none 0 0] 29) := by unfold Hid; rw [hY2]; exact KR2.out.other (show w.heap.size + 1 ≠ w.heap.size by omega) 10 _
 have B2' : Hid (Below w.heap.size w Y2) := by unfold Hid; rw [hY2]; exact B2.out.setCell (Nat.le_refl _) _ (p := ⟨_, 10, none⟩)
 have HZ2' : Hid (w.heap.size + 1 + 1 ≤ Y2.heap.size) := by unfold Hid; rw [hY2]; simpa using HZ2.out
 have P1' : Hid (Owns Y2 (w.heap.size + 1 + 1) 71 2 (.slice Bz m0 k0) (entR lg)) := by unfold Hid; rw [hY2]; exact P1.out.lowM (show w.heap.size < w.heap.size + 1 + 1 by omega)
 have P2' : Hid (Nums Y2 (w.heap.size + 1 + 1) (.slice By m1 k1) ys) := by unfold Hid; rw [hY2]; exact P2.out.low (show w.heap.size < w.heap.size + 1 + 1 by omega)
 clear KO2 KR2 B2 HZ2 P1 P2
 have l11 := KO2'.out.cell 11 _ rfl
 rw [hY2] at l11
 go_wp2_with fail
 rw [← hY2]
 clear hY2 c10 f10 l11
 refine (cloneInts ns (.slice A2 n2 c2) Y2 base (HN.out.on B2'.out) HS.out.q).mono ?_
 rintro e W3 ⟨⟨q2, rfl, hO⟩, hb⟩
 obtain ⟨Bn, k2, hu, -⟩ := hO.shape
 generalize ns.length = m2 at hu
 subst hu
 have B3 : Hid (Below w.heap.size w W3) := B2'.out.trans (hb.mono B2'.out.size)
 have KO3 : Hid (Blk W3 (w.heap.size) #[.int .i64 ci, .int .i64 cp, .int .i64 ct, .int .i64 cv, .int .i64 cr, .int .i64 cd, .int .i64 cb, .int .i64 cbt, .slice Bz m0 k0, .int .i64 cc, .slice By m1 k1, .slice A2 n2 c2, .slice A3 n3 c3] 29) := KO2'.out.on hb KO2'.out.lt
 have KR3 : Hid (Blk W3 (w.heap.size + 1) #[.int .i64 0, .int .i64 0, .int .i64 0, .int .i64 0, .int .i64 0, .int .i64 0, .int .i64 0, .int .i64 0, .slice none 0 0, .int .i64 0, .slice none 0 0, .slice none 0 0, .slice none 0 0] 29) := KR2'.out.on hb KR2'.out.lt
 have HZ3 : Hid (w.heap.size + 1 + 1 ≤ W3.heap.size) := Nat.le_trans HZ2'.out hb.size
 have P1 : Hid (Owns W3 (w.heap.size + 1 + 1) 71 2 (.slice Bz m0 k0) (entR lg)) := P1'.out.on hb
 have P2 : Hid (Nums W3 (w.heap.size + 1 + 1) (.slice By m1 k1) ys) := P2'.out.on hb
 have P3 : Hid (Nums W3 (w.heap.size + 1 + 1) (.slice Bn m2 k2) ns) := hO.mono HZ2'.out
 have AP12 : Hid (Apart (.slice By m1 k1) (.slice Bn m2 k2)) := P2'.out.apart hO (Nat.le_refl _)
 clear hO hb KO2' KR2' B2' HZ2' P1' P2'
 have c11 := KO3.out.cell 11 _ rfl
 have f11 := KO3.out.free 11
 obtain ⟨Y3, hY3⟩ : ∃ Y3, Y3 = W3.setCell ⟨w.heap.size, 11, none⟩ (.slice Bn m2 k2) := ⟨_, rfl⟩
 have KO3' : Hid (Blk Y3 (w.heap.size) #[.int .i64 ci, .int .i64 cp, .int .i64 ct, .int .i64 cv, .int .i64 cr, .int .i64 cd, .int .i64 cb, .int .i64 cbt, .slice Bz m0 k0, .int .i64 cc, .slice By m1 k1, .slice Bn m2 k2, .slice A3 n3 c3] 29) := by unfold Hid; rw [hY3]; exact KO3.out.set 11 _
 have KR3' : Hid (Blk Y3 (w.heap.size + 1) #[.int .i64 0, .int .i64 0, .int .i64 0, .int .i64 0, .int .i64 0, .int .i64 0, .int .i64 0, .int .i64 0, .slice none 0 0, .int .i64 0, .slice none 0 0, .slice none 0 0, .slice none 0 0] 29) := by unfold Hid; rw [hY3]; exact KR3.out.other (show w.heap.size + 1 ≠ w.heap.size by omega) 11 _
 have B3' : Hid (Below w.heap.size w Y3) := by unfold Hid; rw [hY3]; exact B3.out.setCell (Nat.le_refl _) _ (p := ⟨_, 11, none⟩)
 have HZ3' : Hid (w.heap.size + 1 + 1 ≤ Y3.heap.size) := by unfold Hid; rw [hY3]; simpa using HZ3.out
 have P1' : Hid (Owns Y3 (w.heap.size + 1 + 1) 71 2 (.slice Bz m0 k0) (entR lg)) := by unfold Hid; rw [hY3]; exact P1.out.lowM (show w.heap.size < w.heap.size + 1 + 1 by omega)
 have P2' : Hid (Nums Y3 (w.heap.size + 1 + 1) (.slice By m1 k1) ys) := by unfold Hid; rw [hY3]; exact P2.out.low (show w.heap.size < w.heap.size + 1 + 1 by omega)
 have P3' : Hid (Nums Y3 (w.heap.size + 1 + 1) (.slice Bn m2 k2) ns) := by unfold Hid; rw [hY3]; exact P3.out.low (show w.heap.size < w.heap.size + 1 + 1 by omega)
 clear KO3 KR3 B3 HZ3 P1 P2 P3
 have l12 := KO3'.out.cell 12 _ rfl
 rw [hY3] at l12
 go_wp2_with fail
 rw [← hY3]
 clear hY3 c11 f11 l12
 refine (cloneInts ms (.slice A3 n3 c3) Y3 base (HM.out.on B3'.out) HS.out.m).mono ?_
 rintro e W4 ⟨⟨q3, rfl, hO⟩, hb⟩
 obtain ⟨Bm, k3, hu, -⟩ := hO.shape
 generalize ms.length = m3 at hu
 subst hu
 have B4 : Hid (Below w.heap.size w W4) := B3'.out.trans (hb.mono B3'.out.size)
 have KO4 : Hid (Blk W4 (w.heap.size) #[.int .i64 ci, .int .i64 cp, .int .i64 ct, .int .i64 cv, .int .i64 cr, .int .i64 cd, .int .i64 cb, .int .i64 cbt, .slice Bz m0 k0, .int .i64 cc, .slice By m1 k1, .slice Bn m2 k2, .slice A3 n3 c3] 29) := KO3'.out.on hb KO3'.out.lt
 have KR4 : Hid (Blk W4 (w.heap.size + 1) #[.int .i64 0, .int .i64 0, .int .i64 0, .int .i64 0, .int .i64 0, .int .i64 0, .int .i64 0, .int .i64 0, .slice none 0 0, .int .i64 0, .slice none 0 0, .slice none 0 0, .slice none 0 0] 29) := KR3'.out.on hb KR3'.out.lt
 have HZ4 : Hid (w.heap.size + 1 + 1 ≤ W4.heap.size) := Nat.le_trans HZ3'.out hb.size
 have P1 : Hid (Owns W4 (w.heap.size + 1 + 1) 71 2 (.slice Bz m0 k0) (entR lg)) := P1'.out.on hb
 have P2 : Hid (Nums W4 (w.heap.size + 1 + 1) (.slice By m1 k1) ys) := P2'.out.on hb
 have P3 : Hid (Nums W4 (w.heap.size + 1 + 1) (.slice Bn m2 k2) ns) := P3'.out.on hb
 have P4 : Hid (Nums W4 (w.heap.size + 1 + 1) (.slice Bm m3 k3) ms) := hO.mono HZ3'.out
 have AP13 : Hid (Apart (.slice By m1 k1) (.slice Bm m3 k3)) := P2'.out.apart hO (Nat.le_refl _)
 have AP23 : Hid (Apart (.slice Bn m2 k2) (.slice Bm m3 k3)) := P3'.out.apart hO (Nat.le_refl _)
 clear hO hb KO3' KR3' B3' HZ3' P1' P2' P3'
 have c12 := KO4.out.cell 12 _ rfl
 have f12 := KO4.out.free 12
 obtain ⟨Y4, hY4⟩ : ∃ Y4, Y4 = W4.setCell ⟨w.heap.size, 12, none⟩ (.slice Bm m3 k3) := ⟨_, rfl⟩
 have KO4' : Hid (Blk Y4 (w.heap.size) #[.int .i64 ci, .int .i64 cp, .int .i64 ct, .int .i64 cv, .int .i64 cr, .int .i64 cd, .int .i64 cb, .int .i64 cbt, .slice Bz m0 k0, .int .i64 cc, .slice By m1 k1, .slice Bn m2 k2, .slice Bm m3 k3] 29) := by unfold Hid; rw [hY4]; exact KO4.out.set 12 _
 have KR4' : Hid (Blk Y4 (w.heap.size + 1) #[.int .i64 0, .int .i64 0, .int .i64 0, .int .i64 0, .int .i64 0, .int .i64 0, .int .i64 0, .int .i64 0, .slice none 0 0, .int .i64 0, .slice none 0 0, .slice none 0 0, .slice none 0 0] 29) := by unfold Hid; rw [hY4]; exact KR4.out.other (show w.heap.size + 1 ≠ w.heap.size by omega) 12 _
 have B4' : Hid (Below w.heap.size w Y4) := by unfold Hid; rw [hY4]; exact B4.out.setCell (Nat.le_refl _) _ (p := ⟨_, 12, none⟩)
 have HZ4' : Hid (w.heap.size + 1 + 1 ≤ Y4.heap.size) := by unfold Hid; rw [hY4]; simpa using HZ4.out
 have P1' : Hid (Owns Y4 (w.heap.size + 1 + 1) 71 2 (.slice Bz m0 k0) (entR lg)) := by unfold Hid; rw [hY4]; exact P1.out.lowM (show w.heap.size < w.heap.size + 1 + 1 by omega)
 have P2' : Hid (Nums Y4 (w.heap.size + 1 + 1) (.slice By m1 k1) ys) := by unfold Hid; rw [hY4]; exact P2.out.low (show w.heap.size < w.heap.size + 1 + 1 by omega)
 have P3' : Hid (Nums Y4 (w.heap.size + 1 + 1) (.slice Bn m2 k2) ns) := by unfold Hid; rw [hY4]; exact P3.out.low (show w.heap.size < w.heap.size + 1 + 1 by omega)
 have P4' : Hid (Nums Y4 (w.heap.size + 1 + 1) (.slice Bm m3 k3) ms) := by unfold Hid; rw [hY4]; exact P4.out.low (show w.heap.size < w.heap.size + 1 + 1 by omega)
 clear KO4 KR4 B4 HZ4 P1 P2 P3 P4
 go_upto_region 5 with fail
 rw [← hY4]
 clear hY4 c12 f12
 have RW : Hid (CoRows Y4 (w.heap.size + 1 + 1) ⟨ci, cp, ct, cv, cr, cd, cb, cbt, lg, cc, ys, ns, ms⟩ (.slice Bz m0 k0) (.slice By m1 k1) (.slice Bn m2 k2) (.slice Bm m3 k3)) := ⟨P1'.out.toF, P2'.out, P3'.out, P4'.out, AP12.out, AP13.out, AP23.out⟩
 have PO := Hid.mk P1'.out
 clear P1' P2' P3' P4' AP12 AP13 AP23 HZ4'
 have hgr : w.heap.size + 1 < w.heap.size + 1 + 1 := by omega
 have HW0 : Hid (w.heap.size ≤ w.heap.size + 1) := by unfold Hid; omega
 have HW1 : Hid (w.heap.size ≤ w.heap.size + 1 + 1) := by unfold Hid; omega
 have d0 := KO4'.out.cell 0 _ rfl
 have d1 := KO4'.out.cell 1 _ rfl
 have d2 := KO4'.out.cell 2 _ rfl
 have d3 := KO4'.out.cell 3 _ rfl
 have d4 := KO4'.out.cell 4 _ rfl
 have d5 := KO4'.out.cell 5 _ rfl
 have d6 := KO4'.out.cell 6 _ rfl
 have d7 := KO4'.out.cell 7 _ rfl
 have d8 := KO4'.out.cell 8 _ rfl
 have d9 := KO4'.out.cell 9 _ rfl
 have d10 := KO4'.out.cell 10 _ rfl
 have d11 := KO4'.out.cell 11 _ rfl
 have d12 := KO4'.out.cell 12 _ rfl
 obtain ⟨⟨r0, g0⟩, ⟨r1, g1⟩, ⟨r2, g2⟩, ⟨r3, g3⟩, ⟨r4, g4⟩, ⟨r5, g5⟩, ⟨r6, g6⟩, ⟨r7, g7⟩, ⟨r8, g8⟩, ⟨r9, g9⟩, ⟨r10, g10⟩, ⟨r11, g11⟩, ⟨r12, g12⟩, z0, z1, z2, z3, z4, z5, z6, z7, z8, z9, z10, z11, z12⟩ := resC13 (x0 := .int .i64 ci) (x1 := .int .i64 cp) (x2 := .int .i64 ct) (x3 := .int .i64 cv) (x4 := .int .i64 cr) (x5 := .int .i64 cd) (x6 := .int .i64 cb) (x7 := .int .i64 cbt) (x8 := .slice Bz m0 k0) (x9 := .int .i64 cc) (x10 := .slice By m1 k1) (x11 := .slice Bn m2 k2) (x12 := .slice Bm m3 k3) KR4'.out
 have FO := Hid.mk (rowsC13 RW.out hgr (.int .i64 ci) (.int .i64 cp) (.int .i64 ct) (.int .i64 cv) (.int .i64 cr) (.int .i64 cd) (.int .i64 cb) (.int .i64 cbt) (.slice Bz m0 k0) (.int .i64 cc) (.slice By m1 k1) (.slice Bn m2 k2) (.slice Bm m3 k3))
 have FW := Hid.mk (ownsM13 PO.out hgr (.int .i64 ci) (.int .i64 cp) (.int .i64 ct) (.int .i64 cv) (.int .i64 cr) (.int .i64 cd) (.int .i64 cb) (.int .i64 cbt) (.slice Bz m0 k0) (.int .i64 cc) (.slice By m1 k1) (.slice Bn m2 k2) (.slice Bm m3 k3))
 have FB := Hid.mk (belowC13 B4'.out HW0.out (.int .i64 ci) (.int .i64 cp) (.int .i64 ct) (.int .i64 cv) (.int .i64 cr) (.int .i64 cd) (.int .i64 cb) (.int .i64 cbt) (.slice Bz m0 k0) (.int .i64 cc) (.slice By m1 k1) (.slice Bn m2 k2) (.slice Bm m3 k3))
 clear KO4' KR4' RW B4' PO
 go_wp2_with fail
 exact bodyPost_ret (v := .agg #[.int .i64 ci, .int .i64 cp, .int .i64 ct, .int .i64 cv, .int .i64 cr, .int .i64 cd, .int .i64 cb, .int .i64 cbt, .slice Bz m0 k0, .int .i64 cc, .slice By m1 k1, .slice Bn m2 k2, .slice Bm m3 k3]) (by simp [results, go_sem, z0, z1, z2, z3, z4, z5, z6, z7, z8, z9, z10, z11, z12]) rfl ⟨_, rfl, ⟨⟨_, _, _, _, rfl, FO.out.mono HW1.out⟩, fun ul uy un um e => by unfold vCo at e; cases e; exact FW.out.mono HW1.out⟩, FB.out⟩
set_option maxRecDepth 20000 in
set_option maxHeartbeats 16000000 in
theorem coreAfterW (ci cp ct cv cr cd cb cbt : Int) (lg : List Ent) (cc : Int) (ys ns ms : List Int) (u0 u1 u2 u3 : Value) (w : World) (base0 : Nat) (hr : CoRows w base0 ⟨ci, cp, ct, cv, cr, cd, cb, cbt, lg, cc, ys, ns, ms⟩ u0 u1 u2 u3) (hs : ShortC ⟨ci, cp, ct, cv, cr, cd, cb, cbt, lg, cc, ys, ns, ms⟩) (F : Nat) (caps : Array Value) (Rr : Cor) (M : List Mg) (g : Nat) (Qd : Option Obj → Prop) (hg : g ≤ w.heap.size)
  (hF : ∀ args w, (callFunc F args).run Try.prog w = .ok (.enter F args) w)
  (hC : ∀ (w1 : World) (p : Nat), COk ⟨ci, cp, ct, cv, cr, cd, cb, cbt, lg, cc, ys, ns, ms⟩ → Below w.heap.size w w1 → w.heap.size + 2 ≤ w1.heap.size → SpkW w1 (w.heap.size + 2) p ⟨ci, cp, ct, cv, cr, cd, cb, cbt, lg, cc, ys, ns, ms⟩ [] → Calls Try.prog F (#[.pointer (some ⟨p, 0, none⟩)] ++ caps) w1 fun e w2 => e = .returned (.tuple #[]) ∧ Spk w2 (w.heap.size + 2) p Rr M ∧ BelowX g (w.heap.size + 2) w1 w2 ∧ Qd w2.heap[g]?) :
  Calls Try.prog 29 #[.agg #[.int .i64 ci, .int .i64 cp, .int .i64 ct, .int .i64 cv, .int .i64 cr, .int .i64 cd, .int .i64 cb, .int .i64 cbt, u0, .int .i64 cc, u1, u2, u3], .func (.func F) #[] caps] w fun e w' => (corOk ⟨ci, cp, ct, cv, cr, cd, cb, cbt, lg, cc, ys, ns, ms⟩ = true ∧ (∃ u us L, e = .returned (.tuple #[u, us]) ∧ CorO w' w.heap.size u Rr ∧ MsO w' w.heap.size us L ∧ L.map Prod.fst = M ∧ ∀ ul uy un um, u = vCo Rr ul uy un um → ∀ q ∈ L, ∀ k, q.2.ownBlock = some k → blkF ul ≠ some k) ∧ BelowX g w.heap.size w w' ∧ Qd w'.heap[g]?) ∨ (corOk ⟨ci, cp, ct, cv, cr, cd, cb, cbt, lg, cc, ys, ns, ms⟩ = false ∧ e = .returned (.tuple #[.agg #[.int .i64 0, .int .i64 0, .int .i64 0, .int .i64 0, .int .i64 0, .int .i64 0, .int .i64 0, .int .i64 0, .slice none 0 0, .int .i64 0, .slice none 0 0, .slice none 0 0, .slice none 0 0], .slice none 0 0]) ∧ Below w.heap.size w w') := by
 have HR : Hid (CoRows w base0 ⟨ci, cp, ct, cv, cr, cd, cb, cbt, lg, cc, ys, ns, ms⟩ u0 u1 u2 u3) := hr
 have HS : Hid (ShortC ⟨ci, cp, ct, cv, cr, cd, cb, cbt, lg, cc, ys, ns, ms⟩) := hs
 have HGw : Hid (g ≤ w.heap.size) := hg
 have HC : Hid (∀ (w1 : World) (p : Nat), COk ⟨ci, cp, ct, cv, cr, cd, cb, cbt, lg, cc, ys, ns, ms⟩ → Below w.heap.size w w1 → w.heap.size + 2 ≤ w1.heap.size → SpkW w1 (w.heap.size + 2) p ⟨ci, cp, ct, cv, cr, cd, cb, cbt, lg, cc, ys, ns, ms⟩ [] → Calls Try.prog F (#[.pointer (some ⟨p, 0, none⟩)] ++ caps) w1 fun e w2 => e = .returned (.tuple #[]) ∧ Spk w2 (w.heap.size + 2) p Rr M ∧ BelowX g (w.heap.size + 2) w1 w2 ∧ Qd w2.heap[g]?) := hC
 obtain ⟨A0, Ac0, A1, Ac1, A2, Ac2, A3, Ac3, rfl, rfl, rfl, rfl⟩ := hr.shape
 simp only at HR ⊢
 generalize lg.length = An0 at HR ⊢
 generalize ys.length = An1 at HR ⊢
 generalize ns.length = An2 at HR ⊢
 generalize ms.length = An3 at HR ⊢
 clear hr hs hC hg
 obtain ⟨W0, hW0⟩ : ∃ W0, W0 = (w.alloc (.cells #[.int .i64 ci, .int .i64 cp, .int .i64 ct, .int .i64 cv, .int .i64 cr, .int .i64 cd, .int .i64 cb, .int .i64 cbt, .slice A0 An0 Ac0, .int .i64 cc, .slice A1 An1 Ac1, .slice A2 An2 Ac2, .slice A3 An3 Ac3] 29)).alloc (.cells #[.int .i64 0, .int .i64 0, .int .i64 0, .int .i64 0, .int .i64 0, .int .i64 0, .int .i64 0, .int .i64 0, .slice none 0 0, .int .i64 0, .slice none 0 0, .slice none 0 0, .slice none 0 0] 29) := ⟨_, rfl⟩
 have B0 : Hid (Below w.heap.size w W0) := by unfold Hid; rw [hW0]; exact ((Below.refl _ w).alloc (Nat.le_refl _) _).alloc (by simp) _
 have K0 : Hid (Blk W0 w.heap.size #[.int .i64 ci, .int .i64 cp, .int .i64 ct, .int .i64 cv, .int .i64 cr, .int .i64 cd, .int .i64 cb, .int .i64 cbt, .slice A0 An0 Ac0, .int .i64 cc, .slice A1 An1 Ac1, .slice A2 An2 Ac2, .slice A3 An3 Ac3] 29) := by unfold Hid; rw [hW0]; exact (Blk.new w _ _).alloc _
 have R0 : Hid (Blk W0 (w.heap.size + 1) #[.int .i64 0, .int .i64 0, .int .i64 0, .int .i64 0, .int .i64 0, .int .i64 0, .int .i64 0, .int .i64 0, .slice none 0 0, .int .i64 0, .slice none 0 0, .slice none 0 0, .slice none 0 0] 29) := by unfold Hid; rw [hW0]; have := Blk.new (w.alloc (.cells #[.int .i64 ci, .int .i64 cp, .int .i64 ct, .int .i64 cv, .int .i64 cr, .int .i64 cd, .int .i64 cb, .int .i64 cbt, .slice A0 An0 Ac0, .int .i64 cc, .slice A1 An1 Ac1, .slice A2 An2 Ac2, .slice A3 An3 Ac3] 29)) #[.int .i64 0, .int .i64 0, .int .i64 0, .int .i64 0, .int .i64 0, .int .i64 0, .int .i64 0, .int .i64 0, .slice none 0 0, .int .i64 0, .slice none 0 0, .slice none 0 0, .slice none 0 0] 29; simp only [World.size_alloc] at this; exact this
 have HZ0 : Hid (w.heap.size + 2 ≤ W0.heap.size) := by unfold Hid; rw [hW0]; simp
 have hok := implCoreOk ⟨ci, cp, ct, cv, cr, cd, cb, cbt, lg, cc, ys, ns, ms⟩ (.agg #[.int .i64 ci, .int .i64 cp, .int .i64 ct, .int .i64 cv, .int .i64 cr, .int .i64 cd, .int .i64 cb, .int .i64 cbt, .slice A0 An0 Ac0, .int .i64 cc, .slice A1 An1 Ac1, .slice A2 An2 Ac2, .slice A3 An3 Ac3]) W0 W0.heap.size (HR.out.on B0.out).lies HS.out (Nat.le_refl _)
 go_enter Try.func29, Try.ntmps29
 go_wp2_with fail
 rw [← hW0]
 clear hW0
 refine hok.mono ?_
 rintro e W1 ⟨rfl, hb⟩
 have B1 : Hid (Below w.heap.size w W1) := B0.out.trans (hb.mono B0.out.size)
 have K1 : Hid (Blk W1 w.heap.size #[.int .i64 ci, .int .i64 cp, .int .i64 ct, .int .i64 cv, .int .i64 cr, .int .i64 cd, .int .i64 cb, .int .i64 cbt, .slice A0 An0 Ac0, .int .i64 cc, .slice A1 An1 Ac1, .slice A2 An2 Ac2, .slice A3 An3 Ac3] 29) := K0.out.on hb K0.out.lt
 have R1 : Hid (Blk W1 (w.heap.size + 1) #[.int .i64 0, .int .i64 0, .int .i64 0, .int .i64 0, .int .i64 0, .int .i64 0, .int .i64 0, .int .i64 0, .slice none 0 0, .int .i64 0, .slice none 0 0, .slice none 0 0, .slice none 0 0] 29) := R0.out.on hb R0.out.lt
 have HZ1 : Hid (w.heap.size + 2 ≤ W1.heap.size) := Nat.le_trans HZ0.out hb.size
 clear hok hb K0 R0 B0 HZ0
 cases hc : corOk ⟨ci, cp, ct, cv, cr, cd, cb, cbt, lg, cc, ys, ns, ms⟩
 ·obtain ⟨⟨r0, g0⟩, ⟨r1, g1⟩, ⟨r2, g2⟩, ⟨r3, g3⟩, ⟨r4, g4⟩, ⟨r5, g5⟩, ⟨r6, g6⟩, ⟨r7, g7⟩, ⟨r8, g8⟩, ⟨r9, g9⟩, ⟨r10, g10⟩, ⟨r11, g11⟩, ⟨r12, g12⟩, z0, z1, z2, z3, z4, z5, z6, z7, z8, z9, z10, z11, z12⟩ := resC13 (x0 := .int .i64 0) (x1 := .int .i64 0) (x2 := .int .i64 0) (x3 := .int .i64 0) (x4 := .int .i64 0) (x5 := .int .i64 0) (x6 := .int .i64 0) (x7 := .int .i64 0) (x8 := .slice none 0 0) (x9 := .int .i64 0) (x10 := .slice none 0 0) (x11 := .slice none 0 0) (x12 := .slice none 0 0) R1.out
  have FB := Hid.mk (belowC13 B1.out (show w.heap.size ≤ w.heap.size + 1 by omega) (.int .i64 0) (.int .i64 0) (.int .i64 0) (.int .i64 0) (.int .i64 0) (.int .i64 0) (.int .i64 0) (.int .i64 0) (.slice none 0 0) (.int .i64 0) (.slice none 0 0) (.slice none 0 0) (.slice none 0 0))
  have HCF := Hid.mk hc
  clear K1 R1 B1 hc
  go_wp2_with fail
  exact bodyPost_ret (v := .tuple #[.agg #[.int .i64 0, .int .i64 0, .int .i64 0, .int .i64 0, .int .i64 0, .int .i64 0, .int .i64 0, .int .i64 0, .slice none 0 0, .int .i64 0, .slice none 0 0, .slice none 0 0, .slice none 0 0], .slice none 0 0]) (by simp [results, go_sem, z0, z1, z2, z3, z4, z5, z6, z7, z8, z9, z10, z11, z12]) rfl (.inr ⟨HCF.out, rfl, FB.out⟩)
 have HOK : Hid (COk ⟨ci, cp, ct, cv, cr, cd, cb, cbt, lg, cc, ys, ns, ms⟩) := corOk_ok hc
 clear hc
 have y0 := K1.out.cell 0 _ rfl
 have y1 := K1.out.cell 1 _ rfl
 have y2 := K1.out.cell 2 _ rfl
 have y3 := K1.out.cell 3 _ rfl
 have y4 := K1.out.cell 4 _ rfl
 have y5 := K1.out.cell 5 _ rfl
 have y6 := K1.out.cell 6 _ rfl
 have y7 := K1.out.cell 7 _ rfl
 have y8 := K1.out.cell 8 _ rfl
 have y9 := K1.out.cell 9 _ rfl
 have y10 := K1.out.cell 10 _ rfl
 have y11 := K1.out.cell 11 _ rfl
 have y12 := K1.out.cell 12 _ rfl
 have hcp := copyCoW ci cp ct cv cr cd cb cbt lg cc ys ns ms (.slice A0 An0 Ac0) (.slice A1 An1 Ac1) (.slice A2 An2 Ac2) (.slice A3 An3 Ac3) W1 W1.heap.size base0 (HR.out.on B1.out).l.lies (HR.out.on B1.out).y (HR.out.on B1.out).n (HR.out.on B1.out).m HS.out (Nat.le_refl _)
 go_wp2_with fail
 refine hcp.mono ?_
 rintro e W2 ⟨uu, rfl, hO, hb⟩
 obtain ⟨B0q, Bn0, Bc0, B1q, Bn1, Bc1, B2q, Bn2, Bc2, B3q, Bn3, Bc3, rfl, hO'⟩ := hO.1.sh
 have hOL := hO.2 _ _ _ _ rfl
 unfold vCo
 simp only
 have BB2 : Hid (Below w.heap.size w W2) := B1.out.trans (hb.mono B1.out.size)
 have R2 : Hid (Blk W2 (w.heap.size + 1) #[.int .i64 0, .int .i64 0, .int .i64 0, .int .i64 0, .int .i64 0, .int .i64 0, .int .i64 0, .int .i64 0, .slice none 0 0, .int .i64 0, .slice none 0 0, .slice none 0 0, .slice none 0 0] 29) := R1.out.on hb R1.out.lt
 have HZ2 : Hid (w.heap.size + 2 ≤ W2.heap.size) := Nat.le_trans HZ1.out hb.size
 have O2 : Hid (CoRows W2 (w.heap.size + 2) ⟨ci, cp, ct, cv, cr, cd, cb, cbt, lg, cc, ys, ns, ms⟩ (.slice B0q Bn0 Bc0) (.slice B1q Bn1 Bc1) (.slice B2q Bn2 Bc2) (.slice B3q Bn3 Bc3)) := hO'.mono HZ1.out
 have OL2 := Hid.mk (hOL.mono HZ1.out)
 clear hcp hb hO hO' hOL R1 HZ1 K1 B1 y0 y1 y2 y3 y4 y5 y6 y7 y8 y9 y10 y11 y12
 obtain ⟨W3, hW3⟩ : ∃ W3, W3 = W2.alloc (.cells #[.int .i64 ci, .int .i64 cp, .int .i64 ct, .int .i64 cv, .int .i64 cr, .int .i64 cd, .int .i64 cb, .int .i64 cbt, .slice B0q Bn0 Bc0, .int .i64 cc, .slice B1q Bn1 Bc1, .slice B2q Bn2 Bc2, .slice B3q Bn3 Bc3, .slice none 0 0] 74) := ⟨_, rfl⟩
 have hb3 : Below W2.heap.size W2 W3 := by rw [hW3]; exact (Below.refl _ _).alloc (Nat.le_refl _) _
 have BB3 : Hid (Below w.heap.size w W3) := BB2.out.trans (hb3.mono BB2.out.size)
 have R3 : Hid (Blk W3 (w.heap.size + 1) #[.int .i64 0, .int .i64 0, .int .i64 0, .int .i64 0, .int .i64 0, .int .i64 0, .int .i64 0, .int .i64 0, .slice none 0 0, .int .i64 0, .slice none 0 0, .slice none 0 0, .slice none 0 0] 29) := R2.out.on hb3 R2.out.lt
 have SP3 : Hid (SpkW W3 (w.heap.size + 2) W2.heap.size ⟨ci, cp, ct, cv, cr, cd, cb, cbt, lg, cc, ys, ns, ms⟩ []) := ⟨_, _, _, _, _, [], ⟨by rw [hW3]; exact Blk.new W2 _ _, O2.out.on hb3, MsO.nil _ _, fun q hq => (by cases hq), HZ2.out⟩, rfl, OL2.out.on hb3⟩
 have HZ3 : Hid (w.heap.size + 2 ≤ W3.heap.size) := Nat.le_trans HZ2.out hb3.size
 have hcl := HC.out W3 W2.heap.size HOK.out BB3.out HZ3.out SP3.out
 have hF' := hF (#[.pointer (some ⟨W2.heap.size, 0, none⟩)] ++ caps)
 clear hb3 R2 O2 OL2 BB2 SP3 HC
 go_wp2_with fail
 rw [← hW3]
 clear hW3
 generalize W2.heap.size = p at *
 refine hcl.mono ?_
 rintro e W4 ⟨rfl, hSp, hbx, hQ⟩
 have R4 : Hid (Blk W4 (w.heap.size + 1) #[.int .i64 0, .int .i64 0, .int .i64 0, .int .i64 0, .int .i64 0, .int .i64 0, .int .i64 0, .int .i64 0, .slice none 0 0, .int .i64 0, .slice none 0 0, .slice none 0 0, .slice none 0 0] 29) := hbx.blk R3.out (by omega) (by have := HGw.out; omega)
 have BX4 : Hid (BelowX g w.heap.size w W4) := (BelowX.of BB3.out).trans (hbx.mono (by omega))
 have HQ : Hid (Qd W4.heap[g]?) := hQ
 obtain ⟨ul, uy, un, um, us, L, hSp, hLM⟩ := hSp
 obtain ⟨G0, Gn0, Gc0, G1, Gn1, Gc1, G2, Gn2, Gc2, G3, Gn3, Gc3, G4, Gn4, Gc4, rfl, rfl, rfl, rfl, rfl⟩ := hSp.shape
 have SP4 := Hid.mk hSp
 have HLM : Hid (L.map Prod.fst = M) := hLM
 have KP := Hid.mk hSp.b
 obtain ⟨e0, e1, e2, e3, e4, e5, e6, e7, el, e9, ey, en, em⟩ := Rr
 simp only at KP
 clear hcl hSp hbx hQ hLM R3 HZ2 HZ3 BB3 hF'
 go_wp2_with fail
 refine wp_region_until (fun w' => w'.cell? ⟨p, 0, none⟩ = some (.int .i64 e0) ∧ w'.cell? ⟨p, 1, none⟩ = some (.int .i64 e1) ∧ w'.cell? ⟨p, 2, none⟩ = some (.int .i64 e2) ∧ w'.cell? ⟨p, 3, none⟩ = some (.int .i64 e3) ∧ w'.cell? ⟨p, 4, none⟩ = some (.int .i64 e4) ∧ w'.cell? ⟨p, 5, none⟩ = some (.int .i64 e5) ∧ w'.cell? ⟨p, 6, none⟩ = some (.int .i64 e6) ∧ w'.cell? ⟨p, 7, none⟩ = some (.int .i64 e7) ∧ w'.cell? ⟨p, 8, none⟩ = some (.slice G0 Gn0 Gc0) ∧ w'.cell? ⟨p, 9, none⟩ = some (.int .i64 e9) ∧ w'.cell? ⟨p, 10, none⟩ = some (.slice G1 Gn1 Gc1) ∧ w'.cell? ⟨p, 11, none⟩ = some (.slice G2 Gn2 Gc2) ∧ w'.cell? ⟨p, 12, none⟩ = some (.slice G3 Gn3 Gc3) ∧ w'.cell? ⟨p, 13, none⟩ = some (.slice G4 Gn4 Gc4)) (fun _ => false) 10 (by rfl) (by kernel_rfl) ?_
 have V4 : Hid (Below W4.heap.size W4 W4.drew) := (Below.refl _ _).drew
 have FG : Hid (W4.drew.heap[g]? = W4.heap[g]?) := rfl
 generalize W4.drew = Y4 at *
 have KY := Hid.mk (KP.out.on V4.out KP.out.lt)
 have SS0 := Hid.mk (show (fun w' => w'.cell? ⟨p, 0, none⟩ = some (.int .i64 e0) ∧ w'.cell? ⟨p, 1, none⟩ = some (.int .i64 e1) ∧ w'.cell? ⟨p, 2, none⟩ = some (.int .i64 e2) ∧ w'.cell? ⟨p, 3, none⟩ = some (.int .i64 e3) ∧ w'.cell? ⟨p, 4, none⟩ = some (.int .i64 e4) ∧ w'.cell? ⟨p, 5, none⟩ = some (.int .i64 e5) ∧ w'.cell? ⟨p, 6, none⟩ = some (.int .i64 e6) ∧ w'.cell? ⟨p, 7, none⟩ = some (.int .i64 e7) ∧ w'.cell? ⟨p, 8, none⟩ = some (.slice G0 Gn0 Gc0) ∧ w'.cell? ⟨p, 9, none⟩ = some (.int .i64 e9) ∧ w'.cell? ⟨p, 10, none⟩ = some (.slice G1 Gn1 Gc1) ∧ w'.cell? ⟨p, 11, none⟩ = some (.slice G2 Gn2 Gc2) ∧ w'.cell? ⟨p, 12, none⟩ = some (.slice G3 Gn3 Gc3) ∧ w'.cell? ⟨p, 13, none⟩ = some (.slice G4 Gn4 Gc4)) Y4 from ⟨KY.out.cell 0 _ rfl, KY.out.cell 1 _ rfl, KY.out.cell 2 _ rfl, KY.out.cell 3 _ rfl, KY.out.cell 4 _ rfl, KY.out.cell 5 _ rfl, KY.out.cell 6 _ rfl, KY.out.cell 7 _ rfl, KY.out.cell 8 _ rfl, KY.out.cell 9 _ rfl, KY.out.cell 10 _ rfl, KY.out.cell 11 _ rfl, KY.out.cell 12 _ rfl, KY.out.cell 13 _ rfl⟩)
 refine tF 0 SS0.out ?_
 refine tF 1 SS0.out ?_
 refine tF 2 SS0.out ?_
 refine tF 3 SS0.out ?_
 refine tF 4 SS0.out ?_
 refine tF 5 SS0.out ?_
 refine tF 6 SS0.out ?_
 refine tF 7 SS0.out ?_
 have RY := Hid.mk (R4.out.on V4.out R4.out.lt)
 refine uNe 8 (fun K hK => ?_)
 obtain ⟨⟨r0, g0⟩, ⟨r1, g1⟩, ⟨r2, g2⟩, ⟨r3, g3⟩, ⟨r4, g4⟩, ⟨r5, g5⟩, ⟨r6, g6⟩, ⟨r7, g7⟩, ⟨r8, g8⟩, ⟨r9, g9⟩, ⟨r10, g10⟩, ⟨r11, g11⟩, ⟨r12, g12⟩, z0, z1, z2, z3, z4, z5, z6, z7, z8, z9, z10, z11, z12⟩ := resC13 (x0 := .int .i64 e0) (x1 := .int .i64 e1) (x2 := .int .i64 e2) (x3 := .int .i64 e3) (x4 := .int .i64 e4) (x5 := .int .i64 e5) (x6 := .int .i64 e6) (x7 := .int .i64 e7) (x8 := .slice G0 Gn0 Gc0) (x9 := .int .i64 e9) (x10 := .slice G1 Gn1 Gc1) (x11 := .slice G2 Gn2 Gc2) (x12 := .slice G3 Gn3 Gc3) RY.out
 have KYF := Hid.mk (otherC13 KY.out (show p ≠ w.heap.size + 1 by have := SP4.out.p; omega) (.int .i64 e0) (.int .i64 e1) (.int .i64 e2) (.int .i64 e3) (.int .i64 e4) (.int .i64 e5) (.int .i64 e6) (.int .i64 e7) (.slice G0 Gn0 Gc0) (.int .i64 e9) (.slice G1 Gn1 Gc1) (.slice G2 Gn2 Gc2) (.slice G3 Gn3 Gc3))
 go_simp
 refine hK.out _ _ (fun _ _ => ⟨KYF.out.cell 0 _ rfl, KYF.out.cell 1 _ rfl, KYF.out.cell 2 _ rfl, KYF.out.cell 3 _ rfl, KYF.out.cell 4 _ rfl, KYF.out.cell 5 _ rfl, KYF.out.cell 6 _ rfl, KYF.out.cell 7 _ rfl, KYF.out.cell 8 _ rfl, KYF.out.cell 9 _ rfl, KYF.out.cell 10 _ rfl, KYF.out.cell 11 _ rfl, KYF.out.cell 12 _ rfl, KYF.out.cell 13 _ rfl⟩) ?_
 clear hK K KYF r0 g0 r1 g1 r2 g2 r3 g3 r4 g4 r5 g5 r6 g6 r7 g7 r8 g8 r9 g9 r10 g10 r11 g11 r12 g12
 try simp only [Act.put, zQ1, zQ2, zQ3]
 refine pF 9 ?_
 refine until_done (by kernel_rfl) ?_ _
 have hlt : w.heap.size + 1 < w.heap.size + 2 := by omega
 have FO := Hid.mk (rowsC13 (SP4.out.r.on V4.out) hlt (.int .i64 e0) (.int .i64 e1) (.int .i64 e2) (.int .i64 e3) (.int .i64 e4) (.int .i64 e5) (.int .i64 e6) (.int .i64 e7) (.slice G0 Gn0 Gc0) (.int .i64 e9) (.slice G1 Gn1 Gc1) (.slice G2 Gn2 Gc2) (.slice G3 Gn3 Gc3))
 have FM := Hid.mk (rowsM13 (SP4.out.m.on V4.out) hlt (.int .i64 e0) (.int .i64 e1) (.int .i64 e2) (.int .i64 e3) (.int .i64 e4) (.int .i64 e5) (.int .i64 e6) (.int .i64 e7) (.slice G0 Gn0 Gc0) (.int .i64 e9) (.slice G1 Gn1 Gc1) (.slice G2 Gn2 Gc2) (.slice G3 Gn3 Gc3))
 have FB := Hid.mk (belowX13 (BX4.out.trans (BelowX.of (V4.out.mono BX4.out.size))) (show w.heap.size ≤ w.heap.size + 1 by omega) (.int .i64 e0) (.int .i64 e1) (.int .i64 e2) (.int .i64 e3) (.int .i64 e4) (.int .i64 e5) (.int .i64 e6) (.int .i64 e7) (.slice G0 Gn0 Gc0) (.int .i64 e9) (.slice G1 Gn1 Gc1) (.slice G2 Gn2 Gc2) (.slice G3 Gn3 Gc3))
 have FQ := Hid.mk (heapX13 (show g ≠ w.heap.size + 1 by have := HGw.out; omega) Y4 (.int .i64 e0) (.int .i64 e1) (.int .i64 e2) (.int .i64 e3) (.int .i64 e4) (.int .i64 e5) (.int .i64 e6) (.int .i64 e7) (.slice G0 Gn0 Gc0) (.int .i64 e9) (.slice G1 Gn1 Gc1) (.slice G2 Gn2 Gc2) (.slice G3 Gn3 Gc3))
 have HWW : Hid (w.heap.size ≤ w.heap.size + 2) := by unfold Hid; omega
 clear R4 KP KY SS0 RY BX4
 try go_wp2_with fail
 exact bodyPost_ret (v := .tuple #[.agg #[.int .i64 e0, .int .i64 e1, .int .i64 e2, .int .i64 e3, .int .i64 e4, .int .i64 e5, .int .i64 e6, .int .i64 e7, .slice G0 Gn0 Gc0, .int .i64 e9, .slice G1 Gn1 Gc1, .slice G2 Gn2 Gc2, .slice G3 Gn3 Gc3], .slice G4 Gn4 Gc4]) (by simp [results, go_sem, z0, z1, z2, z3, z4, z5, z6, z7, z8, z9, z10, z11, z12]) rfl (.inl ⟨corOk_yes HOK.out, ⟨_, _, L, rfl, ⟨_, _, _, _, rfl, FO.out.mono HWW.out⟩, FM.out.mono HWW.out, HLM.out, fun ul uy un um e => by unfold vCo at e; cases e; exact SP4.out.a⟩, FB.out, by rw [FQ.out, FG.out]; exact HQ.out⟩)
end Go.Proofs.Ytlhoonohpfpkbaa
