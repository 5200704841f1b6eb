/-
  Contracts of (*speaker).rebase, compact, and of impl.Compact.
-/
import Derived.Test.YtjejcpieajeflaaRows
import Derived.Test.YtjejcpieajeflaaGSP
import Derived.Test.YtjejcpieajeflaaCoTm
import Derived.Test.YtjejcpieajeflaaGWO
import Derived.Deep.Cut
import Derived.Handy
import Derived.Test.YtjejcpieajeflaaCoS5
import Derived.Test.YtjejcpieajeflaaGCP
namespace Go.Proofs.Ytjejcpieajeflaa
open Go.ChangeShapes Go.WideShapes Go.ChangeAt Go.RowKit Go.PlainAid
set_option linter.unusedVariables false

/-- A core whose log is put away up to i. -/
def compC (x : Cor) (i : Int) : Cor := { x with base := i, bterm := termAt x i, log := x.log.drop (i - x.base).toNat }
noncomputable def compX (x : Cor) (i : Int) : Cor × Bool := if corOk x = true then (if x.base < i ∧ i ≤ x.commit then (compC x i, true) else (x, false)) else (⟨0, 0, 0, 0, 0, 0, 0, 0, [], 0, [], [], []⟩, false)
set_option maxRecDepth 20000 in
set_option maxHeartbeats 8000000 in
theorem rebaseI (ci cp ct cv cr cd cb cbt : Int) (lg : List Ent) (cc : Int) (ys ns ms : List Int) (A0 : Option Addr) (An0 Ac0 : Nat) (A1 : Option Addr) (An1 Ac1 : Nat) (A2 : Option Addr) (An2 Ac2 : Nat) (A3 : Option Addr) (An3 Ac3 : Nat) (A4 : Option Addr) (An4 Ac4 : Nat) (L : List (Mg × Value)) (i : Int) (w : World) (base p : Nat) (hsp : SpkO w base p ⟨ci, cp, ct, cv, cr, cd, cb, cbt, lg, cc, ys, ns, ms⟩ (.slice A0 An0 Ac0) (.slice A1 An1 Ac1) (.slice A2 An2 Ac2) (.slice A3 An3 Ac3) (.slice A4 An4 Ac4) L) (hn : lg.length ≤ 1048576) (h0 : 0 ≤ cb) (h1 : cb ≤ 200000) (hi0 : cb < i) (hi1 : i ≤ cb + (lg.length : Int)) (hbs : base ≤ w.heap.size) :
    Calls Try.prog 85 #[.pointer (some ⟨p, 0, none⟩), .int .i64 i, .int .i64 (termAt ⟨ci, cp, ct, cv, cr, cd, cb, cbt, lg, cc, ys, ns, ms⟩ i)] w fun e w' => e = .returned (.tuple #[]) ∧ (∃ ul, SpkO w' base p (compC ⟨ci, cp, ct, cv, cr, cd, cb, cbt, lg, cc, ys, ns, ms⟩ i) ul (.slice A1 An1 Ac1) (.slice A2 An2 Ac2) (.slice A3 An3 Ac3) (.slice A4 An4 Ac4) L) ∧ Below base w w' := by
  have SP := Hid.mk hsp
  have HBS : Hid (base ≤ w.heap.size) := hbs
  have HP : Hid (base ≤ p) := hsp.p
  have KP : Hid (Blk w p #[.int .i64 ci, .int .i64 cp, .int .i64 ct, .int .i64 cv, .int .i64 cr, .int .i64 cd, .int .i64 cb, .int .i64 cbt, .slice A0 An0 Ac0, .int .i64 cc, .slice A1 An1 Ac1, .slice A2 An2 Ac2, .slice A3 An3 Ac3, .slice A4 An4 Ac4] 96) := hsp.b
  have HLs : Hid (An0 = lg.length) := by obtain ⟨A, c, e⟩ := hsp.r.l.shape; rw [entR_length] at e; cases e; rfl
  obtain ⟨k, hk⟩ : ∃ k : Nat, i - cb = (k : Int) := ⟨(i - cb).toNat, by omega⟩
  have hkn : k ≤ lg.length := by omega
  obtain ⟨A', m', c', hrun, hcut, hcb⟩ := hsp.r.l.cut k (by rw [entR_length]; exact hkn)
  have HCut : Hid (OwnF w base (.slice A' m' c') (entR (lg.drop k))) := by unfold Hid entR; rw [List.map_drop]; exact hcut
  have HCb : Hid (∀ g, blkF (.slice A' m' c') = some g → blkF (.slice A0 An0 Ac0) = some g) := hcb
  have HNil : Hid (k = lg.length → OwnF w base (.slice none 0 0) (entR (lg.drop k))) := fun h => .inl ⟨by rw [h, List.drop_length]; rfl, none, 0, rfl, fun _ => rfl⟩
  have HCX : Hid (∀ ul, OwnF w base ul (entR (lg.drop k)) → (∀ q ∈ L, ∀ g, q.2.ownBlock = some g → blkF ul ≠ some g) → ∀ w', (∀ b, b < w.heap.size → b ≠ p → w'.heap[b]? = w.heap[b]?) → Blk w' p #[.int .i64 ci, .int .i64 cp, .int .i64 ct, .int .i64 cv, .int .i64 cr, .int .i64 cd, .int .i64 i, .int .i64 (termAt ⟨ci, cp, ct, cv, cr, cd, cb, cbt, lg, cc, ys, ns, ms⟩ i), ul, .int .i64 cc, .slice A1 An1 Ac1, .slice A2 An2 Ac2, .slice A3 An3 Ac3, .slice A4 An4 Ac4] 96 → SpkO w' base p (compC ⟨ci, cp, ct, cv, cr, cd, cb, cbt, lg, cc, ys, ns, ms⟩ i) ul (.slice A1 An1 Ac1) (.slice A2 An2 Ac2) (.slice A3 An3 Ac3) (.slice A4 An4 Ac4) L) := fun ul h1 h2 w' hk' hB => by
    have e1 : (i - cb).toNat = k := by omega
    have hr := SP.out.r
    refine ⟨hB, ⟨?_, hr.y.kept fun g hg e => hk' g hg ?_, hr.n.kept fun g hg e => hk' g hg ?_, hr.m.kept fun g hg e => hk' g hg ?_, hr.yn, hr.ym, hr.nm⟩, ⟨SP.out.m.r.kept fun g hg e => hk' g hg ?_, fun q hq => (SP.out.m.e q hq).kept fun g hg e => hk' g hg ?_, SP.out.m.a⟩, h2, SP.out.p⟩
    · show OwnF w' base ul (entR (lg.drop (i - cb).toNat))
      rw [e1]
      exact h1.kept fun g hg e => hk' g hg fun q => h1.notBlk SP.out.b (by decide) (by rw [← q]; exact e)
    · exact fun q => hr.y.notBlk SP.out.b (by decide) (by rw [← q]; exact e)
    · exact fun q => hr.n.notBlk SP.out.b (by decide) (by rw [← q]; exact e)
    · exact fun q => hr.m.notBlk SP.out.b (by decide) (by rw [← q]; exact e)
    · exact fun q => SP.out.m.r.notBlk SP.out.b (by decide) (by rw [← q]; exact e)
    · exact fun q' => (SP.out.m.e q hq).notBlk SP.out.b (by decide) (by rw [← q']; exact e)
  have HAp : Hid (∀ q ∈ L, ∀ g, q.2.ownBlock = some g → blkF (.slice A' m' c') ≠ some g) := fun q hq g hg e => SP.out.a q hq g hg (HCb.out g e)
  have HAn : Hid (∀ q ∈ L, ∀ g, q.2.ownBlock = some g → blkF (.slice none 0 0) ≠ some g) := fun q hq g hg e => by cases e
  have cL := fun wx => lastI ci cp ct cv cr cd cb cbt cc A0 An0 Ac0 (.slice A1 An1 Ac1) (.slice A2 An2 Ac2) (.slice A3 An3 Ac3) wx h0 h1 (by rw [HLs.out]; exact hn)
  have cT := fun wx h => termI ci cp ct cv cr cd cb cbt lg cc ys ns ms A0 An0 Ac0 (.slice A1 An1 Ac1) (.slice A2 An2 Ac2) (.slice A3 An3 Ac3) i wx w.heap.size h hn h0 h1 (by omega) hi1
  have HLi : Hid (Lies w w.heap.size 2 (.slice A0 An0 Ac0) (entR lg)) := hsp.r.l.lies
  have cB := fun wx => behindI ci cp ct cv cr cd cb cbt lg cc A0 An0 Ac0 (.slice A1 An1 Ac1) (.slice A2 An2 Ac2) (.slice A3 An3 Ac3) i k A' m' c' wx hk (by omega) hrun
  generalize hte : termAt ⟨ci, cp, ct, cv, cr, cd, cb, cbt, lg, cc, ys, ns, ms⟩ i = te at *
  clear hte hcut hcb hsp
  by_cases hlt : i < cb + (An0 : Int)
  · have z1 : decide (i < cb + (An0 : Int)) = true := decide_eq_true hlt
    have e1 : (te == te) = true := beq_self_eq_true te
    clear hlt HNil
    have k0 := KP.out.cell 0 _ rfl
    have k1 := KP.out.cell 1 _ rfl
    have k2 := KP.out.cell 2 _ rfl
    have k3 := KP.out.cell 3 _ rfl
    have k4 := KP.out.cell 4 _ rfl
    have k5 := KP.out.cell 5 _ rfl
    have k6 := KP.out.cell 6 _ rfl
    have k7 := KP.out.cell 7 _ rfl
    have k8 := KP.out.cell 8 _ rfl
    have k9 := KP.out.cell 9 _ rfl
    have k10 := KP.out.cell 10 _ rfl
    have k11 := KP.out.cell 11 _ rfl
    have k12 := KP.out.cell 12 _ rfl
    have k13 := KP.out.cell 13 _ rfl
    go_enter Try.func85, Try.ntmps85
    go_wp2_with fail
    refine (cL w).mono ?_
    rintro e w1 ⟨rfl, hb1⟩
    have V1 := Hid.mk hb1
    have KP1 := Hid.mk (KP.out.on hb1 KP.out.lt)
    clear hb1 k0 k1 k2 k3 k4 k5 k6 k7 k8 k9 k10 k11 k12 k13
    have k0 := KP1.out.cell 0 _ rfl
    have k1 := KP1.out.cell 1 _ rfl
    have k2 := KP1.out.cell 2 _ rfl
    have k3 := KP1.out.cell 3 _ rfl
    have k4 := KP1.out.cell 4 _ rfl
    have k5 := KP1.out.cell 5 _ rfl
    have k6 := KP1.out.cell 6 _ rfl
    have k7 := KP1.out.cell 7 _ rfl
    have k8 := KP1.out.cell 8 _ rfl
    have k9 := KP1.out.cell 9 _ rfl
    have k10 := KP1.out.cell 10 _ rfl
    have k11 := KP1.out.cell 11 _ rfl
    have k12 := KP1.out.cell 12 _ rfl
    have k13 := KP1.out.cell 13 _ rfl
    go_wp2_with fail
    refine (cT w1 (HLi.out.on V1.out) V1.out.size).mono ?_
    rintro e w2 ⟨rfl, hb2⟩
    have V2 : Hid (Below w.heap.size w w2) := V1.out.trans (hb2.mono V1.out.size)
    have KP2 := Hid.mk (KP1.out.on hb2 KP1.out.lt)
    clear hb2 k0 k1 k2 k3 k4 k5 k6 k7 k8 k9 k10 k11 k12 k13 V1 KP1
    have k0 := KP2.out.cell 0 _ rfl
    have k1 := KP2.out.cell 1 _ rfl
    have k2 := KP2.out.cell 2 _ rfl
    have k3 := KP2.out.cell 3 _ rfl
    have k4 := KP2.out.cell 4 _ rfl
    have k5 := KP2.out.cell 5 _ rfl
    have k6 := KP2.out.cell 6 _ rfl
    have k7 := KP2.out.cell 7 _ rfl
    have k8 := KP2.out.cell 8 _ rfl
    have k9 := KP2.out.cell 9 _ rfl
    have k10 := KP2.out.cell 10 _ rfl
    have k11 := KP2.out.cell 11 _ rfl
    have k12 := KP2.out.cell 12 _ rfl
    have k13 := KP2.out.cell 13 _ rfl
    go_wp2_with fail
    refine (cB w2).mono ?_
    rintro e w3 ⟨rfl, hb3⟩
    have V3 : Hid (Below w.heap.size w w3) := V2.out.trans (hb3.mono V2.out.size)
    have KP3 := Hid.mk (KP2.out.on hb3 KP2.out.lt)
    clear hb3 k0 k1 k2 k3 k4 k5 k6 k7 k8 k9 k10 k11 k12 k13 V2 KP2
    have f8 := KP3.out.free 8
    have o8 := KP3.out.cell 8 _ rfl
    have f6 := (KP3.out.set 8 (.slice A' m' c')).free 6
    have o6 := (KP3.out.set 8 (.slice A' m' c')).cell 6 _ rfl
    have f7 := ((KP3.out.set 8 (.slice A' m' c')).set 6 (.int .i64 i)).free 7
    have o7 := ((KP3.out.set 8 (.slice A' m' c')).set 6 (.int .i64 i)).cell 7 _ rfl
    have KF := Hid.mk (((KP3.out.set 8 (.slice A' m' c')).set 6 (.int .i64 i)).set 7 (.int .i64 te))
    have FB : Hid (Below base w (((w3.setCell ⟨p, 8, none⟩ (.slice A' m' c')).setCell ⟨p, 6, none⟩ (.int .i64 i)).setCell ⟨p, 7, none⟩ (.int .i64 te))) := ((((V3.out.mono HBS.out).setCell HP.out _).setCell HP.out _).setCell HP.out _)
    have FK : Hid (∀ b, b < w.heap.size → b ≠ p → (((w3.setCell ⟨p, 8, none⟩ (.slice A' m' c')).setCell ⟨p, 6, none⟩ (.int .i64 i)).setCell ⟨p, 7, none⟩ (.int .i64 te)).heap[b]? = w.heap[b]?) := fun b hb hne => by
      rw [Below.heap_setCell _ _ _ _ hne, Below.heap_setCell _ _ _ _ hne, Below.heap_setCell _ _ _ _ hne]
      exact V3.out.block b hb
    have FS := Hid.mk (HCX.out (.slice A' m' c') HCut.out HAp.out _ FK.out KF.out)
    clear HCX KF FK
    go_wp2_with fail
    exact bodyPost_end (v := .tuple #[]) (by simp [results]) rfl ⟨rfl, ⟨_, FS.out⟩, FB.out⟩
  · have z1 : decide (i < cb + (An0 : Int)) = false := decide_eq_false hlt
    have HNl := Hid.mk (HNil.out (by have := HLs.out; omega))
    clear hlt HNil
    have k0 := KP.out.cell 0 _ rfl
    have k1 := KP.out.cell 1 _ rfl
    have k2 := KP.out.cell 2 _ rfl
    have k3 := KP.out.cell 3 _ rfl
    have k4 := KP.out.cell 4 _ rfl
    have k5 := KP.out.cell 5 _ rfl
    have k6 := KP.out.cell 6 _ rfl
    have k7 := KP.out.cell 7 _ rfl
    have k8 := KP.out.cell 8 _ rfl
    have k9 := KP.out.cell 9 _ rfl
    have k10 := KP.out.cell 10 _ rfl
    have k11 := KP.out.cell 11 _ rfl
    have k12 := KP.out.cell 12 _ rfl
    have k13 := KP.out.cell 13 _ rfl
    go_enter Try.func85, Try.ntmps85
    go_wp2_with fail
    refine (cL w).mono ?_
    rintro e w3 ⟨rfl, hb1⟩
    have V3 := Hid.mk hb1
    have KP3 := Hid.mk (KP.out.on hb1 KP.out.lt)
    clear hb1 k0 k1 k2 k3 k4 k5 k6 k7 k8 k9 k10 k11 k12 k13
    have f8 := KP3.out.free 8
    have o8 := KP3.out.cell 8 _ rfl
    have f6 := (KP3.out.set 8 (.slice none 0 0)).free 6
    have o6 := (KP3.out.set 8 (.slice none 0 0)).cell 6 _ rfl
    have f7 := ((KP3.out.set 8 (.slice none 0 0)).set 6 (.int .i64 i)).free 7
    have o7 := ((KP3.out.set 8 (.slice none 0 0)).set 6 (.int .i64 i)).cell 7 _ rfl
    have KF := Hid.mk (((KP3.out.set 8 (.slice none 0 0)).set 6 (.int .i64 i)).set 7 (.int .i64 te))
    have FB : Hid (Below base w (((w3.setCell ⟨p, 8, none⟩ (.slice none 0 0)).setCell ⟨p, 6, none⟩ (.int .i64 i)).setCell ⟨p, 7, none⟩ (.int .i64 te))) := ((((V3.out.mono HBS.out).setCell HP.out _).setCell HP.out _).setCell HP.out _)
    have FK : Hid (∀ b, b < w.heap.size → b ≠ p → (((w3.setCell ⟨p, 8, none⟩ (.slice none 0 0)).setCell ⟨p, 6, none⟩ (.int .i64 i)).setCell ⟨p, 7, none⟩ (.int .i64 te)).heap[b]? = w.heap[b]?) := fun b hb hne => by
      rw [Below.heap_setCell _ _ _ _ hne, Below.heap_setCell _ _ _ _ hne, Below.heap_setCell _ _ _ _ hne]
      exact V3.out.block b hb
    have FS := Hid.mk (HCX.out (.slice none 0 0) HNl.out HAn.out _ FK.out KF.out)
    clear HCX KF FK
    go_wp2_with fail
    exact bodyPost_end (v := .tuple #[]) (by simp [results]) rfl ⟨rfl, ⟨_, FS.out⟩, FB.out⟩
set_option maxRecDepth 20000 in
set_option maxHeartbeats 8000000 in
theorem compactI (ci cp ct cv cr cd cb cbt : Int) (lg : List Ent) (cc : Int) (ys ns ms : List Int) (M : List Mg) (i : Int) (w : World) (base p : Nat) (hsp : Spk w base p ⟨ci, cp, ct, cv, cr, cd, cb, cbt, lg, cc, ys, ns, ms⟩ M) (hn : lg.length ≤ 1048576) (h0 : 0 ≤ cb) (h1 : cb ≤ 200000) (hc : cc ≤ cb + (lg.length : Int)) (hbs : base ≤ w.heap.size) :
    Calls Try.prog 63 #[.pointer (some ⟨p, 0, none⟩), .int .i64 i] w fun e w' => (∃ ok : Bool, e = .returned (.bool ok) ∧ Hid ((cb < i ∧ i ≤ cc ∧ ok = true ∧ Spk w' base p (compC ⟨ci, cp, ct, cv, cr, cd, cb, cbt, lg, cc, ys, ns, ms⟩ i) M) ∨ (¬ (cb < i ∧ i ≤ cc) ∧ ok = false ∧ Spk w' base p ⟨ci, cp, ct, cv, cr, cd, cb, cbt, lg, cc, ys, ns, ms⟩ M))) ∧ Below base w w' := by
  have SP := Hid.mk hsp
  have HBS : Hid (base ≤ w.heap.size) := hbs
  obtain ⟨ul, uy, un, um, us, L, hso, hLM⟩ := hsp
  obtain ⟨A0, An0, Ac0, A1, An1, Ac1, A2, An2, Ac2, A3, An3, Ac3, A4, An4, Ac4, rfl, rfl, rfl, rfl, rfl⟩ := hso.shape
  have KP : Hid (Blk w p #[.int .i64 ci, .int .i64 cp, .int .i64 ct, .int .i64 cv, .int .i64 cr, .int .i64 cd, .int .i64 cb, .int .i64 cbt, .slice A0 An0 Ac0, .int .i64 cc, .slice A1 An1 Ac1, .slice A2 An2 Ac2, .slice A3 An3 Ac3, .slice A4 An4 Ac4] 96) := hso.b
  have SO := Hid.mk hso
  have HLM : Hid (L.map Prod.fst = M) := hLM
  have HLi : Hid (Lies w w.heap.size 2 (.slice A0 An0 Ac0) (entR lg)) := hso.r.l.lies
  clear hso hLM hbs
  have k0 := KP.out.cell 0 _ rfl
  have k1 := KP.out.cell 1 _ rfl
  have k2 := KP.out.cell 2 _ rfl
  have k3 := KP.out.cell 3 _ rfl
  have k4 := KP.out.cell 4 _ rfl
  have k5 := KP.out.cell 5 _ rfl
  have k6 := KP.out.cell 6 _ rfl
  have k7 := KP.out.cell 7 _ rfl
  have k8 := KP.out.cell 8 _ rfl
  have k9 := KP.out.cell 9 _ rfl
  have k10 := KP.out.cell 10 _ rfl
  have k11 := KP.out.cell 11 _ rfl
  have k12 := KP.out.cell 12 _ rfl
  have k13 := KP.out.cell 13 _ rfl
  by_cases ha : i ≤ cb
  · have z1 : decide (i ≤ cb) = true := decide_eq_true ha
    have HE : Hid (¬ (cb < i ∧ i ≤ cc)) := fun h => by omega
    clear ha
    go_enter Try.func63, Try.ntmps63
    go_wp2_with fail
    go_ret
    exact ⟨⟨false, rfl, .inr ⟨HE.out, rfl, SP.out⟩⟩, Below.refl _ _⟩
  have z1 : decide (i ≤ cb) = false := decide_eq_false ha
  by_cases hb : cc < i
  · have z2 : decide (cc < i) = true := decide_eq_true hb
    have HE : Hid (¬ (cb < i ∧ i ≤ cc)) := fun h => by omega
    clear ha hb
    go_enter Try.func63, Try.ntmps63
    go_wp2_with fail
    go_ret
    exact ⟨⟨false, rfl, .inr ⟨HE.out, rfl, SP.out⟩⟩, Below.refl _ _⟩
  have z2 : decide (cc < i) = false := decide_eq_false hb
  have HI : Hid (cb < i ∧ i ≤ cc) := ⟨by omega, by omega⟩
  have cT := fun wx h => termI ci cp ct cv cr cd cb cbt lg cc ys ns ms A0 An0 Ac0 (.slice A1 An1 Ac1) (.slice A2 An2 Ac2) (.slice A3 An3 Ac3) i wx w.heap.size h hn h0 h1 (by omega) (by omega)
  have cR := fun wx h hb => rebaseI ci cp ct cv cr cd cb cbt lg cc ys ns ms A0 An0 Ac0 A1 An1 Ac1 A2 An2 Ac2 A3 An3 Ac3 A4 An4 Ac4 L i wx base p h hn h0 h1 (by omega) (by omega) hb
  clear ha hb hc
  go_enter Try.func63, Try.ntmps63
  go_wp2_with fail
  refine (cT w HLi.out (Nat.le_refl _)).mono ?_
  rintro e w1 ⟨rfl, hb1⟩
  have V1 : Hid (Below w.heap.size w w1) := hb1
  have c2 := cR w1 (SO.out.on hb1) (Nat.le_trans HBS.out hb1.size)
  clear hb1 cT cR
  generalize termAt ⟨ci, cp, ct, cv, cr, cd, cb, cbt, lg, cc, ys, ns, ms⟩ i = te at *
  go_wp2_with fail
  refine c2.mono ?_
  rintro e w2 ⟨rfl, ⟨ul, hS⟩, hb2⟩
  have S2 := Hid.mk hS
  have B2 : Hid (Below base w w2) := (V1.out.mono HBS.out).trans hb2
  clear hS hb2 c2
  go_wp2_with fail
  go_ret
  exact ⟨⟨true, rfl, .inl ⟨HI.out.1, HI.out.2, rfl, ⟨_, _, _, _, _, L, S2.out, HLM.out⟩⟩⟩, B2.out⟩
end Go.Proofs.Ytjejcpieajeflaa

/-
  Contract of spec.Compact.
-/
namespace Go.Proofs.Ytjejcpieajeflaa
open Go.ChangeShapes Go.WideShapes Go.ChangeAt Go.RowKit Go.PlainAid
set_option linter.unusedVariables false

set_option maxRecDepth 20000 in
set_option maxHeartbeats 16000000 in
theorem specCompact (ci cp ct cv cr cd cb cbt : Int) (lg : List Ent) (cc : Int) (ys ns ms : List Int) (u0 u1 u2 u3 : Value) (i : Int) (w : World) (base0 : Nat) (hr : CoRows w base0 ⟨ci, cp, ct, cv, cr, cd, cb, cbt, lg, cc, ys, ns, ms⟩ u0 u1 u2 u3) (hs : ShortC ⟨ci, cp, ct, cv, cr, cd, cb, cbt, lg, cc, ys, ns, ms⟩) :
    Calls Try.prog 26 #[.agg #[.int .i64 ci, .int .i64 cp, .int .i64 ct, .int .i64 cv, .int .i64 cr, .int .i64 cd, .int .i64 cb, .int .i64 cbt, u0, .int .i64 cc, u1, u2, u3], .int .i64 i] w fun e w' => (∃ u, e = .returned (.tuple #[u, .bool (compX ⟨ci, cp, ct, cv, cr, cd, cb, cbt, lg, cc, ys, ns, ms⟩ i).2]) ∧ CorO w' w.heap.size u (compX ⟨ci, cp, ct, cv, cr, cd, cb, cbt, lg, cc, ys, ns, ms⟩ i).1) ∧ Below w.heap.size w w' := by
  have HR : Hid (CoRows w base0 ⟨ci, cp, ct, cv, cr, cd, cb, cbt, lg, cc, ys, ns, ms⟩ u0 u1 u2 u3) := hr
  have HS : Hid (ShortC ⟨ci, cp, ct, cv, cr, cd, cb, cbt, lg, cc, ys, ns, ms⟩) := hs
  obtain ⟨A0, Ac0, A1, Ac1, A2, Ac2, A3, Ac3, rfl, rfl, rfl, rfl⟩ := hr.shape
  simp only at HR ⊢
  generalize lg.length = An0 at HR ⊢
  generalize ys.length = An1 at HR ⊢
  generalize ns.length = An2 at HR ⊢
  generalize ms.length = An3 at HR ⊢
  clear hr hs
  have HX0 : Hid (corOk ⟨ci, cp, ct, cv, cr, cd, cb, cbt, lg, cc, ys, ns, ms⟩ = false → compX ⟨ci, cp, ct, cv, cr, cd, cb, cbt, lg, cc, ys, ns, ms⟩ i = (⟨0, 0, 0, 0, 0, 0, 0, 0, [], 0, [], [], []⟩, false)) := fun h => by unfold compX; rw [if_neg (by rw [h]; exact Bool.false_ne_true)]
  have HX1 : Hid (corOk ⟨ci, cp, ct, cv, cr, cd, cb, cbt, lg, cc, ys, ns, ms⟩ = true → ¬ (cb < i ∧ i ≤ cc) → compX ⟨ci, cp, ct, cv, cr, cd, cb, cbt, lg, cc, ys, ns, ms⟩ i = (⟨ci, cp, ct, cv, cr, cd, cb, cbt, lg, cc, ys, ns, ms⟩, false)) := fun h h2 => by unfold compX; rw [if_pos h, if_neg h2]
  have HX2 : Hid (corOk ⟨ci, cp, ct, cv, cr, cd, cb, cbt, lg, cc, ys, ns, ms⟩ = true → cb < i ∧ i ≤ cc → compX ⟨ci, cp, ct, cv, cr, cd, cb, cbt, lg, cc, ys, ns, ms⟩ i = (compC ⟨ci, cp, ct, cv, cr, cd, cb, cbt, lg, cc, ys, ns, ms⟩ i, true)) := fun h h2 => by unfold compX; rw [if_pos h, if_pos h2]
  obtain ⟨W0, hW0⟩ : ∃ W0, W0 = (w.alloc (.cells #[.int .i64 ci, .int .i64 cp, .int .i64 ct, .int .i64 cv, .int .i64 cr, .int .i64 cd, .int .i64 cb, .int .i64 cbt, .slice A0 An0 Ac0, .int .i64 cc, .slice A1 An1 Ac1, .slice A2 An2 Ac2, .slice A3 An3 Ac3] 30)).alloc (.cells #[.int .i64 0, .int .i64 0, .int .i64 0, .int .i64 0, .int .i64 0, .int .i64 0, .int .i64 0, .int .i64 0, .slice none 0 0, .int .i64 0, .slice none 0 0, .slice none 0 0, .slice none 0 0] 30) := ⟨_, rfl⟩
  have B0 : Hid (Below w.heap.size w W0) := by unfold Hid; rw [hW0]; exact ((Below.refl _ w).alloc (Nat.le_refl _) _).alloc (by simp) _
  have K0 : Hid (Blk W0 w.heap.size #[.int .i64 ci, .int .i64 cp, .int .i64 ct, .int .i64 cv, .int .i64 cr, .int .i64 cd, .int .i64 cb, .int .i64 cbt, .slice A0 An0 Ac0, .int .i64 cc, .slice A1 An1 Ac1, .slice A2 An2 Ac2, .slice A3 An3 Ac3] 30) := by unfold Hid; rw [hW0]; exact (Blk.new w _ _).alloc _
  have R0 : Hid (Blk W0 (w.heap.size + 1) #[.int .i64 0, .int .i64 0, .int .i64 0, .int .i64 0, .int .i64 0, .int .i64 0, .int .i64 0, .int .i64 0, .slice none 0 0, .int .i64 0, .slice none 0 0, .slice none 0 0, .slice none 0 0] 30) := by unfold Hid; rw [hW0]; have := Blk.new (w.alloc (.cells #[.int .i64 ci, .int .i64 cp, .int .i64 ct, .int .i64 cv, .int .i64 cr, .int .i64 cd, .int .i64 cb, .int .i64 cbt, .slice A0 An0 Ac0, .int .i64 cc, .slice A1 An1 Ac1, .slice A2 An2 Ac2, .slice A3 An3 Ac3] 30)) #[.int .i64 0, .int .i64 0, .int .i64 0, .int .i64 0, .int .i64 0, .int .i64 0, .int .i64 0, .int .i64 0, .slice none 0 0, .int .i64 0, .slice none 0 0, .slice none 0 0, .slice none 0 0] 30; simp only [World.size_alloc] at this; exact this
  have HZ0 : Hid (w.heap.size + 2 ≤ W0.heap.size) := by unfold Hid; rw [hW0]; simp
  have hok := specCoreOk ⟨ci, cp, ct, cv, cr, cd, cb, cbt, lg, cc, ys, ns, ms⟩ (.agg #[.int .i64 ci, .int .i64 cp, .int .i64 ct, .int .i64 cv, .int .i64 cr, .int .i64 cd, .int .i64 cb, .int .i64 cbt, .slice A0 An0 Ac0, .int .i64 cc, .slice A1 An1 Ac1, .slice A2 An2 Ac2, .slice A3 An3 Ac3]) W0 W0.heap.size (HR.out.on B0.out).lies HS.out (Nat.le_refl _)
  go_enter Try.func26, Try.ntmps26
  go_wp2_with fail
  rw [← hW0]
  clear hW0
  refine hok.mono ?_
  rintro e W1 ⟨rfl, hb⟩
  have B1 : Hid (Below w.heap.size w W1) := B0.out.trans (hb.mono B0.out.size)
  have K1 : Hid (Blk W1 w.heap.size #[.int .i64 ci, .int .i64 cp, .int .i64 ct, .int .i64 cv, .int .i64 cr, .int .i64 cd, .int .i64 cb, .int .i64 cbt, .slice A0 An0 Ac0, .int .i64 cc, .slice A1 An1 Ac1, .slice A2 An2 Ac2, .slice A3 An3 Ac3] 30) := K0.out.on hb K0.out.lt
  have R1 : Hid (Blk W1 (w.heap.size + 1) #[.int .i64 0, .int .i64 0, .int .i64 0, .int .i64 0, .int .i64 0, .int .i64 0, .int .i64 0, .int .i64 0, .slice none 0 0, .int .i64 0, .slice none 0 0, .slice none 0 0, .slice none 0 0] 30) := R0.out.on hb R0.out.lt
  have HZ1 : Hid (w.heap.size + 2 ≤ W1.heap.size) := Nat.le_trans HZ0.out hb.size
  clear hok hb K0 R0 B0 HZ0
  cases hc : corOk ⟨ci, cp, ct, cv, cr, cd, cb, cbt, lg, cc, ys, ns, ms⟩
  · have HE := Hid.mk (HX0.out hc)
    obtain ⟨⟨r0, g0⟩, ⟨r1, g1⟩, ⟨r2, g2⟩, ⟨r3, g3⟩, ⟨r4, g4⟩, ⟨r5, g5⟩, ⟨r6, g6⟩, ⟨r7, g7⟩, ⟨r8, g8⟩, ⟨r9, g9⟩, ⟨r10, g10⟩, ⟨r11, g11⟩, ⟨r12, g12⟩, z0, z1, z2, z3, z4, z5, z6, z7, z8, z9, z10, z11, z12⟩ := resC13 (x0 := .int .i64 0) (x1 := .int .i64 0) (x2 := .int .i64 0) (x3 := .int .i64 0) (x4 := .int .i64 0) (x5 := .int .i64 0) (x6 := .int .i64 0) (x7 := .int .i64 0) (x8 := .slice none 0 0) (x9 := .int .i64 0) (x10 := .slice none 0 0) (x11 := .slice none 0 0) (x12 := .slice none 0 0) R1.out
    have FB := Hid.mk (belowC13 B1.out (show w.heap.size ≤ w.heap.size + 1 by omega) (.int .i64 0) (.int .i64 0) (.int .i64 0) (.int .i64 0) (.int .i64 0) (.int .i64 0) (.int .i64 0) (.int .i64 0) (.slice none 0 0) (.int .i64 0) (.slice none 0 0) (.slice none 0 0) (.slice none 0 0))
    clear K1 R1 B1 hc HX0 HX1 HX2
    go_wp2_with fail
    exact bodyPost_ret (v := .tuple #[.agg #[.int .i64 0, .int .i64 0, .int .i64 0, .int .i64 0, .int .i64 0, .int .i64 0, .int .i64 0, .int .i64 0, .slice none 0 0, .int .i64 0, .slice none 0 0, .slice none 0 0, .slice none 0 0], .bool false]) (by simp [results, go_sem, z0, z1, z2, z3, z4, z5, z6, z7, z8, z9, z10, z11, z12]) rfl ⟨⟨_, by rw [HE.out], by rw [HE.out]; exact ⟨_, _, _, _, rfl, ⟨.inl ⟨rfl, none, 0, rfl, fun _ => rfl⟩, Nums.nil _ _, Nums.nil _ _, Nums.nil _ _, fun g h => (by cases h), fun g h => (by cases h), fun g h => (by cases h)⟩⟩⟩, FB.out⟩
  have HOK : Hid (COk ⟨ci, cp, ct, cv, cr, cd, cb, cbt, lg, cc, ys, ns, ms⟩) := corOk_ok hc
  have HX3 := Hid.mk (HX1.out hc)
  have HX4 := Hid.mk (HX2.out hc)
  clear hc HX0 HX1 HX2
  have y0 := K1.out.cell 0 _ rfl
  have y1 := K1.out.cell 1 _ rfl
  have y2 := K1.out.cell 2 _ rfl
  have y3 := K1.out.cell 3 _ rfl
  have y4 := K1.out.cell 4 _ rfl
  have y5 := K1.out.cell 5 _ rfl
  have y6 := K1.out.cell 6 _ rfl
  have y7 := K1.out.cell 7 _ rfl
  have y8 := K1.out.cell 8 _ rfl
  have y9 := K1.out.cell 9 _ rfl
  have y10 := K1.out.cell 10 _ rfl
  have y11 := K1.out.cell 11 _ rfl
  have y12 := K1.out.cell 12 _ rfl
  have hcp := copyCoS ci cp ct cv cr cd cb cbt lg cc ys ns ms (.slice A0 An0 Ac0) (.slice A1 An1 Ac1) (.slice A2 An2 Ac2) (.slice A3 An3 Ac3) W1 W1.heap.size base0 (HR.out.on B1.out).l.lies (HR.out.on B1.out).y (HR.out.on B1.out).n (HR.out.on B1.out).m HS.out (Nat.le_refl _)
  go_wp2_with fail
  refine hcp.mono ?_
  rintro e W2 ⟨uu, rfl, hO, hb⟩
  obtain ⟨D0, Bn0, Bc0, D1, Bn1, Bc1, D2, Bn2, Bc2, D3, Bn3, Bc3, rfl, hO'⟩ := hO.sh
  unfold vCo
  simp only
  have BW2 : Hid (Below w.heap.size w W2) := B1.out.trans (hb.mono B1.out.size)
  have K2 : Hid (Blk W2 w.heap.size #[.int .i64 ci, .int .i64 cp, .int .i64 ct, .int .i64 cv, .int .i64 cr, .int .i64 cd, .int .i64 cb, .int .i64 cbt, .slice A0 An0 Ac0, .int .i64 cc, .slice A1 An1 Ac1, .slice A2 An2 Ac2, .slice A3 An3 Ac3] 30) := K1.out.on hb K1.out.lt
  have R2 : Hid (Blk W2 (w.heap.size + 1) #[.int .i64 0, .int .i64 0, .int .i64 0, .int .i64 0, .int .i64 0, .int .i64 0, .int .i64 0, .int .i64 0, .slice none 0 0, .int .i64 0, .slice none 0 0, .slice none 0 0, .slice none 0 0] 30) := R1.out.on hb R1.out.lt
  have HZ2 : Hid (w.heap.size + 2 ≤ W2.heap.size) := Nat.le_trans HZ1.out hb.size
  have O2 : Hid (CoRows W2 (w.heap.size + 2) ⟨ci, cp, ct, cv, cr, cd, cb, cbt, lg, cc, ys, ns, ms⟩ (.slice D0 Bn0 Bc0) (.slice D1 Bn1 Bc1) (.slice D2 Bn2 Bc2) (.slice D3 Bn3 Bc3)) := hO'.mono HZ1.out
  clear hcp hb hO hO' R1 HZ1 K1 B1 y0 y1 y2 y3 y4 y5 y6 y7 y8 y9 y10 y11 y12
  obtain ⟨⟨r0, g0⟩, ⟨r1, g1⟩, ⟨r2, g2⟩, ⟨r3, g3⟩, ⟨r4, g4⟩, ⟨r5, g5⟩, ⟨r6, g6⟩, ⟨r7, g7⟩, ⟨r8, g8⟩, ⟨r9, g9⟩, ⟨r10, g10⟩, ⟨r11, g11⟩, ⟨r12, g12⟩, z0, z1, z2, z3, z4, z5, z6, z7, z8, z9, z10, z11, z12⟩ := resC13 (x0 := .int .i64 ci) (x1 := .int .i64 cp) (x2 := .int .i64 ct) (x3 := .int .i64 cv) (x4 := .int .i64 cr) (x5 := .int .i64 cd) (x6 := .int .i64 cb) (x7 := .int .i64 cbt) (x8 := .slice D0 Bn0 Bc0) (x9 := .int .i64 cc) (x10 := .slice D1 Bn1 Bc1) (x11 := .slice D2 Bn2 Bc2) (x12 := .slice D3 Bn3 Bc3) K2.out
  obtain ⟨Y, hY⟩ : ∃ Y, Y = (((((((((((((W2.setCell ⟨w.heap.size, 0, none⟩ (.int .i64 ci)).setCell ⟨w.heap.size, 1, none⟩ (.int .i64 cp)).setCell ⟨w.heap.size, 2, none⟩ (.int .i64 ct)).setCell ⟨w.heap.size, 3, none⟩ (.int .i64 cv)).setCell ⟨w.heap.size, 4, none⟩ (.int .i64 cr)).setCell ⟨w.heap.size, 5, none⟩ (.int .i64 cd)).setCell ⟨w.heap.size, 6, none⟩ (.int .i64 cb)).setCell ⟨w.heap.size, 7, none⟩ (.int .i64 cbt)).setCell ⟨w.heap.size, 8, none⟩ (.slice D0 Bn0 Bc0)).setCell ⟨w.heap.size, 9, none⟩ (.int .i64 cc)).setCell ⟨w.heap.size, 10, none⟩ (.slice D1 Bn1 Bc1)).setCell ⟨w.heap.size, 11, none⟩ (.slice D2 Bn2 Bc2)).setCell ⟨w.heap.size, 12, none⟩ (.slice D3 Bn3 Bc3)) := ⟨_, rfl⟩
  have KY : Hid (Blk Y w.heap.size #[.int .i64 ci, .int .i64 cp, .int .i64 ct, .int .i64 cv, .int .i64 cr, .int .i64 cd, .int .i64 cb, .int .i64 cbt, .slice D0 Bn0 Bc0, .int .i64 cc, .slice D1 Bn1 Bc1, .slice D2 Bn2 Bc2, .slice D3 Bn3 Bc3] 30) := by unfold Hid; rw [hY]; exact blkC13 K2.out
  have RY : Hid (Blk Y (w.heap.size + 1) #[.int .i64 0, .int .i64 0, .int .i64 0, .int .i64 0, .int .i64 0, .int .i64 0, .int .i64 0, .int .i64 0, .slice none 0 0, .int .i64 0, .slice none 0 0, .slice none 0 0, .slice none 0 0] 30) := by unfold Hid; rw [hY]; exact otherC13 R2.out (by omega) (.int .i64 ci) (.int .i64 cp) (.int .i64 ct) (.int .i64 cv) (.int .i64 cr) (.int .i64 cd) (.int .i64 cb) (.int .i64 cbt) (.slice D0 Bn0 Bc0) (.int .i64 cc) (.slice D1 Bn1 Bc1) (.slice D2 Bn2 Bc2) (.slice D3 Bn3 Bc3)
  have OY : Hid (CoRows Y (w.heap.size + 2) ⟨ci, cp, ct, cv, cr, cd, cb, cbt, lg, cc, ys, ns, ms⟩ (.slice D0 Bn0 Bc0) (.slice D1 Bn1 Bc1) (.slice D2 Bn2 Bc2) (.slice D3 Bn3 Bc3)) := by unfold Hid; rw [hY]; exact rowsC13 O2.out (by omega) (.int .i64 ci) (.int .i64 cp) (.int .i64 ct) (.int .i64 cv) (.int .i64 cr) (.int .i64 cd) (.int .i64 cb) (.int .i64 cbt) (.slice D0 Bn0 Bc0) (.int .i64 cc) (.slice D1 Bn1 Bc1) (.slice D2 Bn2 Bc2) (.slice D3 Bn3 Bc3)
  have BY : Hid (Below w.heap.size w Y) := by unfold Hid; rw [hY]; exact belowC13 BW2.out (Nat.le_refl _) (.int .i64 ci) (.int .i64 cp) (.int .i64 ct) (.int .i64 cv) (.int .i64 cr) (.int .i64 cd) (.int .i64 cb) (.int .i64 cbt) (.slice D0 Bn0 Bc0) (.int .i64 cc) (.slice D1 Bn1 Bc1) (.slice D2 Bn2 Bc2) (.slice D3 Bn3 Bc3)
  have ZY : Hid (w.heap.size + 2 ≤ Y.heap.size) := by
    have := RY.out.lt
    unfold Hid
    omega
  clear K2 R2 O2 BW2 HZ2
  go_upto_region 4 with fail
  rw [← hY]
  clear hY r0 g0 z0 r1 g1 z1 r2 g2 z2 r3 g3 z3 r4 g4 z4 r5 g5 z5 r6 g6 z6 r7 g7 z7 r8 g8 z8 r9 g9 z9 r10 g10 z10 r11 g11 z11 r12 g12 z12
  have y0 := KY.out.cell 0 _ rfl
  have y1 := KY.out.cell 1 _ rfl
  have y2 := KY.out.cell 2 _ rfl
  have y3 := KY.out.cell 3 _ rfl
  have y4 := KY.out.cell 4 _ rfl
  have y5 := KY.out.cell 5 _ rfl
  have y6 := KY.out.cell 6 _ rfl
  have y7 := KY.out.cell 7 _ rfl
  have y8 := KY.out.cell 8 _ rfl
  have y9 := KY.out.cell 9 _ rfl
  have y10 := KY.out.cell 10 _ rfl
  have y11 := KY.out.cell 11 _ rfl
  have y12 := KY.out.cell 12 _ rfl
  have hlt2 : w.heap.size + 1 < w.heap.size + 2 := by omega
  have HWW : Hid (w.heap.size ≤ w.heap.size + 2) := by unfold Hid; omega
  by_cases ha : i ≤ cb
  · have z99 : decide (i ≤ cb) = true := decide_eq_true ha
    have HE := Hid.mk (HX3.out (fun h => by omega))
    clear ha HX3 HX4
    obtain ⟨⟨r0, g0⟩, ⟨r1, g1⟩, ⟨r2, g2⟩, ⟨r3, g3⟩, ⟨r4, g4⟩, ⟨r5, g5⟩, ⟨r6, g6⟩, ⟨r7, g7⟩, ⟨r8, g8⟩, ⟨r9, g9⟩, ⟨r10, g10⟩, ⟨r11, g11⟩, ⟨r12, g12⟩, z0, z1, z2, z3, z4, z5, z6, z7, z8, z9, z10, z11, z12⟩ := resC13 (x0 := .int .i64 ci) (x1 := .int .i64 cp) (x2 := .int .i64 ct) (x3 := .int .i64 cv) (x4 := .int .i64 cr) (x5 := .int .i64 cd) (x6 := .int .i64 cb) (x7 := .int .i64 cbt) (x8 := .slice D0 Bn0 Bc0) (x9 := .int .i64 cc) (x10 := .slice D1 Bn1 Bc1) (x11 := .slice D2 Bn2 Bc2) (x12 := .slice D3 Bn3 Bc3) RY.out
    have FO := Hid.mk (rowsC13 OY.out hlt2 (.int .i64 ci) (.int .i64 cp) (.int .i64 ct) (.int .i64 cv) (.int .i64 cr) (.int .i64 cd) (.int .i64 cb) (.int .i64 cbt) (.slice D0 Bn0 Bc0) (.int .i64 cc) (.slice D1 Bn1 Bc1) (.slice D2 Bn2 Bc2) (.slice D3 Bn3 Bc3))
    have FB := Hid.mk (belowC13 BY.out (show w.heap.size ≤ w.heap.size + 1 by omega) (.int .i64 ci) (.int .i64 cp) (.int .i64 ct) (.int .i64 cv) (.int .i64 cr) (.int .i64 cd) (.int .i64 cb) (.int .i64 cbt) (.slice D0 Bn0 Bc0) (.int .i64 cc) (.slice D1 Bn1 Bc1) (.slice D2 Bn2 Bc2) (.slice D3 Bn3 Bc3))
    clear KY RY OY BY
    go_wp2_with fail
    exact bodyPost_ret (v := .tuple #[.agg #[.int .i64 ci, .int .i64 cp, .int .i64 ct, .int .i64 cv, .int .i64 cr, .int .i64 cd, .int .i64 cb, .int .i64 cbt, .slice D0 Bn0 Bc0, .int .i64 cc, .slice D1 Bn1 Bc1, .slice D2 Bn2 Bc2, .slice D3 Bn3 Bc3], .bool false]) (by simp [results, go_sem, z0, z1, z2, z3, z4, z5, z6, z7, z8, z9, z10, z11, z12]) rfl ⟨⟨_, by rw [HE.out], by rw [HE.out]; exact ⟨_, _, _, _, rfl, FO.out.mono HWW.out⟩⟩, FB.out⟩
  have q1 : decide (i ≤ cb) = false := decide_eq_false ha
  by_cases hb : cc < i
  · have q2 : decide (cc < i) = true := decide_eq_true hb
    have HE := Hid.mk (HX3.out (fun h => by omega))
    clear ha hb HX3 HX4
    obtain ⟨⟨r0, g0⟩, ⟨r1, g1⟩, ⟨r2, g2⟩, ⟨r3, g3⟩, ⟨r4, g4⟩, ⟨r5, g5⟩, ⟨r6, g6⟩, ⟨r7, g7⟩, ⟨r8, g8⟩, ⟨r9, g9⟩, ⟨r10, g10⟩, ⟨r11, g11⟩, ⟨r12, g12⟩, z0, z1, z2, z3, z4, z5, z6, z7, z8, z9, z10, z11, z12⟩ := resC13 (x0 := .int .i64 ci) (x1 := .int .i64 cp) (x2 := .int .i64 ct) (x3 := .int .i64 cv) (x4 := .int .i64 cr) (x5 := .int .i64 cd) (x6 := .int .i64 cb) (x7 := .int .i64 cbt) (x8 := .slice D0 Bn0 Bc0) (x9 := .int .i64 cc) (x10 := .slice D1 Bn1 Bc1) (x11 := .slice D2 Bn2 Bc2) (x12 := .slice D3 Bn3 Bc3) RY.out
    have FO := Hid.mk (rowsC13 OY.out hlt2 (.int .i64 ci) (.int .i64 cp) (.int .i64 ct) (.int .i64 cv) (.int .i64 cr) (.int .i64 cd) (.int .i64 cb) (.int .i64 cbt) (.slice D0 Bn0 Bc0) (.int .i64 cc) (.slice D1 Bn1 Bc1) (.slice D2 Bn2 Bc2) (.slice D3 Bn3 Bc3))
    have FB := Hid.mk (belowC13 BY.out (show w.heap.size ≤ w.heap.size + 1 by omega) (.int .i64 ci) (.int .i64 cp) (.int .i64 ct) (.int .i64 cv) (.int .i64 cr) (.int .i64 cd) (.int .i64 cb) (.int .i64 cbt) (.slice D0 Bn0 Bc0) (.int .i64 cc) (.slice D1 Bn1 Bc1) (.slice D2 Bn2 Bc2) (.slice D3 Bn3 Bc3))
    clear KY RY OY BY
    go_wp2_with fail
    exact bodyPost_ret (v := .tuple #[.agg #[.int .i64 ci, .int .i64 cp, .int .i64 ct, .int .i64 cv, .int .i64 cr, .int .i64 cd, .int .i64 cb, .int .i64 cbt, .slice D0 Bn0 Bc0, .int .i64 cc, .slice D1 Bn1 Bc1, .slice D2 Bn2 Bc2, .slice D3 Bn3 Bc3], .bool false]) (by simp [results, go_sem, z0, z1, z2, z3, z4, z5, z6, z7, z8, z9, z10, z11, z12]) rfl ⟨⟨_, by rw [HE.out], by rw [HE.out]; exact ⟨_, _, _, _, rfl, FO.out.mono HWW.out⟩⟩, FB.out⟩
  have q2 : decide (cc < i) = false := decide_eq_false hb
  have HE := Hid.mk (HX4.out ⟨by omega, by omega⟩)
  obtain ⟨w0, w1, w2, w3, w4, w5, w6⟩ := walOk_in HOK.out.1.w
  have hcl := HOK.out.1.c.2
  unfold cLast at hcl
  simp only [corW] at w2 w3 w4 w5 hcl
  obtain ⟨k, hk⟩ : ∃ k : Nat, i - cb = (k : Int) := ⟨(i - cb).toNat, by omega⟩
  have hkn : k ≤ lg.length := by omega
  obtain ⟨A', m', c', hrun, hcut, _⟩ := OY.out.l.cut k (by rw [entR_length]; exact hkn)
  have HCut : Hid (OwnF Y (w.heap.size + 2) (.slice A' m' c') (entR (lg.drop (i - cb).toNat))) := by
    unfold Hid entR
    rw [List.map_drop, show (i - cb).toNat = k by omega]
    exact hcut
  have wk : IntKind.i64.wrap (i - cb) = (k : Int) := by rw [IntKind.wrap_i64]; omega
  have cT := termS ci cp ct cv cr cd cb cbt lg cc ys ns ms D0 Bn0 Bc0 (.slice D1 Bn1 Bc1) (.slice D2 Bn2 Bc2) (.slice D3 Bn3 Bc3) i Y Y.heap.size OY.out.l.lies (by omega) (by omega) (by omega) (by omega) (by omega) (Nat.le_refl _)
  clear ha hb HX3 HX4 hcl w0 w1 w2 w3 w4 w5 w6 hkn hk hcut
  generalize hte : termAt ⟨ci, cp, ct, cv, cr, cd, cb, cbt, lg, cc, ys, ns, ms⟩ i = te at *
  have HTe : Hid (termAt ⟨ci, cp, ct, cv, cr, cd, cb, cbt, lg, cc, ys, ns, ms⟩ i = te) := hte
  clear hte
  go_wp2_with fail
  refine cT.mono ?_
  rintro e W3 ⟨rfl, hb3⟩
  have V3 : Hid (Below w.heap.size w W3) := BY.out.trans (hb3.mono BY.out.size)
  have K3 := Hid.mk (KY.out.on hb3 KY.out.lt)
  have R3 := Hid.mk (RY.out.on hb3 RY.out.lt)
  have O3 : Hid (CoRows W3 (w.heap.size + 2) (compC ⟨ci, cp, ct, cv, cr, cd, cb, cbt, lg, cc, ys, ns, ms⟩ i) (.slice A' m' c') (.slice D1 Bn1 Bc1) (.slice D2 Bn2 Bc2) (.slice D3 Bn3 Bc3)) := ⟨HCut.out.on hb3, OY.out.y.on hb3, OY.out.n.on hb3, OY.out.m.on hb3, OY.out.yn, OY.out.ym, OY.out.nm⟩
  clear hb3 cT KY RY OY BY HCut y0 y1 y2 y3 y4 y5 y6 y7 y8 y9 y10 y11 y12
  have f7 := K3.out.free 7
  have o7 := K3.out.cell 7 _ rfl
  have f8 := (K3.out.set 7 (.int .i64 te)).free 8
  have o8 := (K3.out.set 7 (.int .i64 te)).cell 8 _ rfl
  have f6 := ((K3.out.set 7 (.int .i64 te)).set 8 (.slice A' m' c')).free 6
  have o6 := ((K3.out.set 7 (.int .i64 te)).set 8 (.slice A' m' c')).cell 6 _ rfl
  have o6b := K3.out.cell 6 _ rfl
  obtain ⟨Y2, hY2⟩ : ∃ Y2, Y2 = (((W3.setCell ⟨w.heap.size, 7, none⟩ (.int .i64 te)).setCell ⟨w.heap.size, 8, none⟩ (.slice A' m' c')).setCell ⟨w.heap.size, 6, none⟩ (.int .i64 i)) := ⟨_, rfl⟩
  have KZ : Hid (Blk Y2 w.heap.size #[.int .i64 ci, .int .i64 cp, .int .i64 ct, .int .i64 cv, .int .i64 cr, .int .i64 cd, .int .i64 i, .int .i64 te, .slice A' m' c', .int .i64 cc, .slice D1 Bn1 Bc1, .slice D2 Bn2 Bc2, .slice D3 Bn3 Bc3] 30) := by unfold Hid; rw [hY2]; exact (((K3.out.set 7 (.int .i64 te)).set 8 (.slice A' m' c')).set 6 (.int .i64 i))
  have RZ : Hid (Blk Y2 (w.heap.size + 1) #[.int .i64 0, .int .i64 0, .int .i64 0, .int .i64 0, .int .i64 0, .int .i64 0, .int .i64 0, .int .i64 0, .slice none 0 0, .int .i64 0, .slice none 0 0, .slice none 0 0, .slice none 0 0] 30) := by unfold Hid; rw [hY2]; exact ((R3.out.other (show w.heap.size + 1 ≠ w.heap.size by omega) 7 _).other (show w.heap.size + 1 ≠ w.heap.size by omega) 8 _).other (show w.heap.size + 1 ≠ w.heap.size by omega) 6 _
  have OZ : Hid (CoRows Y2 (w.heap.size + 2) (compC ⟨ci, cp, ct, cv, cr, cd, cb, cbt, lg, cc, ys, ns, ms⟩ i) (.slice A' m' c') (.slice D1 Bn1 Bc1) (.slice D2 Bn2 Bc2) (.slice D3 Bn3 Bc3)) := by unfold Hid; rw [hY2]; exact ((O3.out.low (show w.heap.size < w.heap.size + 2 by omega)).low (show w.heap.size < w.heap.size + 2 by omega)).low (show w.heap.size < w.heap.size + 2 by omega)
  have BZ : Hid (Below w.heap.size w Y2) := by unfold Hid; rw [hY2]; exact ((V3.out.setCell (Nat.le_refl _) _).setCell (Nat.le_refl _) _).setCell (Nat.le_refl _) _
  clear K3 R3 O3 V3
  go_upto_region 9 with fail
  rw [← hY2]
  clear hY2 o6 o7 o8 f6 f7 f8 o6b
  have HVC : Hid (vCo (compC ⟨ci, cp, ct, cv, cr, cd, cb, cbt, lg, cc, ys, ns, ms⟩ i) (.slice A' m' c') (.slice D1 Bn1 Bc1) (.slice D2 Bn2 Bc2) (.slice D3 Bn3 Bc3) = .agg #[.int .i64 ci, .int .i64 cp, .int .i64 ct, .int .i64 cv, .int .i64 cr, .int .i64 cd, .int .i64 i, .int .i64 te, .slice A' m' c', .int .i64 cc, .slice D1 Bn1 Bc1, .slice D2 Bn2 Bc2, .slice D3 Bn3 Bc3]) := by unfold Hid vCo compC; simp only; rw [HTe.out]
  have y0 := KZ.out.cell 0 _ rfl
  have y1 := KZ.out.cell 1 _ rfl
  have y2 := KZ.out.cell 2 _ rfl
  have y3 := KZ.out.cell 3 _ rfl
  have y4 := KZ.out.cell 4 _ rfl
  have y5 := KZ.out.cell 5 _ rfl
  have y6 := KZ.out.cell 6 _ rfl
  have y7 := KZ.out.cell 7 _ rfl
  have y8 := KZ.out.cell 8 _ rfl
  have y9 := KZ.out.cell 9 _ rfl
  have y10 := KZ.out.cell 10 _ rfl
  have y11 := KZ.out.cell 11 _ rfl
  have y12 := KZ.out.cell 12 _ rfl
  obtain ⟨⟨r0, g0⟩, ⟨r1, g1⟩, ⟨r2, g2⟩, ⟨r3, g3⟩, ⟨r4, g4⟩, ⟨r5, g5⟩, ⟨r6, g6⟩, ⟨r7, g7⟩, ⟨r8, g8⟩, ⟨r9, g9⟩, ⟨r10, g10⟩, ⟨r11, g11⟩, ⟨r12, g12⟩, z0, z1, z2, z3, z4, z5, z6, z7, z8, z9, z10, z11, z12⟩ := resC13 (x0 := .int .i64 ci) (x1 := .int .i64 cp) (x2 := .int .i64 ct) (x3 := .int .i64 cv) (x4 := .int .i64 cr) (x5 := .int .i64 cd) (x6 := .int .i64 i) (x7 := .int .i64 te) (x8 := .slice A' m' c') (x9 := .int .i64 cc) (x10 := .slice D1 Bn1 Bc1) (x11 := .slice D2 Bn2 Bc2) (x12 := .slice D3 Bn3 Bc3) RZ.out
  have FO := Hid.mk (rowsC13 OZ.out hlt2 (.int .i64 ci) (.int .i64 cp) (.int .i64 ct) (.int .i64 cv) (.int .i64 cr) (.int .i64 cd) (.int .i64 i) (.int .i64 te) (.slice A' m' c') (.int .i64 cc) (.slice D1 Bn1 Bc1) (.slice D2 Bn2 Bc2) (.slice D3 Bn3 Bc3))
  have FB := Hid.mk (belowC13 BZ.out (show w.heap.size ≤ w.heap.size + 1 by omega) (.int .i64 ci) (.int .i64 cp) (.int .i64 ct) (.int .i64 cv) (.int .i64 cr) (.int .i64 cd) (.int .i64 i) (.int .i64 te) (.slice A' m' c') (.int .i64 cc) (.slice D1 Bn1 Bc1) (.slice D2 Bn2 Bc2) (.slice D3 Bn3 Bc3))
  clear KZ RZ OZ BZ
  go_wp2_with fail
  exact bodyPost_ret (v := .tuple #[.agg #[.int .i64 ci, .int .i64 cp, .int .i64 ct, .int .i64 cv, .int .i64 cr, .int .i64 cd, .int .i64 i, .int .i64 te, .slice A' m' c', .int .i64 cc, .slice D1 Bn1 Bc1, .slice D2 Bn2 Bc2, .slice D3 Bn3 Bc3], .bool true]) (by simp [results, go_sem, z0, z1, z2, z3, z4, z5, z6, z7, z8, z9, z10, z11, z12]) rfl ⟨⟨_, by rw [HE.out], by rw [HE.out]; exact ⟨_, _, _, _, HVC.out.symm, FO.out.mono HWW.out⟩⟩, FB.out⟩
end Go.Proofs.Ytjejcpieajeflaa

/-
  Contract of impl.Compact.
-/
namespace Go.Proofs.Ytjejcpieajeflaa
open Go.ChangeShapes Go.WideShapes Go.ChangeAt Go.RowKit Go.PlainAid
set_option linter.unusedVariables false

/-- What is left of a right core, and whether its log was put away. -/
def compR (x : Cor) (i : Int) : Cor := if x.base < i ∧ i ≤ x.commit then compC x i else x
def compB (x : Cor) (i : Int) : Bool := decide (x.base < i ∧ i ≤ x.commit)
theorem compR_yes {x : Cor} {i : Int} (h : x.base < i ∧ i ≤ x.commit) : compR x i = compC x i ∧ compB x i = true := ⟨if_pos h, decide_eq_true h⟩
theorem compR_no {x : Cor} {i : Int} (h : ¬ (x.base < i ∧ i ≤ x.commit)) : compR x i = x ∧ compB x i = false := ⟨if_neg h, decide_eq_false h⟩
theorem Spk.low {w : World} {bs g j p : Nat} {v : Value} {x : Cor} {M : List Mg} (h : Spk w bs p x M) (hl : g < bs) : Spk (w.setCell ⟨g, j, none⟩ v) bs p x M := by
  obtain ⟨ul, uy, un, um, us, L, h, e⟩ := h
  exact ⟨ul, uy, un, um, us, L, ⟨h.b.other (by have := h.p; omega) j v, h.r.low hl, h.m.low hl, h.a, h.p⟩, e⟩
set_option maxRecDepth 20000 in
set_option maxHeartbeats 4000000 in
theorem compactL (ci cp ct cv cr cd cb cbt : Int) (lg : List Ent) (cc : Int) (ys ns ms : List Int) (i : Int) (b0 : Bool) (w : World) (bs p gi gd : Nat) (hsp : Spk w bs p ⟨ci, cp, ct, cv, cr, cd, cb, cbt, lg, cc, ys, ns, ms⟩ []) (hok : COk ⟨ci, cp, ct, cv, cr, cd, cb, cbt, lg, cc, ys, ns, ms⟩) (hki : Blk w gi #[.int .i64 i] 3) (hkd : Blk w gd #[.bool b0] 4) (hgi : gi < bs) (hgd : gd < bs) (hbs : bs ≤ w.heap.size) :
    Calls Try.prog 62 (#[.pointer (some ⟨p, 0, none⟩)] ++ #[.pointer (some ⟨gi, 0, none⟩), .pointer (some ⟨gd, 0, none⟩)]) w fun e w' => e = .returned (.tuple #[]) ∧ Spk w' bs p (compR ⟨ci, cp, ct, cv, cr, cd, cb, cbt, lg, cc, ys, ns, ms⟩ i) [] ∧ BelowX gd bs w w' ∧ w'.heap[gd]? = some (.cells #[.bool (compB ⟨ci, cp, ct, cv, cr, cd, cb, cbt, lg, cc, ys, ns, ms⟩ i)] 4 (0, 0)) := by
  obtain ⟨w0, w1, w2, w3, w4, w5, w6⟩ := walOk_in hok.1.w
  have hcl := hok.1.c.2
  unfold cLast at hcl
  simp only [corW] at w2 w3 w4 w5 hcl
  have cC := compactI ci cp ct cv cr cd cb cbt lg cc ys ns ms [] i w bs p hsp (by omega) (by omega) (by omega) (by omega) hbs
  have KI := Hid.mk hki
  have KD := Hid.mk hkd
  have HGI : Hid (gi < bs) := hgi
  have HGD : Hid (gd < bs) := hgd
  have k0 := hki.cell 0 _ rfl
  clear hsp hok hki hkd hgi hgd w0 w1 w2 w3 w4 w5 w6 hcl
  show Calls Try.prog 62 #[.pointer (some ⟨p, 0, none⟩), .pointer (some ⟨gi, 0, none⟩), .pointer (some ⟨gd, 0, none⟩)] w _
  go_enter Try.func62, Try.ntmps62
  go_wp2_with fail
  refine cC.mono ?_
  rintro e W ⟨⟨ok, rfl, HX⟩, hb⟩
  have B1 : Hid (Below bs w W) := hb
  have K1 : Hid (Blk W gd #[.bool b0] 4) := KD.out.on hb HGD.out
  have HXX : Hid (ok = (compB ⟨ci, cp, ct, cv, cr, cd, cb, cbt, lg, cc, ys, ns, ms⟩ i) ∧ Spk W bs p (compR ⟨ci, cp, ct, cv, cr, cd, cb, cbt, lg, cc, ys, ns, ms⟩ i) []) := by
    rcases HX.out with ⟨h1, h2, rfl, h3⟩ | ⟨h1, rfl, h3⟩
    · have q := compR_yes (x := ⟨ci, cp, ct, cv, cr, cd, cb, cbt, lg, cc, ys, ns, ms⟩) (i := i) ⟨h1, h2⟩
      rw [q.1, q.2]
      exact ⟨rfl, h3⟩
    · have q := compR_no (x := ⟨ci, cp, ct, cv, cr, cd, cb, cbt, lg, cc, ys, ns, ms⟩) (i := i) h1
      rw [q.1, q.2]
      exact ⟨rfl, h3⟩
  have c0 := K1.out.cell 0 _ rfl
  have f0 := K1.out.free 0
  have FS := Hid.mk (HXX.out.2.low (j := 0) (v := .bool ok) HGD.out)
  have FK := Hid.mk (K1.out.set 0 (.bool ok))
  have FB : Hid (BelowX gd bs w (W.setCell ⟨gd, 0, none⟩ (.bool ok))) := (BelowX.of B1.out).trans ⟨rfl, rfl, rfl, by simp, fun k hk hn => Below.heap_setCell _ _ _ _ hn⟩
  clear hb cC k0 HX
  go_wp2_with fail
  exact bodyPost_end (v := .tuple #[]) (by simp [results, go_sem]) rfl ⟨rfl, FS.out, FB.out, by rw [← HXX.out.1]; exact FK.out⟩
set_option maxRecDepth 20000 in
set_option maxHeartbeats 16000000 in
theorem implCompact (ci cp ct cv cr cd cb cbt : Int) (lg : List Ent) (cc : Int) (ys ns ms : List Int) (u0 u1 u2 u3 : Value) (i : Int) (w : World) (base0 : Nat) (hr : CoRows w base0 ⟨ci, cp, ct, cv, cr, cd, cb, cbt, lg, cc, ys, ns, ms⟩ u0 u1 u2 u3) (hs : ShortC ⟨ci, cp, ct, cv, cr, cd, cb, cbt, lg, cc, ys, ns, ms⟩) :
    Calls Try.prog 27 #[.agg #[.int .i64 ci, .int .i64 cp, .int .i64 ct, .int .i64 cv, .int .i64 cr, .int .i64 cd, .int .i64 cb, .int .i64 cbt, u0, .int .i64 cc, u1, u2, u3], .int .i64 i] w fun e w' => (∃ u, e = .returned (.tuple #[u, .bool (compX ⟨ci, cp, ct, cv, cr, cd, cb, cbt, lg, cc, ys, ns, ms⟩ i).2]) ∧ CorO w' w.heap.size u (compX ⟨ci, cp, ct, cv, cr, cd, cb, cbt, lg, cc, ys, ns, ms⟩ i).1) ∧ Below w.heap.size w w' := by
  have HR : Hid (CoRows w base0 ⟨ci, cp, ct, cv, cr, cd, cb, cbt, lg, cc, ys, ns, ms⟩ u0 u1 u2 u3) := hr
  have HS : Hid (ShortC ⟨ci, cp, ct, cv, cr, cd, cb, cbt, lg, cc, ys, ns, ms⟩) := hs
  obtain ⟨A0, Ac0, A1, Ac1, A2, Ac2, A3, Ac3, rfl, rfl, rfl, rfl⟩ := hr.shape
  simp only at HR ⊢
  generalize lg.length = An0 at HR ⊢
  generalize ys.length = An1 at HR ⊢
  generalize ns.length = An2 at HR ⊢
  generalize ms.length = An3 at HR ⊢
  clear hr hs
  have HX0 : Hid (corOk ⟨ci, cp, ct, cv, cr, cd, cb, cbt, lg, cc, ys, ns, ms⟩ = false → compX ⟨ci, cp, ct, cv, cr, cd, cb, cbt, lg, cc, ys, ns, ms⟩ i = (⟨0, 0, 0, 0, 0, 0, 0, 0, [], 0, [], [], []⟩, false)) := fun h => by unfold compX; rw [if_neg (by rw [h]; exact Bool.false_ne_true)]
  have HX1 : Hid (corOk ⟨ci, cp, ct, cv, cr, cd, cb, cbt, lg, cc, ys, ns, ms⟩ = true → compX ⟨ci, cp, ct, cv, cr, cd, cb, cbt, lg, cc, ys, ns, ms⟩ i = ((compR ⟨ci, cp, ct, cv, cr, cd, cb, cbt, lg, cc, ys, ns, ms⟩ i), (compB ⟨ci, cp, ct, cv, cr, cd, cb, cbt, lg, cc, ys, ns, ms⟩ i))) := fun h => by
    unfold compX
    rw [if_pos h]
    by_cases h2 : cb < i ∧ i ≤ cc
    · have q := compR_yes (x := ⟨ci, cp, ct, cv, cr, cd, cb, cbt, lg, cc, ys, ns, ms⟩) (i := i) h2
      rw [q.1, q.2]
      exact if_pos h2
    · have q := compR_no (x := ⟨ci, cp, ct, cv, cr, cd, cb, cbt, lg, cc, ys, ns, ms⟩) (i := i) h2
      rw [q.1, q.2]
      exact if_neg h2
  obtain ⟨W0, hW0⟩ : ∃ W0, W0 = (((w.alloc (.cells #[.int .i64 ci, .int .i64 cp, .int .i64 ct, .int .i64 cv, .int .i64 cr, .int .i64 cd, .int .i64 cb, .int .i64 cbt, .slice A0 An0 Ac0, .int .i64 cc, .slice A1 An1 Ac1, .slice A2 An2 Ac2, .slice A3 An3 Ac3] 30)).alloc (.cells #[.int .i64 i] 3)).alloc (.cells #[.int .i64 0, .int .i64 0, .int .i64 0, .int .i64 0, .int .i64 0, .int .i64 0, .int .i64 0, .int .i64 0, .slice none 0 0, .int .i64 0, .slice none 0 0, .slice none 0 0, .slice none 0 0] 30)).alloc (.cells #[.bool false] 4) := ⟨_, rfl⟩
  have B0 : Hid (Below w.heap.size w W0) := by unfold Hid; rw [hW0]; exact ((((Below.refl _ w).alloc (Nat.le_refl _) _).alloc (by simp) _).alloc (by simp; omega) _).alloc (by simp; omega) _
  have K0 : Hid (Blk W0 w.heap.size #[.int .i64 ci, .int .i64 cp, .int .i64 ct, .int .i64 cv, .int .i64 cr, .int .i64 cd, .int .i64 cb, .int .i64 cbt, .slice A0 An0 Ac0, .int .i64 cc, .slice A1 An1 Ac1, .slice A2 An2 Ac2, .slice A3 An3 Ac3] 30) := by unfold Hid; rw [hW0]; exact (((Blk.new w _ _).alloc _).alloc _).alloc _
  have I0 : Hid (Blk W0 (w.heap.size + 1) #[.int .i64 i] 3) := by unfold Hid; rw [hW0]; have := ((Blk.new (w.alloc (.cells #[.int .i64 ci, .int .i64 cp, .int .i64 ct, .int .i64 cv, .int .i64 cr, .int .i64 cd, .int .i64 cb, .int .i64 cbt, .slice A0 An0 Ac0, .int .i64 cc, .slice A1 An1 Ac1, .slice A2 An2 Ac2, .slice A3 An3 Ac3] 30)) #[.int .i64 i] 3).alloc (.cells #[.int .i64 0, .int .i64 0, .int .i64 0, .int .i64 0, .int .i64 0, .int .i64 0, .int .i64 0, .int .i64 0, .slice none 0 0, .int .i64 0, .slice none 0 0, .slice none 0 0, .slice none 0 0] 30)).alloc (.cells #[.bool false] 4); simp only [World.size_alloc] at this; exact this
  have R0 : Hid (Blk W0 (w.heap.size + 1 + 1) #[.int .i64 0, .int .i64 0, .int .i64 0, .int .i64 0, .int .i64 0, .int .i64 0, .int .i64 0, .int .i64 0, .slice none 0 0, .int .i64 0, .slice none 0 0, .slice none 0 0, .slice none 0 0] 30) := by unfold Hid; rw [hW0]; have := (Blk.new ((w.alloc (.cells #[.int .i64 ci, .int .i64 cp, .int .i64 ct, .int .i64 cv, .int .i64 cr, .int .i64 cd, .int .i64 cb, .int .i64 cbt, .slice A0 An0 Ac0, .int .i64 cc, .slice A1 An1 Ac1, .slice A2 An2 Ac2, .slice A3 An3 Ac3] 30)).alloc (.cells #[.int .i64 i] 3)) #[.int .i64 0, .int .i64 0, .int .i64 0, .int .i64 0, .int .i64 0, .int .i64 0, .int .i64 0, .int .i64 0, .slice none 0 0, .int .i64 0, .slice none 0 0, .slice none 0 0, .slice none 0 0] 30).alloc (.cells #[.bool false] 4); simp only [World.size_alloc] at this; exact this
  have D0 : Hid (Blk W0 (w.heap.size + 1 + 1 + 1) #[.bool false] 4) := by unfold Hid; rw [hW0]; have := Blk.new (((w.alloc (.cells #[.int .i64 ci, .int .i64 cp, .int .i64 ct, .int .i64 cv, .int .i64 cr, .int .i64 cd, .int .i64 cb, .int .i64 cbt, .slice A0 An0 Ac0, .int .i64 cc, .slice A1 An1 Ac1, .slice A2 An2 Ac2, .slice A3 An3 Ac3] 30)).alloc (.cells #[.int .i64 i] 3)).alloc (.cells #[.int .i64 0, .int .i64 0, .int .i64 0, .int .i64 0, .int .i64 0, .int .i64 0, .int .i64 0, .int .i64 0, .slice none 0 0, .int .i64 0, .slice none 0 0, .slice none 0 0, .slice none 0 0] 30)) #[.bool false] 4; simp only [World.size_alloc] at this; exact this
  have HZ0 : Hid (W0.heap.size = w.heap.size + 4) := by unfold Hid; rw [hW0]; simp
  have cA := coreAfterV ci cp ct cv cr cd cb cbt lg cc ys ns ms (.slice A0 An0 Ac0) (.slice A1 An1 Ac1) (.slice A2 An2 Ac2) (.slice A3 An3 Ac3) W0 base0 (HR.out.on B0.out) HS.out 62 #[.pointer (some ⟨w.heap.size + 1, 0, none⟩), .pointer (some ⟨w.heap.size + 1 + 1 + 1, 0, none⟩)] (compR ⟨ci, cp, ct, cv, cr, cd, cb, cbt, lg, cc, ys, ns, ms⟩ i) [] (w.heap.size + 1 + 1 + 1) (fun ob => ob = some (.cells #[.bool (compB ⟨ci, cp, ct, cv, cr, cd, cb, cbt, lg, cc, ys, ns, ms⟩ i)] 4 (0, 0))) (by rw [HZ0.out]; omega) (enters_of Try.func62 (by kernel_rfl) rfl) (fun w1 p hok hb1 hz1 hsp => compactL ci cp ct cv cr cd cb cbt lg cc ys ns ms i false w1 (W0.heap.size + 2) p (w.heap.size + 1) (w.heap.size + 1 + 1 + 1) hsp hok (I0.out.on hb1 I0.out.lt) (D0.out.on hb1 D0.out.lt) (by rw [HZ0.out]; omega) (by rw [HZ0.out]; omega) hz1)
  have y0 := K0.out.cell 0 _ rfl
  have y1 := K0.out.cell 1 _ rfl
  have y2 := K0.out.cell 2 _ rfl
  have y3 := K0.out.cell 3 _ rfl
  have y4 := K0.out.cell 4 _ rfl
  have y5 := K0.out.cell 5 _ rfl
  have y6 := K0.out.cell 6 _ rfl
  have y7 := K0.out.cell 7 _ rfl
  have y8 := K0.out.cell 8 _ rfl
  have y9 := K0.out.cell 9 _ rfl
  have y10 := K0.out.cell 10 _ rfl
  have y11 := K0.out.cell 11 _ rfl
  have y12 := K0.out.cell 12 _ rfl
  rw [hW0] at y0 y1 y2 y3 y4 y5 y6 y7 y8 y9 y10 y11 y12
  go_enter Try.func27, Try.ntmps27
  go_wp2_with fail
  rw [← hW0]
  clear hW0 y0 y1 y2 y3 y4 y5 y6 y7 y8 y9 y10 y11 y12
  refine cA.mono ?_
  rintro e W1 HQ
  have HQ1 : Hid (∃ (u us : Value) (R : Cor) (ok : Bool), e = .returned (.tuple #[u, us]) ∧ CorO W1 W0.heap.size u R ∧ compX ⟨ci, cp, ct, cv, cr, cd, cb, cbt, lg, cc, ys, ns, ms⟩ i = (R, ok) ∧ Below w.heap.size w W1 ∧ Blk W1 (w.heap.size + 1 + 1) #[.int .i64 0, .int .i64 0, .int .i64 0, .int .i64 0, .int .i64 0, .int .i64 0, .int .i64 0, .int .i64 0, .slice none 0 0, .int .i64 0, .slice none 0 0, .slice none 0 0, .slice none 0 0] 30 ∧ Blk W1 (w.heap.size + 1 + 1 + 1) #[.bool ok] 4 ∧ W0.heap.size ≤ W1.heap.size) := by
    have hz := HZ0.out
    rcases HQ with ⟨h1, ⟨u, us, L, h2, h3, h4, h5, _⟩, h6, h7⟩ | ⟨h1, h2, h6⟩
    · refine ⟨u, us, _, _, h2, h3, HX1.out h1, B0.out.trans ((h6.mono (show w.heap.size ≤ W0.heap.size by omega)).below (by omega)), h6.blk R0.out (by omega) (by omega), h7, h6.size⟩
    · refine ⟨_, _, _, _, h2, ?_, HX0.out h1, B0.out.trans (h6.mono (by omega)), R0.out.on h6 (by omega), D0.out.on h6 (by omega), h6.size⟩
      exact ⟨_, _, _, _, rfl, ⟨.inl ⟨rfl, none, 0, rfl, fun _ => rfl⟩, Nums.nil _ _, Nums.nil _ _, Nums.nil _ _, fun g h => (by cases h), fun g h => (by cases h), fun g h => (by cases h)⟩⟩
  clear HQ cA HX0 HX1 K0 I0 R0 D0 B0
  obtain ⟨u, us, R, ok, rfl, hO, hE, hb1, hR1, hD1, hz1⟩ := HQ1.out
  clear HQ1
  obtain ⟨G0, Gn0, Gc0, G1, Gn1, Gc1, G2, Gn2, Gc2, G3, Gn3, Gc3, rfl, hO'⟩ := hO.sh
  obtain ⟨e0, e1, e2, e3, e4, e5, e6, e7, el, e9, ey, en, em⟩ := R
  unfold vCo
  simp only
  have HE : Hid (compX ⟨ci, cp, ct, cv, cr, cd, cb, cbt, lg, cc, ys, ns, ms⟩ i = (⟨e0, e1, e2, e3, e4, e5, e6, e7, el, e9, ey, en, em⟩, ok)) := hE
  have O1 : Hid (CoRows W1 (w.heap.size + 4) ⟨e0, e1, e2, e3, e4, e5, e6, e7, el, e9, ey, en, em⟩ (.slice G0 Gn0 Gc0) (.slice G1 Gn1 Gc1) (.slice G2 Gn2 Gc2) (.slice G3 Gn3 Gc3)) := by rw [HZ0.out] at hO'; exact hO'
  have B1 : Hid (Below w.heap.size w W1) := hb1
  have R1 : Hid (Blk W1 (w.heap.size + 1 + 1) #[.int .i64 0, .int .i64 0, .int .i64 0, .int .i64 0, .int .i64 0, .int .i64 0, .int .i64 0, .int .i64 0, .slice none 0 0, .int .i64 0, .slice none 0 0, .slice none 0 0, .slice none 0 0] 30) := hR1
  have D1 : Hid (Blk W1 (w.heap.size + 1 + 1 + 1) #[.bool ok] 4) := hD1
  have HZ1 : Hid (w.heap.size + 4 ≤ W1.heap.size) := by unfold Hid; rw [← HZ0.out]; exact hz1
  clear hO hO' hE hb1 hR1 hD1 hz1 HZ0
  obtain ⟨W2, hW2⟩ : ∃ W2, W2 = W1.alloc (.cells #[.int .i64 e0, .int .i64 e1, .int .i64 e2, .int .i64 e3, .int .i64 e4, .int .i64 e5, .int .i64 e6, .int .i64 e7, .slice G0 Gn0 Gc0, .int .i64 e9, .slice G1 Gn1 Gc1, .slice G2 Gn2 Gc2, .slice G3 Gn3 Gc3] 30) := ⟨_, rfl⟩
  have hb2 : Below W1.heap.size W1 W2 := by rw [hW2]; exact (Below.refl _ _).alloc (Nat.le_refl _) _
  have P2 : Hid (Blk W2 W1.heap.size #[.int .i64 e0, .int .i64 e1, .int .i64 e2, .int .i64 e3, .int .i64 e4, .int .i64 e5, .int .i64 e6, .int .i64 e7, .slice G0 Gn0 Gc0, .int .i64 e9, .slice G1 Gn1 Gc1, .slice G2 Gn2 Gc2, .slice G3 Gn3 Gc3] 30) := by unfold Hid; rw [hW2]; exact Blk.new W1 _ _
  have O2 := Hid.mk (O1.out.on hb2)
  have B2 : Hid (Below w.heap.size w W2) := B1.out.trans (hb2.mono B1.out.size)
  have R2 := Hid.mk (R1.out.on hb2 R1.out.lt)
  have D2 := Hid.mk (D1.out.on hb2 D1.out.lt)
  clear hb2 O1 B1 R1 D1
  go_wp2_with fail
  rw [← hW2]
  clear hW2
  have HPX : Hid (w.heap.size + 4 ≤ W1.heap.size) := HZ1.out
  generalize W1.heap.size = px at *
  refine wp_region_until (fun w' => w'.cell? ⟨px, 0, none⟩ = some (.int .i64 e0) ∧ w'.cell? ⟨px, 1, none⟩ = some (.int .i64 e1) ∧ w'.cell? ⟨px, 2, none⟩ = some (.int .i64 e2) ∧ w'.cell? ⟨px, 3, none⟩ = some (.int .i64 e3) ∧ w'.cell? ⟨px, 4, none⟩ = some (.int .i64 e4) ∧ w'.cell? ⟨px, 5, none⟩ = some (.int .i64 e5) ∧ w'.cell? ⟨px, 6, none⟩ = some (.int .i64 e6) ∧ w'.cell? ⟨px, 7, none⟩ = some (.int .i64 e7) ∧ w'.cell? ⟨px, 8, none⟩ = some (.slice G0 Gn0 Gc0) ∧ w'.cell? ⟨px, 9, none⟩ = some (.int .i64 e9) ∧ w'.cell? ⟨px, 10, none⟩ = some (.slice G1 Gn1 Gc1) ∧ w'.cell? ⟨px, 11, none⟩ = some (.slice G2 Gn2 Gc2) ∧ w'.cell? ⟨px, 12, none⟩ = some (.slice G3 Gn3 Gc3) ∧ w'.cell? ⟨w.heap.size + 1 + 1 + 1, 0, none⟩ = some (.bool ok)) (fun _ => false) 4 (by rfl) (by kernel_rfl) ?_
  have V2 : Hid (Below W2.heap.size W2 W2.drew) := (Below.refl _ _).drew
  generalize W2.drew = Y2 at *
  have PY := Hid.mk (P2.out.on V2.out P2.out.lt)
  have DY := Hid.mk (D2.out.on V2.out D2.out.lt)
  have RY := Hid.mk (R2.out.on V2.out R2.out.lt)
  have SS0 := Hid.mk (show (fun w' => w'.cell? ⟨px, 0, none⟩ = some (.int .i64 e0) ∧ w'.cell? ⟨px, 1, none⟩ = some (.int .i64 e1) ∧ w'.cell? ⟨px, 2, none⟩ = some (.int .i64 e2) ∧ w'.cell? ⟨px, 3, none⟩ = some (.int .i64 e3) ∧ w'.cell? ⟨px, 4, none⟩ = some (.int .i64 e4) ∧ w'.cell? ⟨px, 5, none⟩ = some (.int .i64 e5) ∧ w'.cell? ⟨px, 6, none⟩ = some (.int .i64 e6) ∧ w'.cell? ⟨px, 7, none⟩ = some (.int .i64 e7) ∧ w'.cell? ⟨px, 8, none⟩ = some (.slice G0 Gn0 Gc0) ∧ w'.cell? ⟨px, 9, none⟩ = some (.int .i64 e9) ∧ w'.cell? ⟨px, 10, none⟩ = some (.slice G1 Gn1 Gc1) ∧ w'.cell? ⟨px, 11, none⟩ = some (.slice G2 Gn2 Gc2) ∧ w'.cell? ⟨px, 12, none⟩ = some (.slice G3 Gn3 Gc3) ∧ w'.cell? ⟨w.heap.size + 1 + 1 + 1, 0, none⟩ = some (.bool ok)) Y2 from ⟨PY.out.cell 0 _ rfl, PY.out.cell 1 _ rfl, PY.out.cell 2 _ rfl, PY.out.cell 3 _ rfl, PY.out.cell 4 _ rfl, PY.out.cell 5 _ rfl, PY.out.cell 6 _ rfl, PY.out.cell 7 _ rfl, PY.out.cell 8 _ rfl, PY.out.cell 9 _ rfl, PY.out.cell 10 _ rfl, PY.out.cell 11 _ rfl, PY.out.cell 12 _ rfl, DY.out.cell 0 _ rfl⟩)
  refine tF 0 SS0.out ?_
  refine tF 1 SS0.out ?_
  obtain ⟨⟨r0, g0⟩, ⟨r1, g1⟩, ⟨r2, g2⟩, ⟨r3, g3⟩, ⟨r4, g4⟩, ⟨r5, g5⟩, ⟨r6, g6⟩, ⟨r7, g7⟩, ⟨r8, g8⟩, ⟨r9, g9⟩, ⟨r10, g10⟩, ⟨r11, g11⟩, ⟨r12, g12⟩, z0, z1, z2, z3, z4, z5, z6, z7, z8, z9, z10, z11, z12⟩ := resC13 (x0 := .int .i64 e0) (x1 := .int .i64 e1) (x2 := .int .i64 e2) (x3 := .int .i64 e3) (x4 := .int .i64 e4) (x5 := .int .i64 e5) (x6 := .int .i64 e6) (x7 := .int .i64 e7) (x8 := .slice G0 Gn0 Gc0) (x9 := .int .i64 e9) (x10 := .slice G1 Gn1 Gc1) (x11 := .slice G2 Gn2 Gc2) (x12 := .slice G3 Gn3 Gc3) RY.out
  have PYF := Hid.mk (otherC13 PY.out (show px ≠ w.heap.size + 1 + 1 by have := HPX.out; omega) (.int .i64 e0) (.int .i64 e1) (.int .i64 e2) (.int .i64 e3) (.int .i64 e4) (.int .i64 e5) (.int .i64 e6) (.int .i64 e7) (.slice G0 Gn0 Gc0) (.int .i64 e9) (.slice G1 Gn1 Gc1) (.slice G2 Gn2 Gc2) (.slice G3 Gn3 Gc3))
  have DYF := Hid.mk (otherC13 DY.out (show w.heap.size + 1 + 1 + 1 ≠ w.heap.size + 1 + 1 by omega) (.int .i64 e0) (.int .i64 e1) (.int .i64 e2) (.int .i64 e3) (.int .i64 e4) (.int .i64 e5) (.int .i64 e6) (.int .i64 e7) (.slice G0 Gn0 Gc0) (.int .i64 e9) (.slice G1 Gn1 Gc1) (.slice G2 Gn2 Gc2) (.slice G3 Gn3 Gc3))
  refine until_one 2 (by rfl) (by kernel_rfl) (fun K hK => ?_)
  go_simp
  refine hK.out _ _ (fun _ _ => ⟨PYF.out.cell 0 _ rfl, PYF.out.cell 1 _ rfl, PYF.out.cell 2 _ rfl, PYF.out.cell 3 _ rfl, PYF.out.cell 4 _ rfl, PYF.out.cell 5 _ rfl, PYF.out.cell 6 _ rfl, PYF.out.cell 7 _ rfl, PYF.out.cell 8 _ rfl, PYF.out.cell 9 _ rfl, PYF.out.cell 10 _ rfl, PYF.out.cell 11 _ rfl, PYF.out.cell 12 _ rfl, DYF.out.cell 0 _ rfl⟩) ?_
  clear hK K PYF DYF r0 g0 r1 g1 r2 g2 r3 g3 r4 g4 r5 g5 r6 g6 r7 g7 r8 g8 r9 g9 r10 g10 r11 g11 r12 g12
  try simp only [Act.put, List.setIfInBounds_toArray, List.set_cons_zero, List.set_cons_succ]
  refine pF 3 ?_
  refine until_done (by kernel_rfl) ?_ _
  have FO := Hid.mk (rowsC13 (O2.out.on V2.out) (show w.heap.size + 1 + 1 < w.heap.size + 4 by omega) (.int .i64 e0) (.int .i64 e1) (.int .i64 e2) (.int .i64 e3) (.int .i64 e4) (.int .i64 e5) (.int .i64 e6) (.int .i64 e7) (.slice G0 Gn0 Gc0) (.int .i64 e9) (.slice G1 Gn1 Gc1) (.slice G2 Gn2 Gc2) (.slice G3 Gn3 Gc3))
  have FB := Hid.mk (belowC13 (B2.out.trans (V2.out.mono B2.out.size)) (show w.heap.size ≤ w.heap.size + 1 + 1 by omega) (.int .i64 e0) (.int .i64 e1) (.int .i64 e2) (.int .i64 e3) (.int .i64 e4) (.int .i64 e5) (.int .i64 e6) (.int .i64 e7) (.slice G0 Gn0 Gc0) (.int .i64 e9) (.slice G1 Gn1 Gc1) (.slice G2 Gn2 Gc2) (.slice G3 Gn3 Gc3))
  have HWW : Hid (w.heap.size ≤ w.heap.size + 4) := by unfold Hid; omega
  clear P2 R2 D2 O2 B2 PY DY RY SS0
  try go_wp2_with fail
  exact bodyPost_ret (v := .tuple #[.agg #[.int .i64 e0, .int .i64 e1, .int .i64 e2, .int .i64 e3, .int .i64 e4, .int .i64 e5, .int .i64 e6, .int .i64 e7, .slice G0 Gn0 Gc0, .int .i64 e9, .slice G1 Gn1 Gc1, .slice G2 Gn2 Gc2, .slice G3 Gn3 Gc3], .bool ok]) (by simp [results, go_sem, z0, z1, z2, z3, z4, z5, z6, z7, z8, z9, z10, z11, z12]) rfl ⟨⟨_, by rw [HE.out], by rw [HE.out]; exact ⟨_, _, _, _, rfl, FO.out.mono HWW.out⟩⟩, FB.out⟩
end Go.Proofs.Ytjejcpieajeflaa
