/- FrCat BtVar WbMath CurAid Cursor CurNew CurOnce NmAid -/
import Derived.Test.YtgillglkmnocaaaDoorQw0
import Derived.Test.YtgillglkmnocaaaDoorQw5
import Derived.OneCell
import Derived.WalkSmall
import Derived.Test.YtgillglkmnocaaaDoorRows
import Derived.WalkKit
import Derived.ProofKit
import Derived.OpenShut
import Derived.Below
import Derived.Handy
import Derived.WalkLawsBesides
import Derived.Outline
import Derived.BigQuiet
import Derived.Deep.QuietTactic
import Derived.Laws.OwnMore
import Derived.OwnWalk
import Derived.Lib.OwnKind
import Derived.Shelf.Strings.BuilderK
namespace Go.Proofs.YtgillglkmnocaaaDoor
open Go.RowKit Go.PlainAid
def cat : List ByteArray → ByteArray
 | [] => ByteArray.empty
 | b :: r => frameOf b ++ cat r
theorem cat_append (l m : List ByteArray) : cat (l ++ m) = cat l ++ cat m := by
 induction l with
 | nil => rw [List.nil_append, cat, ByteArray.empty_append]
 | cons b r ih => rw [List.cons_append, cat, cat, ih, ByteArray.append_assoc]
theorem cat_snoc (l : List ByteArray) (b : ByteArray) : cat (l ++ [b]) = cat l ++ frameOf b := by
 rw [cat_append, cat, cat, ByteArray.append_empty]
def endAt (l : List ByteArray) (j : Nat) : Nat := (cat (l.take j)).size
theorem endAt_zero (l : List ByteArray) : endAt l 0 = 0 := by rw [endAt, List.take_zero]; rfl
theorem endAt_all (l : List ByteArray) : endAt l l.length = (cat l).size := by rw [endAt, List.take_length]
theorem take_succ_get (l : List ByteArray) (j : Nat) (h : j < l.length) : l.take (j + 1) = l.take j ++ [l[j]] := by
 rw [List.take_add_one, List.getElem?_eq_getElem h]
 rfl
theorem endAt_succ (l : List ByteArray) (j : Nat) (h : j < l.length) : endAt l (j + 1) = endAt l j + (8 + (l[j]).size) := by
 rw [endAt, take_succ_get l j h, cat_snoc, ByteArray.size_append, frameOf_size]
 rfl
theorem cat_split (l : List ByteArray) (j : Nat) (h : j < l.length) : cat l = cat (l.take j) ++ (frameOf l[j] ++ cat (l.drop (j + 1))) := by
 conv => lhs; rw [← List.take_append_drop j l, List.drop_eq_getElem_cons h, cat_append, cat]
theorem endAt_mono (l : List ByteArray) (i j : Nat) (h : i ≤ j) (hj : j ≤ l.length) : endAt l i ≤ endAt l j := by
 induction j with
 | zero => rw [Nat.le_zero.1 h]; exact Nat.le_refl _
 | succ j ih =>
  rcases Nat.lt_or_ge i (j + 1) with h' | h'
  ·have := ih (by omega) (by omega)
   rw [endAt_succ l j (by omega)]
   omega
  ·rw [Nat.le_antisymm h h']
   exact Nat.le_refl _
theorem rest_cut (l : List ByteArray) (j k : Nat) (h : j < l.length) (hk : k ≤ (cat l).size) : rest ((cat l).extract 0 k) (endAt l j) = (frameOf l[j] ++ cat (l.drop (j + 1))).extract 0 (k - endAt l j) := by
 have hz : ((cat l).extract 0 k).size = k := by rw [ByteArray.size_extract]; omega
 rw [rest, hz, ByteArray.extract_extract, cat_split l j h, ByteArray.extract_append]
 have e : (cat (l.take j)).size = endAt l j := rfl
 rw [ByteArray.extract_eq_empty_iff.2 (by omega), ByteArray.empty_append, e]
 congr 1 <;> omega
theorem extract_full (a : ByteArray) (m : Nat) (h : a.size ≤ m) : a.extract 0 m = a := by
 apply ByteArray.ext
 apply Array.toList_inj.1
 rw [Lib.extract_data, List.drop_zero, List.take_of_length_le]
 have : a.data.toList.length = a.size := by rw [Lib.size_eq]
 omega
theorem rest_whole (l : List ByteArray) (j k : Nat) (h : j < l.length) (hk : k ≤ (cat l).size) (he : endAt l (j + 1) ≤ k) : ∃ t, rest ((cat l).extract 0 k) (endAt l j) = frameOf l[j] ++ t := by
 rw [endAt_succ l j h] at he
 refine ⟨(cat (l.drop (j + 1))).extract 0 (k - endAt l j - (frameOf l[j]).size), ?_⟩
 rw [rest_cut l j k h hk, ByteArray.extract_append]
 have e : (frameOf l[j]).extract 0 (k - endAt l j) = frameOf l[j] := by
  have hs := frameOf_size l[j]
  exact extract_full _ _ (by omega)
 rw [e]
 congr 2
 omega
theorem rest_part (l : List ByteArray) (j k : Nat) (h : j < l.length) (hk : k ≤ (cat l).size) (he : k < endAt l (j + 1)) : rest ((cat l).extract 0 k) (endAt l j) = (frameOf l[j]).extract 0 (k - endAt l j) := by
 rw [endAt_succ l j h] at he
 have hs := frameOf_size l[j]
 rw [rest_cut l j k h hk, ByteArray.extract_append]
 have e : (cat (l.drop (j + 1))).extract (0 - (frameOf l[j]).size) (k - endAt l j - (frameOf l[j]).size) = ByteArray.empty := ByteArray.extract_eq_empty_iff.2 (by omega)
 rw [e, ByteArray.append_empty]
theorem cut_runs (l : List ByteArray) (k : Nat) (hk : k ≤ (cat l).size) (hl : ∀ b ∈ l, 1 ≤ b.size ∧ b.size ≤ 2000) (j : Nat) (hj : j ≤ l.length) (he : endAt l j ≤ k) :
  Runs ((cat l).extract 0 k) j ∧ pos ((cat l).extract 0 k) j = endAt l j ∧ bods ((cat l).extract 0 k) j = l.take j := by
 induction j with
 | zero => exact ⟨Runs.zero _, (endAt_zero l).symm, rfl⟩
 | succ j ih =>
  have hlt : j < l.length := by omega
  have hm := endAt_mono l j (j + 1) (by omega) hj
  obtain ⟨h1, h2, h3⟩ := ih (by omega) (by omega)
  obtain ⟨t, ht⟩ := rest_whole l j k hlt hk he
  have hb := hl l[j] (List.getElem_mem hlt)
  refine ⟨h1.succ ?_, ?_, ?_⟩
  ·rw [h2, ht]
   exact code_frameOf _ _ hb.1 hb.2
  ·rw [pos_succ, h2, ht, rdv_frameOf _ _ hb.2, endAt_succ l j hlt]
  ·rw [bods_succ, h3, h2, ht, bodyOf_frameOf _ _ hb.2, take_succ_get l j hlt]
theorem cut_last (l : List ByteArray) (k n : Nat) : ∃ J, J ≤ n ∧ endAt l J ≤ k ∧ (J = n ∨ k < endAt l (J + 1)) := by
 induction n with
 | zero => exact ⟨0, Nat.le_refl _, by rw [endAt_zero]; omega, .inl rfl⟩
 | succ n ih =>
  obtain ⟨J, h1, h2, h3⟩ := ih
  rcases h3 with rfl | h3
  ·rcases Nat.lt_or_ge k (endAt l (J + 1)) with h | h
   ·exact ⟨J, by omega, h2, .inr h⟩
   ·exact ⟨J + 1, Nat.le_refl _, h, .inl rfl⟩
  ·exact ⟨J, by omega, h2, .inr h3⟩
theorem cut_ends (l : List ByteArray) (k K : Nat) (hk : k ≤ (cat l).size) (hl : ∀ b ∈ l, 1 ≤ b.size ∧ b.size ≤ 2000) (hK : Ends ((cat l).extract 0 k) K) :
  K ≤ l.length ∧ pos ((cat l).extract 0 k) K = endAt l K ∧ bods ((cat l).extract 0 k) K = l.take K ∧ endAt l K ≤ k ∧ (K = l.length ∨ k < endAt l (K + 1)) := by
 obtain ⟨J, h1, h2, h3⟩ := cut_last l k l.length
 obtain ⟨r1, r2, r3⟩ := cut_runs l k hk hl J h1 h2
 have hz : ((cat l).extract 0 k).size = k := by rw [ByteArray.size_extract]; omega
 have hE : Ends ((cat l).extract 0 k) J := by
  refine ⟨r1, ?_⟩
  rw [r2]
  rcases Nat.lt_or_ge J l.length with hlt | hge
  ·rcases h3 with rfl | h3
   ·omega
   ·rw [rest_part l J k hlt hk h3]
    have hb := hl l[J] (List.getElem_mem hlt)
    refine code_cut _ _ hb.2 ?_
    rw [endAt_succ l J hlt] at h3
    omega
  ·have e : J = l.length := by omega
   subst e
   rw [endAt_all] at h2 ⊢
   rw [code, if_pos (by rw [rest_size, hz]; omega)]
   omega
 obtain rfl := hK.one hE
 exact ⟨h1, r2, r3, h2, h3⟩
end Go.Proofs.YtgillglkmnocaaaDoor
namespace Go.Proofs.YtgillglkmnocaaaDoor
open Go.RowKit Go.PlainAid
theorem bn_txt_append (l m : List UInt8) (j : Nat) (h : j < l.length) : bn (txt (l ++ m)) j = bn (txt l) j := by
 rw [bn_txt _ _ (by simp; omega), bn_txt _ _ h, List.getElem_append_left h]
theorem bn_cat (l m : List UInt8) (j : Nat) (h : j < l.length) : bn (txt (l ++ m)) j = (l[j]).toNat := by rw [bn_txt_append _ _ _ h, bn_txt _ _ h]
theorem vvS_var (f n : Nat) (pre tl : List UInt8) (hn : n < 128 ^ (f + 1)) : vvS (txt (pre ++ vF f n ++ tl)) pre.length (vF f n).length = n := by
 induction f generalizing n pre with
 | zero =>
  simp at hn
  have e : (vF 0 n).length = 1 := rfl
  rw [e]
  have hb : bn (txt (pre ++ vF 0 n ++ tl)) pre.length = n := by
   rw [bn_txt _ _ (by simp [vF])]
   simp [vF, byt_toNat]
   omega
  simp only [vvS, hb]
  omega
 | succ f ih =>
  by_cases h : n < 128
  ·rw [vF_small _ n h]
   have hb : bn (txt (pre ++ [byt n] ++ tl)) pre.length = n := by
    rw [bn_txt _ _ (by simp)]
    simp [byt_toNat]
    omega
   simp only [List.length_cons, List.length_nil, vvS, hb]
   omega
  ·have e : vF (f + 1) n = byt (128 + n % 128) :: vF f (n / 128) := by rw [vF, if_neg h]
   have hd : n / 128 < 128 ^ (f + 1) := by
    rw [Nat.pow_succ] at hn
    exact Nat.div_lt_of_lt_mul (by rw [Nat.mul_comm]; exact hn)
   rw [e]
   have hb : bn (txt (pre ++ (byt (128 + n % 128) :: vF f (n / 128)) ++ tl)) pre.length = 128 + n % 128 := by
    rw [bn_txt _ _ (by simp)]
    simp [byt_toNat]
    omega
   have hi := ih (n / 128) (pre ++ [byt (128 + n % 128)]) hd
   have e2 : pre ++ [byt (128 + n % 128)] ++ vF f (n / 128) ++ tl = pre ++ (byt (128 + n % 128) :: vF f (n / 128)) ++ tl := by simp
   rw [e2] at hi
   simp only [List.length_cons, vvS, hb]
   simp only [List.length_append, List.length_cons, List.length_nil] at hi
   rw [Nat.zero_add] at hi
   rw [hi]
   omega
theorem sg_txt (l tl : List UInt8) : sg (txt (l ++ tl)) 0 l.length = l := by
 have h := sg_extract (txt (l ++ tl)) l.length (by rw [txt_size]; simp)
 have e : (txt (l ++ tl)).extract 0 l.length = txt l := by
  apply ByteArray.ext
  apply Array.toList_inj.1
  rw [Lib.extract_data]
  simp [txt]
 rw [e] at h
 exact (txt_inj _ _ h).symm
theorem vF_pos (f n : Nat) : 1 ≤ (vF f n).length := by
 cases f with
 | zero => simp [vF]
 | succ f => rw [vF]; split <;> simp
theorem find_var (n : Nat) (tl : List UInt8) (hn : n ≤ 562949953421311) : FindV (txt (vF 6 n ++ tl)) (vF 6 n).length ∧ vvS (txt (vF 6 n ++ tl)) 0 (vF 6 n).length = n := by
 have hp := vF_pos 6 n
 have hl := vF_length 6 n
 have hv := vvS_var 6 n [] tl (by omega)
 simp only [List.nil_append, List.length_nil] at hv
 refine ⟨⟨hp, hl, by rw [txt_size]; simp, ?_⟩, hv⟩
 obtain ⟨d, hd⟩ : ∃ d, (vF 6 n).length = d + 1 := ⟨(vF 6 n).length - 1, by omega⟩
 have hs := sg_txt (vF 6 n) tl
 rw [hd] at hs hv ⊢
 rw [← canonS_iff _ d 0 6 (by omega), hv, hs]
end Go.Proofs.YtgillglkmnocaaaDoor
namespace Go.Proofs.YtgillglkmnocaaaDoor
open Go.RowKit Go.PlainAid
set_option linter.unusedVariables false
theorem txt_behind (a b : List UInt8) (n : Nat) (hn : n = (txt (a ++ b)).size) : (txt (a ++ b)).extract a.length n = txt b := by
 subst hn
 rw [← txt_cat]
 apply ByteArray.ext
 apply Array.toList_inj.1
 rw [Lib.extract_data]
 simp [txt, ByteArray.size]
theorem show_txt (q : Rcd) (h : recOk q = true) : showR q = txt ([byt q.kind.toNat] ++ (vF 6 q.term.toNat ++ (vF 6 q.index.toNat ++ (vF 6 (q.vote + 1).toNat ++ q.data.data.toList)))) := by
 unfold showR showB
 rw [if_pos h]
 conv => lhs; rw [← txt_toList q.data]
 simp only [txt_cat, List.append_assoc]
theorem Parts.one {s s1 s2 s3 s4 t1 t2 t3 t4 : ByteArray} {k1 k2 k3 m1 m2 m3 : Nat} (h : Parts s s1 s2 s3 s4 k1 k2 k3) (h' : Parts s t1 t2 t3 t4 m1 m2 m3) : partsR s s1 s2 s3 s4 k1 k2 k3 = partsR s t1 t2 t3 t4 m1 m2 m3 := by
 obtain ⟨_, a1, f1, a2, f2, a3, f3, a4⟩ := h
 obtain ⟨_, b1, g1, b2, g2, b3, g3, b4⟩ := h'
 obtain rfl : s1 = t1 := a1.trans b1.symm
 obtain rfl := f1.one g1
 obtain rfl : s2 = t2 := a2.trans b2.symm
 obtain rfl := f2.one g2
 obtain rfl : s3 = t3 := a3.trans b3.symm
 obtain rfl := f3.one g3
 obtain rfl : s4 = t4 := a4.trans b4.symm
 rfl
theorem Parts.some {s s1 s2 s3 s4 : ByteArray} {k1 k2 k3 : Nat} (h : Parts s s1 s2 s3 s4 k1 k2 k3) : ¬ NoParts s := by
 obtain ⟨h0, a1, f1, a2, f2, a3, f3, a4⟩ := h
 rintro (h | ⟨_, h | ⟨t1, m1, b1, g1, h | ⟨t2, m2, b2, g2, h⟩⟩⟩)
 ·omega
 ·rw [← a1] at h
  exact h _ f1
 ·obtain rfl : s1 = t1 := a1.trans b1.symm
  obtain rfl := f1.one g1
  rw [← a2] at h
  exact h _ f2
 ·obtain rfl : s1 = t1 := a1.trans b1.symm
  obtain rfl := f1.one g1
  obtain rfl : s2 = t2 := a2.trans b2.symm
  obtain rfl := f2.one g2
  rw [← a3] at h
  exact h _ f3
theorem rd_parts {s s1 s2 s3 s4 : ByteArray} {k1 k2 k3 : Nat} (h : Parts s s1 s2 s3 s4 k1 k2 k3) (hk : recOk (partsR s s1 s2 s3 s4 k1 k2 k3) = true) : rd s = some (partsR s s1 s2 s3 s4 k1 k2 k3) := by
 rcases rd_is s with ⟨hn, _⟩ | ⟨t1, t2, t3, t4, m1, m2, m3, hp, e⟩
 ·exact (h.some hn).elim
 ·rw [← h.one hp, if_pos hk] at e
  exact e
theorem rd_show (q : Rcd) (h : recOk q = true) : rd (showR q) = some q := by
 obtain ⟨k, t, i, v, d⟩ := q
 obtain ⟨hk, ht, hi, hv, hd⟩ := recOk_in k t i v d h
 have e := show_txt ⟨k, t, i, v, d⟩ h
 simp only at e
 obtain ⟨f1, v1⟩ := find_var t.toNat (vF 6 i.toNat ++ (vF 6 (v + 1).toNat ++ d.data.toList)) (by omega)
 obtain ⟨f2, v2⟩ := find_var i.toNat (vF 6 (v + 1).toNat ++ d.data.toList) (by omega)
 obtain ⟨f3, v3⟩ := find_var (v + 1).toNat d.data.toList (by omega)
 have hp : Parts (showR ⟨k, t, i, v, d⟩) (txt (vF 6 t.toNat ++ (vF 6 i.toNat ++ (vF 6 (v + 1).toNat ++ d.data.toList)))) (txt (vF 6 i.toNat ++ (vF 6 (v + 1).toNat ++ d.data.toList))) (txt (vF 6 (v + 1).toNat ++ d.data.toList)) d (vF 6 t.toNat).length (vF 6 i.toNat).length (vF 6 (v + 1).toNat).length := by
  refine ⟨by rw [e, txt_size]; simp, ?_, f1, (txt_behind _ _ _ rfl).symm, f2, (txt_behind _ _ _ rfl).symm, f3, ?_⟩
  ·rw [e]
   exact (txt_behind [byt k.toNat] _ _ rfl).symm
  ·rw [txt_behind _ _ _ rfl, txt_toList]
 have hr : partsR (showR ⟨k, t, i, v, d⟩) (txt (vF 6 t.toNat ++ (vF 6 i.toNat ++ (vF 6 (v + 1).toNat ++ d.data.toList)))) (txt (vF 6 i.toNat ++ (vF 6 (v + 1).toNat ++ d.data.toList))) (txt (vF 6 (v + 1).toNat ++ d.data.toList)) d (vF 6 t.toNat).length (vF 6 i.toNat).length (vF 6 (v + 1).toNat).length = ⟨k, t, i, v, d⟩ := by
  unfold partsR
  rw [v1, v2, v3]
  have hb : bn (showR ⟨k, t, i, v, d⟩) 0 = k.toNat := by
   rw [e, bn_cat _ _ 0 (by simp)]
   simp [byt_toNat]
   omega
  rw [hb]
  congr 1 <;> omega
 have := rd_parts hp (by rw [hr]; exact h)
 rw [hr] at this
 exact this
def runsE : Wl → List Rcd → Prop
 | _, [] => True
 | x, r :: l => recOk r = true ∧ recFits x r = true ∧ runsE (stepTo x r) l
def endsE (x : Wl) (l : List Rcd) : Wl := l.foldl stepTo x
theorem endsE_append (x : Wl) (l m : List Rcd) : endsE x (l ++ m) = endsE (endsE x l) m := by simp [endsE, List.foldl_append]
theorem runsE_append (l m : List Rcd) : ∀ x, runsE x l → runsE (endsE x l) m → runsE x (l ++ m) := by
 induction l with
 | nil => intro x _ h; exact h
 | cons r l ih =>
  intro x h hm
  exact ⟨h.1, h.2.1, ih _ h.2.2 hm⟩
theorem runsE_ents (b : Wl) (hb : WOk b) : ∀ m, m ≤ b.ents.length → runsE { b with ents := [] } (entRecs b m) ∧ endsE { b with ents := [] } (entRecs b m) = { b with ents := b.ents.take m }
 | 0, _ => ⟨trivial, rfl⟩
 | m + 1, hm => by
  obtain ⟨h1, h2⟩ := runsE_ents b hb m (by omega)
  have hlt : m < b.ents.length := by omega
  have ha := ents_at _ _ _ _ hb.e hlt
  have hb0 := based0 hb.b
  have hs := hb.s
  have hn := hb.n
  have ht1 := hb.t1
  have hlen : (b.ents.take m).length = m := by rw [List.length_take]; omega
  have hr : recOk (recAt b m) = true := by
   unfold recOk recAt inIt
   simp only [show ¬ (2 : Int) = 1 by decide, if_false, if_true, Bool.and_eq_true, decide_eq_true_eq]
   exact ⟨⟨⟨⟨ha.1, by omega⟩, by omega, by omega⟩, trivial⟩, ha.2.2.1⟩
  have hf : recFits { b with ents := b.ents.take m } (recAt b m) = true := by
   unfold recFits recAt
   simp only [show ¬ (2 : Int) = 1 by decide, if_false, if_true, Bool.and_eq_true, decide_eq_true_eq]
   refine ⟨⟨⟨by rw [hlen]; omega, by rw [hlen]; omega⟩, ?_⟩, ha.2.1⟩
   exact ha.2.2.2
  have hst : stepTo { b with ents := b.ents.take m } (recAt b m) = { b with ents := b.ents.take (m + 1) } := by
   unfold stepTo recAt
   simp only [show ¬ (2 : Int) = 1 by decide, if_false, if_true]
   rw [List.take_succ_eq_append_getElem hlt, List.getD_eq_getElem?_getD, List.getElem?_eq_getElem hlt]
   rfl
  rw [entRecs_succ]
  refine ⟨runsE_append _ _ _ h1 ?_, ?_⟩
  ·rw [h2]
   exact ⟨hr, hf, trivial⟩
  ·rw [endsE_append, h2]
   exact hst
def bytesR (l : List Rcd) : Nat := (l.map fun r => 8 + (showR r).size).sum
theorem goOn_show (l : List Rcd) : ∀ x, runsE x l → goOn x (l.map showR) = (endsE x l, bytesR l) := by
 induction l with
 | nil => intro x _; rfl
 | cons r l ih =>
  intro x h
  have hs : stp x (showR r) = (stepTo x r, true) := by
   unfold stp
   rw [rd_show r h.1]
   simp only
   rw [if_pos h.2.1]
  rw [List.map_cons, goOn_yes x _ _ (by rw [hs]), hs, ih _ h.2.2]
  simp [bytesR, endsE]
def baseR (x : Wl) : Rcd := ⟨4, x.bterm, x.base, 0, ByteArray.empty⟩
def hardR (x : Wl) : Rcd := ⟨1, x.term, 0, x.vote, ByteArray.empty⟩
theorem walRecs_eq (x : Wl) : walRecs x = baseR x :: hardR x :: entRecs x x.ents.length := rfl
theorem base_ok {x : Wl} (h : WOk x) : recOk (baseR x) = true := by
 unfold recOk baseR
 simp [h.b]
theorem hard_ok {x : Wl} (h : WOk x) : recOk (hardR x) = true := by
 unfold recOk hardR inIt
 have := h.t0
 have := h.t1
 have := h.v0
 have := h.v1
 simp
 omega
theorem runsE_hard {x : Wl} (h : WOk x) (m : Nat) (hm : m ≤ x.ents.length) : runsE (begW (baseR x)) (hardR x :: entRecs x m) ∧ endsE (begW (baseR x)) (hardR x :: entRecs x m) = { x with ents := x.ents.take m } := by
 have hs : stepTo (begW (baseR x)) (hardR x) = { x with ents := [] } := by
  unfold stepTo hardR begW baseR
  simp
 obtain ⟨h1, h2⟩ := runsE_ents x h m hm
 refine ⟨⟨hard_ok h, ?_, by rw [hs]; exact h1⟩, ?_⟩
 ·unfold recFits hardR begW baseR
  have := h.bt
  simp
  omega
 ·show endsE (stepTo (begW (baseR x)) (hardR x)) (entRecs x m) = _
  rw [hs]
  exact h2
theorem rep_base {x : Wl} (h : WOk x) (l : List Rcd) (hl : runsE (begW (baseR x)) l) : rep ((baseR x :: l).map showR) = (endsE (begW (baseR x)) l, 8 + (showR (baseR x)).size + bytesR l, true) := by
 have hb : beg (showR (baseR x)) = some (begW (baseR x)) := by
  unfold beg
  rw [rd_show _ (base_ok h)]
  simp [baseR]
 rw [List.map_cons, rep, hb]
 simp only
 rw [goOn_show l _ hl]
theorem show_bounds (q : Rcd) (h : recOk q = true) : 1 ≤ (showR q).size ∧ (showR q).size ≤ 1000 := by
 refine ⟨?_, showR_size q (recOk_data q h)⟩
 rw [show_txt q h, txt_size]
 simp
theorem catF_cat (l : List Rcd) (h : ∀ r ∈ l, recOk r = true) : catF l = cat (l.map showR) := by
 have key : ∀ (l : List Rcd) (s : ByteArray), (∀ r ∈ l, recOk r = true) → l.foldl (fun s r => s ++ frame (showR r)) s = s ++ cat (l.map showR) := by
  intro l
  induction l with
  | nil => intro s _; simp [cat]
  | cons r l ih =>
   intro s h
   have hb := show_bounds r (h r (by simp))
   have hf : frame (showR r) = frameOf (showR r) := if_neg (by omega)
   rw [List.foldl_cons, ih _ (fun r hr => h r (by simp [hr])), hf, List.map_cons, cat, ByteArray.append_assoc]
 have := key l ByteArray.empty h
 rw [ByteArray.empty_append] at this
 exact this
theorem recs_ok {x : Wl} (h : WOk x) : ∀ r ∈ walRecs x, recOk r = true := by
 have key : ∀ (l : List Rcd) (y : Wl), runsE y l → ∀ r ∈ l, recOk r = true := by
  intro l
  induction l with
  | nil => intro y _ r hr; cases hr
  | cons q l ih =>
   intro y hy r hr
   rcases List.mem_cons.1 hr with rfl | hr
   ·exact hy.1
   ·exact ih _ hy.2.2 r hr
 intro r hr
 rw [walRecs_eq] at hr
 rcases List.mem_cons.1 hr with rfl | hr
 ·exact base_ok h
 ·exact key _ _ (runsE_hard h _ (Nat.le_refl _)).1 r hr
theorem cat_bytes (l : List Rcd) : (cat (l.map showR)).size = bytesR l := by
 induction l with
 | nil => rfl
 | cons r l ih =>
  rw [List.map_cons, cat, ByteArray.size_append, frameOf_size, ih]
  simp [bytesR]
theorem walT_eq {x : Wl} (h : WOk x) : walT x = cat ((walRecs x).map showR) := by
 unfold walT
 rw [if_pos h.ok]
 exact catF_cat _ (recs_ok h)
theorem walT_size {x : Wl} (h : WOk x) : (walT x).size = bytesR (walRecs x) := by rw [walT_eq h, cat_bytes]
theorem shown_bounds {x : Wl} (h : WOk x) : ∀ b ∈ (walRecs x).map showR, 1 ≤ b.size ∧ b.size ≤ 2000 := by
 intro b hb
 obtain ⟨r, hr, rfl⟩ := List.mem_map.1 hb
 have := show_bounds r (recs_ok h r hr)
 omega
theorem rep_whole {x : Wl} (h : WOk x) (K : Nat) (hK : Ends (walT x) K) : rep (bods (walT x) K) = (x, (walT x).size, true) := by
 have hz : (cat ((walRecs x).map showR)).extract 0 (cat ((walRecs x).map showR)).size = walT x := by rw [extract_full _ _ (Nat.le_refl _), walT_eq h]
 rw [← hz] at hK
 obtain ⟨h1, _, h3, _, h5⟩ := cut_ends ((walRecs x).map showR) _ K (Nat.le_refl _) (shown_bounds h) hK
 rw [hz] at h3
 have hKl : K = ((walRecs x).map showR).length := by
  rcases h5 with h5 | h5
  ·exact h5
  ·have := endAt_mono ((walRecs x).map showR) (K + 1) ((walRecs x).map showR).length
   rcases Nat.lt_or_ge K ((walRecs x).map showR).length with hlt | hge
   ·have := this hlt (Nat.le_refl _)
    rw [endAt_all] at this
    omega
   ·omega
 rw [h3, hKl, List.take_length, walRecs_eq]
 obtain ⟨r1, r2⟩ := runsE_hard h x.ents.length (Nat.le_refl _)
 rw [rep_base h _ r1, r2, List.take_length, walT_size h, walRecs_eq]
 simp [bytesR]
theorem rep_cut {x : Wl} (h : WOk x) (K : Nat) (hK : Ends ((walT x).extract 0 ((walT x).size - 1)) K) : ∃ n, n < (walT x).size ∧ (rep (bods ((walT x).extract 0 ((walT x).size - 1)) K)).2 = (n, true) ∧
  ((x.ents = [] ∧ (rep (bods ((walT x).extract 0 ((walT x).size - 1)) K)).1.ents = []) ∨ ∃ m, x.ents.length = m + 1 ∧ (rep (bods ((walT x).extract 0 ((walT x).size - 1)) K)).1 = { x with ents := x.ents.take m }) := by
 have hpos : 0 < (walT x).size := by
  rw [walT_size h, walRecs_eq]
  simp [bytesR]
  omega
 rw [walT_eq h] at hpos hK ⊢
 obtain ⟨h1, _, h3, h4, h5⟩ := cut_ends ((walRecs x).map showR) ((cat ((walRecs x).map showR)).size - 1) K (by omega) (shown_bounds h) hK
 have hlen : ((walRecs x).map showR).length = x.ents.length + 2 := by rw [List.length_map, walRecs_length]
 have hKl : K = x.ents.length + 1 := by
  have hne : K ≠ ((walRecs x).map showR).length := fun e => by
   rw [e, endAt_all] at h4
   omega
  rcases h5 with h5 | h5
  ·exact (hne h5).elim
  ·rcases Nat.lt_or_ge (K + 1) ((walRecs x).map showR).length with hlt | hge
   ·have hs := endAt_succ ((walRecs x).map showR) (K + 1) hlt
    have hm := endAt_mono ((walRecs x).map showR) (K + 1 + 1) ((walRecs x).map showR).length hlt (Nat.le_refl _)
    rw [endAt_all] at hm
    omega
   ·omega
 rw [h3, hKl]
 cases hm : x.ents.length with
 | zero =>
  have he : x.ents = [] := List.eq_nil_of_length_eq_zero hm
  have ht : ((walRecs x).map showR).take (0 + 1) = (baseR x :: []).map showR := by
   rw [walRecs_eq]
   rfl
  rw [ht, rep_base h [] trivial]
  refine ⟨_, ?_, rfl, .inl ⟨he, rfl⟩⟩
  rw [cat_bytes, walRecs_eq]
  simp [bytesR]
  omega
 | succ m =>
  have ht : ((walRecs x).map showR).take (m + 1 + 1) = (baseR x :: (hardR x :: entRecs x m)).map showR := by
   rw [walRecs_eq, hm, entRecs_succ, ← List.map_take]
   congr 1
   simp only [List.take_succ_cons]
   rw [List.take_append_of_le_length (by rw [entRecs_length]; exact Nat.le_refl _), List.take_of_length_le (by rw [entRecs_length]; exact Nat.le_refl _)]
  obtain ⟨r1, r2⟩ := runsE_hard h m (by omega)
  rw [ht, rep_base h _ r1, r2]
  refine ⟨_, ?_, rfl, .inr ⟨m, rfl, rfl⟩⟩
  rw [cat_bytes, walRecs_eq, hm, entRecs_succ]
  simp [bytesR]
  omega
end Go.Proofs.YtgillglkmnocaaaDoor
namespace Go.Proofs.YtgillglkmnocaaaDoor
open Go.RowKit Go.PlainAid
structure Mod (B p : Nat) (w w' : World) : Prop where
 os : w'.os = w.os
 tape : w'.tape = w.tape
 output : w'.output = w.output
 size : w.heap.size ≤ w'.heap.size
 block : ∀ b, b < B → b ≠ p → w'.heap[b]? = w.heap[b]?
theorem Mod.refl (B p : Nat) (w : World) : Mod B p w w := ⟨rfl, rfl, rfl, Nat.le_refl _, fun _ _ _ => rfl⟩
theorem Mod.trans {B p : Nat} {a b c : World} (h : Mod B p a b) (k : Mod B p b c) : Mod B p a c :=
 ⟨k.os.trans h.os, k.tape.trans h.tape, k.output.trans h.output, Nat.le_trans h.size k.size, fun i hi hp => (k.block i hi hp).trans (h.block i hi hp)⟩
theorem Mod.mono {B C p : Nat} {a b : World} (h : Mod C p a b) (hB : B ≤ C) : Mod B p a b := ⟨h.os, h.tape, h.output, h.size, fun i hi hp => h.block i (Nat.lt_of_lt_of_le hi hB) hp⟩
theorem Mod.of_below {B p : Nat} {a b : World} (h : Below B a b) : Mod B p a b := ⟨h.os, h.tape, h.output, h.size, fun i hi _ => h.block i hi⟩
theorem Mod.below {B p : Nat} {a b : World} (h : Mod B p a b) (hB : B ≤ p) : Below B a b := ⟨h.os, h.tape, h.output, h.size, fun i hi => h.block i hi (by omega)⟩
theorem Mod.setCell {B p i : Nat} {a b : World} (h : Mod B p a b) (v : Value) : Mod B p a (b.setCell ⟨p, i, none⟩ v) := by
 refine h.trans ⟨rfl, rfl, rfl, ?_, fun j _ hj => ?_⟩
 ·simp
 ·exact Below.heap_setCell _ _ _ _ hj
theorem Mod.drewN {B p : Nat} {a b : World} (h : Mod B p a b) (k : Nat) : Mod B p a (b.drewN k) := by
 have hd := below_drewN (Below.refl B b) k
 exact h.trans (Mod.of_below hd)
theorem Mod.drew {B p : Nat} {a b : World} (h : Mod B p a b) : Mod B p a b.drew := h.trans (Mod.of_below (Below.refl B b).drew)
theorem Mod.alloc {B p : Nat} {a b : World} (h : Mod B p a b) (hB : B ≤ b.heap.size) (o : Obj) : Mod B p a (b.alloc o) := h.trans (Mod.of_below ((Below.refl B b).alloc hB o))
def CodeIs (w : World) (p : Nat) (ao : Option Addr) (len : Nat) (cs : Nat → Nat) : Prop :=
 len = 0 ∨ ∃ cb co, ao = some ⟨cb, co, none⟩ ∧ cb < p ∧ ∀ j, j < len → cs j < 256 ∧ w.cell? ⟨cb, co + j, none⟩ = some (.int .u8 (cs j : Int))
theorem CodeIs.kept {w w' : World} {B p : Nat} {ao : Option Addr} {len : Nat} {cs : Nat → Nat} (h : CodeIs w p ao len cs) (hm : Mod B p w w') (hp : p ≤ B) : CodeIs w' p ao len cs := by
 rcases h with h | ⟨cb, co, rfl, hcb, hj⟩
 ·exact .inl h
 ·refine .inr ⟨cb, co, rfl, hcb, fun j hj' => ⟨(hj j hj').1, ?_⟩⟩
  rw [← (hj j hj').2]
  exact World.cell?_of_block (w := w) (hm.block cb (by omega) (by omega))
theorem CodeIs.at {w : World} {p : Nat} {ao : Option Addr} {len : Nat} {cs : Nat → Nat} (h : CodeIs w p ao len cs) {i : Nat} (hi : i < len) :
  ∃ cb co, ao = some ⟨cb, co, none⟩ ∧ cb < p ∧ cs i < 256 ∧ w.cell? ⟨cb, co + i, none⟩ = some (.int .u8 (cs i : Int)) := by
 rcases h with h | ⟨cb, co, rfl, hcb, hj⟩
 ·omega
 ·exact ⟨cb, co, rfl, hcb, (hj i hi).1, (hj i hi).2⟩
def Cur (T : TypeId) (w : World) (p : Nat) (ao : Option Addr) (len cap i : Nat) (h : Int) : Prop := w.heap[p]? = some (.cells #[.slice ao len cap, .int .i64 (i : Int), .int .i64 h] T (0, 0))
theorem Cur.lt {T : TypeId} {w : World} {p : Nat} {ao : Option Addr} {len cap i : Nat} {h : Int} (c : Cur T w p ao len cap i h) : p < w.heap.size := lt_of_block c
theorem Cur.c0 {T : TypeId} {w : World} {p : Nat} {ao : Option Addr} {len cap i : Nat} {h : Int} (c : Cur T w p ao len cap i h) : w.cell? ⟨p, 0, none⟩ = some (.slice ao len cap) := by unfold Cur at c; simp [World.cell?, c]
theorem Cur.c1 {T : TypeId} {w : World} {p : Nat} {ao : Option Addr} {len cap i : Nat} {h : Int} (c : Cur T w p ao len cap i h) : w.cell? ⟨p, 1, none⟩ = some (.int .i64 (i : Int)) := by unfold Cur at c; simp [World.cell?, c]
theorem Cur.c2 {T : TypeId} {w : World} {p : Nat} {ao : Option Addr} {len cap i : Nat} {h : Int} (c : Cur T w p ao len cap i h) : w.cell? ⟨p, 2, none⟩ = some (.int .i64 h) := by unfold Cur at c; simp [World.cell?, c]
theorem Cur.free {T : TypeId} {w : World} {p : Nat} {ao : Option Addr} {len cap i : Nat} {h : Int} (c : Cur T w p ao len cap i h) (j : Nat) : w.frozen? ⟨p, j, none⟩ = false := by unfold Cur at c; simp [World.frozen?, c]
theorem Cur.set2 {T : TypeId} {w : World} {p : Nat} {ao : Option Addr} {len cap i : Nat} {h : Int} (c : Cur T w p ao len cap i h) (h' : Int) : Cur T (w.setCell ⟨p, 2, none⟩ (.int .i64 h')) p ao len cap i h' := by
 have hlt := c.lt
 unfold Cur at c ⊢
 have e : w.heap[p] = .cells #[.slice ao len cap, .int .i64 (i : Int), .int .i64 h] T (0, 0) := by simpa [Array.getElem?_eq_getElem hlt] using c
 show (w.heap.modify p _)[p]? = _
 rw [Array.getElem?_eq_getElem (by simpa using hlt), Array.getElem_modify_self, e]
 rfl
theorem Cur.set1 {T : TypeId} {w : World} {p : Nat} {ao : Option Addr} {len cap i : Nat} {h : Int} (c : Cur T w p ao len cap i h) (k : Nat) : Cur T (w.setCell ⟨p, 1, none⟩ (.int .i64 (k : Int))) p ao len cap k h := by
 have hlt := c.lt
 unfold Cur at c ⊢
 have e : w.heap[p] = .cells #[.slice ao len cap, .int .i64 (i : Int), .int .i64 h] T (0, 0) := by simpa [Array.getElem?_eq_getElem hlt] using c
 show (w.heap.modify p _)[p]? = _
 rw [Array.getElem?_eq_getElem (by simpa using hlt), Array.getElem_modify_self, e]
 rfl
theorem Cur.below {T : TypeId} {w w' : World} {B p : Nat} {ao : Option Addr} {len cap i : Nat} {h : Int} (c : Cur T w p ao len cap i h) (hb : Below B w w') (hp : p < B) : Cur T w' p ao len cap i h := by
 unfold Cur at c ⊢
 rw [hb.block p hp, c]
theorem Cur.drewN {T : TypeId} {w : World} {p : Nat} {ao : Option Addr} {len cap i : Nat} {h : Int} (c : Cur T w p ao len cap i h) (k : Nat) : Cur T (w.drewN k) p ao len cap i h :=
 c.below (below_drewN (Below.refl (p + 1) w) k) (by omega)
def curH (h : Int) : Int := wrap64 (wrap64 (h * 6364136223846793005) + 1442695040888963407)
def curX (h : Int) : Int := bits .and .i64 (bits .xor .i64 (h / 8589934592) (h / 35184372088832)) 255
theorem and255 (x : Int) : 0 ≤ bits .and .i64 x 255 ∧ bits .and .i64 x 255 ≤ 255 := by
 have e : bits .and .i64 x 255 = IntKind.i64.wrap ((BitVec.ofInt 64 x &&& BitVec.ofInt 64 ((255 : Nat) : Int)).toNat : Int) := rfl
 rw [e, BitVec.toNat_and, ofInt_u64 255 (by omega), nat_mask8]
 have h : (BitVec.ofInt 64 x).toNat % 256 < 256 := Nat.mod_lt _ (by omega)
 rw [Lib.wrap_i64_small _ (by omega)]
 omega
theorem curX_bd (h : Int) : 0 ≤ curX h ∧ curX h ≤ 255 := and255 _
structure Pos where
 i : Nat
 h : Int
def byteV (len : Nat) (cs : Nat → Nat) (s : Pos) : Int := if s.i < len then bits .and .i64 (curX (curH s.h) + (cs s.i : Int)) 255 else curX (curH s.h)
def byteP (len : Nat) (s : Pos) : Pos := if s.i < len then ⟨s.i + 1, curH s.h⟩ else ⟨s.i, curH s.h⟩
theorem byteV_bd (len : Nat) (cs : Nat → Nat) (s : Pos) : 0 ≤ byteV len cs s ∧ byteV len cs s ≤ 255 := by
 unfold byteV
 split
 ·exact and255 _
 ·exact curX_bd _
end Go.Proofs.YtgillglkmnocaaaDoor
namespace Go.Proofs.YtgillglkmnocaaaDoor
open Go.ChangeShapes Go.WideShapes Go.ChangeAt Go.RowKit Go.PlainAid
set_option linter.unusedVariables false
set_option maxHeartbeats 1000000 in
theorem byte_in (w : World) (p : Nat) (cb co len cap : Nat) (c i : Nat) (h : Int) (hc : Cur 70 w p (some ⟨cb, co, none⟩) len cap i h) (hcb : cb < p) (hi : i < len) (hl : len ≤ 1048576) (hc255 : c < 256)
  (hcell : w.cell? ⟨cb, co + i, none⟩ = some (.int .u8 (c : Int))) :
  Calls Tryd.prog 45 #[.pointer (some ⟨p, 0, none⟩)] w fun e w' => e = .returned (.int .i64 (bits .and .i64 (curX (curH h) + (c : Int)) 255)) ∧ Cur 70 w' p (some ⟨cb, co, none⟩) len cap (i + 1) (curH h) ∧ Mod w.heap.size p w w' := by
 have c0 := hc.c0
 have c1 := hc.c1
 have c2 := hc.c2
 have f1 := hc.free 1
 have f2 := hc.free 2
 have q1 : (i : Int) < (len : Int) := by omega
 have q2 : (len : Int) ≤ 1048576 := by omega
 go_enter Tryd.func45, Tryd.ntmps45
 go_wp2
 have eH : wrap64 (wrap64 (h * 6364136223846793005) + 1442695040888963407) = curH h := rfl
 rw [eH]
 have hc1 := hc.set2 (curH h)
 have hm1 : Mod w.heap.size p w (w.setCell ⟨p, 2, none⟩ (.int .i64 (curH h))) := (Mod.refl _ _ _).setCell _
 have hcell1 : (w.setCell ⟨p, 2, none⟩ (.int .i64 (curH h))).cell? ⟨cb, co + i, none⟩ = some (.int .u8 (c : Int)) := by
  rw [← hcell]
  exact World.cell?_of_block (w := w) (hm1.block cb (by have := hc.lt; omega) (by omega))
 generalize w.setCell ⟨p, 2, none⟩ (.int .i64 (curH h)) = w1 at *
 generalize hH : curH h = H at *
 have HH : Hid (curH h = H) := hH
 clear hH
 clear eH c0 c1 c2 f1 f2 hcell
 have c0 := hc1.c0
 have c1 := hc1.c1
 have c2 := hc1.c2
 have f1 := hc1.free 1
 have hx := curX_bd H
 obtain ⟨hx1, hx2⟩ := hx
 have eX : bits .and .i64 (bits .xor .i64 (H / 8589934592) (H / 35184372088832)) 255 = curX H := rfl
 go_quiet (fail)
 go_wp2
 go_quiet (fail)
 go_wp2
 go_quiet (fail)
 go_wp2
 go_ret
 have e1 : ((i : Int) + 1) = ((i + 1 : Nat) : Int) := by omega
 rw [HH.out, e1]
 exact ⟨rfl, (hc1.drewN _).set1 (i + 1), (hm1.drewN _).setCell _⟩
set_option maxHeartbeats 1000000 in
theorem byte_out (w : World) (p : Nat) (ao : Option Addr) (len cap : Nat) (i : Nat) (h : Int) (hc : Cur 70 w p ao len cap i h) (hi : len ≤ i) (hi2 : i ≤ 1048576) (hl : len ≤ 1048576) :
  Calls Tryd.prog 45 #[.pointer (some ⟨p, 0, none⟩)] w fun e w' => e = .returned (.int .i64 (curX (curH h))) ∧ Cur 70 w' p ao len cap i (curH h) ∧ Mod w.heap.size p w w' := by
 have c0 := hc.c0
 have c1 := hc.c1
 have c2 := hc.c2
 have f1 := hc.free 1
 have f2 := hc.free 2
 have q1 : (len : Int) ≤ (i : Int) := by omega
 have q2 : (len : Int) ≤ 1048576 := by omega
 have q3 : (i : Int) ≤ 1048576 := by omega
 go_enter Tryd.func45, Tryd.ntmps45
 go_wp2
 have eH : wrap64 (wrap64 (h * 6364136223846793005) + 1442695040888963407) = curH h := rfl
 rw [eH]
 have hc1 := hc.set2 (curH h)
 have hm1 : Mod w.heap.size p w (w.setCell ⟨p, 2, none⟩ (.int .i64 (curH h))) := (Mod.refl _ _ _).setCell _
 generalize w.setCell ⟨p, 2, none⟩ (.int .i64 (curH h)) = w1 at *
 generalize hH : curH h = H at *
 have HH : Hid (curH h = H) := hH
 clear hH
 clear eH c0 c1 c2 f1 f2
 have c0 := hc1.c0
 have c1 := hc1.c1
 have c2 := hc1.c2
 have f1 := hc1.free 1
 have hx := curX_bd H
 obtain ⟨hx1, hx2⟩ := hx
 have eX : bits .and .i64 (bits .xor .i64 (H / 8589934592) (H / 35184372088832)) 255 = curX H := rfl
 go_quiet (fail)
 go_wp2
 go_quiet (fail)
 go_wp2
 go_ret
 rw [HH.out]
 exact ⟨rfl, (hc1.drewN _).drewN _, (hm1.drewN _).drewN _⟩
def At (w : World) (p : Nat) (ao : Option Addr) (len cap : Nat) (cs : Nat → Nat) (s : Pos) : Prop := Cur 70 w p ao len cap s.i s.h ∧ CodeIs w p ao len cs ∧ len ≤ 1048576 ∧ s.i ≤ len
theorem At.lt {w : World} {p : Nat} {ao : Option Addr} {len cap : Nat} {cs : Nat → Nat} {s : Pos} (h : At w p ao len cap cs s) : p < w.heap.size := h.1.lt
theorem At.below {w w' : World} {B p : Nat} {ao : Option Addr} {len cap : Nat} {cs : Nat → Nat} {s : Pos} (h : At w p ao len cap cs s) (hb : Below B w w') (hp : p < B) : At w' p ao len cap cs s :=
 ⟨h.1.below hb hp, h.2.1.kept (Mod.of_below (p := p) hb) (by omega), h.2.2⟩
theorem byte_any (w : World) (p : Nat) (ao : Option Addr) (len cap : Nat) (cs : Nat → Nat) (s : Pos) (h : At w p ao len cap cs s) :
  Calls Tryd.prog 45 #[.pointer (some ⟨p, 0, none⟩)] w fun e w' => e = .returned (.int .i64 (byteV len cs s)) ∧ At w' p ao len cap cs (byteP len s) ∧ Mod w.heap.size p w w' := by
 have hlt := h.lt
 obtain ⟨h1, h2, h3, h4⟩ := h
 by_cases hi : s.i < len
 ·obtain ⟨cb, co, rfl, hcb, hc5, hcell⟩ := h2.at hi
  refine (byte_in w p cb co len cap (cs s.i) s.i s.h h1 hcb hi h3 hc5 hcell).mono ?_
  rintro e w' ⟨he, hc', hm⟩
  refine ⟨by rw [he, byteV, if_pos hi], ?_, hm⟩
  rw [byteP, if_pos hi]
  exact ⟨hc', h2.kept hm (by omega), h3, by show s.i + 1 ≤ len; omega⟩
 ·refine (byte_out w p ao len cap s.i s.h h1 (by omega) (by omega) h3).mono ?_
  rintro e w' ⟨he, hc', hm⟩
  refine ⟨by rw [he, byteV, if_neg hi], ?_, hm⟩
  rw [byteP, if_neg hi]
  exact ⟨hc', h2.kept hm (by omega), h3, h4⟩
def belowV (len : Nat) (cs : Nat → Nat) (n : Int) (s : Pos) : Int :=
 if n ≤ 0 then 0 else if n ≤ 256 then byteV len cs s % n
 else (byteV len cs s * 16777216 + byteV len cs (byteP len s) * 65536 + byteV len cs (byteP len (byteP len s)) * 256 + byteV len cs (byteP len (byteP len (byteP len s)))) % n
def belowP (len : Nat) (n : Int) (s : Pos) : Pos := if n ≤ 0 then s else if n ≤ 256 then byteP len s else byteP len (byteP len (byteP len (byteP len s)))
theorem belowV_bd (len : Nat) (cs : Nat → Nat) (n : Int) (s : Pos) : 0 ≤ belowV len cs n s ∧ (0 < n → belowV len cs n s < n) := by
 unfold belowV
 split
 ·exact ⟨by omega, fun h => by omega⟩
 ·split
  ·exact ⟨Int.emod_nonneg _ (by omega), fun h => Int.emod_lt_of_pos _ h⟩
  ·exact ⟨Int.emod_nonneg _ (by omega), fun h => Int.emod_lt_of_pos _ h⟩
set_option maxHeartbeats 1000000 in
theorem below_any (w : World) (p : Nat) (ao : Option Addr) (len cap : Nat) (cs : Nat → Nat) (s : Pos) (n : Int) (hn : n ≤ 9223372036854775807) (h : At w p ao len cap cs s) :
  Calls Tryd.prog 27 #[.pointer (some ⟨p, 0, none⟩), .int .i64 n] w fun e w' => e = .returned (.int .i64 (belowV len cs n s)) ∧ At w' p ao len cap cs (belowP len n s) ∧ Mod w.heap.size p w w' := by
 by_cases h0 : n ≤ 0
 ·have HV : Hid (belowV len cs n s = 0) := by show belowV len cs n s = 0; rw [belowV, if_pos h0]
  have HP : Hid (belowP len n s = s) := by show belowP len n s = s; rw [belowP, if_pos h0]
  have HA : Hid (At w p ao len cap cs s) := h
  clear h
  go_enter Tryd.func27, Tryd.ntmps27
  go_wp2_with fail
  go_ret
  rw [HV.out, HP.out]
  exact ⟨rfl, HA.out, Mod.refl _ _ _⟩
 ·by_cases h256 : n ≤ 256
  ·have HV : Hid (belowV len cs n s = byteV len cs s % n) := by show belowV len cs n s = _; rw [belowV, if_neg h0, if_pos h256]
   have HP : Hid (belowP len n s = byteP len s) := by show belowP len n s = _; rw [belowP, if_neg h0, if_pos h256]
   have HA : Hid (At w p ao len cap cs s) := h
   clear h
   have hb := byteV_bd len cs s
   obtain ⟨hb1, hb2⟩ := hb
   go_enter Tryd.func27, Tryd.ntmps27
   go_wp2_with fail
   refine (byte_any _ p ao len cap cs s HA.out).mono ?_
   rintro e w1 ⟨rfl, hA1, hm1⟩
   go_wp2_with fail
   go_ret
   rw [HV.out, HP.out]
   exact ⟨rfl, hA1, hm1⟩
  ·have HV : Hid (belowV len cs n s = (byteV len cs s * 16777216 + byteV len cs (byteP len s) * 65536 + byteV len cs (byteP len (byteP len s)) * 256 + byteV len cs (byteP len (byteP len (byteP len s)))) % n) := by
    show belowV len cs n s = _; rw [belowV, if_neg h0, if_neg h256]
   have HP : Hid (belowP len n s = byteP len (byteP len (byteP len (byteP len s)))) := by show belowP len n s = _; rw [belowP, if_neg h0, if_neg h256]
   have HA : Hid (At w p ao len cap cs s) := h
   clear h
   have hb := byteV_bd len cs s
   have hb' := byteV_bd len cs (byteP len s)
   have hb'' := byteV_bd len cs (byteP len (byteP len s))
   have hb3 := byteV_bd len cs (byteP len (byteP len (byteP len s)))
   obtain ⟨a1, a2⟩ := hb
   obtain ⟨a3, a4⟩ := hb'
   obtain ⟨a5, a6⟩ := hb''
   obtain ⟨a7, a8⟩ := hb3
   go_enter Tryd.func27, Tryd.ntmps27
   go_wp2_with fail
   refine (byte_any _ p ao len cap cs s HA.out).mono ?_
   rintro e w1 ⟨rfl, hA1, hm1⟩
   go_wp2_with fail
   refine (byte_any _ p ao len cap cs _ hA1).mono ?_
   rintro e w2 ⟨rfl, hA2, hm2⟩
   go_wp2_with fail
   refine (byte_any _ p ao len cap cs _ hA2).mono ?_
   rintro e w3 ⟨rfl, hA3, hm3⟩
   go_wp2_with fail
   refine (byte_any _ p ao len cap cs _ hA3).mono ?_
   rintro e w4 ⟨rfl, hA4, hm4⟩
   go_wp2_with fail
   go_ret
   rw [HV.out, HP.out]
   exact ⟨rfl, hA4, hm1.trans ((hm2.mono hm1.size).trans ((hm3.mono (Nat.le_trans hm1.size hm2.size)).trans (hm4.mono (Nat.le_trans hm1.size (Nat.le_trans hm2.size hm3.size)))))⟩
end Go.Proofs.YtgillglkmnocaaaDoor
namespace Go.Proofs.YtgillglkmnocaaaDoor
open Go.ChangeShapes Go.WideShapes Go.ChangeAt Go.RowKit Go.PlainAid
set_option linter.unusedVariables false
theorem and30 (x : Int) : 0 ≤ bits .and .i64 x 1073741823 ∧ bits .and .i64 x 1073741823 ≤ 1073741823 := by
 have e : bits .and .i64 x 1073741823 = IntKind.i64.wrap ((BitVec.ofInt 64 x &&& BitVec.ofInt 64 ((1073741823 : Nat) : Int)).toNat : Int) := rfl
 have m : ∀ y : Nat, y &&& 1073741823 = y % 1073741824 := fun y => Nat.and_two_pow_sub_one_eq_mod y 30
 rw [e, BitVec.toNat_and, ofInt_u64 1073741823 (by omega), m]
 have h : (BitVec.ofInt 64 x).toNat % 1073741824 < 1073741824 := Nat.mod_lt _ (by omega)
 rw [Lib.wrap_i64_small _ (by omega)]
 omega
def newH (len : Nat) (cs : Nat → Nat) : Nat → Int
 | 0 => 10101 + (len : Int)
 | k + 1 => bits .and .i64 (newH len cs k * 131 + (cs k : Int) + 7) 1073741823
theorem newH_bd (len : Nat) (cs : Nat → Nat) (hl : len ≤ 1048576) (k : Nat) : 0 ≤ newH len cs k ∧ newH len cs k ≤ 1073741823 := by
 cases k with
 | zero => simp only [newH]; omega
 | succ k => exact and30 _
def newP (len : Nat) (cs : Nat → Nat) : Pos := ⟨0, newH len cs (min len 4000)⟩
set_option maxHeartbeats 1000000 in
theorem new_some (w : World) (cb co len cap : Nat) (cs : Nat → Nat) (hl : len ≤ 1048576) (hc : ∀ j, j < len → cs j < 256 ∧ w.cell? ⟨cb, co + j, none⟩ = some (.int .u8 (cs j : Int))) :
  Calls Tryd.prog 11 #[.slice (some ⟨cb, co, none⟩) len cap] w fun e w' => e = .returned (.pointer (some ⟨w.heap.size, 0, none⟩)) ∧ w' = w.alloc (.cells #[.slice (some ⟨cb, co, none⟩) len cap, .int .i64 0, .int .i64 (newH len cs (min len 4000))] 70) := by
 have q1 : (len : Int) ≤ 1048576 := by omega
 have HC : Hid (∀ j, j < len → cs j < 256 ∧ w.cell? ⟨cb, co + j, none⟩ = some (.int .u8 (cs j : Int))) := hc
 clear hc
 go_enter Tryd.func11, Tryd.ntmps11
 go_wp2
 go_loop [3, 4] (fun v3 v4 => ∃ k : Nat, k ≤ len ∧ k ≤ 4000 ∧ v4 = .int .i64 k ∧ v3 = .int .i64 (newH len cs k)) (fun _ i => 4000 - (intOf i).toNat)
 case atStart => exact ⟨0, by omega, by omega, rfl, rfl⟩
 case round =>
  obtain ⟨k, hk, hk4, rfl, rfl⟩ := hrel
  have hb := newH_bd len cs hl k
  obtain ⟨hb1, hb2⟩ := hb
  by_cases hlt : (k : Int) < (len : Int)
  ·by_cases h4 : (k : Int) < 4000
   ·have hck := HC.out k (by omega)
    obtain ⟨hck1, hck2⟩ := hck
    go_wp2
    go_round
    case rel => exact ⟨k + 1, by omega, by omega, by go_num, rfl⟩
    case measure => simp [intOf]; omega
   ·have z : decide ((k : Int) < 4000) = false := by simp; omega
    have hkk : min len 4000 = k := by omega
    have HK : Hid (min len 4000 = k) := hkk
    clear hkk
    go_wp2
    go_ret
    exact ⟨rfl, by rw [HK.out]⟩
  ·have z : (len : Int) ≤ (k : Int) := by omega
   have hkk : min len 4000 = k := by omega
   have HK : Hid (min len 4000 = k) := hkk
   clear hkk
   go_wp2
   go_ret
   exact ⟨rfl, by rw [HK.out]⟩
set_option maxHeartbeats 1000000 in
theorem new_nil (w : World) (ao : Option Addr) (cap : Nat) (cs : Nat → Nat) :
  Calls Tryd.prog 11 #[.slice ao 0 cap] w fun e w' => e = .returned (.pointer (some ⟨w.heap.size, 0, none⟩)) ∧ w' = w.alloc (.cells #[.slice ao 0 cap, .int .i64 0, .int .i64 (newH 0 cs (min 0 4000))] 70) := by
 go_enter Tryd.func11, Tryd.ntmps11
 go_wp2
 refine wp_loop_rounds 1 ?_
 rw [rounds_succ]
 go_wp2
 go_ret
 exact ⟨rfl, rfl⟩
theorem new_any (w : World) (ao : Option Addr) (len cap : Nat) (cs : Nat → Nat) (hl : len ≤ 1048576) (h : CodeIs w w.heap.size ao len cs) :
  Calls Tryd.prog 11 #[.slice ao len cap] w fun e w' => e = .returned (.pointer (some ⟨w.heap.size, 0, none⟩)) ∧ At w' w.heap.size ao len cap cs (newP len cs) ∧ Below w.heap.size w w' := by
 have fin : ∀ (e : Ending) (w' : World), (e = .returned (.pointer (some ⟨w.heap.size, 0, none⟩)) ∧ w' = w.alloc (.cells #[.slice ao len cap, .int .i64 0, .int .i64 (newH len cs (min len 4000))] 70)) → e = .returned (.pointer (some ⟨w.heap.size, 0, none⟩)) ∧ At w' w.heap.size ao len cap cs (newP len cs) ∧ Below w.heap.size w w' := by
  rintro e w' ⟨he, rfl⟩
  have hb : Below w.heap.size w (w.alloc (.cells #[.slice ao len cap, .int .i64 0, .int .i64 (newH len cs (min len 4000))] 70)) := (Below.refl _ _).alloc (Nat.le_refl _) _
  refine ⟨he, ⟨heap_alloc_new w _, h.kept (Mod.of_below (p := w.heap.size) hb) (Nat.le_refl _), hl, Nat.zero_le _⟩, hb⟩
 have h' := h
 rcases h with rfl | ⟨cb, co, rfl, hcb, hj⟩
 ·exact (new_nil w ao cap cs).mono fin
 ·exact (new_some w cb co len cap cs hl hj).mono fin
end Go.Proofs.YtgillglkmnocaaaDoor
namespace Go.Proofs.YtgillglkmnocaaaDoor
open Go.ChangeShapes Go.WideShapes Go.ChangeAt Go.RowKit Go.PlainAid
set_option linter.unusedVariables false
set_option maxHeartbeats 400000 in
theorem once_any (w : World) (p : Nat) (ao : Option Addr) (len cap : Nat) (cs : Nat → Nat) (s : Pos) (n : Int) (hn : n ≤ 9223372036854775807) (h : At w p ao len cap cs s) :
  Calls Tryd.prog 26 #[.pointer (some ⟨p, 0, none⟩), .int .i64 n] w fun e w' => e = .returned (.bool (belowV len cs n s == 0)) ∧ At w' p ao len cap cs (belowP len n s) ∧ Mod w.heap.size p w w' := by
 have HA : Hid (At w p ao len cap cs s) := h
 clear h
 go_enter Tryd.func26, Tryd.ntmps26
 go_wp2_with fail
 refine (below_any _ p ao len cap cs s n hn HA.out).mono ?_
 rintro e w1 ⟨rfl, hA1, hm1⟩
 go_wp2_with fail
 go_ret
 exact ⟨rfl, hA1, hm1⟩
end Go.Proofs.YtgillglkmnocaaaDoor
namespace Go.Proofs.YtgillglkmnocaaaDoor
open Go.RowKit Go.PlainAid
def numCells (l : List Int) : List Value := l.map fun z => Value.int .i64 z
def Nums (w : World) (base : Nat) (v : Value) (l : List Int) : Prop := w.ownsRow base 3 1 v l.length (numCells l)
def NumsV (w : World) (B : Nat) (v : Value) (l : List Int) : Prop :=
 ∃ A cap, v = .slice A l.length cap ∧ l.length ≤ cap ∧ cap ≤ maxLen ∧ ∀ j, j < l.length → ∃ g off, A = some ⟨g, off, none⟩ ∧ g < B ∧ w.cell? ⟨g, off + j, none⟩ = some (.int .i64 (l.getD j 0))
theorem Nums.nil (w : World) (base : Nat) : Nums w base (.slice none 0 0) [] := World.ownsRow_nil w base 3 1
theorem Nums.empty (w : World) (base : Nat) (hb : base ≤ w.heap.size) : Nums (w.alloc (.cells #[] 3)) base (.slice (some ⟨w.heap.size, 0, none⟩) 0 0) [] :=
 World.ownsRow_lit w #[] 0 hb (by unfold maxLen; omega) rfl
theorem Nums.one (w : World) (base : Nat) (z : Int) (hb : base ≤ w.heap.size) : Nums (w.alloc (.cells #[.int .i64 z] 3)) base (.slice (some ⟨w.heap.size, 0, none⟩) 1 1) [z] :=
 World.ownsRow_lit w #[.int .i64 z] 1 hb (by unfold maxLen; omega) rfl
theorem Nums.mono {w : World} {base base' : Nat} {v : Value} {l : List Int} (h : Nums w base v l) (hb : base' ≤ base) : Nums w base' v l :=
 ⟨h.1, h.2.imp id fun ⟨g, cap, cur, e, hg, r⟩ => ⟨g, cap, cur, e, Nat.le_trans hb hg, r⟩⟩
theorem Nums.lt {w : World} {base : Nat} {v : Value} {l : List Int} (h : Nums w base v l) : ∀ k, v.ownBlock = some k → base ≤ k ∧ k < w.heap.size := World.ownsRow.lt h
theorem Nums.kept {w w' : World} {base : Nat} {v : Value} {l : List Int} (h : Nums w base v l) (hk : ∀ g, g < w.heap.size → v.ownBlock = some g → w'.heap[g]? = w.heap[g]?) : Nums w' base v l := by
 have hl := World.ownsRow.lt h
 refine ⟨h.1, h.2.imp id ?_⟩
 rintro ⟨g, cap, cur, rfl, hg, hh, r⟩
 refine ⟨g, cap, cur, rfl, hg, ?_, r⟩
 rw [hk g (hl g rfl).2 rfl]
 exact hh
theorem Nums.on {w w' : World} {base : Nat} {v : Value} {l : List Int} (h : Nums w base v l) (hb : Below w.heap.size w w') : Nums w' base v l := h.kept fun g hg _ => hb.block g hg
theorem Nums.heap {w w' : World} {base : Nat} {v : Value} {l : List Int} (h : Nums w base v l) (hh : w'.heap = w.heap) : Nums w' base v l := h.kept fun g _ _ => by rw [hh]
theorem Nums.alloc {w : World} {base : Nat} {v : Value} {l : List Int} (h : Nums w base v l) (o : Obj) : Nums (w.alloc o) base v l := World.ownsRow.alloc h o
theorem Nums.other {w : World} {base : Nat} {v : Value} {l : List Int} (h : Nums w base v l) {g : Nat} (hne : v.ownBlock ≠ some g) (i : Nat) (x : Value) : Nums (w.setCell ⟨g, i, none⟩ x) base v l :=
 h.kept fun k _ hk => Below.heap_setCell _ _ _ _ (fun e => hne (by rw [hk]; exact congrArg some e))
theorem Nums.others {w w' : World} {base b : Nat} {v : Value} {l : List Int} (h : Nums w base v l) (hk : Lib.OthersKept 5 (some b) w w') (hb : v.ownBlock ≠ some b) : Nums w' base v l :=
 h.kept fun g hg ho => by
  obtain ⟨c, fz, e1⟩ := Lib.ownsRow_kind h g ho
  rw [hk g _ e1 (fun e => hb (by rw [ho]; exact e)) (fun c fz e => by cases e), e1]
theorem Nums.form {w : World} {base : Nat} {v : Value} {l : List Int} (h : Nums w base v l) : (v = .slice none 0 0 ∧ l = []) ∨ ∃ g cap, v = .slice (some ⟨g, 0, none⟩) l.length cap ∧ l.length ≤ cap ∧ cap ≤ maxLen ∧ base ≤ g ∧ g < w.heap.size := by
 have hl := World.ownsRow.lt h
 rcases h.2 with ⟨rfl, h0⟩ | ⟨g, cap, cur, rfl, hg, _, hc, hm, _⟩
 ·exact .inl ⟨rfl, List.eq_nil_of_length_eq_zero h0⟩
 ·exact .inr ⟨g, cap, rfl, hc, hm, hg, (hl g rfl).2⟩
theorem Nums.shape {w : World} {base : Nat} {v : Value} {l : List Int} (h : Nums w base v l) : ∃ A c, v = .slice A l.length c ∧ l.length ≤ c ∧ c ≤ maxLen := by
 rcases h.form with ⟨rfl, rfl⟩ | ⟨g, c, rfl, h1, h2, _⟩
 ·exact ⟨_, _, rfl, by simp, by unfold maxLen; omega⟩
 ·exact ⟨_, _, rfl, h1, h2⟩
theorem Nums.len {w : World} {base n cap : Nat} {A : Option Addr} {l : List Int} (h : Nums w base (.slice A n cap) l) : n = l.length := by
 rcases h.form with ⟨e, e2⟩ | ⟨g', c', e, _⟩
 ·injection e with _ e1; rw [e1, e2]; rfl
 ·injection e
theorem Nums.cell {w : World} {base g cap n : Nat} {l : List Int} (h : Nums w base (.slice (some ⟨g, 0, none⟩) n cap) l) (j : Nat) (hj : j < l.length) : w.cell? ⟨g, j, none⟩ = some (.int .i64 (l.getD j 0)) := by
 have hn := h.len
 subst hn
 rw [World.ownsRow.cellAt h j (by omega)]
 simp [numCells, hj]
theorem Nums.block {w : World} {base n cap : Nat} {A : Option Addr} {l : List Int} (h : Nums w base (.slice A n cap) l) (hn : 0 < l.length) : ∃ g, A = some ⟨g, 0, none⟩ ∧ base ≤ g ∧ g < w.heap.size := by
 rcases h.form with ⟨e, e2⟩ | ⟨g', c', e, _, _, h3, h4⟩
 ·rw [e2] at hn; simp at hn
 ·injection e with e1; exact ⟨g', e1, h3, h4⟩
theorem Nums.lies {w : World} {base : Nat} {v : Value} {l : List Int} (h : Nums w base v l) : NumsV w w.heap.size v l := by
 rcases h.form with ⟨rfl, rfl⟩ | ⟨g, c, rfl, h1, h2, h3, h4⟩
 ·exact ⟨none, 0, rfl, Nat.zero_le _, by unfold maxLen; omega, fun j hj => by simp at hj⟩
 ·exact ⟨_, c, rfl, h1, h2, fun j hj => ⟨g, 0, rfl, h4, by rw [Nat.zero_add]; exact h.cell j hj⟩⟩
theorem NumsV.on {w w' : World} {B : Nat} {v : Value} {l : List Int} (h : NumsV w B v l) (hb : Below B w w') : NumsV w' B v l := by
 obtain ⟨A, cap, rfl, h1, h2, h3⟩ := h
 refine ⟨A, cap, rfl, h1, h2, fun j hj => ?_⟩
 obtain ⟨g, off, rfl, hg, hc⟩ := h3 j hj
 exact ⟨g, off, rfl, hg, by rw [hb.cell (p := ⟨_, _, none⟩) hg]; exact hc⟩
theorem NumsV.mono {w : World} {B C : Nat} {v : Value} {l : List Int} (h : NumsV w B v l) (hB : B ≤ C) : NumsV w C v l := by
 obtain ⟨A, cap, rfl, h1, h2, h3⟩ := h
 refine ⟨A, cap, rfl, h1, h2, fun j hj => ?_⟩
 obtain ⟨g, off, rfl, hg, hc⟩ := h3 j hj
 exact ⟨g, off, rfl, Nat.lt_of_lt_of_le hg hB, hc⟩
theorem NumsV.heap {w w' : World} {B : Nat} {v : Value} {l : List Int} (h : NumsV w B v l) (hh : w'.heap = w.heap) : NumsV w' B v l := by
 obtain ⟨A, cap, rfl, h1, h2, h3⟩ := h
 refine ⟨A, cap, rfl, h1, h2, fun j hj => ?_⟩
 obtain ⟨g, off, rfl, hg, hc⟩ := h3 j hj
 exact ⟨g, off, rfl, hg, by unfold World.cell? at *; rw [hh]; exact hc⟩
theorem getD_set_ne (l : List Int) (j k : Nat) (x : Int) (h : j ≠ k) : (l.set j x).getD k 0 = l.getD k 0 := by simp [List.getD, List.getElem?_set_ne h]
end Go.Proofs.YtgillglkmnocaaaDoor
