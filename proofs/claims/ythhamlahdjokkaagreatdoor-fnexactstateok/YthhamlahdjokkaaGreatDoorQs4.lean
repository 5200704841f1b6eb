/- BkMath FlMath EgMath EgDef StMath StrAid SrArg SrLaw EgRow FlAid -/
import Derived.Test.YthhamlahdjokkaaGreatDoorQs0
import Derived.Test.YthhamlahdjokkaaGreatDoorQs3
import Derived.Test.YthhamlahdjokkaaGreatDoorQs1
import Derived.Test.YthhamlahdjokkaaGreatDoorQs2
import Derived.WalkKit
import Derived.ProofKit
import Derived.Laws.OwnMore
import Derived.Below
import Derived.OwnWalk
import Derived.WalkSmall
import Derived.Test.YthhamlahdjokkaaGreatDoorRows
import Derived.OpenShut
import Derived.BigQuiet
import Derived.Deep.QuietTactic
import Derived.Deep.RegionWith
import Derived.Handy
namespace Go.Proofs.YthhamlahdjokkaaGreatDoor
open Go.RowKit Go.PlainAid
def ts (l : List Pnt) : List Int := l.map fun p => p.t
def vs (l : List Pnt) : List Int := l.map fun p => p.v
theorem ts_length (l : List Pnt) : (ts l).length = l.length := by simp [ts]
theorem vs_length (l : List Pnt) : (vs l).length = l.length := by simp [vs]
theorem ts_get (l : List Pnt) (j : Nat) (h : j < l.length) : (ts l).getD j 0 = tAt l j := by
 rw [tAt, ← getD_at l j h]
 simp [ts, List.getD, h]
theorem vs_get (l : List Pnt) (j : Nat) (h : j < l.length) : (vs l).getD j 0 = vAt l j := by
 rw [vAt, ← getD_at l j h]
 simp [vs, List.getD, h]
theorem rows_of_ok {l : List Pnt} (h : POk l) (h1 : 1 ≤ l.length) : TOk (ts l) ∧ VOk (vs l) := by
 refine ⟨⟨by rw [ts_length]; exact h1, by rw [ts_length]; exact h.1, fun j hj => ?_⟩, by rw [vs_length]; exact h1, by rw [vs_length]; exact h.1, fun j hj => ?_⟩
 ·rw [ts_length] at hj
  rw [ts_get l j hj]
  refine ⟨(h.2 j hj).1.1, fun h0 => ?_⟩
  rw [ts_get l (j - 1) (by omega)]
  exact (h.2 j hj).2 h0
 ·rw [vs_length] at hj
  rw [vs_get l j hj]
  exact (h.2 j hj).1.2
theorem ok_of_rows {l : List Pnt} (h : TOk (ts l)) (h' : VOk (vs l)) : POk l := by
 refine ⟨by have := h.2.1; rwa [ts_length] at this, fun j hj => ?_⟩
 have h1 := h.2.2 j (by rw [ts_length]; exact hj)
 have h2 := h'.2.2 j (by rw [vs_length]; exact hj)
 rw [ts_get l j hj] at h1
 rw [vs_get l j hj] at h2
 refine ⟨⟨h1.1, h2⟩, fun h0 => ?_⟩
 have := h1.2 h0
 rwa [ts_get l (j - 1) (by omega)] at this
def zipP (t v : List Int) : List Pnt := List.zipWith Pnt.mk t v
theorem zipP_length (t v : List Int) : (zipP t v).length = min t.length v.length := by simp [zipP]
theorem zipP_rows : ∀ l : List Pnt, zipP (ts l) (vs l) = l
 | [] => rfl
 | p :: l => by
  have := zipP_rows l
  simp only [zipP, ts, vs, List.map_cons, List.zipWith_cons_cons] at this ⊢
  rw [this]
theorem ts_zip : ∀ (t v : List Int), t.length = v.length → ts (zipP t v) = t ∧ vs (zipP t v) = v
 | [], [], _ => ⟨rfl, rfl⟩
 | [], _ :: _, h => by simp at h
 | _ :: _, [], h => by simp at h
 | x :: t, y :: v, h => by
  have ih := ts_zip t v (by simpa using h)
  simp only [zipP, ts, vs, List.zipWith_cons_cons, List.map_cons] at ih ⊢
  rw [ih.1, ih.2]
  exact ⟨rfl, rfl⟩
theorem zipP_get (t v : List Int) (k : Nat) (h1 : k < t.length) (h2 : k < v.length) : (zipP t v).take (k + 1) = (zipP t v).take k ++ [⟨t.getD k 0, v.getD k 0⟩] := by
 have hk : k < (zipP t v).length := by rw [zipP_length]; omega
 rw [List.take_succ_eq_append_getElem hk]
 congr 2
 simp [zipP, List.getD, h1, h2]
def bodyB (l : List Pnt) : List UInt8 := vF 6 l.length ++ (cat (tPiece (ts l)) l.length ++ cat (vPiece (vs l)) l.length)
def showB (l : List Pnt) : ByteArray := if 1 ≤ l.length ∧ POk l then frame (txt (vF 6 l.length) ++ showT (ts l) ++ showV (vs l)) else txt []
theorem body_is {l : List Pnt} (h : POk l) (h1 : 1 ≤ l.length) : txt (vF 6 l.length) ++ showT (ts l) ++ showV (vs l) = txt (bodyB l) := by
 obtain ⟨ht, hv⟩ := rows_of_ok h h1
 unfold showT showV bodyB
 rw [if_pos ht, if_pos hv, ts_length, vs_length, txt_cat, txt_cat, List.append_assoc]
theorem bodyB_size {l : List Pnt} (h : POk l) : 1 ≤ (bodyB l).length ∧ (bodyB l).length ≤ 847 := by
 have h1 := vF_pos 6 l.length
 have h2 := vF_length 6 l.length
 have h3 := cat_length (tPiece (ts l)) (tPiece_length (ts l)) l.length
 have h4 := cat_length (vPiece (vs l)) (vPiece_length (vs l)) l.length
 have := h.1
 unfold bodyB
 simp only [List.length_append]
 omega
def Good (s : ByteArray) (l : List Pnt) : Prop := 1 ≤ l.length ∧ POk l ∧ showB l = s
theorem Good.frame {s : ByteArray} {l : List Pnt} (h : Good s l) : s = frameOf (txt (bodyB l)) := by
 obtain ⟨h1, h2, rfl⟩ := h
 have hb := bodyB_size h2
 rw [showB, if_pos ⟨h1, h2⟩, body_is h2 h1, Go.Proofs.YthhamlahdjokkaaGreatDoor.frame, if_neg (by rw [txt_size]; omega)]
theorem Good.read {s : ByteArray} {l : List Pnt} (h : Good s l) : code s = 0 ∧ 8 + rdv s 4 = s.size ∧ bodyOf s = txt (bodyB l) := by
 have hf := h.frame
 have hb := bodyB_size h.2.1
 have e : s = frameOf (txt (bodyB l)) ++ ByteArray.empty := by rw [ByteArray.append_empty]; exact hf
 have hz : (txt (bodyB l)).size ≤ 2000 := by rw [txt_size]; omega
 refine ⟨by rw [e]; exact code_frameOf _ _ (by rw [txt_size]; omega) hz, ?_, by rw [e]; exact bodyOf_frameOf _ _ hz⟩
 have h4 : rdv s 4 = (txt (bodyB l)).size := by rw [e]; exact rdv_frameOf _ _ hz
 rw [h4, hf, frameOf_size]
def RdV (s : ByteArray) (n : Int) (k : Nat) : Prop := (FindV s k ∧ n = (vvS s 0 k : Int)) ∨ ((∀ j, ¬ FindV s j) ∧ n = 0 ∧ k = 0)
theorem ReadV.rd {s : ByteArray} {e : Ending} (h : ReadV s e) : ∃ n k, RdV s n k ∧ e = .returned (.tuple #[.int .i64 n, .int .i64 (k : Int)]) := by
 rcases h with ⟨k, h1, h2⟩ | ⟨h1, h2⟩
 ·exact ⟨_, k, .inl ⟨h1, rfl⟩, h2⟩
 ·exact ⟨0, 0, .inr ⟨h1, rfl, rfl⟩, h2⟩
theorem RdV.one {s : ByteArray} {n n' : Int} {k k' : Nat} (h : RdV s n k) (h' : RdV s n' k') : n = n' ∧ k = k' := by
 rcases h with ⟨h1, h2⟩ | ⟨h1, h2, h3⟩ <;> rcases h' with ⟨h1', h2'⟩ | ⟨h1', h2', h3'⟩
 ·obtain rfl := h1.one h1'
  exact ⟨h2.trans h2'.symm, rfl⟩
 ·exact absurd h1 (h1' k)
 ·exact absurd h1' (h1 k')
 ·exact ⟨h2.trans h2'.symm, h3.trans h3'.symm⟩
theorem RdV.le {s : ByteArray} {n : Int} {k : Nat} (h : RdV s n k) : k ≤ s.size ∧ k ≤ 7 ∧ 0 ≤ n := by
 rcases h with ⟨⟨_, h2, h3, _⟩, h4⟩ | ⟨_, h2, h3⟩
 ·exact ⟨h3, h2, by omega⟩
 ·omega
def bodyR (s : ByteArray) : ByteArray := if code s = 0 then bodyOf s else ⟨#[]⟩
theorem bodyR_size (s : ByteArray) : (bodyR s).size ≤ 2000 := by
 unfold bodyR
 split
 ·rename_i h
  obtain ⟨_, _, h2, h8, _⟩ := (code_zero s).1 h
  rw [bodyOf_size s h8]
  exact h2
 ·exact Nat.zero_le _
structure Steps (s : ByteArray) (n : Int) (k : Nat) (t : List Int) (a : Nat) (v : List Int) (b : Nat) : Prop where
 rn : RdV (bodyR s) n k
 rt : RdAns showT rowT ((bodyR s).extract k (bodyR s).size) n t a
 rv : RdAns showV rowV ((bodyR s).extract (k + a) (bodyR s).size) n v b
theorem Good.steps {s : ByteArray} {l : List Pnt} (h : Good s l) : Steps s (l.length : Int) (vF 6 l.length).length (ts l) (cat (tPiece (ts l)) l.length).length (vs l) (cat (vPiece (vs l)) l.length).length := by
 obtain ⟨hc, _, hb⟩ := h.read
 obtain ⟨ht, hv⟩ := rows_of_ok h.2.1 h.1
 have hB : bodyR s = txt (bodyB l) := by rw [bodyR, if_pos hc, hb]
 have hn : l.length ≤ 562949953421311 := by have := h.2.1.1; omega
 have hf := find_var l.length (cat (tPiece (ts l)) l.length ++ cat (vPiece (vs l)) l.length) hn
 refine ⟨?_, ?_, ?_⟩
 ·rw [hB]
  exact .inl ⟨hf.1, by unfold bodyB; rw [hf.2]⟩
 ·rw [hB, bodyB, extract_back]
  have := readT_back (ts l) ht (cat (vPiece (vs l)) l.length)
  rw [ts_length] at this
  exact this
 ·rw [hB]
  have e : bodyB l = (vF 6 l.length ++ cat (tPiece (ts l)) l.length) ++ cat (vPiece (vs l)) l.length := by rw [bodyB, List.append_assoc]
  have := readV_back (vs l) hv []
  rw [vs_length, List.append_nil] at this
  rw [e, ← List.length_append, extract_back]
  exact this
theorem Steps.one {s : ByteArray} {n n' : Int} {k k' a a' b b' : Nat} {t t' v v' : List Int} (h : Steps s n k t a v b) (h' : Steps s n' k' t' a' v' b') : n = n' ∧ k = k' ∧ t = t' ∧ a = a' ∧ v = v' ∧ b = b' := by
 obtain ⟨rfl, rfl⟩ := h.rn.one h'.rn
 obtain ⟨rfl, rfl⟩ := h.rt.one h'.rt
 obtain ⟨rfl, rfl⟩ := h.rv.one h'.rv
 exact ⟨rfl, rfl, rfl, rfl, rfl, rfl⟩
theorem Steps.good {s : ByteArray} {n : Int} {k a b : Nat} {t v : List Int} (h : Steps s n k t a v b) {l : List Pnt} (hg : Good s l) : zipP t v = l ∧ n = (l.length : Int) ∧ t = ts l ∧ v = vs l ∧ 1 ≤ k ∧ 1 ≤ a ∧ 1 ≤ b ∧ k + a + b = (bodyR s).size := by
 obtain ⟨rfl, rfl, rfl, rfl, rfl, rfl⟩ := h.one hg.steps
 obtain ⟨hc, _, hb⟩ := hg.read
 have hB : bodyR s = txt (bodyB l) := by rw [bodyR, if_pos hc, hb]
 refine ⟨zipP_rows l, rfl, rfl, rfl, vF_pos _ _, cat_pos _ _ hg.1 (vF_pos _ _), cat_pos _ _ hg.1 (vF_pos _ _), ?_⟩
 rw [hB, txt_size, bodyB]
 simp only [List.length_append]
 omega
theorem Good.one {s : ByteArray} {l m : List Pnt} (h : Good s l) (h' : Good s m) : l = m := by
 have := (h.steps.good h').1
 rw [zipP_rows] at this
 exact this
theorem RdAns.pos {shw : List Int → ByteArray} {row : List Int → List Int} {s : ByteArray} {n : Int} {l : List Int} {k : Nat} (hrow : ∀ v, (row v).length = v.length) (h : RdAns shw row s n l k) (hk : k ≠ 0) : n = (l.length : Int) ∧ 1 ≤ l.length ∧ l.length ≤ 60 ∧ shw l = s.extract 0 k ∧ k ≤ s.size := by
 rcases h with ⟨m, v, h1, h2, h3, h4, h5, h6⟩ | ⟨_, _, h0⟩
 ·have hl : l.length = m := by rw [h6, hrow, h4.length]
  exact ⟨by rw [hl]; exact h1, by omega, by omega, by rw [h6]; exact h5, h4.le.2⟩
 ·exact absurd h0 hk
theorem okT_of_show {l : List Int} {s : ByteArray} {k : Nat} (h : showT l = s.extract 0 k) (hk : k ≠ 0) (hs : k ≤ s.size) : TOk l := by
 by_cases ho : TOk l
 ·exact ho
 ·unfold showT at h
  rw [if_neg ho] at h
  exact absurd h (extract_ne s k (by omega) hs)
theorem okV_of_show {l : List Int} {s : ByteArray} {k : Nat} (h : showV l = s.extract 0 k) (hk : k ≠ 0) (hs : k ≤ s.size) : VOk l := by
 by_cases ho : VOk l
 ·exact ho
 ·unfold showV at h
  rw [if_neg ho] at h
  exact absurd h (extract_ne s k (by omega) hs)
theorem Steps.back {s : ByteArray} {n : Int} {k a b : Nat} {t v : List Int} (h : Steps s n k t a v b) (hc : code s = 0) (h8 : 8 + rdv s 4 = s.size) (hk : k ≠ 0) (ha : a ≠ 0) (hb : b ≠ 0) (hs : k + a + b = (bodyR s).size) : Good s (zipP t v) ∧ t.length = v.length ∧ n = (t.length : Int) := by
 obtain ⟨ht1, ht2, ht3, ht4, ht5⟩ := h.rt.pos rowT_length ha
 obtain ⟨hv1, hv2, hv3, hv4, hv5⟩ := h.rv.pos rowV_length hb
 have hlen : t.length = v.length := by omega
 have hT := okT_of_show ht4 ha ht5
 have hV := okV_of_show hv4 hb hv5
 obtain ⟨e1, e2⟩ := ts_zip t v hlen
 have hzl : (zipP t v).length = t.length := by rw [zipP_length]; omega
 have hP : POk (zipP t v) := ok_of_rows (by rw [e1]; exact hT) (by rw [e2]; exact hV)
 have hfv : FindV (bodyR s) k ∧ n = (vvS (bodyR s) 0 k : Int) := by
  rcases h.rn with h | ⟨_, _, h0⟩
  ·exact h
  ·exact absurd h0 hk
 obtain ⟨⟨c1, c2, c3, c4⟩, hn⟩ := hfv
 have hvar : txt (vF 6 (zipP t v).length) = (bodyR s).extract 0 k := by
  have hh := (var_eq (bodyR s) k c1 c2 c3).2 c4
  have hm : vvS (bodyR s) 0 k = (zipP t v).length := by omega
  rw [hm] at hh
  by_cases e : txt (vF 6 (zipP t v).length) = (bodyR s).extract 0 k
  ·exact e
  ·rw [bytes_ne e] at hh
   cases hh
 have hbody : txt (vF 6 (zipP t v).length) ++ showT (ts (zipP t v)) ++ showV (vs (zipP t v)) = bodyR s := by
  rw [e1, e2, hvar, ht4, hv4, ByteArray.extract_extract, ByteArray.extract_extract, Nat.add_zero, Nat.add_zero, Nat.min_eq_left (by omega), Nat.min_eq_left (by omega), ByteArray.extract_append_extract, show min 0 k = 0 by omega, show max k (k + a) = k + a by omega, ByteArray.extract_append_extract, show min 0 (k + a) = 0 by omega, show max (k + a) (k + a + b) = k + a + b by omega, hs, ByteArray.extract_zero_size]
 refine ⟨⟨by omega, hP, ?_⟩, hlen, ht1⟩
 rw [showB, if_pos ⟨by omega, hP⟩, hbody, bodyR, if_pos hc]
 obtain ⟨g4, g1, g2, g8, gs⟩ := (code_zero s).1 hc
 rw [(frame_fits s g4 g1 g2 g8).2 gs, h8, ByteArray.extract_zero_size]
theorem Steps.empty {n : Int} {k a b : Nat} {t v : List Int} (h : Steps (txt []) n k t a v b) : t = [] := by
 have hc : ¬ code (txt []) = 0 := fun hc => by
  obtain ⟨h4, _⟩ := (code_zero _).1 hc
  rw [txt_size] at h4
  simp at h4
 have hB : bodyR (txt []) = ⟨#[]⟩ := by rw [bodyR, if_neg hc]
 have hz : n = 0 := by
  rcases h.rn with ⟨⟨h1, _, h3, _⟩, _⟩ | ⟨_, h0, _⟩
  ·rw [hB] at h3
   have : (ByteArray.mk #[]).size = 0 := rfl
   omega
  ·exact h0
 rcases h.rt with ⟨m, v, h1, h2, _⟩ | ⟨_, h0, _⟩
 ·omega
 ·exact h0
theorem Steps.shown {s : ByteArray} {n : Int} {k a b : Nat} {t v : List Int} (h : Steps s n k t a v b) (h1 : 1 ≤ (zipP t v).length) (hs : showB (zipP t v) = s) : Good s (zipP t v) := by
 by_cases hp : POk (zipP t v)
 ·exact ⟨h1, hp, hs⟩
 ·exfalso
  rw [showB, if_neg (fun hh => hp hh.2)] at hs
  subst hs
  rw [h.empty] at h1
  simp [zipP] at h1
def RbAns (s : ByteArray) (l : List Pnt) (ok : Bool) : Prop := (ok = true ∧ Good s l) ∨ (ok = false ∧ l = [] ∧ ∀ m, ¬ Good s m)
theorem RbAns.one {s : ByteArray} {l m : List Pnt} {x y : Bool} (h : RbAns s l x) (h' : RbAns s m y) : l = m ∧ x = y := by
 rcases h with ⟨h1, h2⟩ | ⟨h1, h2, h3⟩ <;> rcases h' with ⟨h1', h2'⟩ | ⟨h1', h2', h3'⟩
 ·exact ⟨h2.one h2', h1.trans h1'.symm⟩
 ·exact absurd h2 (h3' l)
 ·exact absurd h2' (h3 m)
 ·exact ⟨h2.trans h2'.symm, h1.trans h1'.symm⟩
theorem RbAns.len {s : ByteArray} {l : List Pnt} {x : Bool} (h : RbAns s l x) : l.length ≤ 60 := by
 rcases h with ⟨_, h2⟩ | ⟨_, h2, _⟩
 ·exact h2.2.1.1
 ·rw [h2]; simp
theorem showB_size (l : List Pnt) : (showB l).size ≤ 900 := by
 unfold showB
 split
 ·rename_i h
  have hb := bodyB_size h.2
  rw [body_is h.2 h.1, frame, if_neg (by rw [txt_size]; omega), frameOf_size, txt_size]
  omega
 ·rw [txt_size]; simp
end Go.Proofs.YthhamlahdjokkaaGreatDoor
namespace Go.Proofs.YthhamlahdjokkaaGreatDoor
open Go.RowKit Go.PlainAid
def bl (s : ByteArray) : List UInt8 := s.data.toList
theorem txt_bl (s : ByteArray) : txt (bl s) = s := txt_toList s
theorem bl_length (s : ByteArray) : (bl s).length = s.size := by rw [← txt_size, txt_bl]
def magic : List UInt8 := [116, 115, 98, 49]
def blkB (l : List Ser) (j : Nat) : List UInt8 := bl (showB (sAt l j).pts)
def blks (l : List Ser) (k : Nat) : List UInt8 := cat (blkB l) k
def atB (l : List Ser) (k : Nat) : Nat := 4 + (blks l k).length
def fT (l : List Ser) (j : Nat) : Nat := (tAt (sAt l j).pts 0).toNat
def lT (l : List Ser) (j : Nat) : Nat := (tAt (sAt l j).pts ((sAt l j).pts.length - 1)).toNat
def spB (l : List Ser) (j : Nat) : List UInt8 := vF 6 (sAt l j).key.size ++ (bl (sAt l j).key ++ (vF 6 (atB l j) ++ (vF 6 (blkB l j).length ++ (vF 6 (fT l j) ++ vF 6 (lT l j)))))
def idxB (l : List Ser) (k : Nat) : List UInt8 := cat (spB l) k
def bodyF (l : List Ser) : List UInt8 := magic ++ (blks l l.length ++ (idxB l l.length ++ low (atB l l.length) 4))
def fileB (l : List Ser) : List UInt8 := bodyF l ++ low (crc (txt (bodyF l))) 4
def fileT (l : List Ser) : ByteArray := if 1 ≤ l.length ∧ SOk l then txt (fileB l) else txt []
def GoodF (s : ByteArray) (l : List Ser) : Prop := 1 ≤ l.length ∧ SOk l ∧ fileT l = s
theorem GoodF.text {s : ByteArray} {l : List Ser} (h : GoodF s l) : s = txt (fileB l) := by
 rw [← h.2.2, fileT, if_pos ⟨h.1, h.2.1⟩]
theorem blkB_length (l : List Ser) (j : Nat) : (blkB l j).length ≤ 900 := by unfold blkB; rw [bl_length]; exact showB_size _
theorem blks_length (l : List Ser) (k : Nat) : (blks l k).length ≤ 900 * k := by
 induction k with
 | zero => simp [blks, cat_zero]
 | succ k ih => unfold blks at ih ⊢; rw [cat_succ, List.length_append]; have := blkB_length l k; omega
theorem SOk.key {l : List Ser} (h : SOk l) (j : Nat) (hj : j < l.length) : 1 ≤ (sAt l j).key.size ∧ (sAt l j).key.size ≤ 8 := ⟨(h.2 j hj).1.1.1, (h.2 j hj).1.1.2.1⟩
theorem SOk.times {l : List Ser} (h : SOk l) (j : Nat) (hj : j < l.length) : (0 ≤ tAt (sAt l j).pts 0 ∧ tAt (sAt l j).pts 0 ≤ 1099511627776) ∧ (0 ≤ tAt (sAt l j).pts ((sAt l j).pts.length - 1) ∧ tAt (sAt l j).pts ((sAt l j).pts.length - 1) ≤ 1099511627776) := by
 have h1 := (h.2 j hj).2
 exact ⟨(h1.2.2 0 (by omega)).1.1, (h1.2.2 _ (by omega)).1.1⟩
theorem spB_length {l : List Ser} (h : SOk l) (j : Nat) (hj : j < l.length) : 6 ≤ (spB l j).length ∧ (spB l j).length ≤ 43 := by
 have := h.key j hj
 unfold spB
 simp only [List.length_append, bl_length]
 have a1 := vF_pos 6 (sAt l j).key.size
 have a2 := vF_pos 6 (atB l j)
 have a3 := vF_pos 6 (blkB l j).length
 have a4 := vF_pos 6 (fT l j)
 have a5 := vF_pos 6 (lT l j)
 have b1 := vF_length 6 (sAt l j).key.size
 have b2 := vF_length 6 (atB l j)
 have b3 := vF_length 6 (blkB l j).length
 have b4 := vF_length 6 (fT l j)
 have b5 := vF_length 6 (lT l j)
 omega
theorem idxB_length {l : List Ser} (h : SOk l) (k : Nat) (hk : k ≤ l.length) : 6 * k ≤ (idxB l k).length ∧ (idxB l k).length ≤ 43 * k := by
 induction k with
 | zero => simp [idxB, cat_zero]
 | succ k ih =>
  have ih := ih (by omega)
  have := spB_length h k (by omega)
  unfold idxB at ih ⊢
  rw [cat_succ, List.length_append]
  omega
theorem atB_le {l : List Ser} (h : SOk l) (k : Nat) (hk : k ≤ l.length) : atB l k ≤ 4504 := by
 have := blks_length l k
 have := h.1
 unfold atB
 omega
theorem bodyF_length {l : List Ser} (h : SOk l) : (bodyF l).length = 8 + (blks l l.length).length + (idxB l l.length).length ∧ (bodyF l).length ≤ 5000 := by
 have h1 := blks_length l l.length
 have h2 := idxB_length h l.length (Nat.le_refl _)
 have := h.1
 unfold bodyF
 simp only [List.length_append, low_length]
 have : magic.length = 4 := rfl
 omega
theorem fileB_length (l : List Ser) : (fileB l).length = (bodyF l).length + 4 := by unfold fileB; rw [List.length_append, low_length]
theorem rdV_ex (s : ByteArray) : ∃ n k : Nat, RdV s (n : Int) k := by
 by_cases h : ∃ k, FindV s k
 ·obtain ⟨k, h⟩ := h
  exact ⟨vvS s 0 k, k, .inl ⟨h, rfl⟩⟩
 ·exact ⟨0, 0, .inr ⟨fun j hj => h ⟨j, hj⟩, rfl, rfl⟩⟩
noncomputable def rvN (s : ByteArray) : Nat := Classical.choose (rdV_ex s)
noncomputable def rvK (s : ByteArray) : Nat := Classical.choose (Classical.choose_spec (rdV_ex s))
theorem rv_rd (s : ByteArray) : RdV s (rvN s : Int) (rvK s) := Classical.choose_spec (Classical.choose_spec (rdV_ex s))
theorem rv_is {s : ByteArray} {n : Int} {k : Nat} (h : RdV s n k) : n = (rvN s : Int) ∧ k = rvK s := h.one (rv_rd s)
theorem rvN_le (s : ByteArray) : rvN s ≤ 562949953421311 := by
 rcases rv_rd s with ⟨⟨_, h7, _, _⟩, h⟩ | ⟨_, h, _⟩
 ·have := vvS_le s (rvK s) h7 0
  omega
 ·omega
theorem rvK_le (s : ByteArray) : rvK s ≤ s.size ∧ rvK s ≤ 7 := by
 have := (rv_rd s).le
 omega
theorem rv_var (n : Nat) (tl : List UInt8) (hn : n ≤ 562949953421311) : rvN (txt (vF 6 n ++ tl)) = n ∧ rvK (txt (vF 6 n ++ tl)) = (vF 6 n).length := by
 have hf := find_var n tl hn
 have := rv_is (s := txt (vF 6 n ++ tl)) (n := (n : Int)) (k := (vF 6 n).length) (.inl ⟨hf.1, by rw [hf.2]⟩)
 omega
theorem extract_mid (a b c : List UInt8) : (txt (a ++ (b ++ c))).extract a.length (a.length + b.length) = txt b := by
 have h1 := extract_back a (b ++ c)
 have h2 := extract_front b c
 rw [← h1, ByteArray.extract_extract] at h2
 rw [← h2]
 congr 1
 rw [txt_size]
 simp only [List.length_append]
 omega
theorem rest_mid (a b : List UInt8) : rest (txt (a ++ b)) a.length = txt b := extract_back a b
noncomputable def tkN (s : ByteArray) (p : Nat) : Nat := rvN (rest s p)
noncomputable def tkP (s : ByteArray) (p : Nat) : Nat := p + rvK (rest s p)
theorem tkP_le (s : ByteArray) (p : Nat) (h : p ≤ s.size) : tkP s p ≤ s.size := by
 have := (rvK_le (rest s p)).1
 rw [rest_size] at this
 unfold tkP
 omega
theorem tk_var (a : List UInt8) (n : Nat) (tl : List UInt8) (hn : n ≤ 562949953421311) : tkN (txt (a ++ (vF 6 n ++ tl))) a.length = n ∧ tkP (txt (a ++ (vF 6 n ++ tl))) a.length = (a ++ vF 6 n).length := by
 unfold tkN tkP
 rw [rest_mid, (rv_var n tl hn).1, (rv_var n tl hn).2, List.length_append]
 exact ⟨rfl, rfl⟩
structure Spot where
 key : ByteArray
 at' : Nat
 size : Nat
 first : Nat
 last : Nat
instance : Inhabited Spot := ⟨⟨⟨#[]⟩, 0, 0, 0, 0⟩⟩
def tk (s : ByteArray) (p many : Nat) : Nat := min (p + many) s.size
noncomputable def spK (s : ByteArray) (p : Nat) : Nat := tk s (tkP s p) (tkN s p)
noncomputable def spotA (s : ByteArray) (p : Nat) : Spot :=
 ⟨s.extract (tkP s p) (spK s p), tkN s (spK s p), tkN s (tkP s (spK s p)), tkN s (tkP s (tkP s (spK s p))), tkN s (tkP s (tkP s (tkP s (spK s p))))⟩
noncomputable def spotP (s : ByteArray) (p : Nat) : Nat := tkP s (tkP s (tkP s (tkP s (spK s p))))
theorem tk_le (s : ByteArray) (p many : Nat) : tk s p many ≤ s.size := Nat.min_le_right _ _
theorem spotP_le (s : ByteArray) (p : Nat) : spotP s p ≤ s.size := tkP_le _ _ (tkP_le _ _ (tkP_le _ _ (tkP_le _ _ (tk_le _ _ _))))
noncomputable def idxA (s : ByteArray) (e : Nat) : Nat → Nat → List Spot
 | 0, _ => []
 | f + 1, p => if p < e then spotA s p :: idxA s e f (spotP s p) else []
noncomputable def spots (s : ByteArray) : List Spot := if s.size < 8 then [] else idxA s (s.size - 8) 5 (min (rdv (rest s (s.size - 8)) 4) s.size)
theorem idxA_length (s : ByteArray) (e : Nat) : ∀ f p, (idxA s e f p).length ≤ f
 | 0, _ => by simp [idxA]
 | f + 1, p => by
  rw [idxA]
  split
  ·have := idxA_length s e f (spotP s p)
   simp only [List.length_cons]
   omega
  ·simp
theorem spots_length (s : ByteArray) : (spots s).length ≤ 5 := by
 unfold spots
 split
 ·simp
 ·exact idxA_length _ _ _ _
def blkA (s : ByteArray) (x : Spot) : ByteArray := s.extract (min x.at' s.size) (tk s (min x.at' s.size) x.size)
theorem rb_ex (s : ByteArray) : ∃ l ok, RbAns s l ok := by
 by_cases h : ∃ l, Good s l
 ·obtain ⟨l, h⟩ := h
  exact ⟨l, true, .inl ⟨rfl, h⟩⟩
 ·exact ⟨[], false, .inr ⟨rfl, rfl, fun m hm => h ⟨m, hm⟩⟩⟩
noncomputable def rbP (s : ByteArray) : List Pnt := Classical.choose (rb_ex s)
theorem rbP_is {s : ByteArray} {l : List Pnt} {ok : Bool} (h : RbAns s l ok) : l = rbP s := by
 obtain ⟨ok', h'⟩ := Classical.choose_spec (rb_ex s)
 exact (h.one h').1
theorem rbP_good {s : ByteArray} {l : List Pnt} (h : Good s l) : rbP s = l := (rbP_is (ok := true) (.inl ⟨rfl, h⟩)).symm
theorem rbP_length (s : ByteArray) : (rbP s).length ≤ 60 := by
 obtain ⟨ok, h⟩ := Classical.choose_spec (rb_ex s)
 exact h.len
noncomputable def serA (s : ByteArray) (x : Spot) : Ser := ⟨x.key, rbP (blkA s x)⟩
noncomputable def serAll (s : ByteArray) : List Ser := (spots s).map (serA s)
def spotOf (l : List Ser) (j : Nat) : Spot := ⟨(sAt l j).key, atB l j, (blkB l j).length, fT l j, lT l j⟩
def posF (l : List Ser) (j : Nat) : Nat := atB l l.length + (idxB l j).length
theorem file_at (l : List Ser) (j : Nat) (hj : j < l.length) : ∃ a b : List UInt8, fileB l = a ++ (spB l j ++ (b ++ (low (atB l l.length) 4 ++ low (crc (txt (bodyF l))) 4))) ∧ a.length = posF l j ∧ idxB l l.length = idxB l j ++ (spB l j ++ b) := by
 obtain ⟨b, hb⟩ := cat_split (spB l) j l.length hj
 refine ⟨magic ++ (blks l l.length ++ idxB l j), b, ?_, ?_, hb⟩
 ·unfold fileB bodyF
  rw [show idxB l l.length = cat (spB l) l.length from rfl, hb]
  simp only [List.append_assoc]
  rfl
 ·unfold posF atB
  simp only [List.length_append]
  have : magic.length = 4 := rfl
  omega
theorem posF_end {l : List Ser} (h : SOk l) : posF l l.length + 8 = (fileB l).length := by
 have := bodyF_length h
 rw [fileB_length, this.1]
 unfold posF atB
 omega
theorem posF_lt {l : List Ser} (h : SOk l) (j : Nat) (hj : j < l.length) : posF l j < posF l l.length := by
 obtain ⟨a, b, _, _, hb⟩ := file_at l j hj
 have := spB_length h j hj
 unfold posF
 rw [hb]
 simp only [List.length_append]
 omega
theorem posF_succ (l : List Ser) (j : Nat) : posF l (j + 1) = posF l j + (spB l j).length := by
 unfold posF idxB
 rw [cat_succ, List.length_append, Nat.add_assoc]
theorem nums_le {l : List Ser} (h : SOk l) (j : Nat) (hj : j < l.length) : (sAt l j).key.size ≤ 562949953421311 ∧ atB l j ≤ 562949953421311 ∧ (blkB l j).length ≤ 562949953421311 ∧ fT l j ≤ 562949953421311 ∧ lT l j ≤ 562949953421311 := by
 have h1 := h.key j hj
 have h2 := atB_le h j (by omega)
 have h3 := blkB_length l j
 have h4 := h.times j hj
 unfold fT lT
 omega
theorem spot_read {l : List Ser} (h : SOk l) (j : Nat) (hj : j < l.length) : spotA (txt (fileB l)) (posF l j) = spotOf l j ∧ spotP (txt (fileB l)) (posF l j) = posF l (j + 1) := by
 obtain ⟨a, b, hf, ha, _⟩ := file_at l j hj
 obtain ⟨n1, n2, n3, n4, n5⟩ := nums_le h j hj
 generalize hK : (sAt l j).key = K at *
 generalize hA : atB l j = A at *
 generalize hZ : (blkB l j).length = Z at *
 generalize hF : fT l j = F at *
 generalize hE : lT l j = E at *
 generalize b ++ (low (atB l l.length) 4 ++ low (crc (txt (bodyF l))) 4) = T at hf
 have hsp : spB l j = vF 6 K.size ++ (bl K ++ (vF 6 A ++ (vF 6 Z ++ (vF 6 F ++ vF 6 E)))) := by unfold spB; rw [hK, hA, hZ, hF, hE]
 have e0 : fileB l = a ++ (vF 6 K.size ++ (bl K ++ (vF 6 A ++ (vF 6 Z ++ (vF 6 F ++ (vF 6 E ++ T)))))) := by rw [hf, hsp]; simp only [List.append_assoc]
 have e1 : fileB l = (a ++ vF 6 K.size) ++ (bl K ++ (vF 6 A ++ (vF 6 Z ++ (vF 6 F ++ (vF 6 E ++ T))))) := by rw [e0]; simp only [List.append_assoc]
 have e2 : fileB l = (a ++ vF 6 K.size ++ bl K) ++ (vF 6 A ++ (vF 6 Z ++ (vF 6 F ++ (vF 6 E ++ T)))) := by rw [e0]; simp only [List.append_assoc]
 have e3 : fileB l = (a ++ vF 6 K.size ++ bl K ++ vF 6 A) ++ (vF 6 Z ++ (vF 6 F ++ (vF 6 E ++ T))) := by rw [e0]; simp only [List.append_assoc]
 have e4 : fileB l = (a ++ vF 6 K.size ++ bl K ++ vF 6 A ++ vF 6 Z) ++ (vF 6 F ++ (vF 6 E ++ T)) := by rw [e0]; simp only [List.append_assoc]
 have e5 : fileB l = (a ++ vF 6 K.size ++ bl K ++ vF 6 A ++ vF 6 Z ++ vF 6 F) ++ (vF 6 E ++ T) := by rw [e0]; simp only [List.append_assoc]
 have t1 := tk_var a K.size (bl K ++ (vF 6 A ++ (vF 6 Z ++ (vF 6 F ++ (vF 6 E ++ T))))) n1
 rw [← e0] at t1
 have k1 : spK (txt (fileB l)) a.length = (a ++ vF 6 K.size ++ bl K).length := by
  unfold spK tk
  rw [t1.1, t1.2, txt_size, e2]
  simp only [List.length_append, bl_length]
  omega
 have x1 := extract_mid (a ++ vF 6 K.size) (bl K) (vF 6 A ++ (vF 6 Z ++ (vF 6 F ++ (vF 6 E ++ T))))
 rw [← e1, ← List.length_append] at x1
 have t2 := tk_var (a ++ vF 6 K.size ++ bl K) A (vF 6 Z ++ (vF 6 F ++ (vF 6 E ++ T))) n2
 rw [← e2] at t2
 have t3 := tk_var (a ++ vF 6 K.size ++ bl K ++ vF 6 A) Z (vF 6 F ++ (vF 6 E ++ T)) n3
 rw [← e3] at t3
 have t4 := tk_var (a ++ vF 6 K.size ++ bl K ++ vF 6 A ++ vF 6 Z) F (vF 6 E ++ T) n4
 rw [← e4] at t4
 have t5 := tk_var (a ++ vF 6 K.size ++ bl K ++ vF 6 A ++ vF 6 Z ++ vF 6 F) E T n5
 rw [← e5] at t5
 rw [posF_succ, ← ha]
 unfold spotA spotP
 rw [k1, t1.2, t2.1, t2.2, t3.1, t3.2, t4.1, t4.2, t5.1, t5.2, x1]
 refine ⟨?_, ?_⟩
 ·unfold spotOf
  rw [hK, hA, hZ, hF, hE, txt_bl]
 ·rw [hsp]
  simp only [List.length_append]
  omega
theorem idx_read {l : List Ser} (h : SOk l) (d : Nat) : ∀ j f, j + d = l.length → d ≤ f → idxA (txt (fileB l)) (posF l l.length) f (posF l j) = (List.range d).map fun i => spotOf l (j + i) := by
 induction d with
 | zero =>
  intro j f hj _
  obtain rfl : j = l.length := by omega
  cases f with
  | zero => rfl
  | succ f => rw [idxA, if_neg (by omega)]; rfl
 | succ d ih =>
  intro j f hj hf
  match f, hf with
  | f + 1, hf =>
   rw [idxA, if_pos (posF_lt h j (by omega)), (spot_read h j (by omega)).1, (spot_read h j (by omega)).2, ih (j + 1) f (by omega) (by omega), List.range_succ_eq_map, List.map_cons, List.map_map, Nat.add_zero]
   congr 1
   apply List.map_congr_left
   intro i _
   show spotOf l (j + 1 + i) = spotOf l (j + (i + 1))
   congr 1
   omega
theorem begin_read {l : List Ser} (h : SOk l) : rdv (rest (txt (fileB l)) ((txt (fileB l)).size - 8)) 4 = atB l l.length ∧ 12 ≤ (txt (fileB l)).size := by
 have hb := atB_le h l.length (Nat.le_refl _)
 have hl := bodyF_length h
 have e : fileB l = (magic ++ (blks l l.length ++ idxB l l.length)) ++ (low (atB l l.length) 4 ++ low (crc (txt (bodyF l))) 4) := by
  unfold fileB
  conv => lhs; arg 1; unfold bodyF
  simp only [List.append_assoc]
 have hz : (txt (fileB l)).size - 8 = (magic ++ (blks l l.length ++ idxB l l.length)).length := by
  rw [txt_size, fileB_length, hl.1]
  simp only [List.length_append]
  have : magic.length = 4 := rfl
  omega
 refine ⟨?_, by rw [txt_size, fileB_length, hl.1]; omega⟩
 rw [hz]
 conv => lhs; arg 1; rw [e]
 rw [rest_mid, ← txt_cat, rdv_append _ _ _ (by rw [txt_size, low_length]; exact Nat.le_refl _)]
 exact rdv_four_four _ (by omega)
theorem spots_read {l : List Ser} (h : SOk l) : spots (txt (fileB l)) = (List.range l.length).map (spotOf l) := by
 obtain ⟨h1, h2⟩ := begin_read h
 have hp := posF_end h
 have hb := atB_le h l.length (Nat.le_refl _)
 have h5 := h.1
 have hl := bodyF_length h
 have e0 : min (atB l l.length) (txt (fileB l)).size = posF l 0 := by
  rw [txt_size, fileB_length, hl.1]
  unfold posF idxB
  rw [cat_zero]
  unfold atB
  simp only [List.length_nil]
  omega
 have ee : (txt (fileB l)).size - 8 = posF l l.length := by rw [txt_size]; omega
 unfold spots
 rw [if_neg (by omega), h1, e0, ee, idx_read h l.length 0 5 (by omega) h5]
 simp only [Nat.zero_add]
theorem blk_read {l : List Ser} (j : Nat) (hj : j < l.length) : blkA (txt (fileB l)) (spotOf l j) = showB (sAt l j).pts := by
 obtain ⟨c, hc⟩ := cat_split (blkB l) j l.length hj
 have e : ∃ T, fileB l = (magic ++ blks l j) ++ (blkB l j ++ T) := by
  refine ⟨c ++ (idxB l l.length ++ low (atB l l.length) 4) ++ low (crc (txt (bodyF l))) 4, ?_⟩
  unfold fileB
  conv => lhs; arg 1; unfold bodyF
  rw [show blks l l.length = cat (blkB l) l.length from rfl, hc]
  simp only [List.append_assoc]
  rfl
 obtain ⟨T, e⟩ := e
 have ha : atB l j = (magic ++ blks l j).length := by
  unfold atB
  rw [List.length_append]
  rfl
 have hm := extract_mid (magic ++ blks l j) (blkB l j) T
 unfold blkA spotOf tk
 simp only
 rw [txt_size, ha, e]
 rw [show min (magic ++ blks l j).length ((magic ++ blks l j) ++ (blkB l j ++ T)).length = (magic ++ blks l j).length by simp only [List.length_append]; omega,
  show min ((magic ++ blks l j).length + (blkB l j).length) ((magic ++ blks l j) ++ (blkB l j ++ T)).length = (magic ++ blks l j).length + (blkB l j).length by simp only [List.length_append]; omega, hm]
 exact txt_bl _
theorem ser_read {l : List Ser} (h : SOk l) (j : Nat) (hj : j < l.length) : serA (txt (fileB l)) (spotOf l j) = sAt l j := by
 have hg : Good (showB (sAt l j).pts) (sAt l j).pts := ⟨(h.2 j hj).2.1, (h.2 j hj).2.2, rfl⟩
 unfold serA
 rw [blk_read j hj, rbP_good hg]
 rfl
theorem range_at (l : List Ser) : (List.range l.length).map (sAt l) = l := by
 apply List.ext_getElem (by simp)
 intro j h1 h2
 rw [List.getElem_map, List.getElem_range, sAt, ← getD_at l j h2]
theorem GoodF.read {s : ByteArray} {l : List Ser} (h : GoodF s l) : serAll s = l ∧ spots s = (List.range l.length).map (spotOf l) := by
 rw [h.text]
 refine ⟨?_, spots_read h.2.1⟩
 unfold serAll
 rw [spots_read h.2.1, List.map_map]
 conv => rhs; rw [← range_at l]
 apply List.map_congr_left
 intro j hj
 exact ser_read h.2.1 j (List.mem_range.1 hj)
theorem GoodF.one {s : ByteArray} {l m : List Ser} (h : GoodF s l) (h' : GoodF s m) : l = m := h.read.1.symm.trans h'.read.1
theorem GoodF.of {s : ByteArray} {l : List Ser} (h1 : 1 ≤ l.length) (h8 : 8 ≤ s.size) (hs : fileT l = s) : GoodF s l := by
 refine ⟨h1, ?_, hs⟩
 by_cases h : SOk l
 ·exact h
 ·rw [fileT, if_neg (fun hh => h hh.2)] at hs
  rw [← hs, txt_size] at h8
  simp at h8
def RfAns (s : ByteArray) (l : List Ser) (ok : Bool) : Prop := (ok = true ∧ GoodF s l) ∨ (ok = false ∧ l = [] ∧ ∀ m, ¬ GoodF s m)
theorem RfAns.one {s : ByteArray} {l m : List Ser} {x y : Bool} (h : RfAns s l x) (h' : RfAns s m y) : l = m ∧ x = y := by
 rcases h with ⟨h1, h2⟩ | ⟨h1, h2, h3⟩ <;> rcases h' with ⟨h1', h2'⟩ | ⟨h1', h2', h3'⟩
 ·exact ⟨h2.one h2', h1.trans h1'.symm⟩
 ·exact absurd h2 (h3' l)
 ·exact absurd h2' (h3 m)
 ·exact ⟨h2.trans h2'.symm, h1.trans h1'.symm⟩
theorem RfAns.len {s : ByteArray} {l : List Ser} {x : Bool} (h : RfAns s l x) : l.length ≤ 5 := by
 rcases h with ⟨_, h2⟩ | ⟨_, h2, _⟩
 ·exact h2.2.1.1
 ·rw [h2]; simp
theorem RfAns.short {s : ByteArray} {l : List Ser} {x : Bool} (h : RfAns s l x) : ∀ y ∈ l, y.pts.length ≤ 60 := by
 rcases h with ⟨_, h2⟩ | ⟨_, h2, _⟩
 ·intro y hy
  obtain ⟨j, hj, rfl⟩ := List.getElem_of_mem hy
  have := (h2.2.1.2 j hj).2.2.1
  rwa [sAt, ← getD_at l j hj] at this
 ·rw [h2]
  intro y hy
  cases hy
end Go.Proofs.YthhamlahdjokkaaGreatDoor
namespace Go.Proofs.YthhamlahdjokkaaGreatDoor
open Go.RowKit Go.PlainAid
def RiseK (l : List ByteArray) : Prop := l.Pairwise fun a b => ahd a b = true
theorem ahd_ne {a b : ByteArray} (h : ahd a b = true) : a ≠ b := fun e => by rw [e, ahd_irrefl] at h; cases h
theorem ahd_tri {a b : ByteArray} (h : ahd a b = false) (hne : a ≠ b) : ahd b a = true := by
 rcases ahd_no h with h | h
 ·exact h
 ·exact absurd h.symm hne
theorem riseK_ext : ∀ {l m : List ByteArray}, RiseK l → RiseK m → (∀ p, p ∈ l ↔ p ∈ m) → l = m
 | [], [], _, _, _ => rfl
 | [], y :: m, _, _, h => by have := (h y).2 (by simp); simp at this
 | x :: l, [], _, _, h => by have := (h x).1 (by simp); simp at this
 | x :: l, y :: m, hl, hm, h => by
  have hl' := List.pairwise_cons.1 hl
  have hm' := List.pairwise_cons.1 hm
  have hxy : x = y := by
   rcases List.mem_cons.1 ((h x).1 (by simp)) with e | h1
   ·exact e
   ·rcases List.mem_cons.1 ((h y).2 (by simp)) with e | h2
    ·exact e.symm
    ·exact absurd rfl (ahd_ne (ahd_trans (hm'.1 x h1) (hl'.1 y h2)))
  subst hxy
  congr 1
  refine riseK_ext hl'.2 hm'.2 fun p => ⟨fun hp => ?_, fun hp => ?_⟩
  ·rcases List.mem_cons.1 ((h p).1 (by simp [hp])) with e | h1
   ·subst e; exact absurd rfl (ahd_ne (hl'.1 p hp))
   ·exact h1
  ·rcases List.mem_cons.1 ((h p).2 (by simp [hp])) with e | h1
   ·subst e; exact absurd rfl (ahd_ne (hm'.1 p hp))
   ·exact h1
open Classical in
noncomputable def insK : List ByteArray → ByteArray → List ByteArray
 | [], k => [k]
 | x :: l, k => if x = k then x :: l else if ahd k x = true then k :: x :: l else x :: insK l k
theorem mem_insK (p k : ByteArray) : ∀ l, p ∈ insK l k ↔ p = k ∨ p ∈ l
 | [] => by simp [insK]
 | x :: l => by
  by_cases h : x = k
  ·rw [insK, if_pos h, List.mem_cons, h]
   constructor
   ·intro h; exact .inr h
   ·rintro (h | h)
    ·exact .inl h
    ·exact h
  ·by_cases h2 : ahd k x = true
   ·rw [insK, if_neg h, if_pos h2, List.mem_cons]
   ·rw [insK, if_neg h, if_neg h2, List.mem_cons, mem_insK p k l, List.mem_cons]
    constructor
    ·rintro (h | h | h)
     ·exact .inr (.inl h)
     ·exact .inl h
     ·exact .inr (.inr h)
    ·rintro (h | h | h)
     ·exact .inr (.inl h)
     ·exact .inl h
     ·exact .inr (.inr h)
theorem rise_insK (k : ByteArray) : ∀ l, RiseK l → RiseK (insK l k)
 | [], _ => by simp [insK, RiseK]
 | x :: l, hl => by
  have hl' := List.pairwise_cons.1 hl
  by_cases h : x = k
  ·rw [insK, if_pos h]; exact hl
  ·by_cases h2 : ahd k x = true
   ·rw [insK, if_neg h, if_pos h2]
    refine List.pairwise_cons.2 ⟨fun y hy => ?_, hl⟩
    rcases List.mem_cons.1 hy with e | hy
    ·rw [e]; exact h2
    ·exact ahd_trans h2 (hl'.1 y hy)
   ·rw [insK, if_neg h, if_neg h2]
    refine List.pairwise_cons.2 ⟨fun y hy => ?_, rise_insK k l hl'.2⟩
    rcases (mem_insK y k l).1 hy with e | hy
    ·rw [e]; exact ahd_tri (by simpa using h2) (fun e => h e.symm)
    ·exact hl'.1 y hy
noncomputable def allK (ks : List ByteArray) : List ByteArray := ks.foldl insK []
theorem mem_foldK (p : ByteArray) : ∀ (ks a : List ByteArray), p ∈ ks.foldl insK a ↔ p ∈ a ∨ p ∈ ks
 | [], a => by simp
 | k :: ks, a => by
  rw [List.foldl_cons, mem_foldK p ks, mem_insK, List.mem_cons]
  constructor
  ·rintro ((h | h) | h)
   ·exact .inr (.inl h)
   ·exact .inl h
   ·exact .inr (.inr h)
  ·rintro (h | h | h)
   ·exact .inl (.inr h)
   ·exact .inl (.inl h)
   ·exact .inr h
theorem rise_foldK : ∀ (ks a : List ByteArray), RiseK a → RiseK (ks.foldl insK a)
 | [], _, h => h
 | k :: ks, a, h => rise_foldK ks _ (rise_insK k a h)
theorem mem_allK (p : ByteArray) (ks : List ByteArray) : p ∈ allK ks ↔ p ∈ ks := by rw [allK, mem_foldK]; simp
theorem rise_allK (ks : List ByteArray) : RiseK (allK ks) := rise_foldK ks [] (by simp [RiseK])
open Classical in
noncomputable def ptsAt : List Ser → ByteArray → List Pnt
 | [], _ => []
 | x :: l, k => if x.key = k then x.pts else ptsAt l k
theorem ptsAt_none {k : ByteArray} : ∀ {l : List Ser}, (∀ x ∈ l, x.key ≠ k) → ptsAt l k = []
 | [], _ => rfl
 | x :: l, h => by rw [ptsAt, if_neg (h x (by simp)), ptsAt_none fun y hy => h y (by simp [hy])]
theorem ptsAt_some {k : ByteArray} : ∀ {l : List Ser}, ptsAt l k = [] ∨ ∃ x ∈ l, x.key = k ∧ ptsAt l k = x.pts
 | [] => .inl rfl
 | x :: l => by
  by_cases h : x.key = k
  ·exact .inr ⟨x, by simp, h, by rw [ptsAt, if_pos h]⟩
  ·rw [ptsAt, if_neg h]
   rcases ptsAt_some (k := k) (l := l) with h | ⟨y, hy, h⟩
   ·exact .inl h
   ·exact .inr ⟨y, by simp [hy], h⟩
theorem ptsAt_rising {l : List Ser} (h : ∀ x ∈ l, Rising x.pts) (k : ByteArray) : Rising (ptsAt l k) := by
 rcases ptsAt_some (k := k) (l := l) with e | ⟨x, hx, _, e⟩
 ·rw [e]; simp [Rising]
 ·rw [e]; exact h x hx
noncomputable def hasAll (ls : List (List Ser)) (k : ByteArray) : List Pnt := ls.foldl (fun a l => mrg a (ptsAt l k)) []
def fromF (f : Int) (l : List Pnt) : List Pnt := l.filter fun p => decide (f ≤ p.t)
noncomputable def has (ls : List (List Ser)) (f : Int) (k : ByteArray) : List Pnt := fromF f (hasAll ls k)
theorem hasAll_snoc (ls : List (List Ser)) (l : List Ser) (k : ByteArray) : hasAll (ls ++ [l]) k = mrg (hasAll ls k) (ptsAt l k) := by rw [hasAll, List.foldl_append]; rfl
theorem mrg_nil (a : List Pnt) : mrg a [] = a := rfl
def LRis (ls : List (List Ser)) : Prop := ∀ l ∈ ls, ∀ x ∈ l, Rising x.pts
theorem fold_rising (k : ByteArray) : ∀ (ls : List (List Ser)) (a : List Pnt), Rising a → Rising (ls.foldl (fun a l => mrg a (ptsAt l k)) a)
 | [], _, h => h
 | _ :: ls, _, h => fold_rising k ls _ (rising_mrg _ _ h)
theorem rising_hasAll (ls : List (List Ser)) (k : ByteArray) : Rising (hasAll ls k) := fold_rising k ls [] (by simp [Rising])
theorem mem_hasAll {p : Pnt} {k : ByteArray} : ∀ {ls : List (List Ser)} {a : List Pnt}, LRis ls → p ∈ ls.foldl (fun a l => mrg a (ptsAt l k)) a → p ∈ a ∨ ∃ l ∈ ls, p ∈ ptsAt l k
 | [], _, _, h => .inl h
 | l :: ls, a, hr, h => by
  rcases mem_hasAll (ls := ls) (fun m hm => hr m (by simp [hm])) h with h1 | ⟨m, hm, h1⟩
  ·rcases (mem_mrg p _ a (ptsAt_rising (hr l (by simp)) k)).1 h1 with h2 | ⟨h2, _⟩
   ·exact .inr ⟨l, by simp, h2⟩
   ·exact .inl h2
  ·exact .inr ⟨m, by simp [hm], h1⟩
theorem hasAll_len (k : ByteArray) (n : Nat) : ∀ (ls : List (List Ser)) (a : List Pnt), (∀ l ∈ ls, (ptsAt l k).length ≤ n) → (ls.foldl (fun a l => mrg a (ptsAt l k)) a).length ≤ a.length + n * ls.length
 | [], a, _ => by simp
 | l :: ls, a, h => by
  have h1 := hasAll_len k n ls (mrg a (ptsAt l k)) fun m hm => h m (by simp [hm])
  have h2 := mrg_length (ptsAt l k) a
  have h3 := h l (by simp)
  rw [List.foldl_cons, List.length_cons, Nat.mul_succ]
  omega
theorem from_id {f : Int} {l : List Pnt} (h : ∀ p ∈ l, f ≤ p.t) : fromF f l = l := List.filter_eq_self.2 fun p hp => by simpa using h p hp
open Classical in
noncomputable def serK (ls : List (List Ser)) (f : Int) (k : ByteArray) : Option Ser := if has ls f k = [] then none else some ⟨k, has ls f k⟩
def keysOf (ls : List (List Ser)) : List ByteArray := ls.flatten.map Ser.key
noncomputable def keysL (ls : List (List Ser)) : List ByteArray := allK (keysOf ls)
noncomputable def plainK (ls : List (List Ser)) (f : Int) (ks : List ByteArray) : List Ser := ks.filterMap (serK ls f)
noncomputable def plainR (ls : List (List Ser)) (f : Int) : List Ser := plainK ls f (keysL ls)
theorem mem_keysL {k : ByteArray} {ls : List (List Ser)} : k ∈ keysL ls ↔ ∃ l ∈ ls, ∃ x ∈ l, x.key = k := by
 rw [keysL, mem_allK, keysOf, List.mem_map]
 constructor
 ·rintro ⟨x, hx, e⟩
  obtain ⟨l, hl, hx⟩ := List.mem_flatten.1 hx
  exact ⟨l, hl, x, hx, e⟩
 ·rintro ⟨l, hl, x, hx, e⟩
  exact ⟨x, List.mem_flatten.2 ⟨l, hl, hx⟩, e⟩
theorem mem_plainK {ls : List (List Ser)} {f : Int} {ks : List ByteArray} {x : Ser} (h : x ∈ plainK ls f ks) : x.key ∈ ks ∧ x.pts = has ls f x.key ∧ x.pts ≠ [] := by
 obtain ⟨k, hk, e⟩ := List.mem_filterMap.1 h
 unfold serK at e
 split at e
 ·cases e
 ·rename_i hne
  cases e
  exact ⟨hk, rfl, hne⟩
theorem SOk_iff (l : List Ser) : SOk l ↔ l.length ≤ 5 ∧ RiseK (l.map Ser.key) ∧ ∀ x ∈ l, KOk x.key ∧ x.pts ≠ [] ∧ POk x.pts := by
 have at_get : ∀ j (h : j < l.length), sAt l j = l[j] := fun j h => by rw [sAt, ← getD_at l j h]
 constructor
 ·intro h
  refine ⟨h.1, ?_, fun x hx => ?_⟩
  ·unfold RiseK
   rw [List.pairwise_iff_getElem]
   have key : ∀ d i, i + d + 1 < l.length → ahd (sAt l i).key (sAt l (i + d + 1)).key = true := by
    intro d
    induction d with
    | zero => intro i hi; have := (h.2 (i + 0 + 1) hi).1.2 (by omega); simpa using this
    | succ d ih =>
     intro i hi
     have h1 := ih i (by omega)
     have h2 := (h.2 (i + (d + 1) + 1) hi).1.2 (by omega)
     rw [show i + (d + 1) + 1 - 1 = i + d + 1 by omega] at h2
     exact ahd_trans h1 h2
   intro i j hi hj hij
   rw [List.length_map] at hi hj
   have := key (j - i - 1) i (by omega)
   rw [show i + (j - i - 1) + 1 = j by omega, at_get i hi, at_get j hj] at this
   rw [List.getElem_map, List.getElem_map]
   exact this
  ·obtain ⟨j, hj, rfl⟩ := List.getElem_of_mem hx
   have := h.2 j hj
   rw [at_get j hj] at this
   exact ⟨this.1.1, fun e => by rw [e] at this; simp at this, this.2.2⟩
 ·rintro ⟨h1, h2, h3⟩
  refine ⟨h1, fun j hj => ⟨⟨?_, fun h0 => ?_⟩, ?_, ?_⟩⟩
  ·rw [at_get j hj]; exact (h3 _ (List.getElem_mem hj)).1
  ·rw [at_get j hj, at_get (j - 1) (by omega)]
   have := (List.pairwise_iff_getElem.1 h2) (j - 1) j (by rw [List.length_map]; omega) (by rw [List.length_map]; exact hj) (by omega)
   rw [List.getElem_map, List.getElem_map] at this
   exact this
  ·rw [at_get j hj]
   have := (h3 _ (List.getElem_mem hj)).2.1
   cases e : (l[j]).pts with
   | nil => exact absurd e this
   | cons y r => simp
  ·rw [at_get j hj]; exact (h3 _ (List.getElem_mem hj)).2.2
end Go.Proofs.YthhamlahdjokkaaGreatDoor
namespace Go.Proofs.YthhamlahdjokkaaGreatDoor
open Go.RowKit Go.PlainAid
structure Eng where
 floor : Int
 cache : List Ser
 files : List ByteArray
theorem Eng.same {x y : Eng} (h1 : x.floor = y.floor) (h2 : x.cache = y.cache) (h3 : x.files = y.files) : x = y := by
 cases x
 cases y
 simp only at h1 h2 h3
 subst h1
 subst h2
 subst h3
 rfl
def isF (s : ByteArray) : Prop := ∃ m, GoodF s m
open Classical in
noncomputable def fileM (s : ByteArray) : List Ser := if h : ∃ m, GoodF s m then Classical.choose h else []
theorem fileM_is {s : ByteArray} {m : List Ser} (h : GoodF s m) : fileM s = m := by
 have hx : ∃ m, GoodF s m := ⟨m, h⟩
 unfold fileM
 rw [dif_pos hx]
 exact (Classical.choose_spec hx).one h
theorem isF.good {s : ByteArray} (h : isF s) : GoodF s (fileM s) := by
 obtain ⟨m, hm⟩ := h
 rw [fileM_is hm]
 exact hm
noncomputable def laysF (fs : List ByteArray) : List (List Ser) := fs.map fileM
noncomputable def lays (e : Eng) : List (List Ser) := laysF e.files ++ [e.cache]
theorem laysF_snoc (fs : List ByteArray) (s : ByteArray) : laysF (fs ++ [s]) = laysF fs ++ [fileM s] := by unfold laysF; rw [List.map_append]; rfl
noncomputable def plainE (e : Eng) : List Ser := plainR (lays e) e.floor
def cntS (l : List Ser) : Nat := (l.map fun x => x.pts.length).sum
theorem cntS_snoc (l : List Ser) (k : Nat) (h : k < l.length) : cntS (l.take (k + 1)) = cntS (l.take k) + (l.getD k default).pts.length := by
 unfold cntS
 rw [take_getD l k h, List.map_append, List.sum_append]
 simp
def PreOk (e : Eng) : Prop := (0 ≤ e.floor ∧ e.floor ≤ 1099511627776) ∧ e.files.length ≤ 4 ∧ SOk e.cache ∧ cntS e.cache ≤ 40 ∧ ∀ x ∈ e.cache, e.floor ≤ tAt x.pts 0
def EOk (e : Eng) : Prop := PreOk e ∧ (∀ s ∈ e.files, isF s) ∧ SOk (plainE e)
open Classical in
noncomputable def plainX (e : Eng) : List Ser := if EOk e then plainE e else []
theorem len_pos {α : Type} {l : List α} (h : l ≠ []) : 1 ≤ l.length := by
 cases l with
 | nil => exact absurd rfl h
 | cons x l => simp
end Go.Proofs.YthhamlahdjokkaaGreatDoor
namespace Go.Proofs.YthhamlahdjokkaaGreatDoor
open Go.ChangeShapes Go.WideShapes Go.ChangeAt Go.RowKit Go.PlainAid
set_option linter.unusedVariables false
structure Sta where
 kind : Int
 hold : Int
 mark : Int
 bks : List Pnt
 eng : Eng
 ses : List Ses
def sesFrom : Int → List Ses → Bool
 | _, [] => true
 | a, x :: l => inRg x.client a 4 && inRg x.serial 1 1000000 && ansOk x.ans && sesFrom (x.client + 1) l
theorem inRg_true {x lo hi : Int} : inRg x lo hi = true ↔ lo ≤ x ∧ x ≤ hi := by
 unfold inRg
 rw [Bool.and_eq_true, decide_eq_true_iff, decide_eq_true_iff]
theorem inRg_false {x lo hi : Int} : inRg x lo hi = false ↔ x < lo ∨ hi < x := by
 rw [← Bool.not_eq_true, inRg_true]
 omega
theorem ses_few : ∀ (l : List Ses) (a : Int), sesFrom a l = true → l = [] ∨ (l.length : Int) + a ≤ 5
 | [], _, _ => .inl rfl
 | x :: l, a, h => by
  unfold sesFrom at h
  rw [Bool.and_eq_true, Bool.and_eq_true, Bool.and_eq_true, inRg_true] at h
  refine .inr ?_
  rcases ses_few l _ h.2 with rfl | h2
  ·simp
   omega
  ·rw [List.length_cons]
   omega
theorem ses_many {l : List Ses} (h : 4 < l.length) : sesFrom 1 l = false := by
 rcases e : sesFrom 1 l with _ | _
 ·rfl
 ·rcases ses_few l 1 e with rfl | h2
  ·simp at h
  ·omega
theorem ses_drop (l : List Ses) (k : Nat) (h : k < l.length) (a : Int) : sesFrom a (l.drop k) = (inRg (l.getD k default).client a 4 && inRg (l.getD k default).serial 1 1000000 && ansOk (l.getD k default).ans && sesFrom ((l.getD k default).client + 1) (l.drop (k + 1))) := by
 rw [List.drop_eq_getElem_cons h, getD_at l k h]
 rfl
def mokFrom (m : Int) : Int → List Pnt → Bool
 | _, [] => true
 | a, x :: l => inRg x.t a 10995116277 && decide (m < (x.t + 1) * 100) && inRg x.v 0 1 && mokFrom m (x.t + 1) l
theorem mok_drop (m : Int) (l : List Pnt) (k : Nat) (h : k < l.length) (a : Int) : mokFrom m a (l.drop k) = (inRg (l.getD k default).t a 10995116277 && decide (m < ((l.getD k default).t + 1) * 100) && inRg (l.getD k default).v 0 1 && mokFrom m ((l.getD k default).t + 1) (l.drop (k + 1))) := by
 rw [List.drop_eq_getElem_cons h, getD_at l k h]
 rfl
def firstB (m : Int) : List Pnt → Bool
 | [] => true
 | x :: _ => decide (m < (x.t + 1) * 100)
theorem mok_same (m : Int) : ∀ (l : List Pnt) (a : Int), mokFrom m a l = (bokFrom a l && firstB m l)
 | [], _ => rfl
 | x :: l, a => by
  have h3 : decide (m < (x.t + 1) * 100) = true → bokFrom (x.t + 1) l = true → firstB m l = true := by
   intro h1 h2
   cases l with
   | nil => rfl
   | cons y l =>
    unfold bokFrom at h2
    rw [Bool.and_eq_true, Bool.and_eq_true, inRg_true] at h2
    have := of_decide_eq_true h1
    show decide (m < (y.t + 1) * 100) = true
    exact decide_eq_true (by omega)
  show (inRg x.t a 10995116277 && decide (m < (x.t + 1) * 100) && inRg x.v 0 1 && mokFrom m (x.t + 1) l) = ((inRg x.t a 10995116277 && inRg x.v 0 1 && bokFrom (x.t + 1) l) && decide (m < (x.t + 1) * 100))
  rw [mok_same m l (x.t + 1)]
  revert h3
  generalize decide (m < (x.t + 1) * 100) = D
  generalize bokFrom (x.t + 1) l = C
  generalize firstB m l = E
  generalize inRg x.t a 10995116277 = A
  generalize inRg x.v 0 1 = B
  intro h3
  cases D <;> cases C <;> cases E <;> cases A <;> cases B <;> first | rfl | exact absurd (h3 rfl rfl) (by decide)
def zeroB (e : Eng) : Bool := decide (e.floor = 0) && decide (e.cache.length = 0) && decide (e.files.length = 0)
def metaB (x : Sta) : Bool := inRg x.hold 0 100000 && inRg x.mark 0 1099511627776 && decide (x.bks.length ≤ 12) && bokFrom 0 x.bks && firstB x.mark x.bks && zeroB x.eng
open Classical in
noncomputable def shardB (x : Sta) : Bool := decide (x.hold = 0) && decide (x.mark = 0) && decide (x.bks.length = 0) && decide (EOk x.eng)
noncomputable def staOk (x : Sta) : Bool := sesFrom 1 x.ses && (if x.kind = 1 then metaB x else if x.kind = 2 then shardB x else false)
end Go.Proofs.YthhamlahdjokkaaGreatDoor
namespace Go.Proofs.YthhamlahdjokkaaGreatDoor
open Go.RowKit Go.PlainAid
def strCells (l : List ByteArray) : List Value := l.map Value.string
def Strs (w : World) (base : Nat) (v : Value) (l : List ByteArray) : Prop := w.ownsRow base 9 1 v l.length (strCells l)
theorem Strs.nil (w : World) (base : Nat) : Strs w base (.slice none 0 0) [] := World.ownsRow_nil w base 9 1
theorem Strs.empty (w : World) (base : Nat) (hb : base ≤ w.heap.size) : Strs (w.alloc (.cells #[] 9)) base (.slice (some ⟨w.heap.size, 0, none⟩) 0 0) [] :=
 World.ownsRow_lit w #[] 0 hb (by unfold maxLen; omega) rfl
theorem Strs.mono {w : World} {base base' : Nat} {v : Value} {l : List ByteArray} (h : Strs w base v l) (hb : base' ≤ base) : Strs w base' v l :=
 ⟨h.1, h.2.imp id fun ⟨g, cap, cur, e, hg, r⟩ => ⟨g, cap, cur, e, Nat.le_trans hb hg, r⟩⟩
theorem Strs.kept {w w' : World} {base : Nat} {v : Value} {l : List ByteArray} (h : Strs w base v l) (hk : ∀ g, g < w.heap.size → v.ownBlock = some g → w'.heap[g]? = w.heap[g]?) : Strs w' base v l := by
 have hl := World.ownsRow.lt h
 refine ⟨h.1, h.2.imp id ?_⟩
 rintro ⟨g, cap, cur, rfl, hg, hh, r⟩
 refine ⟨g, cap, cur, rfl, hg, ?_, r⟩
 rw [hk g (hl g rfl).2 rfl]
 exact hh
theorem Strs.on {w w' : World} {base : Nat} {v : Value} {l : List ByteArray} (h : Strs w base v l) (hb : Below w.heap.size w w') : Strs w' base v l := h.kept fun g hg _ => hb.block g hg
theorem Strs.under {w w' : World} {base B : Nat} {v : Value} {l : List ByteArray} (h : Strs w base v l) (hB : w.heap.size ≤ B) (hb : Below B w w') : Strs w' base v l := h.kept fun g hg _ => hb.block g (Nat.lt_of_lt_of_le hg hB)
theorem Strs.alloc {w : World} {base : Nat} {v : Value} {l : List ByteArray} (h : Strs w base v l) (o : Obj) : Strs (w.alloc o) base v l := World.ownsRow.alloc h o
theorem Strs.form {w : World} {base : Nat} {v : Value} {l : List ByteArray} (h : Strs w base v l) : (v = .slice none 0 0 ∧ l = []) ∨ ∃ g cap, v = .slice (some ⟨g, 0, none⟩) l.length cap ∧ base ≤ g ∧ g < w.heap.size := by
 have hl := World.ownsRow.lt h
 rcases h.2 with ⟨rfl, h0⟩ | ⟨g, cap, cur, rfl, hg, _⟩
 ·exact .inl ⟨rfl, List.eq_nil_of_length_eq_zero h0⟩
 ·exact .inr ⟨g, cap, rfl, hg, (hl g rfl).2⟩
theorem Strs.cell {w : World} {base g cap : Nat} {l : List ByteArray} (h : Strs w base (.slice (some ⟨g, 0, none⟩) l.length cap) l) (j : Nat) (hj : j < l.length) : w.cell? ⟨g, j, none⟩ = some (.string l[j]) := by
 rw [World.ownsRow.cellAt h j (by omega)]
 simp [strCells, hj]
theorem Strs.frozen {w : World} {base g cap : Nat} {l : List ByteArray} (h : Strs w base (.slice (some ⟨g, 0, none⟩) l.length cap) l) (j : Nat) : w.frozen? ⟨g, j, none⟩ = false := World.ownsRow.frozenAt h j
theorem Strs.stored {w : World} {base g cap : Nat} {l : List ByteArray} (h : Strs w base (.slice (some ⟨g, 0, none⟩) l.length cap) l) (j : Nat) (x : ByteArray) :
  Strs (w.setCell ⟨g, j, none⟩ (.string x)) base (.slice (some ⟨g, 0, none⟩) l.length cap) (l.set j x) := by
 have hs := (World.ownsRow.stored h j (.string x)).1
 unfold Strs
 rw [List.length_set, strCells, List.map_set]
 exact hs
def dg : Nat → Nat → List UInt8
 | 0, _ => []
 | f + 1, n => if n = 0 then [] else dg f (n / 10) ++ [byt (48 + n % 10)]
def mark (k : Nat) : ByteArray := txt (109 :: dg 20 k)
def marks (k : Nat) : Nat → List ByteArray
 | 0 => []
 | n + 1 => marks k n ++ [mark (k + n)]
def marked (k : Nat) (l : List ByteArray) (j : Nat) : List ByteArray := marks k j ++ l.drop j
end Go.Proofs.YthhamlahdjokkaaGreatDoor
namespace Go.Proofs.YthhamlahdjokkaaGreatDoor
open Go.ChangeShapes Go.WideShapes Go.ChangeAt Go.RowKit Go.PlainAid
set_option linter.unusedVariables false
theorem cSr : Tryz.prog.cellsOf 151 = 2 := by kernel_rfl
def SFits (l : List Ser) : Prop := l.length ≤ maxLen ∧ ∀ x ∈ l, x.key.size ≤ maxLen ∧ x.pts.length ≤ maxLen
section
variable {H : Type} {enc : TypeId × Value → H} {w : World} {base : Nat} {spare : Nat → Bool} {held : Bool}
set_option maxRecDepth 100000 in
theorem open_sr (n : Nat) (cs : List Value) (y : DataW H × List MemPlace) (h : DataW.trod enc Tryz.prog w base spare held n 151 cs = some y) : ∃ z : Ser × Value, cs = srC z ∧ (Lies w w.heap.size 2 z.2 (ptR z.1.pts) ∧ z.1.key.size ≤ maxLen ∧ z.1.pts.length ≤ maxLen) := by
 obtain ⟨xs, m, _, _, hl, hlen, hf⟩ := DataW.trod_struct Tryz.underlying151 h
 rw [cSr] at hl
 obtain ⟨a, b, rfl⟩ := list2 hl
 obtain ⟨x0, x1, rfl⟩ := list2 (show xs.length = 2 from hlen)
 have f0 := hf 0 _ rfl
 have f1 := hf 1 _ rfl
 simp only [List.getElem?_cons_zero, List.getElem?_cons_succ] at f0 f1
 obtain ⟨s0, e0, _, hs⟩ := DataW.trod_string Tryz.underlying9 f0
 cases e0
 obtain ⟨ls, l1, l2, _⟩ := open_rows Tryz.underlying149 2 cPt (by omega) ptC (fun _ => rfl) _ open_pt f1
 exact ⟨⟨⟨s0, ls⟩, b⟩, rfl, l1, hs, l2⟩
end
end Go.Proofs.YthhamlahdjokkaaGreatDoor
namespace Go.Proofs.YthhamlahdjokkaaGreatDoor
open Go.ChangeShapes Go.WideShapes Go.ChangeAt Go.RowKit Go.PlainAid
set_option linter.unusedVariables false
def wtS1 (x : Ser) : Nat := x.key.size + x.pts.length
def wtS (l : List Ser) : Nat := (l.map wtS1).sum
theorem wtS_snoc (l : List Ser) (k : Nat) (h : k < l.length) : wtS (l.take (k + 1)) = wtS (l.take k) + wtS1 (l.getD k default) := by
 unfold wtS
 rw [take_getD l k h, List.map_append, List.sum_append]
 simp
theorem wtS_mem (l : List Ser) (x : Ser) (h : x ∈ l) : wtS1 x ≤ wtS l := by
 induction l with
 | nil => cases h
 | cons y l ih =>
  unfold wtS at ih ⊢
  rw [List.map_cons, List.sum_cons]
  rcases List.mem_cons.1 h with rfl | h
  ·omega
  ·have := ih h
   omega
set_option maxHeartbeats 1000000 in
theorem szSeries (x : Ser) (u : Value) (left : Int) (w : World) (B : Nat) (hu : Lies w B 2 u (ptR x.pts)) (h0 : 0 ≤ left) (h1 : left ≤ 1048576) (hx : x.key.size ≤ maxLen) (hp : x.pts.length ≤ maxLen) (hB : B ≤ w.heap.size) :
  Calls Tryz.prog 99 #[vSr x.key u, .int .i64 left] w fun e w' => (∃ r, e = .returned (.int .i64 r) ∧ Hid (r = -1 ∨ 0 ≤ r ∧ r + (wtS1 x : Int) = left)) ∧ Below w.heap.size w w' := by
 have HU : Hid (Lies w B 2 u (ptR x.pts)) := hu
 have HB : Hid (B ≤ w.heap.size) := hB
 have HP : Hid (x.pts.length ≤ maxLen) := hp
 unfold maxLen at hx
 unfold vSr wtS1
 obtain ⟨xk, xp⟩ := x
 simp only at hx HU HP ⊢
 clear hu hB hp
 obtain ⟨A, cap, rfl, _⟩ := pt_look HU.out
 generalize hn : xk.size = n at *
 have q1 : (n : Int) ≤ 9223372036854775807 := by omega
 have w2 : wrap64 (left - (n : Int)) = left - (n : Int) := by unfold wrap64; omega
 by_cases hl : left < (n : Int)
 ·have q2 : left - (n : Int) < 0 := by omega
  go_enter Tryz.func99, Tryz.ntmps99
  go_wp2_with fail
  go_ret
  exact ⟨⟨_, rfl, .inl rfl⟩, (Below.refl _ _).alloc (Nat.le_refl _) _⟩
 ·have HL : Hid ((n : Int) ≤ left) := by unfold Hid; omega
  have q2 : 0 ≤ left - (n : Int) := by omega
  have q3 : decide (left - (n : Int) < 0) = false := decide_eq_false (by omega)
  have HQ : Hid (left - (n : Int) ≤ 1048576) := by unfold Hid; omega
  have c1 := fun wx hx => szPointS xp (.slice A xp.length cap) (left - (n : Int)) wx B hx HP.out q2 HQ.out
  go_enter Tryz.func99, Tryz.ntmps99
  go_wp2_with fail
  refine (c1 _ (HU.out.on (((Below.refl _ w).alloc (Nat.le_refl _) _).mono HB.out))).mono ?_
  rintro e w' ⟨⟨r, rfl, HR⟩, rfl⟩
  rcases HR.out with rfl | ⟨hp, hq⟩
  ·go_wp2_with fail
   go_ret
   exact ⟨⟨_, rfl, .inl rfl⟩, (Below.refl _ _).alloc (Nat.le_refl _) _⟩
  ·have q5 : decide (r < 0) = false := decide_eq_false (by omega)
   go_wp2_with fail
   go_ret
   exact ⟨⟨_, rfl, .inr ⟨hp, by omega⟩⟩, (Below.refl _ _).alloc (Nat.le_refl _) _⟩
set_option maxHeartbeats 1000000 in
theorem szSeriesS (l : List Ser) (v : Value) (left : Int) (w : World) (B : Nat) (hv : SerV w B v l) (hd : SFits l) (h0 : 0 ≤ left) (h1 : left ≤ 1048576) (hB : B ≤ w.heap.size) :
  Calls Tryz.prog 55 #[v, .int .i64 left] w fun e w' => ∃ r : Int, e = .returned (.int .i64 r) ∧ (r = -1 ∨ 0 ≤ r ∧ r + ((l.length + wtS l : Nat) : Int) = left) ∧ Below w.heap.size w w' := by
 have hn := hd.1
 unfold maxLen at hn
 obtain ⟨A, cap, rfl, hl⟩ := hv.look
 have HL : Hid (∀ j, j < l.length → ∃ g off u, A = some ⟨g, off, none⟩ ∧ g < B ∧ _) := hl
 have HD : Hid (∀ x ∈ l, x.key.size ≤ maxLen ∧ x.pts.length ≤ maxLen) := hd.2
 have HB : Hid (B ≤ w.heap.size) := hB
 clear hl hd hB hv
 have q1 : (l.length : Int) ≤ 9223372036854775807 := by omega
 have w2 : wrap64 (left - (l.length : Int)) = left - (l.length : Int) := by unfold wrap64; omega
 by_cases hs : left < (l.length : Int)
 ·have q2 : left - (l.length : Int) < 0 := by omega
  go_enter Tryz.func55, Tryz.ntmps55
  go_wp2_with fail
  go_ret
  exact ⟨-1, rfl, .inl rfl, Below.refl _ _⟩
 ·have q2 : 0 ≤ left - (l.length : Int) := by omega
  have q3 : decide (left - (l.length : Int) < 0) = false := decide_eq_false (by omega)
  have HQ : Hid (0 ≤ left - (l.length : Int)) := q2
  generalize hN : l.length = n at *
  go_enter Tryz.func55, Tryz.ntmps55
  go_wp2_with fail
  clear q2 q3 w2
  go_loopw [1, 5] (fun v1 v5 wr => ∃ (k : Nat) (r : Int), k ≤ n ∧ v5 = .int .i64 (k : Int) ∧ v1 = .int .i64 r ∧ 0 ≤ r ∧ r + ((n + wtS (l.take k) : Nat) : Int) = left ∧ Below w.heap.size w wr) (fun _ i _ => n - (intOf i).toNat)
  case atStart => exact ⟨0, left - (n : Int), by omega, rfl, rfl, HQ.out, by simp [wtS], Below.refl _ _⟩
  case round =>
   obtain ⟨k, r, hk, rfl, rfl, hr0, hr, hb⟩ := hrel
   have HR : Hid (r + ((n + wtS (l.take k) : Nat) : Int) = left) := hr
   have HB1 : Hid (Below w.heap.size w wr) := hb
   have q9 : r ≤ 1048576 := by omega
   clear hr hb
   by_cases hlt : k < n
   ·have q4 : (k : Int) < (n : Int) := by omega
    obtain ⟨g, off, u, rfl, hg, hc0, hc1, hu⟩ := HL.out k (by omega)
    have hgw : g < w.heap.size := Nat.lt_of_lt_of_le hg HB.out
    rw [← HB1.out.cell (p := ⟨_, _, none⟩) hgw] at hc0
    rw [← HB1.out.cell (p := ⟨_, _, none⟩) hgw] at hc1
    have c1 := szSeries (l.getD k default) u r wr B (hu.on (HB1.out.mono HB.out)) hr0 q9 (HD.out _ (getD_mem l k (by omega))).1 (HD.out _ (getD_mem l k (by omega))).2 (Nat.le_trans HB.out HB1.out.size)
    have HW : Hid (wtS (l.take (k + 1)) = wtS (l.take k) + wtS1 (l.getD k default)) := wtS_snoc l k (by omega)
    obtain ⟨A', cap', rfl, _⟩ := pt_look hu
    unfold vSr at c1
    clear hu
    generalize wtS1 (l.getD k default) = t at *
    generalize (l.getD k default).pts.length = pn at *
    generalize (l.getD k default).key = x at *
    go_wp2_with fail
    refine c1.mono ?_
    rintro e w2 ⟨⟨r2, rfl, hr2⟩, hb2⟩
    have HR2 : Hid (r2 = -1 ∨ 0 ≤ r2 ∧ r2 + (t : Int) = r) := hr2
    have HB2 : Hid (Below w.heap.size w w2) := HB1.out.trans (hb2.mono HB1.out.size)
    clear hr2 hb2
    rcases HR2.out with rfl | ⟨hp, hq⟩
    ·go_wp2_with fail
     go_ret
     exact ⟨-1, rfl, .inl rfl, HB2.out⟩
    ·have q5 : decide (r2 < 0) = false := decide_eq_false (by omega)
     have HQ2 : Hid (r2 + (t : Int) = r) := hq
     clear hq
     go_wp2_with fail
     go_roundw
     case rel => exact ⟨k + 1, r2, by omega, by go_num, rfl, hp, by have := HR.out; have := HQ2.out; rw [HW.out]; omega, HB2.out⟩
     case measure => simp [intOf]; omega
   ·obtain rfl : k = n := by omega
    go_wp2_with fail
    go_ret
    exact ⟨r, rfl, .inr ⟨hr0, by have := HR.out; rw [← hN, List.take_length] at this; rw [← hN]; exact this⟩, HB1.out⟩
def SShort (l : List Ser) : Prop := l.length ≤ 1048576 ∧ ∀ x ∈ l, x.pts.length ≤ 1048576
theorem SShort.of {l : List Ser} {n : Nat} (h : l.length + wtS l ≤ n) (hn : n ≤ 1048576) : SShort l := by
 refine ⟨by omega, fun x hx => ?_⟩
 have := wtS_mem l x hx
 unfold wtS1 at this
 omega
theorem SShort.at {l : List Ser} (h : SShort l) (k : Nat) (hk : k < l.length) : (l.getD k default).pts.length ≤ 1048576 := h.2 _ (getD_mem l k hk)
set_option maxHeartbeats 1000000 in
theorem toSeries (x : Ser) (u : Value) (w : World) (B : Nat) (hu : Lies w B 2 u (ptR x.pts)) (hn : x.pts.length ≤ 1048576) (hB : B ≤ w.heap.size) :
  Calls Tryz.prog 105 #[vSr x.key u] w fun e w' => ∃ u', e = .returned (vSr x.key u') ∧ Owns w' w.heap.size 98 2 u' (ptR x.pts) ∧ Below w.heap.size w w' := by
 have HU : Hid (Lies w B 2 u (ptR x.pts)) := hu
 have HB : Hid (B ≤ w.heap.size) := hB
 have HP : Hid (x.pts.length ≤ 1048576) := hn
 unfold vSr
 obtain ⟨xk, xp⟩ := x
 simp only at HU HP ⊢
 clear hu hB hn
 obtain ⟨A, cap, rfl, _⟩ := pt_look HU.out
 have c1 := fun wx hx hb => toPointS xp (.slice A xp.length cap) wx B hx HP.out hb
 go_enter Tryz.func105, Tryz.ntmps105
 go_wp2_with fail
 have hB3 : Hid (Below w.heap.size w (((w.alloc (.cells #[.string xk, .slice A xp.length cap] 151)).alloc (.cells #[.string ⟨#[]⟩, .slice none 0 0] 101)).alloc (.cells #[.string xk, .slice none 0 0] 101))) := below_alloc3 _ _ _ _
 have b0 := Blk.new ((w.alloc (.cells #[.string xk, .slice A xp.length cap] 151)).alloc (.cells #[.string ⟨#[]⟩, .slice none 0 0] 101)) #[.string xk, .slice none 0 0] 101
 rw [World.size_alloc, World.size_alloc] at b0
 have r0 := (Blk.new (w.alloc (.cells #[.string xk, .slice A xp.length cap] 151)) #[.string ⟨#[]⟩, .slice none 0 0] 101).alloc (.cells #[.string xk, .slice none 0 0] 101)
 rw [World.size_alloc] at r0
 refine (c1 _ (HU.out.on (hB3.out.mono HB.out)) (Nat.le_trans HB.out hB3.out.size)).mono ?_
 have HS3 : (((w.alloc (.cells #[.string xk, .slice A xp.length cap] 151)).alloc (.cells #[.string ⟨#[]⟩, .slice none 0 0] 101)).alloc (.cells #[.string xk, .slice none 0 0] 101)).heap.size = w.heap.size + 3 := by simp only [World.size_alloc]
 rintro e w1 ⟨u, rfl, hO, hb⟩
 rw [HS3] at hO
 have B1 : Hid (Below w.heap.size w w1) := hB3.out.trans (hb.mono hB3.out.size)
 have b1 := b0.on hb (by rw [HS3]; omega)
 have r1 := r0.on hb (by rw [HS3]; omega)
 clear hb hB3 b0 HS3 c1 r0
 generalize hG : w.heap.size + 1 + 1 = G at *
 generalize hR : w.heap.size + 1 = R at *
 have HG : Hid (R + 1 = G ∧ w.heap.size + 1 = R) := ⟨hG, hR⟩
 have m0 : w1.cell? ⟨G, 0, none⟩ = some (.string xk) := b1.cell 0 _ rfl
 have m1 : w1.cell? ⟨G, 1, none⟩ = some (.slice none 0 0) := b1.cell 1 _ rfl
 have f1 := b1.free 1
 obtain ⟨A', n', c', rfl⟩ := hO.shape
 have b2 := b1.set 1 (.slice A' n' c')
 have k0 := b2.cell 0 (.string xk) rfl
 have k1 := b2.cell 1 (.slice A' n' c') rfl
 have hRG : R ≠ G := by omega
 have r2 := r1.other hRG 1 (.slice A' n' c')
 have e0 : _ = some (Value.string ⟨#[]⟩) := r2.cell 0 _ rfl
 have e1 := r2.free 0
 have r3 := r2.set 0 (.string xk)
 have e2 : _ = some (Value.slice none 0 0) := r3.cell 1 _ rfl
 have e3 := r3.free 1
 have r4 := r3.set 1 (.slice A' n' c')
 have e4 := r4.cell 0 (.string xk) rfl
 have e5 := r4.cell 1 (.slice A' n' c') rfl
 have hne : (Value.slice A' n' c').ownBlock ≠ some G := fun e => by have := (hO.lt G e).1; omega
 have hne' : (Value.slice A' n' c').ownBlock ≠ some R := fun e => by have := (hO.lt R e).1; omega
 have hO2 : Hid (Owns (((w1.setCell ⟨G, 1, none⟩ (.slice A' n' c')).setCell ⟨R, 0, none⟩ (.string xk)).setCell ⟨R, 1, none⟩ (.slice A' n' c')) w.heap.size 98 2 (.slice A' n' c') (ptR xp)) := (((hO.other hne 1 _).other hne' 0 _).other hne' 1 _).mono (by omega)
 have B2 : Hid (Below w.heap.size w (((w1.setCell ⟨G, 1, none⟩ (.slice A' n' c')).setCell ⟨R, 0, none⟩ (.string xk)).setCell ⟨R, 1, none⟩ (.slice A' n' c'))) := ((B1.out.setCell (show w.heap.size ≤ G by omega) _).setCell (show w.heap.size ≤ R by omega) _).setCell (show w.heap.size ≤ R by omega) _
 clear hO b1 b2 hG hR r1 r2 r3 r4 hne hne' hRG
 go_wp2_with fail
 exact bodyPost_ret (v := .agg #[.string xk, .slice A' n' c']) (by simp [results, go_sem, e4, e5]) rfl ⟨_, rfl, hO2.out, B2.out⟩
theorem Tryz.infoSr : (Tryz.prog.info? 101).map (fun i => (i.zero, i.size, i.bytes)) = some (some (.agg #[.string ⟨#[]⟩, .slice none 0 0]), 2, 40) := by kernel_rfl
theorem sr_made (n : Nat) : madeCells #[.string ⟨#[]⟩, .slice none 0 0] (n * 2) = (List.replicate n srZ).flatten.toArray := by
 apply Array.ext'
 rw [List.toList_toArray]
 apply List.ext_getElem?
 intro k
 have hz : ∀ r ∈ List.replicate n srZ, r.length = 2 := fun r hr => by rw [List.eq_of_mem_replicate hr]; rfl
 by_cases hk : k < n * 2
 ·have e : k = k / 2 * 2 + k % 2 := by omega
  have hf : k % 2 < 2 := Nat.mod_lt _ (by omega)
  have hj : k / 2 < n := Nat.div_lt_of_lt_mul (by omega)
  have := flat_at 2 (List.replicate n srZ) hz (k / 2) (k % 2) (by simpa using hj) hf
  rw [← e] at this
  have hr : (List.replicate n srZ)[k / 2]'(by simpa using hj) = srZ := by simp
  rw [this, hr]
  have hs : (madeCells #[.string ⟨#[]⟩, .slice none 0 0] (n * 2)).toList[k]? = some (#[.string ⟨#[]⟩, .slice none 0 0].getD (k % 2) default) := by simp [madeCells, hk]
  rw [hs]
  have : k % 2 = 0 ∨ k % 2 = 1 := by omega
  rcases this with h | h <;> rw [h] <;> rfl
 ·have hl : (List.replicate n srZ).flatten.length = n * 2 := by rw [flat_length 2 _ hz]; simp
  have hr : (List.replicate n srZ).flatten[k]? = none := List.getElem?_eq_none (by omega)
  rw [hr]
  apply List.getElem?_eq_none
  rw [Array.length_toList, size_madeCells]
  omega
theorem apart_snoc {L : List (Ser × Value)} {x : Ser} {u : Value} {w w' : World} {base : Nat} {e : TypeId} {sz : Nat} {r : List (List Value)} (h : L.Pairwise fun p q => Apart p.2 q.2) (hL : ∀ p ∈ L, Owns w base 98 2 p.2 (ptR p.1.pts)) (hu : Owns w' w.heap.size e sz u r) : (L ++ [(x, u)]).Pairwise fun p q => Apart p.2 q.2 := by
 rw [List.pairwise_append]
 refine ⟨h, List.pairwise_singleton _ _, fun p hp q hq => ?_⟩
 rw [List.mem_singleton.1 hq]
 intro g h1 h2
 have := ((hL p hp).lt g h1).2
 have := (hu.lt g h2).1
 omega
set_option maxHeartbeats 2000000 in
theorem toSeriesS (l : List Ser) (v : Value) (w : World) (B : Nat) (hv : SerV w B v l) (hn : SShort l) (hB : B ≤ w.heap.size) :
  Calls Tryz.prog 63 #[v] w fun e w' => ∃ u L, e = .returned u ∧ L.map Prod.fst = l ∧ SerO w' w.heap.size u L ∧ Below w.heap.size w w' := by
 obtain ⟨A, cap, rfl, hl⟩ := hv.look
 have HL : Hid (∀ j, j < l.length → ∃ g off u, A = some ⟨g, off, none⟩ ∧ g < B ∧ _) := hl
 have HB : Hid (B ≤ w.heap.size) := hB
 have HS : Hid (SShort l) := hn
 have q1 : (l.length : Int) ≤ 1048576 := by have := hn.1; omega
 clear hl hB hv hn
 generalize hN : l.length = n at *
 obtain ⟨i0, hi, hz0, hz1, hz2⟩ := info_parts Tryz.infoSr
 have hmk : ∀ wx : World, (Instr.makeSlice 33 (.int .i64 (n : Int)) (.int .i64 (n : Int))).run Tryz.prog wx = .ok (.slice (some ⟨wx.heap.size, 0, none⟩) n n) (wx.alloc (.cells (List.replicate n srZ).flatten.toArray 101)) := fun wx => by
  have h := run_make (P := Tryz.prog) wx 33 101 i0 _ Tryz.underlying33 hi hz0 .i64 .i64 (n : Int) (n : Int) (by omega) (by omega) (by rw [hz2]; omega) (by omega)
  rw [hz1] at h
  have e : (Value.agg #[.string ⟨#[]⟩, .slice none 0 0]).cells = #[.string ⟨#[]⟩, .slice none 0 0] := rfl
  rw [e, Int.toNat_natCast, sr_made] at h
  exact h
 clear hi hz0 hz1 hz2
 go_enter Tryz.func63, Tryz.ntmps63
 go_wp2_with fail
 go_loopw [4] (fun v4 wr => ∃ (k : Nat) (L : List (Ser × Value)), k ≤ n ∧ v4 = .int .i64 (k : Int) ∧ L.map Prod.fst = l.take k ∧ Owns wr w.heap.size 101 2 (.slice (some ⟨w.heap.size, 0, none⟩) n n) (srR L ++ List.replicate (n - k) srZ) ∧ (∀ p ∈ L, Owns wr w.heap.size 98 2 p.2 (ptR p.1.pts)) ∧ (L.Pairwise fun p q => Apart p.2 q.2) ∧ Below w.heap.size w wr) (fun i _ => n - (intOf i).toNat)
 case atStart =>
  refine ⟨0, [], by omega, rfl, by simp, ?_, fun p hp => (by cases hp), List.Pairwise.nil, (Below.refl _ _).alloc (Nat.le_refl _) _⟩
  rw [Nat.sub_zero, show srR [] = [] from rfl, List.nil_append]
  refine ⟨fun r hr => by rw [List.eq_of_mem_replicate hr]; rfl, ?_⟩
  have hz : ∀ r ∈ List.replicate n srZ, r.length = 2 := fun r hr => by rw [List.eq_of_mem_replicate hr]; rfl
  have hl := flat_length 2 (List.replicate n srZ) hz
  rw [List.length_replicate] at hl ⊢
  exact World.ownsRow_lit w (List.replicate n srZ).flatten.toArray n (Nat.le_refl _) (by unfold maxLen; omega) (by simpa using hl)
 case round =>
  obtain ⟨k, L, hk, rfl, hLm, hO, hP, hA, hb⟩ := hrel
  have HLM : Hid (L.map Prod.fst = l.take k) := hLm
  have HLL : Hid (L.length = k) := by have := congrArg List.length hLm; rw [List.length_map, List.length_take] at this; unfold Hid; omega
  have HO : Hid (Owns wr w.heap.size 101 2 (.slice (some ⟨w.heap.size, 0, none⟩) n n) (srR L ++ List.replicate (n - k) srZ)) := hO
  have HP : Hid (∀ p ∈ L, Owns wr w.heap.size 98 2 p.2 (ptR p.1.pts)) := hP
  have HA : Hid (L.Pairwise fun p q => Apart p.2 q.2) := hA
  have HB1 : Hid (Below w.heap.size w wr) := hb
  clear hO hb hLm hP hA
  by_cases hlt : k < n
  ·have q4 : (k : Int) < (n : Int) := by omega
   obtain ⟨g, off, u, rfl, hg, hc0, hc1, hu⟩ := HL.out k (by omega)
   have hgw : g < w.heap.size := Nat.lt_of_lt_of_le hg HB.out
   rw [← HB1.out.cell (p := ⟨_, _, none⟩) hgw] at hc0
   rw [← HB1.out.cell (p := ⟨_, _, none⟩) hgw] at hc1
   have c1 := toSeries (l.getD k default) u wr B (hu.on (HB1.out.mono HB.out)) (HS.out.at k (by omega)) (Nat.le_trans HB.out HB1.out.size)
   obtain ⟨A', cap', rfl, _⟩ := pt_look hu
   unfold vSr at c1
   clear hu
   have HT : Hid (l.take (k + 1) = l.take k ++ [l.getD k default]) := take_getD l k (by omega)
   generalize (l.getD k default).pts.length = pn at *
   generalize hx : l.getD k default = x at *
   have HX : Hid (l.getD k default = x) := hx
   clear hx
   go_wp2_with fail
   refine c1.mono ?_
   rintro e w2 ⟨u', rfl, hO', hb2⟩
   have hlen : (srR L ++ List.replicate (n - k) srZ).length = n := by rw [List.length_append, List.length_replicate, srR_length, HLL.out]; omega
   have hdl : (srR L).length = k := by rw [srR_length, HLL.out]
   have hO2 := HO.out.on hb2
   rw [show (Value.slice (some ⟨w.heap.size, 0, none⟩) n n) = .slice (some ⟨w.heap.size, 0, none⟩) (srR L ++ List.replicate (n - k) srZ).length n by rw [hlen]] at hO2
   obtain ⟨y0, d0⟩ := hO2.cellX k 0 (by rw [hlen]; exact hlt) (by omega)
   have f0 := hO2.free (k * 2)
   obtain ⟨y1, d1⟩ := hO2.cellX k 1 (by rw [hlen]; exact hlt) (by omega)
   have f1 := hO2.free (k * 2 + 1)
   rw [Nat.add_zero] at d0
   obtain ⟨A2, n2, c2, rfl⟩ := hO'.shape
   have hPp := hO2.put2 k (by rw [hlen]; exact hlt) (.string x.key) (.slice A2 n2 c2)
   rw [hlen, fill_step _ _ _ n k hdl hlt, show srR L ++ [[.string x.key, .slice A2 n2 c2]] = srR (L ++ [(x, Value.slice A2 n2 c2)]) by rw [srR_append]; rfl] at hPp
   have HPp : Hid (Owns ((w2.setCell ⟨w.heap.size, k * 2, none⟩ (.string x.key)).setCell ⟨w.heap.size, k * 2 + 1, none⟩ (.slice A2 n2 c2)) w.heap.size 101 2 (.slice (some ⟨w.heap.size, 0, none⟩) n n) (srR (L ++ [(x, Value.slice A2 n2 c2)]) ++ List.replicate (n - (k + 1)) srZ)) := hPp
   have HB2 : Hid (Below w.heap.size w w2) := HB1.out.trans (hb2.mono HB1.out.size)
   have hap := hO2
   have HPn : Hid (∀ p ∈ L ++ [(x, Value.slice A2 n2 c2)], Owns ((w2.setCell ⟨w.heap.size, k * 2, none⟩ (.string x.key)).setCell ⟨w.heap.size, k * 2 + 1, none⟩ (.slice A2 n2 c2)) w.heap.size 98 2 p.2 (ptR p.1.pts)) := by
    intro p hp
    have hw2 : Owns w2 w.heap.size 98 2 p.2 (ptR p.1.pts) := by
     rcases List.mem_append.1 hp with hp | hp
     ·exact (HP.out p hp).on hb2
     ·rw [List.mem_singleton.1 hp]
      exact hO'.mono HB1.out.size
    have hne : p.2.ownBlock ≠ some w.heap.size := fun e => hw2.apartT hap (by decide) w.heap.size e rfl
    exact (hw2.other hne _ _).other hne _ _
   have HAn : Hid (List.Pairwise (fun p q : Ser × Value => Apart p.2 q.2) (L ++ [(x, Value.slice A2 n2 c2)])) := apart_snoc HA.out HP.out hO'
   have HLMn : Hid ((L ++ [(x, Value.slice A2 n2 c2)]).map Prod.fst = l.take (k + 1)) := by
    unfold Hid
    rw [HT.out, List.map_append, HLM.out]
    rfl
   clear hO2 hPp hb2 hlen hdl hO' hap
   go_wp2_with fail
   go_roundw
   case rel => exact ⟨k + 1, _, by omega, by go_num, HLMn.out, HPp.out, HPn.out, HAn.out, ((HB2.out).setCell (Nat.le_refl _) _).setCell (Nat.le_refl _) _⟩
   case measure => simp [intOf]; omega
  ·obtain rfl : k = n := by omega
   go_wp2_with fail
   go_ret
   refine ⟨_, L, rfl, ?_, ⟨?_, HP.out, HA.out⟩, HB1.out⟩
   ·rw [HLM.out, ← hN, List.take_length]
   ·have := HO.out
    rw [Nat.sub_self, List.replicate_zero, List.append_nil] at this
    exact this
set_option maxHeartbeats 1000000 in
theorem eqSeries (x : Ser) (u v : Value) (w : World) (B : Nat) (hu : Lies w B 2 u (ptR x.pts)) (hv : Lies w B 2 v (ptR x.pts)) (hn : x.pts.length ≤ 1048576) (hB : B ≤ w.heap.size) : Calls Tryz.prog 110 #[vSr x.key u, vSr x.key v] w fun e w' => e = .returned (.bool true) ∧ Below w.heap.size w w' := by
 have HU : Hid (Lies w B 2 u (ptR x.pts)) := hu
 have HV : Hid (Lies w B 2 v (ptR x.pts)) := hv
 have HB : Hid (B ≤ w.heap.size) := hB
 have HP : Hid (x.pts.length ≤ 1048576) := hn
 unfold vSr
 obtain ⟨xk, xp⟩ := x
 simp only at HU HV HP ⊢
 clear hu hB hn hv
 obtain ⟨A, cap, rfl, _⟩ := pt_look HU.out
 obtain ⟨A', cap', rfl, _⟩ := pt_look HV.out
 have hk : (xk.toList == xk.toList) = true := by simp
 go_enter Tryz.func110, Tryz.ntmps110
 go_wp2_with fail
 have hb2 : Hid (Below w.heap.size w ((w.alloc (.cells #[.string xk, .slice A xp.length cap] 101)).alloc (.cells #[.string xk, .slice A' xp.length cap'] 101))) := below_alloc2 _ _ _
 refine (eqPointS xp _ _ _ B (HU.out.on (hb2.out.mono HB.out)) (HV.out.on (hb2.out.mono HB.out)) HP.out (Nat.le_trans HB.out hb2.out.size)).mono ?_
 rintro e w1 ⟨rfl, hb⟩
 have B1 : Hid (Below w.heap.size w w1) := hb2.out.trans (hb.mono hb2.out.size)
 clear hb hb2
 go_wp2_with fail
 go_ret
 exact ⟨rfl, B1.out⟩
set_option maxHeartbeats 1000000 in
theorem eqSeriesS (l : List Ser) (va vb : Value) (w : World) (B : Nat) (ha : SerV w B va l) (hb : SerV w B vb l) (hn : SShort l) (hB : B ≤ w.heap.size) :
  Calls Tryz.prog 73 #[va, vb] w fun e w' => e = .returned (.bool true) ∧ Below w.heap.size w w' := by
 obtain ⟨A, cap, rfl, hl⟩ := ha.look
 obtain ⟨A', cap', rfl, hl'⟩ := hb.look
 have HL : Hid (∀ j, j < l.length → ∃ g off u, A = some ⟨g, off, none⟩ ∧ g < B ∧ _) := hl
 have HL' : Hid (∀ j, j < l.length → ∃ g off u, A' = some ⟨g, off, none⟩ ∧ g < B ∧ _) := hl'
 have HB : Hid (B ≤ w.heap.size) := hB
 have HS : Hid (SShort l) := hn
 have q1 : (l.length : Int) ≤ 1048576 := by have := hn.1; omega
 clear hl hl' hB ha hb hn
 generalize hN : l.length = n at *
 go_enter Tryz.func73, Tryz.ntmps73
 go_wp2_with fail
 go_loopw [5] (fun v5 wr => ∃ k : Nat, k ≤ n ∧ v5 = .int .i64 (k : Int) ∧ Below w.heap.size w wr) (fun i _ => n - (intOf i).toNat)
 case atStart => exact ⟨0, by omega, rfl, Below.refl _ _⟩
 case round =>
  obtain ⟨k, hk, rfl, hb⟩ := hrel
  have HB1 : Hid (Below w.heap.size w wr) := hb
  clear hb
  by_cases hlt : k < n
  ·have q4 : (k : Int) < (n : Int) := by omega
   obtain ⟨g, off, u, rfl, hg, ha0, ha1, hu⟩ := HL.out k hlt
   obtain ⟨g', off', u', rfl, hg', hb0, hb1, hu'⟩ := HL'.out k hlt
   have hgw : g < w.heap.size := Nat.lt_of_lt_of_le hg HB.out
   have hgw' : g' < w.heap.size := Nat.lt_of_lt_of_le hg' HB.out
   rw [← HB1.out.cell (p := ⟨_, _, none⟩) hgw] at ha0
   rw [← HB1.out.cell (p := ⟨_, _, none⟩) hgw'] at hb0
   rw [← HB1.out.cell (p := ⟨_, _, none⟩) hgw] at ha1
   rw [← HB1.out.cell (p := ⟨_, _, none⟩) hgw'] at hb1
   have c1 := fun (wx : World) (hw : Below w.heap.size w wx) => eqSeries (l.getD k default) u u' wx B (hu.on (hw.mono HB.out)) (hu'.on (hw.mono HB.out)) (HS.out.at k (by omega)) (Nat.le_trans HB.out hw.size)
   obtain ⟨A1, cap1, rfl, _⟩ := pt_look hu
   obtain ⟨A2, cap2, rfl, _⟩ := pt_look hu'
   unfold vSr at c1
   clear hu hu'
   generalize (l.getD k default).pts.length = pn at *
   generalize (l.getD k default).key = x at *
   have hsz := HB1.out.size
   go_wp2_with fail
   go_region_with (go_at_call 110; refine (c1 _ HB1.out.drew).mono ?_; rintro e w1 ⟨rfl, hb1⟩)
   all_goals go_wp2_with fail
   all_goals exact ⟨⟨k + 1, by omega, by go_num, HB1.out.trans (((Below.refl _ wr).drew.trans hb1).mono hsz)⟩, by simp [intOf]; omega⟩
  ·obtain rfl : k = n := by omega
   go_wp2_with fail
   go_ret
   exact ⟨rfl, HB1.out⟩
end Go.Proofs.YthhamlahdjokkaaGreatDoor
namespace Go.Proofs.YthhamlahdjokkaaGreatDoor
open Go.RowKit Go.PlainAid
def stC (s : ByteArray) : List Value := [.string s]
def stR (l : List ByteArray) : List (List Value) := l.map stC
theorem stR_length (l : List ByteArray) : (stR l).length = l.length := by simp [stR]
theorem stR_append (l m : List ByteArray) : stR (l ++ m) = stR l ++ stR m := by simp [stR]
theorem stR_flat (l : List ByteArray) : (stR l).flatten = strCells l := by
 induction l with
 | nil => rfl
 | cons x l ih => simp only [stR, strCells, List.map_cons, List.flatten_cons] at ih ⊢; rw [ih]; rfl
theorem stR_sz (l : List ByteArray) : ∀ r ∈ stR l, r.length = 1 := by
 intro r hr
 obtain ⟨x, _, rfl⟩ := List.mem_map.1 hr
 rfl
theorem st_one (l : List ByteArray) : ∀ r ∈ stR l, ∀ y ∈ r, y.oneCell' = true := by
 intro r hr y hy
 obtain ⟨x, _, rfl⟩ := List.mem_map.1 hr
 simp only [stC, List.mem_cons, List.not_mem_nil, or_false] at hy
 rw [hy]; rfl
theorem owns_strs {w : World} {base : Nat} {v : Value} {l : List ByteArray} (h : Owns w base 9 1 v (stR l)) : Strs w base v l := by
 have := h.2
 rw [stR_length, stR_flat] at this
 exact this
theorem strs_owns {w : World} {base : Nat} {v : Value} {l : List ByteArray} (h : Strs w base v l) : Owns w base 9 1 v (stR l) := ⟨stR_sz l, by rw [stR_length, stR_flat]; exact h⟩
theorem st_look {w : World} {B : Nat} {v : Value} {l : List ByteArray} (h : Lies w B 1 v (stR l)) : ∃ A cap, v = .slice A l.length cap ∧ ∀ j, j < l.length → ∃ g off, A = some ⟨g, off, none⟩ ∧ g < B ∧ w.cell? ⟨g, off + j, none⟩ = some (.string (l.getD j default)) := by
 obtain ⟨A, cap, e, h⟩ := h.look
 refine ⟨A, cap, by rw [e]; simp [stR], fun j hj => ?_⟩
 rw [← getD_at l j hj]
 obtain ⟨g, off, e, hg, hc⟩ := h j (by simpa [stR] using hj)
 refine ⟨g, off, e, hg, ?_⟩
 have := hc 0 _ (by omega) (by simp [stR, stC]; rfl)
 simpa using this
theorem st_cells {w : World} {B n c : Nat} {A : Option Addr} {l : List ByteArray} (h : Lies w B 1 (.slice A n c) (stR l)) : ∀ j, j < l.length → ∃ g off, A = some ⟨g, off, none⟩ ∧ g < B ∧ w.cell? ⟨g, off + j, none⟩ = some (.string (l.getD j default)) := by
 obtain ⟨A', c', e, hl⟩ := st_look h
 cases e
 exact hl
def laR (us : List Value) : List (List Value) := us.map fun u => [u]
theorem laR_length (us : List Value) : (laR us).length = us.length := by simp [laR]
theorem laR_append (l m : List Value) : laR (l ++ m) = laR l ++ laR m := by simp [laR]
theorem la_look {w : World} {B : Nat} {v : Value} {us : List Value} (h : Lies w B 1 v (laR us)) : ∃ A cap, v = .slice A us.length cap ∧ ∀ j, j < us.length → ∃ g off, A = some ⟨g, off, none⟩ ∧ g < B ∧ w.cell? ⟨g, off + j, none⟩ = some (us.getD j default) := by
 obtain ⟨A, cap, e, h⟩ := h.look
 refine ⟨A, cap, by rw [e]; simp [laR], fun j hj => ?_⟩
 rw [← getD_at us j hj]
 obtain ⟨g, off, e, hg, hc⟩ := h j (by simpa [laR] using hj)
 refine ⟨g, off, e, hg, ?_⟩
 have := hc 0 _ (by omega) (by simp [laR]; rfl)
 simpa using this
def LayL (w : World) (B : Nat) (us : List Value) (ls : List (List Ser)) : Prop := us.length = ls.length ∧ ∀ j, j < ls.length → SerV w B (us.getD j default) (ls.getD j [])
def LayV (w : World) (B : Nat) (v : Value) (ls : List (List Ser)) : Prop := ∃ us, Lies w B 1 v (laR us) ∧ LayL w B us ls
theorem LayL.on {w w' : World} {B : Nat} {us : List Value} {ls : List (List Ser)} (h : LayL w B us ls) (hb : Below B w w') : LayL w' B us ls := ⟨h.1, fun j hj => (h.2 j hj).on hb⟩
theorem LayL.mono {w : World} {B C : Nat} {us : List Value} {ls : List (List Ser)} (h : LayL w B us ls) (hB : B ≤ C) : LayL w C us ls := ⟨h.1, fun j hj => (h.2 j hj).mono hB⟩
theorem LayV.on {w w' : World} {B : Nat} {v : Value} {ls : List (List Ser)} (h : LayV w B v ls) (hb : Below B w w') : LayV w' B v ls := h.imp fun _ h => ⟨h.1.on hb, h.2.on hb⟩
theorem LayV.mono {w : World} {B C : Nat} {v : Value} {ls : List (List Ser)} (h : LayV w B v ls) (hB : B ≤ C) : LayV w C v ls := h.imp fun _ h => ⟨h.1.mono hB, h.2.mono hB⟩
theorem LayL.snoc {w : World} {B : Nat} {us : List Value} {ls : List (List Ser)} (h : LayL w B us ls) {u : Value} {l : List Ser} (hu : SerV w B u l) : LayL w B (us ++ [u]) (ls ++ [l]) := by
 refine ⟨by simp [h.1], fun j hj => ?_⟩
 rw [List.length_append, List.length_singleton] at hj
 by_cases e : j < ls.length
 ·rw [List.getD_eq_getElem?_getD, List.getD_eq_getElem?_getD, List.getElem?_append_left (by rw [h.1]; exact e), List.getElem?_append_left e, ← List.getD_eq_getElem?_getD, ← List.getD_eq_getElem?_getD]
  exact h.2 j e
 ·obtain rfl : j = ls.length := by omega
  rw [List.getD_eq_getElem?_getD, List.getD_eq_getElem?_getD, List.getElem?_append_right (by rw [h.1]; exact Nat.le_refl _), List.getElem?_append_right (Nat.le_refl _), h.1, Nat.sub_self]
  exact hu
theorem LayV.look {w : World} {B : Nat} {v : Value} {ls : List (List Ser)} (h : LayV w B v ls) : ∃ A cap, v = .slice A ls.length cap ∧ ∀ j, j < ls.length → ∃ g off u, A = some ⟨g, off, none⟩ ∧ g < B ∧ w.cell? ⟨g, off + j, none⟩ = some u ∧ SerV w B u (ls.getD j []) := by
 obtain ⟨us, h1, h2⟩ := h
 obtain ⟨A, cap, e, hl⟩ := la_look h1
 refine ⟨A, cap, by rw [e, h2.1], fun j hj => ?_⟩
 obtain ⟨g, off, e, hg, hc⟩ := hl j (by rw [h2.1]; exact hj)
 exact ⟨g, off, _, e, hg, hc, h2.2 j hj⟩
def vE (f : Int) (vc vf : Value) : Value := .agg #[.int .i64 f, vc, vf]
def EngV (w : World) (B : Nat) (v : Value) (e : Eng) : Prop := ∃ vc vf, v = vE e.floor vc vf ∧ SerV w B vc e.cache ∧ Lies w B 1 vf (stR e.files)
theorem EngV.on {w w' : World} {B : Nat} {v : Value} {e : Eng} (h : EngV w B v e) (hb : Below B w w') : EngV w' B v e := by
 obtain ⟨vc, vf, h1, h2, h3⟩ := h
 exact ⟨vc, vf, h1, h2.on hb, h3.on hb⟩
theorem EngV.mono {w : World} {B C : Nat} {v : Value} {e : Eng} (h : EngV w B v e) (hB : B ≤ C) : EngV w C v e := by
 obtain ⟨vc, vf, h1, h2, h3⟩ := h
 exact ⟨vc, vf, h1, h2.mono hB, h3.mono hB⟩
def EngO (w : World) (base : Nat) (v : Value) (e : Eng) : Prop := ∃ vc vf L, v = vE e.floor vc vf ∧ L.map Prod.fst = e.cache ∧ SerO w base vc L ∧ Strs w base vf e.files
theorem EngO.view {w : World} {base : Nat} {v : Value} {e : Eng} (h : EngO w base v e) : EngV w w.heap.size v e := by
 obtain ⟨vc, vf, L, h1, h2, h3, h4⟩ := h
 exact ⟨vc, vf, h1, by rw [← h2]; exact h3.view, (strs_owns h4).lies⟩
theorem EngO.on {w w' : World} {base : Nat} {v : Value} {e : Eng} (h : EngO w base v e) (hb : Below w.heap.size w w') : EngO w' base v e := by
 obtain ⟨vc, vf, L, h1, h2, h3, h4⟩ := h
 exact ⟨vc, vf, L, h1, h2, h3.on hb, h4.on hb⟩
theorem EngO.mono {w : World} {base base' : Nat} {v : Value} {e : Eng} (h : EngO w base v e) (hb : base' ≤ base) : EngO w base' v e := by
 obtain ⟨vc, vf, L, h1, h2, h3, h4⟩ := h
 exact ⟨vc, vf, L, h1, h2, h3.mono hb, h4.mono hb⟩
def EShort (e : Eng) : Prop := SShort e.cache ∧ (∀ x ∈ e.cache, x.key.size ≤ maxLen) ∧ e.files.length ≤ 1048576 ∧ ∀ s ∈ e.files, s.size ≤ 1048576
end Go.Proofs.YthhamlahdjokkaaGreatDoor
namespace Go.Proofs.YthhamlahdjokkaaGreatDoor
open Go.ChangeShapes Go.WideShapes Go.ChangeAt Go.RowKit Go.PlainAid
set_option linter.unusedVariables false
def KeptBut (g : Nat) (w w' : World) : Prop := Below g w w' ∧ ∀ b, b ≠ g → b < w.heap.size → w'.heap[b]? = w.heap[b]?
theorem KeptBut.of {g : Nat} {w w' : World} (h : Below w.heap.size w w') (hg : g < w.heap.size) : KeptBut g w w' := ⟨h.mono (Nat.le_of_lt hg), fun b _ hb => h.block b hb⟩
theorem KeptBut.refl (g : Nat) (w : World) : KeptBut g w w := ⟨Below.refl _ _, fun _ _ _ => rfl⟩
theorem KeptBut.trans {g : Nat} {w w' w'' : World} (h : KeptBut g w w') (h' : KeptBut g w' w'') : KeptBut g w w'' := ⟨h.1.trans h'.1, fun b hb hl => by rw [h'.2 b hb (Nat.lt_of_lt_of_le hl h.1.size), h.2 b hb hl]⟩
theorem KeptBut.set {g : Nat} {w w' : World} (h : KeptBut g w w') (i : Nat) (x : Value) : KeptBut g w (w'.setCell ⟨g, i, none⟩ x) := ⟨h.1.setCell (Nat.le_refl _) _, fun b hb hl => by rw [Below.heap_setCell _ _ _ _ hb]; exact h.2 b hb hl⟩
theorem KeptBut.setNew {g k : Nat} {w w' : World} (h : KeptBut g w w') (hk : w.heap.size ≤ k) (hg : g ≤ k) (i : Nat) (x : Value) : KeptBut g w (w'.setCell ⟨k, i, none⟩ x) := ⟨h.1.setCell hg _, fun b hb hl => by rw [Below.heap_setCell _ _ _ _ (show b ≠ k by omega)]; exact h.2 b hb hl⟩
theorem KeptBut.drew {g : Nat} {w w' : World} (h : KeptBut g w w') : KeptBut g w w'.drew := ⟨h.1.drew, h.2⟩
theorem KeptBut.size {g : Nat} {w w' : World} (h : KeptBut g w w') : w.heap.size ≤ w'.heap.size := h.1.size
theorem KeptBut.owns {g : Nat} {w w' : World} {base : Nat} {e : TypeId} {sz : Nat} {v : Value} {rows : List (List Value)} (h : KeptBut g w w') (ho : Owns w base e sz v rows) (hne : v.ownBlock ≠ some g) : Owns w' base e sz v rows := ho.kept fun k hk hv => h.2 k (fun e => hne (by rw [hv, e])) hk
theorem KeptBut.blk {g b : Nat} {w w' : World} {cs : Array Value} {t : TypeId} (h : KeptBut g w w') (hb : Blk w b cs t) (hne : b ≠ g) : Blk w' b cs t := (h.2 b hne hb.lt).trans hb
theorem Owns.notBlk {w : World} {base : Nat} {e t : TypeId} {sz g : Nat} {cs : Array Value} {v : Value} {rows : List (List Value)} (h : Owns w base e sz v rows) (hb : Blk w g cs t) (hne : e ≠ t) : v.ownBlock ≠ some g := fun hv => by
 rcases h.2.2 with ⟨rfl, _⟩ | ⟨g1, c1, cur1, rfl, _, k1, _⟩
 ·cases hv
 ·cases hv
  rw [hb] at k1
  cases k1
  exact hne rfl
def spC (x : Spot) : List Value := [.string x.key, .int .i64 (x.at' : Int), .int .i64 (x.size : Int), .int .i64 (x.first : Int), .int .i64 (x.last : Int)]
def spR (l : List Spot) : List (List Value) := l.map spC
theorem spR_length (l : List Spot) : (spR l).length = l.length := by simp [spR]
theorem spR_append (l m : List Spot) : spR (l ++ m) = spR l ++ spR m := by simp [spR]
theorem sp_one (x : Spot) : ∀ u ∈ spC x, u.oneCell' = true := by
 intro u hu
 simp only [spC, List.mem_cons, List.not_mem_nil, or_false] at hu
 rcases hu with rfl | rfl | rfl | rfl | rfl <;> rfl
theorem sp_look {w : World} {B : Nat} {v : Value} {l : List Spot} (h : Lies w B 5 v (spR l)) : ∃ A cap, v = .slice A l.length cap ∧ ∀ j, j < l.length → ∃ g off, A = some ⟨g, off, none⟩ ∧ g < B ∧
  w.cell? ⟨g, off + j * 5, none⟩ = some (.string (l.getD j default).key) ∧ w.cell? ⟨g, off + j * 5 + 1, none⟩ = some (.int .i64 ((l.getD j default).at' : Int)) ∧ w.cell? ⟨g, off + j * 5 + 2, none⟩ = some (.int .i64 ((l.getD j default).size : Int)) ∧
  w.cell? ⟨g, off + j * 5 + 3, none⟩ = some (.int .i64 ((l.getD j default).first : Int)) ∧ w.cell? ⟨g, off + j * 5 + 4, none⟩ = some (.int .i64 ((l.getD j default).last : Int)) := by
 obtain ⟨A, cap, e, h⟩ := h.look
 refine ⟨A, cap, by rw [e]; simp [spR], fun j hj => ?_⟩
 rw [← getD_at l j hj]
 obtain ⟨g, off, e, hg, hc⟩ := h j (by simpa [spR] using hj)
 refine ⟨g, off, e, hg, ?_, ?_, ?_, ?_, ?_⟩
 ·have := hc 0 _ (by omega) (by simp [spR, spC]; rfl); simpa [Nat.add_assoc] using this
 ·have := hc 1 _ (by omega) (by simp [spR, spC]; rfl); simpa [Nat.add_assoc] using this
 ·have := hc 2 _ (by omega) (by simp [spR, spC]; rfl); simpa [Nat.add_assoc] using this
 ·have := hc 3 _ (by omega) (by simp [spR, spC]; rfl); simpa [Nat.add_assoc] using this
 ·have := hc 4 _ (by omega) (by simp [spR, spC]; rfl); simpa [Nat.add_assoc] using this
def vSp (x : Spot) : Value := .agg #[.string x.key, .int .i64 (x.at' : Int), .int .i64 (x.size : Int), .int .i64 (x.first : Int), .int .i64 (x.last : Int)]
theorem Tryz.infoSp : (Tryz.prog.info? 127).map (fun i => (i.zero, i.size, i.bytes)) = some (some (.agg #[.string ⟨#[]⟩, .int .i64 0, .int .i64 0, .int .i64 0, .int .i64 0]), 5, 48) := by kernel_rfl
def SpFits (x : Spot) : Prop := x.key.size ≤ 1048576 ∧ x.at' ≤ 562949953421311 ∧ x.size ≤ 562949953421311 ∧ x.first ≤ 562949953421311 ∧ x.last ≤ 562949953421311
def CurB (w : World) (g : Nat) (t : ByteArray) (p : Nat) (ty : TypeId) : Prop := Blk w g #[.string t, .int .i64 (p : Int)] ty
end Go.Proofs.YthhamlahdjokkaaGreatDoor
