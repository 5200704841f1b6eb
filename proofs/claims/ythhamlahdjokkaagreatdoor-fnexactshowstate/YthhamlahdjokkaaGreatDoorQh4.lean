/- BkMath FlMath EgMath EgDef StMath CmMath CmPart Clone CmAns IgMath StrAid SrArg -/
import Derived.Test.YthhamlahdjokkaaGreatDoorQh0
import Derived.Test.YthhamlahdjokkaaGreatDoorQh3
import Derived.Test.YthhamlahdjokkaaGreatDoorQh1
import Derived.Test.YthhamlahdjokkaaGreatDoorQh2
import Derived.Test.YthhamlahdjokkaaGreatDoorRows
import Derived.WalkKit
import Derived.ProofKit
import Derived.Below
import Derived.OpenShut
import Derived.WalkSmall
import Derived.WalkLawsBesides
import Derived.Laws.DeepStrings4
import Derived.Outline
import Derived.Handy
import Derived.Defers
import Derived.Recover
import Derived.Shelf.Pu.Clone
import Derived.Laws.OwnMore
import Derived.OwnWalk
namespace Go.Proofs.YthhamlahdjokkaaGreatDoor
open Go.RowKit Go.PlainAid
def ts (l : List Pnt) : List Int := l.map fun p => p.t
def vs (l : List Pnt) : List Int := l.map fun p => p.v
theorem ts_length (l : List Pnt) : (ts l).length = l.length := by simp [ts]
theorem vs_length (l : List Pnt) : (vs l).length = l.length := by simp [vs]
theorem ts_get (l : List Pnt) (j : Nat) (h : j < l.length) : (ts l).getD j 0 = tAt l j := by
 rw [tAt, ← getD_at l j h]
 simp [ts, List.getD, h]
theorem vs_get (l : List Pnt) (j : Nat) (h : j < l.length) : (vs l).getD j 0 = vAt l j := by
 rw [vAt, ← getD_at l j h]
 simp [vs, List.getD, h]
theorem rows_of_ok {l : List Pnt} (h : POk l) (h1 : 1 ≤ l.length) : TOk (ts l) ∧ VOk (vs l) := by
 refine ⟨⟨by rw [ts_length]; exact h1, by rw [ts_length]; exact h.1, fun j hj => ?_⟩, by rw [vs_length]; exact h1, by rw [vs_length]; exact h.1, fun j hj => ?_⟩
 ·rw [ts_length] at hj
  rw [ts_get l j hj]
  refine ⟨(h.2 j hj).1.1, fun h0 => ?_⟩
  rw [ts_get l (j - 1) (by omega)]
  exact (h.2 j hj).2 h0
 ·rw [vs_length] at hj
  rw [vs_get l j hj]
  exact (h.2 j hj).1.2
theorem ok_of_rows {l : List Pnt} (h : TOk (ts l)) (h' : VOk (vs l)) : POk l := by
 refine ⟨by have := h.2.1; rwa [ts_length] at this, fun j hj => ?_⟩
 have h1 := h.2.2 j (by rw [ts_length]; exact hj)
 have h2 := h'.2.2 j (by rw [vs_length]; exact hj)
 rw [ts_get l j hj] at h1
 rw [vs_get l j hj] at h2
 refine ⟨⟨h1.1, h2⟩, fun h0 => ?_⟩
 have := h1.2 h0
 rwa [ts_get l (j - 1) (by omega)] at this
def zipP (t v : List Int) : List Pnt := List.zipWith Pnt.mk t v
theorem zipP_length (t v : List Int) : (zipP t v).length = min t.length v.length := by simp [zipP]
theorem zipP_rows : ∀ l : List Pnt, zipP (ts l) (vs l) = l
 | [] => rfl
 | p :: l => by
  have := zipP_rows l
  simp only [zipP, ts, vs, List.map_cons, List.zipWith_cons_cons] at this ⊢
  rw [this]
theorem ts_zip : ∀ (t v : List Int), t.length = v.length → ts (zipP t v) = t ∧ vs (zipP t v) = v
 | [], [], _ => ⟨rfl, rfl⟩
 | [], _ :: _, h => by simp at h
 | _ :: _, [], h => by simp at h
 | x :: t, y :: v, h => by
  have ih := ts_zip t v (by simpa using h)
  simp only [zipP, ts, vs, List.zipWith_cons_cons, List.map_cons] at ih ⊢
  rw [ih.1, ih.2]
  exact ⟨rfl, rfl⟩
theorem zipP_get (t v : List Int) (k : Nat) (h1 : k < t.length) (h2 : k < v.length) : (zipP t v).take (k + 1) = (zipP t v).take k ++ [⟨t.getD k 0, v.getD k 0⟩] := by
 have hk : k < (zipP t v).length := by rw [zipP_length]; omega
 rw [List.take_succ_eq_append_getElem hk]
 congr 2
 simp [zipP, List.getD, h1, h2]
def bodyB (l : List Pnt) : List UInt8 := vF 6 l.length ++ (cat (tPiece (ts l)) l.length ++ cat (vPiece (vs l)) l.length)
def showB (l : List Pnt) : ByteArray := if 1 ≤ l.length ∧ POk l then frame (txt (vF 6 l.length) ++ showT (ts l) ++ showV (vs l)) else txt []
theorem body_is {l : List Pnt} (h : POk l) (h1 : 1 ≤ l.length) : txt (vF 6 l.length) ++ showT (ts l) ++ showV (vs l) = txt (bodyB l) := by
 obtain ⟨ht, hv⟩ := rows_of_ok h h1
 unfold showT showV bodyB
 rw [if_pos ht, if_pos hv, ts_length, vs_length, txt_cat, txt_cat, List.append_assoc]
theorem bodyB_size {l : List Pnt} (h : POk l) : 1 ≤ (bodyB l).length ∧ (bodyB l).length ≤ 847 := by
 have h1 := vF_pos 6 l.length
 have h2 := vF_length 6 l.length
 have h3 := cat_length (tPiece (ts l)) (tPiece_length (ts l)) l.length
 have h4 := cat_length (vPiece (vs l)) (vPiece_length (vs l)) l.length
 have := h.1
 unfold bodyB
 simp only [List.length_append]
 omega
def Good (s : ByteArray) (l : List Pnt) : Prop := 1 ≤ l.length ∧ POk l ∧ showB l = s
theorem Good.frame {s : ByteArray} {l : List Pnt} (h : Good s l) : s = frameOf (txt (bodyB l)) := by
 obtain ⟨h1, h2, rfl⟩ := h
 have hb := bodyB_size h2
 rw [showB, if_pos ⟨h1, h2⟩, body_is h2 h1, Go.Proofs.YthhamlahdjokkaaGreatDoor.frame, if_neg (by rw [txt_size]; omega)]
theorem Good.read {s : ByteArray} {l : List Pnt} (h : Good s l) : code s = 0 ∧ 8 + rdv s 4 = s.size ∧ bodyOf s = txt (bodyB l) := by
 have hf := h.frame
 have hb := bodyB_size h.2.1
 have e : s = frameOf (txt (bodyB l)) ++ ByteArray.empty := by rw [ByteArray.append_empty]; exact hf
 have hz : (txt (bodyB l)).size ≤ 2000 := by rw [txt_size]; omega
 refine ⟨by rw [e]; exact code_frameOf _ _ (by rw [txt_size]; omega) hz, ?_, by rw [e]; exact bodyOf_frameOf _ _ hz⟩
 have h4 : rdv s 4 = (txt (bodyB l)).size := by rw [e]; exact rdv_frameOf _ _ hz
 rw [h4, hf, frameOf_size]
def RdV (s : ByteArray) (n : Int) (k : Nat) : Prop := (FindV s k ∧ n = (vvS s 0 k : Int)) ∨ ((∀ j, ¬ FindV s j) ∧ n = 0 ∧ k = 0)
theorem ReadV.rd {s : ByteArray} {e : Ending} (h : ReadV s e) : ∃ n k, RdV s n k ∧ e = .returned (.tuple #[.int .i64 n, .int .i64 (k : Int)]) := by
 rcases h with ⟨k, h1, h2⟩ | ⟨h1, h2⟩
 ·exact ⟨_, k, .inl ⟨h1, rfl⟩, h2⟩
 ·exact ⟨0, 0, .inr ⟨h1, rfl, rfl⟩, h2⟩
theorem RdV.one {s : ByteArray} {n n' : Int} {k k' : Nat} (h : RdV s n k) (h' : RdV s n' k') : n = n' ∧ k = k' := by
 rcases h with ⟨h1, h2⟩ | ⟨h1, h2, h3⟩ <;> rcases h' with ⟨h1', h2'⟩ | ⟨h1', h2', h3'⟩
 ·obtain rfl := h1.one h1'
  exact ⟨h2.trans h2'.symm, rfl⟩
 ·exact absurd h1 (h1' k)
 ·exact absurd h1' (h1 k')
 ·exact ⟨h2.trans h2'.symm, h3.trans h3'.symm⟩
theorem RdV.le {s : ByteArray} {n : Int} {k : Nat} (h : RdV s n k) : k ≤ s.size ∧ k ≤ 7 ∧ 0 ≤ n := by
 rcases h with ⟨⟨_, h2, h3, _⟩, h4⟩ | ⟨_, h2, h3⟩
 ·exact ⟨h3, h2, by omega⟩
 ·omega
def bodyR (s : ByteArray) : ByteArray := if code s = 0 then bodyOf s else ⟨#[]⟩
theorem bodyR_size (s : ByteArray) : (bodyR s).size ≤ 2000 := by
 unfold bodyR
 split
 ·rename_i h
  obtain ⟨_, _, h2, h8, _⟩ := (code_zero s).1 h
  rw [bodyOf_size s h8]
  exact h2
 ·exact Nat.zero_le _
structure Steps (s : ByteArray) (n : Int) (k : Nat) (t : List Int) (a : Nat) (v : List Int) (b : Nat) : Prop where
 rn : RdV (bodyR s) n k
 rt : RdAns showT rowT ((bodyR s).extract k (bodyR s).size) n t a
 rv : RdAns showV rowV ((bodyR s).extract (k + a) (bodyR s).size) n v b
theorem Good.steps {s : ByteArray} {l : List Pnt} (h : Good s l) : Steps s (l.length : Int) (vF 6 l.length).length (ts l) (cat (tPiece (ts l)) l.length).length (vs l) (cat (vPiece (vs l)) l.length).length := by
 obtain ⟨hc, _, hb⟩ := h.read
 obtain ⟨ht, hv⟩ := rows_of_ok h.2.1 h.1
 have hB : bodyR s = txt (bodyB l) := by rw [bodyR, if_pos hc, hb]
 have hn : l.length ≤ 562949953421311 := by have := h.2.1.1; omega
 have hf := find_var l.length (cat (tPiece (ts l)) l.length ++ cat (vPiece (vs l)) l.length) hn
 refine ⟨?_, ?_, ?_⟩
 ·rw [hB]
  exact .inl ⟨hf.1, by unfold bodyB; rw [hf.2]⟩
 ·rw [hB, bodyB, extract_back]
  have := readT_back (ts l) ht (cat (vPiece (vs l)) l.length)
  rw [ts_length] at this
  exact this
 ·rw [hB]
  have e : bodyB l = (vF 6 l.length ++ cat (tPiece (ts l)) l.length) ++ cat (vPiece (vs l)) l.length := by rw [bodyB, List.append_assoc]
  have := readV_back (vs l) hv []
  rw [vs_length, List.append_nil] at this
  rw [e, ← List.length_append, extract_back]
  exact this
theorem Steps.one {s : ByteArray} {n n' : Int} {k k' a a' b b' : Nat} {t t' v v' : List Int} (h : Steps s n k t a v b) (h' : Steps s n' k' t' a' v' b') : n = n' ∧ k = k' ∧ t = t' ∧ a = a' ∧ v = v' ∧ b = b' := by
 obtain ⟨rfl, rfl⟩ := h.rn.one h'.rn
 obtain ⟨rfl, rfl⟩ := h.rt.one h'.rt
 obtain ⟨rfl, rfl⟩ := h.rv.one h'.rv
 exact ⟨rfl, rfl, rfl, rfl, rfl, rfl⟩
theorem Steps.good {s : ByteArray} {n : Int} {k a b : Nat} {t v : List Int} (h : Steps s n k t a v b) {l : List Pnt} (hg : Good s l) : zipP t v = l ∧ n = (l.length : Int) ∧ t = ts l ∧ v = vs l ∧ 1 ≤ k ∧ 1 ≤ a ∧ 1 ≤ b ∧ k + a + b = (bodyR s).size := by
 obtain ⟨rfl, rfl, rfl, rfl, rfl, rfl⟩ := h.one hg.steps
 obtain ⟨hc, _, hb⟩ := hg.read
 have hB : bodyR s = txt (bodyB l) := by rw [bodyR, if_pos hc, hb]
 refine ⟨zipP_rows l, rfl, rfl, rfl, vF_pos _ _, cat_pos _ _ hg.1 (vF_pos _ _), cat_pos _ _ hg.1 (vF_pos _ _), ?_⟩
 rw [hB, txt_size, bodyB]
 simp only [List.length_append]
 omega
theorem Good.one {s : ByteArray} {l m : List Pnt} (h : Good s l) (h' : Good s m) : l = m := by
 have := (h.steps.good h').1
 rw [zipP_rows] at this
 exact this
theorem RdAns.pos {shw : List Int → ByteArray} {row : List Int → List Int} {s : ByteArray} {n : Int} {l : List Int} {k : Nat} (hrow : ∀ v, (row v).length = v.length) (h : RdAns shw row s n l k) (hk : k ≠ 0) : n = (l.length : Int) ∧ 1 ≤ l.length ∧ l.length ≤ 60 ∧ shw l = s.extract 0 k ∧ k ≤ s.size := by
 rcases h with ⟨m, v, h1, h2, h3, h4, h5, h6⟩ | ⟨_, _, h0⟩
 ·have hl : l.length = m := by rw [h6, hrow, h4.length]
  exact ⟨by rw [hl]; exact h1, by omega, by omega, by rw [h6]; exact h5, h4.le.2⟩
 ·exact absurd h0 hk
theorem okT_of_show {l : List Int} {s : ByteArray} {k : Nat} (h : showT l = s.extract 0 k) (hk : k ≠ 0) (hs : k ≤ s.size) : TOk l := by
 by_cases ho : TOk l
 ·exact ho
 ·unfold showT at h
  rw [if_neg ho] at h
  exact absurd h (extract_ne s k (by omega) hs)
theorem okV_of_show {l : List Int} {s : ByteArray} {k : Nat} (h : showV l = s.extract 0 k) (hk : k ≠ 0) (hs : k ≤ s.size) : VOk l := by
 by_cases ho : VOk l
 ·exact ho
 ·unfold showV at h
  rw [if_neg ho] at h
  exact absurd h (extract_ne s k (by omega) hs)
theorem Steps.back {s : ByteArray} {n : Int} {k a b : Nat} {t v : List Int} (h : Steps s n k t a v b) (hc : code s = 0) (h8 : 8 + rdv s 4 = s.size) (hk : k ≠ 0) (ha : a ≠ 0) (hb : b ≠ 0) (hs : k + a + b = (bodyR s).size) : Good s (zipP t v) ∧ t.length = v.length ∧ n = (t.length : Int) := by
 obtain ⟨ht1, ht2, ht3, ht4, ht5⟩ := h.rt.pos rowT_length ha
 obtain ⟨hv1, hv2, hv3, hv4, hv5⟩ := h.rv.pos rowV_length hb
 have hlen : t.length = v.length := by omega
 have hT := okT_of_show ht4 ha ht5
 have hV := okV_of_show hv4 hb hv5
 obtain ⟨e1, e2⟩ := ts_zip t v hlen
 have hzl : (zipP t v).length = t.length := by rw [zipP_length]; omega
 have hP : POk (zipP t v) := ok_of_rows (by rw [e1]; exact hT) (by rw [e2]; exact hV)
 have hfv : FindV (bodyR s) k ∧ n = (vvS (bodyR s) 0 k : Int) := by
  rcases h.rn with h | ⟨_, _, h0⟩
  ·exact h
  ·exact absurd h0 hk
 obtain ⟨⟨c1, c2, c3, c4⟩, hn⟩ := hfv
 have hvar : txt (vF 6 (zipP t v).length) = (bodyR s).extract 0 k := by
  have hh := (var_eq (bodyR s) k c1 c2 c3).2 c4
  have hm : vvS (bodyR s) 0 k = (zipP t v).length := by omega
  rw [hm] at hh
  by_cases e : txt (vF 6 (zipP t v).length) = (bodyR s).extract 0 k
  ·exact e
  ·rw [bytes_ne e] at hh
   cases hh
 have hbody : txt (vF 6 (zipP t v).length) ++ showT (ts (zipP t v)) ++ showV (vs (zipP t v)) = bodyR s := by
  rw [e1, e2, hvar, ht4, hv4, ByteArray.extract_extract, ByteArray.extract_extract, Nat.add_zero, Nat.add_zero, Nat.min_eq_left (by omega), Nat.min_eq_left (by omega), ByteArray.extract_append_extract, show min 0 k = 0 by omega, show max k (k + a) = k + a by omega, ByteArray.extract_append_extract, show min 0 (k + a) = 0 by omega, show max (k + a) (k + a + b) = k + a + b by omega, hs, ByteArray.extract_zero_size]
 refine ⟨⟨by omega, hP, ?_⟩, hlen, ht1⟩
 rw [showB, if_pos ⟨by omega, hP⟩, hbody, bodyR, if_pos hc]
 obtain ⟨g4, g1, g2, g8, gs⟩ := (code_zero s).1 hc
 rw [(frame_fits s g4 g1 g2 g8).2 gs, h8, ByteArray.extract_zero_size]
theorem Steps.empty {n : Int} {k a b : Nat} {t v : List Int} (h : Steps (txt []) n k t a v b) : t = [] := by
 have hc : ¬ code (txt []) = 0 := fun hc => by
  obtain ⟨h4, _⟩ := (code_zero _).1 hc
  rw [txt_size] at h4
  simp at h4
 have hB : bodyR (txt []) = ⟨#[]⟩ := by rw [bodyR, if_neg hc]
 have hz : n = 0 := by
  rcases h.rn with ⟨⟨h1, _, h3, _⟩, _⟩ | ⟨_, h0, _⟩
  ·rw [hB] at h3
   have : (ByteArray.mk #[]).size = 0 := rfl
   omega
  ·exact h0
 rcases h.rt with ⟨m, v, h1, h2, _⟩ | ⟨_, h0, _⟩
 ·omega
 ·exact h0
theorem Steps.shown {s : ByteArray} {n : Int} {k a b : Nat} {t v : List Int} (h : Steps s n k t a v b) (h1 : 1 ≤ (zipP t v).length) (hs : showB (zipP t v) = s) : Good s (zipP t v) := by
 by_cases hp : POk (zipP t v)
 ·exact ⟨h1, hp, hs⟩
 ·exfalso
  rw [showB, if_neg (fun hh => hp hh.2)] at hs
  subst hs
  rw [h.empty] at h1
  simp [zipP] at h1
def RbAns (s : ByteArray) (l : List Pnt) (ok : Bool) : Prop := (ok = true ∧ Good s l) ∨ (ok = false ∧ l = [] ∧ ∀ m, ¬ Good s m)
theorem RbAns.one {s : ByteArray} {l m : List Pnt} {x y : Bool} (h : RbAns s l x) (h' : RbAns s m y) : l = m ∧ x = y := by
 rcases h with ⟨h1, h2⟩ | ⟨h1, h2, h3⟩ <;> rcases h' with ⟨h1', h2'⟩ | ⟨h1', h2', h3'⟩
 ·exact ⟨h2.one h2', h1.trans h1'.symm⟩
 ·exact absurd h2 (h3' l)
 ·exact absurd h2' (h3 m)
 ·exact ⟨h2.trans h2'.symm, h1.trans h1'.symm⟩
theorem RbAns.len {s : ByteArray} {l : List Pnt} {x : Bool} (h : RbAns s l x) : l.length ≤ 60 := by
 rcases h with ⟨_, h2⟩ | ⟨_, h2, _⟩
 ·exact h2.2.1.1
 ·rw [h2]; simp
theorem showB_size (l : List Pnt) : (showB l).size ≤ 900 := by
 unfold showB
 split
 ·rename_i h
  have hb := bodyB_size h.2
  rw [body_is h.2 h.1, frame, if_neg (by rw [txt_size]; omega), frameOf_size, txt_size]
  omega
 ·rw [txt_size]; simp
end Go.Proofs.YthhamlahdjokkaaGreatDoor
namespace Go.Proofs.YthhamlahdjokkaaGreatDoor
open Go.RowKit Go.PlainAid
def bl (s : ByteArray) : List UInt8 := s.data.toList
theorem txt_bl (s : ByteArray) : txt (bl s) = s := txt_toList s
theorem bl_length (s : ByteArray) : (bl s).length = s.size := by rw [← txt_size, txt_bl]
def magic : List UInt8 := [116, 115, 98, 49]
def blkB (l : List Ser) (j : Nat) : List UInt8 := bl (showB (sAt l j).pts)
def blks (l : List Ser) (k : Nat) : List UInt8 := cat (blkB l) k
def atB (l : List Ser) (k : Nat) : Nat := 4 + (blks l k).length
def fT (l : List Ser) (j : Nat) : Nat := (tAt (sAt l j).pts 0).toNat
def lT (l : List Ser) (j : Nat) : Nat := (tAt (sAt l j).pts ((sAt l j).pts.length - 1)).toNat
def spB (l : List Ser) (j : Nat) : List UInt8 := vF 6 (sAt l j).key.size ++ (bl (sAt l j).key ++ (vF 6 (atB l j) ++ (vF 6 (blkB l j).length ++ (vF 6 (fT l j) ++ vF 6 (lT l j)))))
def idxB (l : List Ser) (k : Nat) : List UInt8 := cat (spB l) k
def bodyF (l : List Ser) : List UInt8 := magic ++ (blks l l.length ++ (idxB l l.length ++ low (atB l l.length) 4))
def fileB (l : List Ser) : List UInt8 := bodyF l ++ low (crc (txt (bodyF l))) 4
def fileT (l : List Ser) : ByteArray := if 1 ≤ l.length ∧ SOk l then txt (fileB l) else txt []
def GoodF (s : ByteArray) (l : List Ser) : Prop := 1 ≤ l.length ∧ SOk l ∧ fileT l = s
theorem GoodF.text {s : ByteArray} {l : List Ser} (h : GoodF s l) : s = txt (fileB l) := by
 rw [← h.2.2, fileT, if_pos ⟨h.1, h.2.1⟩]
theorem blkB_length (l : List Ser) (j : Nat) : (blkB l j).length ≤ 900 := by unfold blkB; rw [bl_length]; exact showB_size _
theorem blks_length (l : List Ser) (k : Nat) : (blks l k).length ≤ 900 * k := by
 induction k with
 | zero => simp [blks, cat_zero]
 | succ k ih => unfold blks at ih ⊢; rw [cat_succ, List.length_append]; have := blkB_length l k; omega
theorem SOk.key {l : List Ser} (h : SOk l) (j : Nat) (hj : j < l.length) : 1 ≤ (sAt l j).key.size ∧ (sAt l j).key.size ≤ 8 := ⟨(h.2 j hj).1.1.1, (h.2 j hj).1.1.2.1⟩
theorem SOk.times {l : List Ser} (h : SOk l) (j : Nat) (hj : j < l.length) : (0 ≤ tAt (sAt l j).pts 0 ∧ tAt (sAt l j).pts 0 ≤ 1099511627776) ∧ (0 ≤ tAt (sAt l j).pts ((sAt l j).pts.length - 1) ∧ tAt (sAt l j).pts ((sAt l j).pts.length - 1) ≤ 1099511627776) := by
 have h1 := (h.2 j hj).2
 exact ⟨(h1.2.2 0 (by omega)).1.1, (h1.2.2 _ (by omega)).1.1⟩
theorem spB_length {l : List Ser} (h : SOk l) (j : Nat) (hj : j < l.length) : 6 ≤ (spB l j).length ∧ (spB l j).length ≤ 43 := by
 have := h.key j hj
 unfold spB
 simp only [List.length_append, bl_length]
 have a1 := vF_pos 6 (sAt l j).key.size
 have a2 := vF_pos 6 (atB l j)
 have a3 := vF_pos 6 (blkB l j).length
 have a4 := vF_pos 6 (fT l j)
 have a5 := vF_pos 6 (lT l j)
 have b1 := vF_length 6 (sAt l j).key.size
 have b2 := vF_length 6 (atB l j)
 have b3 := vF_length 6 (blkB l j).length
 have b4 := vF_length 6 (fT l j)
 have b5 := vF_length 6 (lT l j)
 omega
theorem idxB_length {l : List Ser} (h : SOk l) (k : Nat) (hk : k ≤ l.length) : 6 * k ≤ (idxB l k).length ∧ (idxB l k).length ≤ 43 * k := by
 induction k with
 | zero => simp [idxB, cat_zero]
 | succ k ih =>
  have ih := ih (by omega)
  have := spB_length h k (by omega)
  unfold idxB at ih ⊢
  rw [cat_succ, List.length_append]
  omega
theorem atB_le {l : List Ser} (h : SOk l) (k : Nat) (hk : k ≤ l.length) : atB l k ≤ 4504 := by
 have := blks_length l k
 have := h.1
 unfold atB
 omega
theorem bodyF_length {l : List Ser} (h : SOk l) : (bodyF l).length = 8 + (blks l l.length).length + (idxB l l.length).length ∧ (bodyF l).length ≤ 5000 := by
 have h1 := blks_length l l.length
 have h2 := idxB_length h l.length (Nat.le_refl _)
 have := h.1
 unfold bodyF
 simp only [List.length_append, low_length]
 have : magic.length = 4 := rfl
 omega
theorem fileB_length (l : List Ser) : (fileB l).length = (bodyF l).length + 4 := by unfold fileB; rw [List.length_append, low_length]
theorem fileT_size (l : List Ser) : (fileT l).size ≤ 5004 := by
 unfold fileT
 split
 ·rename_i h
  rw [txt_size, fileB_length]
  have := bodyF_length h.2
  omega
 ·rw [txt_size]; simp
theorem rdV_ex (s : ByteArray) : ∃ n k : Nat, RdV s (n : Int) k := by
 by_cases h : ∃ k, FindV s k
 ·obtain ⟨k, h⟩ := h
  exact ⟨vvS s 0 k, k, .inl ⟨h, rfl⟩⟩
 ·exact ⟨0, 0, .inr ⟨fun j hj => h ⟨j, hj⟩, rfl, rfl⟩⟩
noncomputable def rvN (s : ByteArray) : Nat := Classical.choose (rdV_ex s)
noncomputable def rvK (s : ByteArray) : Nat := Classical.choose (Classical.choose_spec (rdV_ex s))
theorem rv_rd (s : ByteArray) : RdV s (rvN s : Int) (rvK s) := Classical.choose_spec (Classical.choose_spec (rdV_ex s))
theorem rv_is {s : ByteArray} {n : Int} {k : Nat} (h : RdV s n k) : n = (rvN s : Int) ∧ k = rvK s := h.one (rv_rd s)
theorem rvN_le (s : ByteArray) : rvN s ≤ 562949953421311 := by
 rcases rv_rd s with ⟨⟨_, h7, _, _⟩, h⟩ | ⟨_, h, _⟩
 ·have := vvS_le s (rvK s) h7 0
  omega
 ·omega
theorem rvK_le (s : ByteArray) : rvK s ≤ s.size ∧ rvK s ≤ 7 := by
 have := (rv_rd s).le
 omega
theorem rv_var (n : Nat) (tl : List UInt8) (hn : n ≤ 562949953421311) : rvN (txt (vF 6 n ++ tl)) = n ∧ rvK (txt (vF 6 n ++ tl)) = (vF 6 n).length := by
 have hf := find_var n tl hn
 have := rv_is (s := txt (vF 6 n ++ tl)) (n := (n : Int)) (k := (vF 6 n).length) (.inl ⟨hf.1, by rw [hf.2]⟩)
 omega
theorem extract_mid (a b c : List UInt8) : (txt (a ++ (b ++ c))).extract a.length (a.length + b.length) = txt b := by
 have h1 := extract_back a (b ++ c)
 have h2 := extract_front b c
 rw [← h1, ByteArray.extract_extract] at h2
 rw [← h2]
 congr 1
 rw [txt_size]
 simp only [List.length_append]
 omega
theorem rest_mid (a b : List UInt8) : rest (txt (a ++ b)) a.length = txt b := extract_back a b
noncomputable def tkN (s : ByteArray) (p : Nat) : Nat := rvN (rest s p)
noncomputable def tkP (s : ByteArray) (p : Nat) : Nat := p + rvK (rest s p)
theorem tkP_le (s : ByteArray) (p : Nat) (h : p ≤ s.size) : tkP s p ≤ s.size := by
 have := (rvK_le (rest s p)).1
 rw [rest_size] at this
 unfold tkP
 omega
theorem tk_var (a : List UInt8) (n : Nat) (tl : List UInt8) (hn : n ≤ 562949953421311) : tkN (txt (a ++ (vF 6 n ++ tl))) a.length = n ∧ tkP (txt (a ++ (vF 6 n ++ tl))) a.length = (a ++ vF 6 n).length := by
 unfold tkN tkP
 rw [rest_mid, (rv_var n tl hn).1, (rv_var n tl hn).2, List.length_append]
 exact ⟨rfl, rfl⟩
structure Spot where
 key : ByteArray
 at' : Nat
 size : Nat
 first : Nat
 last : Nat
instance : Inhabited Spot := ⟨⟨⟨#[]⟩, 0, 0, 0, 0⟩⟩
def tk (s : ByteArray) (p many : Nat) : Nat := min (p + many) s.size
noncomputable def spK (s : ByteArray) (p : Nat) : Nat := tk s (tkP s p) (tkN s p)
noncomputable def spotA (s : ByteArray) (p : Nat) : Spot :=
 ⟨s.extract (tkP s p) (spK s p), tkN s (spK s p), tkN s (tkP s (spK s p)), tkN s (tkP s (tkP s (spK s p))), tkN s (tkP s (tkP s (tkP s (spK s p))))⟩
noncomputable def spotP (s : ByteArray) (p : Nat) : Nat := tkP s (tkP s (tkP s (tkP s (spK s p))))
theorem tk_le (s : ByteArray) (p many : Nat) : tk s p many ≤ s.size := Nat.min_le_right _ _
theorem spotP_le (s : ByteArray) (p : Nat) : spotP s p ≤ s.size := tkP_le _ _ (tkP_le _ _ (tkP_le _ _ (tkP_le _ _ (tk_le _ _ _))))
noncomputable def idxA (s : ByteArray) (e : Nat) : Nat → Nat → List Spot
 | 0, _ => []
 | f + 1, p => if p < e then spotA s p :: idxA s e f (spotP s p) else []
noncomputable def spots (s : ByteArray) : List Spot := if s.size < 8 then [] else idxA s (s.size - 8) 5 (min (rdv (rest s (s.size - 8)) 4) s.size)
theorem idxA_length (s : ByteArray) (e : Nat) : ∀ f p, (idxA s e f p).length ≤ f
 | 0, _ => by simp [idxA]
 | f + 1, p => by
  rw [idxA]
  split
  ·have := idxA_length s e f (spotP s p)
   simp only [List.length_cons]
   omega
  ·simp
theorem spots_length (s : ByteArray) : (spots s).length ≤ 5 := by
 unfold spots
 split
 ·simp
 ·exact idxA_length _ _ _ _
def blkA (s : ByteArray) (x : Spot) : ByteArray := s.extract (min x.at' s.size) (tk s (min x.at' s.size) x.size)
theorem rb_ex (s : ByteArray) : ∃ l ok, RbAns s l ok := by
 by_cases h : ∃ l, Good s l
 ·obtain ⟨l, h⟩ := h
  exact ⟨l, true, .inl ⟨rfl, h⟩⟩
 ·exact ⟨[], false, .inr ⟨rfl, rfl, fun m hm => h ⟨m, hm⟩⟩⟩
noncomputable def rbP (s : ByteArray) : List Pnt := Classical.choose (rb_ex s)
theorem rbP_is {s : ByteArray} {l : List Pnt} {ok : Bool} (h : RbAns s l ok) : l = rbP s := by
 obtain ⟨ok', h'⟩ := Classical.choose_spec (rb_ex s)
 exact (h.one h').1
theorem rbP_good {s : ByteArray} {l : List Pnt} (h : Good s l) : rbP s = l := (rbP_is (ok := true) (.inl ⟨rfl, h⟩)).symm
theorem rbP_length (s : ByteArray) : (rbP s).length ≤ 60 := by
 obtain ⟨ok, h⟩ := Classical.choose_spec (rb_ex s)
 exact h.len
noncomputable def serA (s : ByteArray) (x : Spot) : Ser := ⟨x.key, rbP (blkA s x)⟩
noncomputable def serAll (s : ByteArray) : List Ser := (spots s).map (serA s)
def spotOf (l : List Ser) (j : Nat) : Spot := ⟨(sAt l j).key, atB l j, (blkB l j).length, fT l j, lT l j⟩
def posF (l : List Ser) (j : Nat) : Nat := atB l l.length + (idxB l j).length
theorem file_at (l : List Ser) (j : Nat) (hj : j < l.length) : ∃ a b : List UInt8, fileB l = a ++ (spB l j ++ (b ++ (low (atB l l.length) 4 ++ low (crc (txt (bodyF l))) 4))) ∧ a.length = posF l j ∧ idxB l l.length = idxB l j ++ (spB l j ++ b) := by
 obtain ⟨b, hb⟩ := cat_split (spB l) j l.length hj
 refine ⟨magic ++ (blks l l.length ++ idxB l j), b, ?_, ?_, hb⟩
 ·unfold fileB bodyF
  rw [show idxB l l.length = cat (spB l) l.length from rfl, hb]
  simp only [List.append_assoc]
  rfl
 ·unfold posF atB
  simp only [List.length_append]
  have : magic.length = 4 := rfl
  omega
theorem posF_end {l : List Ser} (h : SOk l) : posF l l.length + 8 = (fileB l).length := by
 have := bodyF_length h
 rw [fileB_length, this.1]
 unfold posF atB
 omega
theorem posF_lt {l : List Ser} (h : SOk l) (j : Nat) (hj : j < l.length) : posF l j < posF l l.length := by
 obtain ⟨a, b, _, _, hb⟩ := file_at l j hj
 have := spB_length h j hj
 unfold posF
 rw [hb]
 simp only [List.length_append]
 omega
theorem posF_succ (l : List Ser) (j : Nat) : posF l (j + 1) = posF l j + (spB l j).length := by
 unfold posF idxB
 rw [cat_succ, List.length_append, Nat.add_assoc]
theorem nums_le {l : List Ser} (h : SOk l) (j : Nat) (hj : j < l.length) : (sAt l j).key.size ≤ 562949953421311 ∧ atB l j ≤ 562949953421311 ∧ (blkB l j).length ≤ 562949953421311 ∧ fT l j ≤ 562949953421311 ∧ lT l j ≤ 562949953421311 := by
 have h1 := h.key j hj
 have h2 := atB_le h j (by omega)
 have h3 := blkB_length l j
 have h4 := h.times j hj
 unfold fT lT
 omega
theorem spot_read {l : List Ser} (h : SOk l) (j : Nat) (hj : j < l.length) : spotA (txt (fileB l)) (posF l j) = spotOf l j ∧ spotP (txt (fileB l)) (posF l j) = posF l (j + 1) := by
 obtain ⟨a, b, hf, ha, _⟩ := file_at l j hj
 obtain ⟨n1, n2, n3, n4, n5⟩ := nums_le h j hj
 generalize hK : (sAt l j).key = K at *
 generalize hA : atB l j = A at *
 generalize hZ : (blkB l j).length = Z at *
 generalize hF : fT l j = F at *
 generalize hE : lT l j = E at *
 generalize b ++ (low (atB l l.length) 4 ++ low (crc (txt (bodyF l))) 4) = T at hf
 have hsp : spB l j = vF 6 K.size ++ (bl K ++ (vF 6 A ++ (vF 6 Z ++ (vF 6 F ++ vF 6 E)))) := by unfold spB; rw [hK, hA, hZ, hF, hE]
 have e0 : fileB l = a ++ (vF 6 K.size ++ (bl K ++ (vF 6 A ++ (vF 6 Z ++ (vF 6 F ++ (vF 6 E ++ T)))))) := by rw [hf, hsp]; simp only [List.append_assoc]
 have e1 : fileB l = (a ++ vF 6 K.size) ++ (bl K ++ (vF 6 A ++ (vF 6 Z ++ (vF 6 F ++ (vF 6 E ++ T))))) := by rw [e0]; simp only [List.append_assoc]
 have e2 : fileB l = (a ++ vF 6 K.size ++ bl K) ++ (vF 6 A ++ (vF 6 Z ++ (vF 6 F ++ (vF 6 E ++ T)))) := by rw [e0]; simp only [List.append_assoc]
 have e3 : fileB l = (a ++ vF 6 K.size ++ bl K ++ vF 6 A) ++ (vF 6 Z ++ (vF 6 F ++ (vF 6 E ++ T))) := by rw [e0]; simp only [List.append_assoc]
 have e4 : fileB l = (a ++ vF 6 K.size ++ bl K ++ vF 6 A ++ vF 6 Z) ++ (vF 6 F ++ (vF 6 E ++ T)) := by rw [e0]; simp only [List.append_assoc]
 have e5 : fileB l = (a ++ vF 6 K.size ++ bl K ++ vF 6 A ++ vF 6 Z ++ vF 6 F) ++ (vF 6 E ++ T) := by rw [e0]; simp only [List.append_assoc]
 have t1 := tk_var a K.size (bl K ++ (vF 6 A ++ (vF 6 Z ++ (vF 6 F ++ (vF 6 E ++ T))))) n1
 rw [← e0] at t1
 have k1 : spK (txt (fileB l)) a.length = (a ++ vF 6 K.size ++ bl K).length := by
  unfold spK tk
  rw [t1.1, t1.2, txt_size, e2]
  simp only [List.length_append, bl_length]
  omega
 have x1 := extract_mid (a ++ vF 6 K.size) (bl K) (vF 6 A ++ (vF 6 Z ++ (vF 6 F ++ (vF 6 E ++ T))))
 rw [← e1, ← List.length_append] at x1
 have t2 := tk_var (a ++ vF 6 K.size ++ bl K) A (vF 6 Z ++ (vF 6 F ++ (vF 6 E ++ T))) n2
 rw [← e2] at t2
 have t3 := tk_var (a ++ vF 6 K.size ++ bl K ++ vF 6 A) Z (vF 6 F ++ (vF 6 E ++ T)) n3
 rw [← e3] at t3
 have t4 := tk_var (a ++ vF 6 K.size ++ bl K ++ vF 6 A ++ vF 6 Z) F (vF 6 E ++ T) n4
 rw [← e4] at t4
 have t5 := tk_var (a ++ vF 6 K.size ++ bl K ++ vF 6 A ++ vF 6 Z ++ vF 6 F) E T n5
 rw [← e5] at t5
 rw [posF_succ, ← ha]
 unfold spotA spotP
 rw [k1, t1.2, t2.1, t2.2, t3.1, t3.2, t4.1, t4.2, t5.1, t5.2, x1]
 refine ⟨?_, ?_⟩
 ·unfold spotOf
  rw [hK, hA, hZ, hF, hE, txt_bl]
 ·rw [hsp]
  simp only [List.length_append]
  omega
theorem idx_read {l : List Ser} (h : SOk l) (d : Nat) : ∀ j f, j + d = l.length → d ≤ f → idxA (txt (fileB l)) (posF l l.length) f (posF l j) = (List.range d).map fun i => spotOf l (j + i) := by
 induction d with
 | zero =>
  intro j f hj _
  obtain rfl : j = l.length := by omega
  cases f with
  | zero => rfl
  | succ f => rw [idxA, if_neg (by omega)]; rfl
 | succ d ih =>
  intro j f hj hf
  match f, hf with
  | f + 1, hf =>
   rw [idxA, if_pos (posF_lt h j (by omega)), (spot_read h j (by omega)).1, (spot_read h j (by omega)).2, ih (j + 1) f (by omega) (by omega), List.range_succ_eq_map, List.map_cons, List.map_map, Nat.add_zero]
   congr 1
   apply List.map_congr_left
   intro i _
   show spotOf l (j + 1 + i) = spotOf l (j + (i + 1))
   congr 1
   omega
theorem begin_read {l : List Ser} (h : SOk l) : rdv (rest (txt (fileB l)) ((txt (fileB l)).size - 8)) 4 = atB l l.length ∧ 12 ≤ (txt (fileB l)).size := by
 have hb := atB_le h l.length (Nat.le_refl _)
 have hl := bodyF_length h
 have e : fileB l = (magic ++ (blks l l.length ++ idxB l l.length)) ++ (low (atB l l.length) 4 ++ low (crc (txt (bodyF l))) 4) := by
  unfold fileB
  conv => lhs; arg 1; unfold bodyF
  simp only [List.append_assoc]
 have hz : (txt (fileB l)).size - 8 = (magic ++ (blks l l.length ++ idxB l l.length)).length := by
  rw [txt_size, fileB_length, hl.1]
  simp only [List.length_append]
  have : magic.length = 4 := rfl
  omega
 refine ⟨?_, by rw [txt_size, fileB_length, hl.1]; omega⟩
 rw [hz]
 conv => lhs; arg 1; rw [e]
 rw [rest_mid, ← txt_cat, rdv_append _ _ _ (by rw [txt_size, low_length]; exact Nat.le_refl _)]
 exact rdv_four_four _ (by omega)
theorem spots_read {l : List Ser} (h : SOk l) : spots (txt (fileB l)) = (List.range l.length).map (spotOf l) := by
 obtain ⟨h1, h2⟩ := begin_read h
 have hp := posF_end h
 have hb := atB_le h l.length (Nat.le_refl _)
 have h5 := h.1
 have hl := bodyF_length h
 have e0 : min (atB l l.length) (txt (fileB l)).size = posF l 0 := by
  rw [txt_size, fileB_length, hl.1]
  unfold posF idxB
  rw [cat_zero]
  unfold atB
  simp only [List.length_nil]
  omega
 have ee : (txt (fileB l)).size - 8 = posF l l.length := by rw [txt_size]; omega
 unfold spots
 rw [if_neg (by omega), h1, e0, ee, idx_read h l.length 0 5 (by omega) h5]
 simp only [Nat.zero_add]
theorem blk_read {l : List Ser} (j : Nat) (hj : j < l.length) : blkA (txt (fileB l)) (spotOf l j) = showB (sAt l j).pts := by
 obtain ⟨c, hc⟩ := cat_split (blkB l) j l.length hj
 have e : ∃ T, fileB l = (magic ++ blks l j) ++ (blkB l j ++ T) := by
  refine ⟨c ++ (idxB l l.length ++ low (atB l l.length) 4) ++ low (crc (txt (bodyF l))) 4, ?_⟩
  unfold fileB
  conv => lhs; arg 1; unfold bodyF
  rw [show blks l l.length = cat (blkB l) l.length from rfl, hc]
  simp only [List.append_assoc]
  rfl
 obtain ⟨T, e⟩ := e
 have ha : atB l j = (magic ++ blks l j).length := by
  unfold atB
  rw [List.length_append]
  rfl
 have hm := extract_mid (magic ++ blks l j) (blkB l j) T
 unfold blkA spotOf tk
 simp only
 rw [txt_size, ha, e]
 rw [show min (magic ++ blks l j).length ((magic ++ blks l j) ++ (blkB l j ++ T)).length = (magic ++ blks l j).length by simp only [List.length_append]; omega,
  show min ((magic ++ blks l j).length + (blkB l j).length) ((magic ++ blks l j) ++ (blkB l j ++ T)).length = (magic ++ blks l j).length + (blkB l j).length by simp only [List.length_append]; omega, hm]
 exact txt_bl _
theorem ser_read {l : List Ser} (h : SOk l) (j : Nat) (hj : j < l.length) : serA (txt (fileB l)) (spotOf l j) = sAt l j := by
 have hg : Good (showB (sAt l j).pts) (sAt l j).pts := ⟨(h.2 j hj).2.1, (h.2 j hj).2.2, rfl⟩
 unfold serA
 rw [blk_read j hj, rbP_good hg]
 rfl
theorem range_at (l : List Ser) : (List.range l.length).map (sAt l) = l := by
 apply List.ext_getElem (by simp)
 intro j h1 h2
 rw [List.getElem_map, List.getElem_range, sAt, ← getD_at l j h2]
theorem GoodF.read {s : ByteArray} {l : List Ser} (h : GoodF s l) : serAll s = l ∧ spots s = (List.range l.length).map (spotOf l) := by
 rw [h.text]
 refine ⟨?_, spots_read h.2.1⟩
 unfold serAll
 rw [spots_read h.2.1, List.map_map]
 conv => rhs; rw [← range_at l]
 apply List.map_congr_left
 intro j hj
 exact ser_read h.2.1 j (List.mem_range.1 hj)
theorem GoodF.one {s : ByteArray} {l m : List Ser} (h : GoodF s l) (h' : GoodF s m) : l = m := h.read.1.symm.trans h'.read.1
theorem GoodF.of {s : ByteArray} {l : List Ser} (h1 : 1 ≤ l.length) (h8 : 8 ≤ s.size) (hs : fileT l = s) : GoodF s l := by
 refine ⟨h1, ?_, hs⟩
 by_cases h : SOk l
 ·exact h
 ·rw [fileT, if_neg (fun hh => h hh.2)] at hs
  rw [← hs, txt_size] at h8
  simp at h8
def RfAns (s : ByteArray) (l : List Ser) (ok : Bool) : Prop := (ok = true ∧ GoodF s l) ∨ (ok = false ∧ l = [] ∧ ∀ m, ¬ GoodF s m)
theorem RfAns.one {s : ByteArray} {l m : List Ser} {x y : Bool} (h : RfAns s l x) (h' : RfAns s m y) : l = m ∧ x = y := by
 rcases h with ⟨h1, h2⟩ | ⟨h1, h2, h3⟩ <;> rcases h' with ⟨h1', h2'⟩ | ⟨h1', h2', h3'⟩
 ·exact ⟨h2.one h2', h1.trans h1'.symm⟩
 ·exact absurd h2 (h3' l)
 ·exact absurd h2' (h3 m)
 ·exact ⟨h2.trans h2'.symm, h1.trans h1'.symm⟩
theorem RfAns.len {s : ByteArray} {l : List Ser} {x : Bool} (h : RfAns s l x) : l.length ≤ 5 := by
 rcases h with ⟨_, h2⟩ | ⟨_, h2, _⟩
 ·exact h2.2.1.1
 ·rw [h2]; simp
theorem RfAns.short {s : ByteArray} {l : List Ser} {x : Bool} (h : RfAns s l x) : ∀ y ∈ l, y.pts.length ≤ 60 := by
 rcases h with ⟨_, h2⟩ | ⟨_, h2, _⟩
 ·intro y hy
  obtain ⟨j, hj, rfl⟩ := List.getElem_of_mem hy
  have := (h2.2.1.2 j hj).2.2.1
  rwa [sAt, ← getD_at l j hj] at this
 ·rw [h2]
  intro y hy
  cases hy
end Go.Proofs.YthhamlahdjokkaaGreatDoor
namespace Go.Proofs.YthhamlahdjokkaaGreatDoor
open Go.RowKit Go.PlainAid
def RiseK (l : List ByteArray) : Prop := l.Pairwise fun a b => ahd a b = true
theorem ahd_ne {a b : ByteArray} (h : ahd a b = true) : a ≠ b := fun e => by rw [e, ahd_irrefl] at h; cases h
theorem ahd_tri {a b : ByteArray} (h : ahd a b = false) (hne : a ≠ b) : ahd b a = true := by
 rcases ahd_no h with h | h
 ·exact h
 ·exact absurd h.symm hne
theorem riseK_ext : ∀ {l m : List ByteArray}, RiseK l → RiseK m → (∀ p, p ∈ l ↔ p ∈ m) → l = m
 | [], [], _, _, _ => rfl
 | [], y :: m, _, _, h => by have := (h y).2 (by simp); simp at this
 | x :: l, [], _, _, h => by have := (h x).1 (by simp); simp at this
 | x :: l, y :: m, hl, hm, h => by
  have hl' := List.pairwise_cons.1 hl
  have hm' := List.pairwise_cons.1 hm
  have hxy : x = y := by
   rcases List.mem_cons.1 ((h x).1 (by simp)) with e | h1
   ·exact e
   ·rcases List.mem_cons.1 ((h y).2 (by simp)) with e | h2
    ·exact e.symm
    ·exact absurd rfl (ahd_ne (ahd_trans (hm'.1 x h1) (hl'.1 y h2)))
  subst hxy
  congr 1
  refine riseK_ext hl'.2 hm'.2 fun p => ⟨fun hp => ?_, fun hp => ?_⟩
  ·rcases List.mem_cons.1 ((h p).1 (by simp [hp])) with e | h1
   ·subst e; exact absurd rfl (ahd_ne (hl'.1 p hp))
   ·exact h1
  ·rcases List.mem_cons.1 ((h p).2 (by simp [hp])) with e | h1
   ·subst e; exact absurd rfl (ahd_ne (hm'.1 p hp))
   ·exact h1
open Classical in
noncomputable def insK : List ByteArray → ByteArray → List ByteArray
 | [], k => [k]
 | x :: l, k => if x = k then x :: l else if ahd k x = true then k :: x :: l else x :: insK l k
theorem mem_insK (p k : ByteArray) : ∀ l, p ∈ insK l k ↔ p = k ∨ p ∈ l
 | [] => by simp [insK]
 | x :: l => by
  by_cases h : x = k
  ·rw [insK, if_pos h, List.mem_cons, h]
   constructor
   ·intro h; exact .inr h
   ·rintro (h | h)
    ·exact .inl h
    ·exact h
  ·by_cases h2 : ahd k x = true
   ·rw [insK, if_neg h, if_pos h2, List.mem_cons]
   ·rw [insK, if_neg h, if_neg h2, List.mem_cons, mem_insK p k l, List.mem_cons]
    constructor
    ·rintro (h | h | h)
     ·exact .inr (.inl h)
     ·exact .inl h
     ·exact .inr (.inr h)
    ·rintro (h | h | h)
     ·exact .inr (.inl h)
     ·exact .inl h
     ·exact .inr (.inr h)
theorem rise_insK (k : ByteArray) : ∀ l, RiseK l → RiseK (insK l k)
 | [], _ => by simp [insK, RiseK]
 | x :: l, hl => by
  have hl' := List.pairwise_cons.1 hl
  by_cases h : x = k
  ·rw [insK, if_pos h]; exact hl
  ·by_cases h2 : ahd k x = true
   ·rw [insK, if_neg h, if_pos h2]
    refine List.pairwise_cons.2 ⟨fun y hy => ?_, hl⟩
    rcases List.mem_cons.1 hy with e | hy
    ·rw [e]; exact h2
    ·exact ahd_trans h2 (hl'.1 y hy)
   ·rw [insK, if_neg h, if_neg h2]
    refine List.pairwise_cons.2 ⟨fun y hy => ?_, rise_insK k l hl'.2⟩
    rcases (mem_insK y k l).1 hy with e | hy
    ·rw [e]; exact ahd_tri (by simpa using h2) (fun e => h e.symm)
    ·exact hl'.1 y hy
noncomputable def allK (ks : List ByteArray) : List ByteArray := ks.foldl insK []
theorem mem_foldK (p : ByteArray) : ∀ (ks a : List ByteArray), p ∈ ks.foldl insK a ↔ p ∈ a ∨ p ∈ ks
 | [], a => by simp
 | k :: ks, a => by
  rw [List.foldl_cons, mem_foldK p ks, mem_insK, List.mem_cons]
  constructor
  ·rintro ((h | h) | h)
   ·exact .inr (.inl h)
   ·exact .inl h
   ·exact .inr (.inr h)
  ·rintro (h | h | h)
   ·exact .inl (.inr h)
   ·exact .inl (.inl h)
   ·exact .inr h
theorem rise_foldK : ∀ (ks a : List ByteArray), RiseK a → RiseK (ks.foldl insK a)
 | [], _, h => h
 | k :: ks, a, h => rise_foldK ks _ (rise_insK k a h)
theorem mem_allK (p : ByteArray) (ks : List ByteArray) : p ∈ allK ks ↔ p ∈ ks := by rw [allK, mem_foldK]; simp
theorem rise_allK (ks : List ByteArray) : RiseK (allK ks) := rise_foldK ks [] (by simp [RiseK])
open Classical in
noncomputable def ptsAt : List Ser → ByteArray → List Pnt
 | [], _ => []
 | x :: l, k => if x.key = k then x.pts else ptsAt l k
theorem ptsAt_none {k : ByteArray} : ∀ {l : List Ser}, (∀ x ∈ l, x.key ≠ k) → ptsAt l k = []
 | [], _ => rfl
 | x :: l, h => by rw [ptsAt, if_neg (h x (by simp)), ptsAt_none fun y hy => h y (by simp [hy])]
theorem ptsAt_some {k : ByteArray} : ∀ {l : List Ser}, ptsAt l k = [] ∨ ∃ x ∈ l, x.key = k ∧ ptsAt l k = x.pts
 | [] => .inl rfl
 | x :: l => by
  by_cases h : x.key = k
  ·exact .inr ⟨x, by simp, h, by rw [ptsAt, if_pos h]⟩
  ·rw [ptsAt, if_neg h]
   rcases ptsAt_some (k := k) (l := l) with h | ⟨y, hy, h⟩
   ·exact .inl h
   ·exact .inr ⟨y, by simp [hy], h⟩
theorem ptsAt_rising {l : List Ser} (h : ∀ x ∈ l, Rising x.pts) (k : ByteArray) : Rising (ptsAt l k) := by
 rcases ptsAt_some (k := k) (l := l) with e | ⟨x, hx, _, e⟩
 ·rw [e]; simp [Rising]
 ·rw [e]; exact h x hx
noncomputable def hasAll (ls : List (List Ser)) (k : ByteArray) : List Pnt := ls.foldl (fun a l => mrg a (ptsAt l k)) []
def fromF (f : Int) (l : List Pnt) : List Pnt := l.filter fun p => decide (f ≤ p.t)
noncomputable def has (ls : List (List Ser)) (f : Int) (k : ByteArray) : List Pnt := fromF f (hasAll ls k)
theorem hasAll_snoc (ls : List (List Ser)) (l : List Ser) (k : ByteArray) : hasAll (ls ++ [l]) k = mrg (hasAll ls k) (ptsAt l k) := by rw [hasAll, List.foldl_append]; rfl
theorem mrg_nil (a : List Pnt) : mrg a [] = a := rfl
def LRis (ls : List (List Ser)) : Prop := ∀ l ∈ ls, ∀ x ∈ l, Rising x.pts
theorem fold_rising (k : ByteArray) : ∀ (ls : List (List Ser)) (a : List Pnt), Rising a → Rising (ls.foldl (fun a l => mrg a (ptsAt l k)) a)
 | [], _, h => h
 | _ :: ls, _, h => fold_rising k ls _ (rising_mrg _ _ h)
theorem rising_hasAll (ls : List (List Ser)) (k : ByteArray) : Rising (hasAll ls k) := fold_rising k ls [] (by simp [Rising])
theorem mem_hasAll {p : Pnt} {k : ByteArray} : ∀ {ls : List (List Ser)} {a : List Pnt}, LRis ls → p ∈ ls.foldl (fun a l => mrg a (ptsAt l k)) a → p ∈ a ∨ ∃ l ∈ ls, p ∈ ptsAt l k
 | [], _, _, h => .inl h
 | l :: ls, a, hr, h => by
  rcases mem_hasAll (ls := ls) (fun m hm => hr m (by simp [hm])) h with h1 | ⟨m, hm, h1⟩
  ·rcases (mem_mrg p _ a (ptsAt_rising (hr l (by simp)) k)).1 h1 with h2 | ⟨h2, _⟩
   ·exact .inr ⟨l, by simp, h2⟩
   ·exact .inl h2
  ·exact .inr ⟨m, by simp [hm], h1⟩
theorem hasAll_len (k : ByteArray) (n : Nat) : ∀ (ls : List (List Ser)) (a : List Pnt), (∀ l ∈ ls, (ptsAt l k).length ≤ n) → (ls.foldl (fun a l => mrg a (ptsAt l k)) a).length ≤ a.length + n * ls.length
 | [], a, _ => by simp
 | l :: ls, a, h => by
  have h1 := hasAll_len k n ls (mrg a (ptsAt l k)) fun m hm => h m (by simp [hm])
  have h2 := mrg_length (ptsAt l k) a
  have h3 := h l (by simp)
  rw [List.foldl_cons, List.length_cons, Nat.mul_succ]
  omega
theorem from_id {f : Int} {l : List Pnt} (h : ∀ p ∈ l, f ≤ p.t) : fromF f l = l := List.filter_eq_self.2 fun p hp => by simpa using h p hp
open Classical in
noncomputable def serK (ls : List (List Ser)) (f : Int) (k : ByteArray) : Option Ser := if has ls f k = [] then none else some ⟨k, has ls f k⟩
def keysOf (ls : List (List Ser)) : List ByteArray := ls.flatten.map Ser.key
noncomputable def keysL (ls : List (List Ser)) : List ByteArray := allK (keysOf ls)
noncomputable def plainK (ls : List (List Ser)) (f : Int) (ks : List ByteArray) : List Ser := ks.filterMap (serK ls f)
noncomputable def plainR (ls : List (List Ser)) (f : Int) : List Ser := plainK ls f (keysL ls)
theorem mem_keysL {k : ByteArray} {ls : List (List Ser)} : k ∈ keysL ls ↔ ∃ l ∈ ls, ∃ x ∈ l, x.key = k := by
 rw [keysL, mem_allK, keysOf, List.mem_map]
 constructor
 ·rintro ⟨x, hx, e⟩
  obtain ⟨l, hl, hx⟩ := List.mem_flatten.1 hx
  exact ⟨l, hl, x, hx, e⟩
 ·rintro ⟨l, hl, x, hx, e⟩
  exact ⟨x, List.mem_flatten.2 ⟨l, hl, hx⟩, e⟩
theorem mem_plainK {ls : List (List Ser)} {f : Int} {ks : List ByteArray} {x : Ser} (h : x ∈ plainK ls f ks) : x.key ∈ ks ∧ x.pts = has ls f x.key ∧ x.pts ≠ [] := by
 obtain ⟨k, hk, e⟩ := List.mem_filterMap.1 h
 unfold serK at e
 split at e
 ·cases e
 ·rename_i hne
  cases e
  exact ⟨hk, rfl, hne⟩
theorem SOk_iff (l : List Ser) : SOk l ↔ l.length ≤ 5 ∧ RiseK (l.map Ser.key) ∧ ∀ x ∈ l, KOk x.key ∧ x.pts ≠ [] ∧ POk x.pts := by
 have at_get : ∀ j (h : j < l.length), sAt l j = l[j] := fun j h => by rw [sAt, ← getD_at l j h]
 constructor
 ·intro h
  refine ⟨h.1, ?_, fun x hx => ?_⟩
  ·unfold RiseK
   rw [List.pairwise_iff_getElem]
   have key : ∀ d i, i + d + 1 < l.length → ahd (sAt l i).key (sAt l (i + d + 1)).key = true := by
    intro d
    induction d with
    | zero => intro i hi; have := (h.2 (i + 0 + 1) hi).1.2 (by omega); simpa using this
    | succ d ih =>
     intro i hi
     have h1 := ih i (by omega)
     have h2 := (h.2 (i + (d + 1) + 1) hi).1.2 (by omega)
     rw [show i + (d + 1) + 1 - 1 = i + d + 1 by omega] at h2
     exact ahd_trans h1 h2
   intro i j hi hj hij
   rw [List.length_map] at hi hj
   have := key (j - i - 1) i (by omega)
   rw [show i + (j - i - 1) + 1 = j by omega, at_get i hi, at_get j hj] at this
   rw [List.getElem_map, List.getElem_map]
   exact this
  ·obtain ⟨j, hj, rfl⟩ := List.getElem_of_mem hx
   have := h.2 j hj
   rw [at_get j hj] at this
   exact ⟨this.1.1, fun e => by rw [e] at this; simp at this, this.2.2⟩
 ·rintro ⟨h1, h2, h3⟩
  refine ⟨h1, fun j hj => ⟨⟨?_, fun h0 => ?_⟩, ?_, ?_⟩⟩
  ·rw [at_get j hj]; exact (h3 _ (List.getElem_mem hj)).1
  ·rw [at_get j hj, at_get (j - 1) (by omega)]
   have := (List.pairwise_iff_getElem.1 h2) (j - 1) j (by rw [List.length_map]; omega) (by rw [List.length_map]; exact hj) (by omega)
   rw [List.getElem_map, List.getElem_map] at this
   exact this
  ·rw [at_get j hj]
   have := (h3 _ (List.getElem_mem hj)).2.1
   cases e : (l[j]).pts with
   | nil => exact absurd e this
   | cons y r => simp
  ·rw [at_get j hj]; exact (h3 _ (List.getElem_mem hj)).2.2
end Go.Proofs.YthhamlahdjokkaaGreatDoor
namespace Go.Proofs.YthhamlahdjokkaaGreatDoor
open Go.RowKit Go.PlainAid
structure Eng where
 floor : Int
 cache : List Ser
 files : List ByteArray
theorem Eng.same {x y : Eng} (h1 : x.floor = y.floor) (h2 : x.cache = y.cache) (h3 : x.files = y.files) : x = y := by
 cases x
 cases y
 simp only at h1 h2 h3
 subst h1
 subst h2
 subst h3
 rfl
def isF (s : ByteArray) : Prop := ∃ m, GoodF s m
open Classical in
noncomputable def fileM (s : ByteArray) : List Ser := if h : ∃ m, GoodF s m then Classical.choose h else []
theorem fileM_is {s : ByteArray} {m : List Ser} (h : GoodF s m) : fileM s = m := by
 have hx : ∃ m, GoodF s m := ⟨m, h⟩
 unfold fileM
 rw [dif_pos hx]
 exact (Classical.choose_spec hx).one h
theorem isF.good {s : ByteArray} (h : isF s) : GoodF s (fileM s) := by
 obtain ⟨m, hm⟩ := h
 rw [fileM_is hm]
 exact hm
noncomputable def laysF (fs : List ByteArray) : List (List Ser) := fs.map fileM
noncomputable def lays (e : Eng) : List (List Ser) := laysF e.files ++ [e.cache]
theorem laysF_snoc (fs : List ByteArray) (s : ByteArray) : laysF (fs ++ [s]) = laysF fs ++ [fileM s] := by unfold laysF; rw [List.map_append]; rfl
noncomputable def plainE (e : Eng) : List Ser := plainR (lays e) e.floor
def cntS (l : List Ser) : Nat := (l.map fun x => x.pts.length).sum
theorem cntS_snoc (l : List Ser) (k : Nat) (h : k < l.length) : cntS (l.take (k + 1)) = cntS (l.take k) + (l.getD k default).pts.length := by
 unfold cntS
 rw [take_getD l k h, List.map_append, List.sum_append]
 simp
def PreOk (e : Eng) : Prop := (0 ≤ e.floor ∧ e.floor ≤ 1099511627776) ∧ e.files.length ≤ 4 ∧ SOk e.cache ∧ cntS e.cache ≤ 40 ∧ ∀ x ∈ e.cache, e.floor ≤ tAt x.pts 0
def EOk (e : Eng) : Prop := PreOk e ∧ (∀ s ∈ e.files, isF s) ∧ SOk (plainE e)
open Classical in
noncomputable def plainX (e : Eng) : List Ser := if EOk e then plainE e else []
theorem len_pos {α : Type} {l : List α} (h : l ≠ []) : 1 ≤ l.length := by
 cases l with
 | nil => exact absurd rfl h
 | cons x l => simp
end Go.Proofs.YthhamlahdjokkaaGreatDoor
namespace Go.Proofs.YthhamlahdjokkaaGreatDoor
open Go.ChangeShapes Go.WideShapes Go.ChangeAt Go.RowKit Go.PlainAid
set_option linter.unusedVariables false
structure Sta where
 kind : Int
 hold : Int
 mark : Int
 bks : List Pnt
 eng : Eng
 ses : List Ses
def sesFrom : Int → List Ses → Bool
 | _, [] => true
 | a, x :: l => inRg x.client a 4 && inRg x.serial 1 1000000 && ansOk x.ans && sesFrom (x.client + 1) l
theorem inRg_true {x lo hi : Int} : inRg x lo hi = true ↔ lo ≤ x ∧ x ≤ hi := by
 unfold inRg
 rw [Bool.and_eq_true, decide_eq_true_iff, decide_eq_true_iff]
theorem inRg_false {x lo hi : Int} : inRg x lo hi = false ↔ x < lo ∨ hi < x := by
 rw [← Bool.not_eq_true, inRg_true]
 omega
theorem ses_few : ∀ (l : List Ses) (a : Int), sesFrom a l = true → l = [] ∨ (l.length : Int) + a ≤ 5
 | [], _, _ => .inl rfl
 | x :: l, a, h => by
  unfold sesFrom at h
  rw [Bool.and_eq_true, Bool.and_eq_true, Bool.and_eq_true, inRg_true] at h
  refine .inr ?_
  rcases ses_few l _ h.2 with rfl | h2
  ·simp
   omega
  ·rw [List.length_cons]
   omega
theorem ses_many {l : List Ses} (h : 4 < l.length) : sesFrom 1 l = false := by
 rcases e : sesFrom 1 l with _ | _
 ·rfl
 ·rcases ses_few l 1 e with rfl | h2
  ·simp at h
  ·omega
theorem ses_drop (l : List Ses) (k : Nat) (h : k < l.length) (a : Int) : sesFrom a (l.drop k) = (inRg (l.getD k default).client a 4 && inRg (l.getD k default).serial 1 1000000 && ansOk (l.getD k default).ans && sesFrom ((l.getD k default).client + 1) (l.drop (k + 1))) := by
 rw [List.drop_eq_getElem_cons h, getD_at l k h]
 rfl
def mokFrom (m : Int) : Int → List Pnt → Bool
 | _, [] => true
 | a, x :: l => inRg x.t a 10995116277 && decide (m < (x.t + 1) * 100) && inRg x.v 0 1 && mokFrom m (x.t + 1) l
theorem mok_drop (m : Int) (l : List Pnt) (k : Nat) (h : k < l.length) (a : Int) : mokFrom m a (l.drop k) = (inRg (l.getD k default).t a 10995116277 && decide (m < ((l.getD k default).t + 1) * 100) && inRg (l.getD k default).v 0 1 && mokFrom m ((l.getD k default).t + 1) (l.drop (k + 1))) := by
 rw [List.drop_eq_getElem_cons h, getD_at l k h]
 rfl
def firstB (m : Int) : List Pnt → Bool
 | [] => true
 | x :: _ => decide (m < (x.t + 1) * 100)
theorem mok_same (m : Int) : ∀ (l : List Pnt) (a : Int), mokFrom m a l = (bokFrom a l && firstB m l)
 | [], _ => rfl
 | x :: l, a => by
  have h3 : decide (m < (x.t + 1) * 100) = true → bokFrom (x.t + 1) l = true → firstB m l = true := by
   intro h1 h2
   cases l with
   | nil => rfl
   | cons y l =>
    unfold bokFrom at h2
    rw [Bool.and_eq_true, Bool.and_eq_true, inRg_true] at h2
    have := of_decide_eq_true h1
    show decide (m < (y.t + 1) * 100) = true
    exact decide_eq_true (by omega)
  show (inRg x.t a 10995116277 && decide (m < (x.t + 1) * 100) && inRg x.v 0 1 && mokFrom m (x.t + 1) l) = ((inRg x.t a 10995116277 && inRg x.v 0 1 && bokFrom (x.t + 1) l) && decide (m < (x.t + 1) * 100))
  rw [mok_same m l (x.t + 1)]
  revert h3
  generalize decide (m < (x.t + 1) * 100) = D
  generalize bokFrom (x.t + 1) l = C
  generalize firstB m l = E
  generalize inRg x.t a 10995116277 = A
  generalize inRg x.v 0 1 = B
  intro h3
  cases D <;> cases C <;> cases E <;> cases A <;> cases B <;> first | rfl | exact absurd (h3 rfl rfl) (by decide)
def zeroB (e : Eng) : Bool := decide (e.floor = 0) && decide (e.cache.length = 0) && decide (e.files.length = 0)
def metaB (x : Sta) : Bool := inRg x.hold 0 100000 && inRg x.mark 0 1099511627776 && decide (x.bks.length ≤ 12) && bokFrom 0 x.bks && firstB x.mark x.bks && zeroB x.eng
open Classical in
noncomputable def shardB (x : Sta) : Bool := decide (x.hold = 0) && decide (x.mark = 0) && decide (x.bks.length = 0) && decide (EOk x.eng)
noncomputable def staOk (x : Sta) : Bool := sesFrom 1 x.ses && (if x.kind = 1 then metaB x else if x.kind = 2 then shardB x else false)
end Go.Proofs.YthhamlahdjokkaaGreatDoor
namespace Go.Proofs.YthhamlahdjokkaaGreatDoor
open Go.ChangeShapes Go.WideShapes Go.ChangeAt Go.RowKit Go.PlainAid
set_option linter.unusedVariables false
def lf (s : ByteArray) (i : Nat) : ByteArray := s.extract i s.size
theorem lf_size (s : ByteArray) (i : Nat) : (lf s i).size = s.size - i := by rw [lf, ByteArray.size_extract]; omega
def RdF (s : ByteArray) (a : Nat) : Nat → List Int → Nat → Prop
 | 0, l, n => l = [] ∧ n = a
 | k + 1, l, n => ∃ l' n' m, RdF s a k l' n' ∧ FindV (lf s n') m ∧ l = l' ++ [(vvS (lf s n') 0 m : Int)] ∧ n = n' + m
theorem RdF.one {s : ByteArray} {a : Nat} : ∀ {k : Nat} {l l' : List Int} {n n' : Nat}, RdF s a k l n → RdF s a k l' n' → l = l' ∧ n = n'
 | 0, _, _, _, _, h, h' => ⟨h.1.trans h'.1.symm, h.2.trans h'.2.symm⟩
 | k + 1, _, _, _, _, ⟨a, b, m, h1, h2, h3, h4⟩, ⟨a', b', m', h1', h2', h3', h4'⟩ => by
  obtain ⟨rfl, rfl⟩ := RdF.one h1 h1'
  have := h2.one h2'
  subst this
  exact ⟨h3.trans h3'.symm, h4.trans h4'.symm⟩
theorem RdF.before {s : ByteArray} {a : Nat} : ∀ {k : Nat} {l : List Int} {n : Nat}, RdF s a k l n → ∀ j, j < k → ∃ l' n' m, RdF s a j l' n' ∧ FindV (lf s n') m
 | 0, _, _, _, j, hj => by omega
 | k + 1, _, _, ⟨a, b, m, h1, h2, h3, h4⟩, j, hj => by
  by_cases e : j = k
  ·subst e; exact ⟨a, b, m, h1, h2⟩
  ·exact RdF.before h1 j (by omega)
theorem RdF.no {s : ByteArray} {a k j : Nat} {l : List Int} {n : Nat} (h1 : RdF s a j l n) (hj : j < k) (h2 : ∀ m, ¬ FindV (lf s n) m) : ∀ l' n', ¬ RdF s a k l' n' := by
 intro l' n' h
 obtain ⟨l2, n2, m, h3, h4⟩ := h.before j hj
 obtain ⟨rfl, rfl⟩ := h1.one h3
 exact h2 m h4
theorem RdF.length {s : ByteArray} {a : Nat} : ∀ {k : Nat} {l : List Int} {n : Nat}, RdF s a k l n → l.length = k
 | 0, _, _, h => by rw [h.1]; rfl
 | k + 1, _, _, ⟨a, b, m, h1, h2, h3, h4⟩ => by rw [h3, List.length_append, RdF.length h1]; rfl
theorem RdF.ge {s : ByteArray} {a : Nat} : ∀ {k : Nat} {l : List Int} {n : Nat}, RdF s a k l n → a + k ≤ n ∧ (1 ≤ k → n ≤ s.size)
 | 0, _, _, h => ⟨by rw [h.2]; omega, by omega⟩
 | k + 1, _, _, ⟨a, b, m, h1, h2, h3, h4⟩ => by
  have h5 := RdF.ge h1
  obtain ⟨h6, h7, h8, _⟩ := h2
  rw [lf_size] at h8
  exact ⟨by omega, by omega⟩
theorem RdF.le {s : ByteArray} {a : Nat} : ∀ {k : Nat} {l : List Int} {n : Nat}, RdF s a k l n → n ≤ a + 7 * k
 | 0, _, _, h => by rw [h.2]; omega
 | k + 1, _, _, ⟨a, b, m, h1, h2, h3, h4⟩ => by
  have h5 := RdF.le h1
  obtain ⟨h6, h7, h8, _⟩ := h2
  omega
theorem RdF.bound {s : ByteArray} {a : Nat} : ∀ {k : Nat} {l : List Int} {n : Nat}, RdF s a k l n → ∀ z ∈ l, 0 ≤ z ∧ z ≤ 562949953421311
 | 0, _, _, h, z, hz => by rw [h.1] at hz; cases hz
 | k + 1, _, _, ⟨a, b, m, h1, h2, h3, h4⟩, z, hz => by
  rw [h3] at hz
  rcases List.mem_append.1 hz with hz | hz
  ·exact RdF.bound h1 z hz
  ·simp at hz
   have := vvS_le (lf s b) m h2.2.1 0
   omega
theorem find_text {t : ByteArray} {m : Nat} (h : FindV t m) : txt (vF 6 (vvS t 0 m)) = t.extract 0 m := by
 obtain ⟨h1, h7, h8, h9⟩ := h
 obtain ⟨d, rfl⟩ : ∃ d, m = d + 1 := ⟨m - 1, by omega⟩
 rw [sg_extract t _ h8, (canonS_iff t d 0 6 (by omega)).2 h9]
def varsT : List Int → ByteArray
 | [] => ByteArray.empty
 | z :: l => txt (vF 6 z.toNat) ++ varsT l
theorem varsT_append (l m : List Int) : varsT (l ++ m) = varsT l ++ varsT m := by
 induction l with
 | nil => simp [varsT]
 | cons z l ih => simp [varsT, ih, ByteArray.append_assoc]
theorem RdF.text {s : ByteArray} {a : Nat} : ∀ {k : Nat} {l : List Int} {n : Nat}, RdF s a k l n → s.extract a n = varsT l
 | 0, _, _, h => by rw [h.1, h.2]; apply ByteArray.ext; simp [varsT]
 | k + 1, _, _, ⟨l, b, m, h1, h2, h3, h4⟩ => by
  have h5 := RdF.text h1
  have hge := RdF.ge h1
  have h8 := h2.2.2.1
  have h61 := h2.1
  rw [lf_size] at h8
  have e : s.extract a (b + m) = s.extract a b ++ s.extract b (b + m) := by
   rw [ByteArray.extract_append_extract]
   congr 1 <;> omega
  have e2 : (lf s b).extract 0 m = s.extract b (b + m) := by
   unfold lf
   rw [ByteArray.extract_extract]
   congr 1
   omega
  rw [h3, h4, e, h5, varsT_append, ← e2, ← find_text h2]
  simp [varsT]
end Go.Proofs.YthhamlahdjokkaaGreatDoor
namespace Go.Proofs.YthhamlahdjokkaaGreatDoor
open Go.ChangeShapes Go.WideShapes Go.ChangeAt Go.RowKit Go.PlainAid
set_option linter.unusedVariables false
def PKeep (g : Nat) (w w' : World) : Prop := Below g w w' ∧ ∀ b, b ≠ g → b < w.heap.size → w'.heap[b]? = w.heap[b]?
theorem PKeep.of {g : Nat} {w w' : World} (h : Below w.heap.size w w') (hg : g ≤ w.heap.size) : PKeep g w w' := ⟨h.mono hg, fun b _ hb => h.block b hb⟩
theorem PKeep.refl (g : Nat) (w : World) : PKeep g w w := ⟨Below.refl _ _, fun _ _ _ => rfl⟩
theorem PKeep.trans {g : Nat} {w w' w'' : World} (h : PKeep g w w') (h' : PKeep g w' w'') : PKeep g w w'' := ⟨h.1.trans h'.1, fun b hb hl => by rw [h'.2 b hb (Nat.lt_of_lt_of_le hl h.1.size), h.2 b hb hl]⟩
theorem PKeep.set {g : Nat} {w w' : World} (h : PKeep g w w') (i : Nat) (x : Value) : PKeep g w (w'.setCell ⟨g, i, none⟩ x) := ⟨h.1.setCell (Nat.le_refl _) _, fun b hb hl => by rw [Below.heap_setCell _ _ _ _ hb]; exact h.2 b hb hl⟩
theorem PKeep.setNew {g k : Nat} {w w' : World} (h : PKeep g w w') (hk : w.heap.size ≤ k) (hg : g ≤ k) (i : Nat) (x : Value) : PKeep g w (w'.setCell ⟨k, i, none⟩ x) := ⟨h.1.setCell hg _, fun b hb hl => by rw [Below.heap_setCell _ _ _ _ (show b ≠ k by omega)]; exact h.2 b hb hl⟩
theorem PKeep.alloc {g : Nat} {w w' : World} (h : PKeep g w w') (hg : g < w.heap.size) (o : Obj) : PKeep g w (w'.alloc o) := ⟨h.1.alloc (by have := h.1.size; omega) _, fun b hb hl => by rw [Below.heap_alloc _ _ _ (by have := h.1.size; omega)]; exact h.2 b hb hl⟩
theorem PKeep.cell {g : Nat} {w w' : World} (h : PKeep g w w') {p : Addr} (hp : p.block ≠ g) (hl : p.block < w.heap.size) : w'.cell? p = w.cell? p := World.cell?_of_block (w := w) (h.2 p.block hp hl)
theorem PKeep.frozen {g : Nat} {w w' : World} (h : PKeep g w w') {p : Addr} (hp : p.block ≠ g) (hl : p.block < w.heap.size) : w'.frozen? p = w.frozen? p := World.frozen?_of_block (w := w) (h.2 p.block hp hl)
def Prt (w : World) (g : Nat) (t : ByteArray) : Prop := w.heap[g]? = some (.cells #[.string t] 141 (0, 0))
theorem Prt.lt {w : World} {g : Nat} {t : ByteArray} (h : Prt w g t) : g < w.heap.size := lt_of_block h
theorem Prt.cell {w : World} {g : Nat} {t : ByteArray} (h : Prt w g t) : w.cell? ⟨g, 0, none⟩ = some (.string t) := by
 rw [cell_of_row _ _ 0 _ _ _ h]; rfl
theorem Prt.free {w : World} {g : Nat} {t : ByteArray} (h : Prt w g t) : w.frozen? ⟨g, 0, none⟩ = false := frozen_of_row w g 0 _ _ h
theorem Prt.put {w : World} {g : Nat} {t : ByteArray} (h : Prt w g t) (u : ByteArray) : Prt (w.setCell ⟨g, 0, none⟩ (.string u)) g u := heap_setCell_same w g 0 _ _ (.string u) h
theorem Prt.on {w w' : World} {g : Nat} {t : ByteArray} (h : Prt w g t) (hb : Below w.heap.size w w') : Prt w' g t := (hb.block g h.lt).trans h
theorem Prt.alloc {w : World} {g : Nat} {t : ByteArray} (h : Prt w g t) (o : Obj) : Prt (w.alloc o) g t := (Below.heap_alloc w o g h.lt).trans h
theorem PKeep.blk {g b : Nat} {w w' : World} {cs : Array Value} {t : TypeId} (h : PKeep g w w') (hb : Blk w b cs t) (hne : b ≠ g) : Blk w' b cs t := (h.2 b hne hb.lt).trans hb
theorem PKeep.below {g : Nat} {w w' w'' : World} (h : PKeep g w w') (hg : g < w.heap.size) (hb : Below w'.heap.size w' w'') : PKeep g w w'' := h.trans (PKeep.of hb (by have := h.1.size; omega))
theorem RdF.snoc {s : ByteArray} {a k n m : Nat} {l : List Int} (h : RdF s a k l n) (hf : FindV (lf s n) m) : RdF s a (k + 1) (l ++ [(vvS (lf s n) 0 m : Int)]) (n + m) := ⟨l, n, m, h, hf, rfl, rfl⟩
end Go.Proofs.YthhamlahdjokkaaGreatDoor
namespace Go.Proofs.YthhamlahdjokkaaGreatDoor
open Go.RowKit
def cloneRen : Go.Shelf.Ren := ⟨fun _ => 180, fun | 37 => 68 | 47 => 131 | t => t, fun g => g⟩
theorem clone_lays : Go.Proofs.LaysPu.n25 Tryz.prog cloneRen where
 mixed := by kernel_rfl
 f25 := Tryz.func180.trans (congrArg some (by kernel_rfl))
 t0 := Tryz.underlying0
 a0 := Tryz.isAgg0
 z0 := Tryz.sizeOf0
 v0 := Tryz.zeroValue0
 i0 := by kernel_rfl
 t3 := Tryz.underlying3
 a3 := Tryz.isAgg3
 z3 := Tryz.sizeOf3
 v3 := Tryz.zeroValue3
 i3 := by kernel_rfl
 t4 := Tryz.underlying4
 a4 := Tryz.isAgg4
 z4 := Tryz.sizeOf4
 v4 := Tryz.zeroValue4
 i4 := by kernel_rfl
 t5 := Tryz.underlying5
 a5 := Tryz.isAgg5
 z5 := Tryz.sizeOf5
 v5 := Tryz.zeroValue5
 i5 := by kernel_rfl
 t9 := Tryz.underlying9
 a9 := Tryz.isAgg9
 z9 := Tryz.sizeOf9
 v9 := Tryz.zeroValue9
 i9 := by kernel_rfl
 t37 := Tryz.underlying68
 a37 := Tryz.isAgg68
 z37 := Tryz.sizeOf68
 v37 := Tryz.zeroValue68
 i37 := by kernel_rfl
 t47 := Tryz.underlying131
 a47 := Tryz.isAgg131
 z47 := Tryz.sizeOf131
 v47 := Tryz.zeroValue131
 i47 := by kernel_rfl
theorem clone (s : ByteArray) (w : World) (hs : s.size ≤ 281474976710656) :
  Calls Tryz.prog 153 #[.string s] w fun e w' => e = .returned (.string s) ∧ Below w.heap.size w w' := by
 have c1 : Calls Tryz.prog 180 #[.string s] w fun e w' => e = .returned (.string s) ∧ Below w.heap.size w w' := AnyPu.stringslite_Clone clone_lays s w hs
 clear hs
 go_enter Tryz.func153, Tryz.ntmps153
 go_wp2_with fail
 refine c1.mono ?_
 rintro e w1 ⟨rfl, hb1⟩
 go_wp2_with fail
 go_ret
 exact ⟨rfl, hb1⟩
end Go.Proofs.YthhamlahdjokkaaGreatDoor
namespace Go.Proofs.YthhamlahdjokkaaGreatDoor
open Go.ChangeShapes Go.WideShapes Go.ChangeAt Go.RowKit Go.PlainAid
set_option linter.unusedVariables false
def ansT (x : Ans) : ByteArray := if ansOk x = true then txt (vF 6 x.code.toNat) ++ txt (vF 6 x.index.toNat) ++ txt (vF 6 x.mark.toNat) ++ x.data else ⟨#[]⟩
def AnsRd (s : ByteArray) (x : Ans) : Prop := ∃ c i m n, RdF s 0 3 [c, i, m] n ∧ x = ⟨c, i, m, lf s n⟩ ∧ ansOk x = true
theorem AnsRd.one {s : ByteArray} {x y : Ans} (h : AnsRd s x) (h' : AnsRd s y) : x = y := by
 obtain ⟨c, i, m, n, h1, rfl, _⟩ := h
 obtain ⟨c', i', m', n', h1', rfl, _⟩ := h'
 obtain ⟨e, rfl⟩ := h1.one h1'
 simp only [List.cons.injEq, and_true] at e
 obtain ⟨rfl, rfl, rfl⟩ := e
 rfl
def AnsA (s : ByteArray) (e : Ending) : Prop := (∃ x, AnsRd s x ∧ e = .returned (.tuple #[vAns x, .bool true])) ∨ ((∀ x, ¬ AnsRd s x) ∧ e = .returned (.tuple #[vAns ⟨0, 0, 0, ⟨#[]⟩⟩, .bool false]))
theorem AnsA.one {s : ByteArray} {e e' : Ending} (h : AnsA s e) (h' : AnsA s e') : e = e' := by
 rcases h with ⟨x, hx, rfl⟩ | ⟨hn, rfl⟩ <;> rcases h' with ⟨y, hy, rfl⟩ | ⟨hn', rfl⟩
 ·rw [hx.one hy]
 ·exact absurd hx (hn' x)
 ·exact absurd hy (hn y)
 ·rfl
theorem AnsA.form {s : ByteArray} {e : Ending} (h : AnsA s e) : ∃ x b, e = .returned (.tuple #[vAns x, .bool b]) := by
 rcases h with ⟨x, hx, rfl⟩ | ⟨hn, rfl⟩
 ·exact ⟨_, _, rfl⟩
 ·exact ⟨_, _, rfl⟩
theorem Hid.mk {p : Prop} (h : p) : Hid p := h
end Go.Proofs.YthhamlahdjokkaaGreatDoor
namespace Go.Proofs.YthhamlahdjokkaaGreatDoor
open Go.ChangeShapes Go.WideShapes Go.ChangeAt Go.RowKit Go.PlainAid
set_option linter.unusedVariables false
theorem getD_in {α : Type} [Inhabited α] (l : List α) (k : Nat) (h : k < l.length) : l.getD k default ∈ l := by
 rw [List.getD_eq_getElem?_getD, List.getElem?_eq_getElem h]
 exact List.getElem_mem h
def vT (z : Int) : ByteArray := txt (vF 6 z.toNat)
theorem vT_size (z : Int) : (vT z).size ≤ 7 := by unfold vT; rw [txt_size]; exact vF_length 6 _
def pcT (s : ByteArray) : ByteArray := vT (s.size : Int) ++ s
theorem pcT_size (s : ByteArray) : (pcT s).size ≤ 7 + s.size := by
 unfold pcT
 rw [ByteArray.size_append]
 have := vT_size (s.size : Int)
 omega
def catT {α : Type} (f : α → ByteArray) : List α → ByteArray
 | [] => ByteArray.empty
 | x :: l => f x ++ catT f l
theorem catT_append {α : Type} (f : α → ByteArray) (l m : List α) : catT f (l ++ m) = catT f l ++ catT f m := by
 induction l with
 | nil => simp [catT]
 | cons x l ih => simp [catT, ih, ByteArray.append_assoc]
theorem catT_snoc {α : Type} [Inhabited α] (f : α → ByteArray) (l : List α) (k : Nat) (h : k < l.length) : catT f (l.take (k + 1)) = catT f (l.take k) ++ f (l.getD k default) := by
 rw [take_getD l k h, catT_append]
 simp [catT]
theorem catT_size {α : Type} (f : α → ByteArray) (l : List α) (b : Nat) (h : ∀ x ∈ l, (f x).size ≤ b) : (catT f l).size ≤ l.length * b := by
 induction l with
 | nil => simp [catT]
 | cons x l ih =>
  have h1 := h x (by simp)
  have h2 := ih (fun y hy => h y (by simp [hy]))
  simp only [catT, ByteArray.size_append, List.length_cons]
  rw [Nat.add_mul]
  omega
theorem catT_take_size {α : Type} (f : α → ByteArray) (l : List α) (b k : Nat) (h : ∀ x ∈ l, (f x).size ≤ b) : (catT f (l.take k)).size ≤ l.length * b := by
 refine Nat.le_trans (catT_size f (l.take k) b fun x hx => h x (List.mem_of_mem_take hx)) (Nat.mul_le_mul_right _ ?_)
 rw [List.length_take]
 omega
def bkT (b : Pnt) : ByteArray := vT b.t ++ vT b.v
def seT (s : Ses) : ByteArray := vT s.client ++ vT s.serial ++ pcT (ansT s.ans)
theorem bkT_size (b : Pnt) : (bkT b).size ≤ 14 := by
 unfold bkT
 rw [ByteArray.size_append]
 have := vT_size b.t
 have := vT_size b.v
 omega
theorem ansT_size (x : Ans) : (ansT x).size ≤ 921 := by
 unfold ansT
 split
 ·rename_i h
  unfold ansOk inRg at h
  simp only [Bool.and_eq_true, decide_eq_true_eq] at h
  simp only [ByteArray.size_append, txt_size]
  have := vF_length 6 x.code.toNat
  have := vF_length 6 x.index.toNat
  have := vF_length 6 x.mark.toNat
  omega
 ·exact Nat.zero_le _
theorem seT_size (s : Ses) : (seT s).size ≤ 942 := by
 unfold seT
 simp only [ByteArray.size_append]
 have := vT_size s.client
 have := vT_size s.serial
 have := pcT_size (ansT s.ans)
 have := ansT_size s.ans
 omega
def im1 (x : Sta) : ByteArray := txt [byt x.kind.toNat] ++ vT x.hold ++ vT x.mark ++ vT (x.bks.length : Int)
def im2 (x : Sta) : ByteArray := vT x.eng.floor ++ pcT (fileT x.eng.cache) ++ vT (x.eng.files.length : Int)
def imT (x : Sta) : ByteArray := im1 x ++ catT bkT x.bks ++ im2 x ++ catT pcT x.eng.files ++ vT (x.ses.length : Int) ++ catT seT x.ses
open Classical in
noncomputable def staT (x : Sta) : ByteArray := if staOk x = true then imT x else ⟨#[]⟩
theorem im1_size (x : Sta) : (im1 x).size ≤ 22 := by
 unfold im1
 simp only [ByteArray.size_append]
 have := vT_size x.hold
 have := vT_size x.mark
 have := vT_size (x.bks.length : Int)
 have : (txt [byt x.kind.toNat]).size = 1 := by rw [txt_size]; rfl
 omega
theorem im2_size (x : Sta) : (im2 x).size ≤ 5025 := by
 unfold im2
 simp only [ByteArray.size_append]
 have := vT_size x.eng.floor
 have := pcT_size (fileT x.eng.cache)
 have := fileT_size x.eng.cache
 have := vT_size (x.eng.files.length : Int)
 omega
theorem isF_size {s : ByteArray} (h : isF s) : s.size ≤ 5004 := by
 obtain ⟨m, _, _, h⟩ := h
 rw [← h]
 exact fileT_size m
theorem staOk_in {x : Sta} (h : staOk x = true) : (1 ≤ x.kind ∧ x.kind ≤ 2) ∧ (0 ≤ x.hold ∧ x.hold ≤ 100000) ∧ (0 ≤ x.mark ∧ x.mark ≤ 1099511627776) ∧ x.bks.length ≤ 12 ∧ bokFrom 0 x.bks = true ∧
  (0 ≤ x.eng.floor ∧ x.eng.floor ≤ 1099511627776) ∧ x.eng.files.length ≤ 4 ∧ SOk x.eng.cache ∧ (∀ s ∈ x.eng.files, isF s) ∧ x.ses.length ≤ 4 ∧ sesFrom 1 x.ses = true := by
 unfold staOk at h
 rw [Bool.and_eq_true] at h
 obtain ⟨hs, h⟩ := h
 have h4 : x.ses.length ≤ 4 := by
  rcases ses_few x.ses 1 hs with e | e
  ·rw [e]; exact Nat.zero_le _
  ·omega
 by_cases k1 : x.kind = 1
 ·rw [if_pos k1] at h
  unfold metaB zeroB at h
  simp only [Bool.and_eq_true, decide_eq_true_eq, inRg_true] at h
  obtain ⟨⟨⟨⟨⟨⟨a1, a2⟩, a3, a4⟩, a5⟩, a6⟩, a7⟩, ⟨a8, a9⟩, a10⟩ := h
  have e1 := List.length_eq_zero_iff.1 a9
  have e2 := List.length_eq_zero_iff.1 a10
  refine ⟨by omega, by omega, by omega, a5, a6, by omega, by omega, ?_, ?_, h4, hs⟩
  ·rw [e1]; exact ⟨by simp, fun j hj => by cases hj⟩
  ·rw [e2]; intro s hs; cases hs
 ·rw [if_neg k1] at h
  by_cases k2 : x.kind = 2
  ·rw [if_pos k2] at h
   unfold shardB at h
   simp only [Bool.and_eq_true, decide_eq_true_eq] at h
   obtain ⟨⟨⟨a1, a2⟩, a3⟩, ⟨a4, a5, a6, a7, a8⟩, a9, a10⟩ := h
   have e1 := List.length_eq_zero_iff.1 a3
   exact ⟨by omega, by omega, by omega, by omega, by rw [e1]; rfl, a4, a5, a6, a9, h4, hs⟩
  ·rw [if_neg k2] at h
   cases h
theorem imT_size {x : Sta} (h : staOk x = true) : (imT x).size ≤ 30000 := by
 obtain ⟨_, _, _, a1, _, _, a2, _, a3, a4, _⟩ := staOk_in h
 have h1 := im1_size x
 have h2 := im2_size x
 have h3 := catT_size bkT x.bks 14 fun b _ => bkT_size b
 have h4 := catT_size pcT x.eng.files 5011 fun s hs => by have := pcT_size s; have := isF_size (a3 s hs); omega
 have h5 := catT_size seT x.ses 942 fun s _ => seT_size s
 have h6 := vT_size (x.ses.length : Int)
 unfold imT
 simp only [ByteArray.size_append]
 have b1 : x.bks.length * 14 ≤ 12 * 14 := Nat.mul_le_mul_right _ a1
 have b2 : x.eng.files.length * 5011 ≤ 4 * 5011 := Nat.mul_le_mul_right _ a2
 have b3 : x.ses.length * 942 ≤ 4 * 942 := Nat.mul_le_mul_right _ a4
 omega
theorem staT_yes {x : Sta} (h : staOk x = true) : staT x = imT x := by unfold staT; rw [if_pos h]
theorem staT_no {x : Sta} (h : staOk x = false) : staT x = ⟨#[]⟩ := by unfold staT; rw [h]; rfl
theorem bok_in : ∀ (l : List Pnt) (a : Int), 0 ≤ a → bokFrom a l = true → ∀ k, k < l.length → (0 ≤ (l.getD k default).t ∧ (l.getD k default).t ≤ 10995116277) ∧ 0 ≤ (l.getD k default).v ∧ (l.getD k default).v ≤ 1
 | [], a, ha, h, k, hk => by cases hk
 | b :: l, a, ha, h, k, hk => by
  unfold bokFrom at h
  simp only [Bool.and_eq_true, inRg_true] at h
  obtain ⟨⟨⟨h1, h2⟩, h3, h4⟩, h5⟩ := h
  cases k with
  | zero => simp only [List.getD_cons_zero]; omega
  | succ k =>
   simp only [List.getD_cons_succ]
   exact bok_in l _ (by omega) h5 k (by simpa using hk)
theorem ses_in : ∀ (l : List Ses) (a : Int), 0 ≤ a → sesFrom a l = true → ∀ k, k < l.length → (0 ≤ (l.getD k default).client ∧ (l.getD k default).client ≤ 4) ∧ (0 ≤ (l.getD k default).serial ∧ (l.getD k default).serial ≤ 1000000) ∧ ansOk (l.getD k default).ans = true
 | [], a, ha, h, k, hk => by cases hk
 | b :: l, a, ha, h, k, hk => by
  unfold sesFrom at h
  simp only [Bool.and_eq_true, inRg_true] at h
  obtain ⟨⟨⟨⟨h1, h2⟩, h3, h4⟩, h6⟩, h5⟩ := h
  cases k with
  | zero => simp only [List.getD_cons_zero]; exact ⟨by omega, by omega, h6⟩
  | succ k =>
   simp only [List.getD_cons_succ]
   exact ses_in l _ (by omega) h5 k (by simpa using hk)
end Go.Proofs.YthhamlahdjokkaaGreatDoor
namespace Go.Proofs.YthhamlahdjokkaaGreatDoor
open Go.RowKit Go.PlainAid
def strCells (l : List ByteArray) : List Value := l.map Value.string
def Strs (w : World) (base : Nat) (v : Value) (l : List ByteArray) : Prop := w.ownsRow base 9 1 v l.length (strCells l)
theorem Strs.nil (w : World) (base : Nat) : Strs w base (.slice none 0 0) [] := World.ownsRow_nil w base 9 1
theorem Strs.empty (w : World) (base : Nat) (hb : base ≤ w.heap.size) : Strs (w.alloc (.cells #[] 9)) base (.slice (some ⟨w.heap.size, 0, none⟩) 0 0) [] :=
 World.ownsRow_lit w #[] 0 hb (by unfold maxLen; omega) rfl
theorem Strs.mono {w : World} {base base' : Nat} {v : Value} {l : List ByteArray} (h : Strs w base v l) (hb : base' ≤ base) : Strs w base' v l :=
 ⟨h.1, h.2.imp id fun ⟨g, cap, cur, e, hg, r⟩ => ⟨g, cap, cur, e, Nat.le_trans hb hg, r⟩⟩
theorem Strs.kept {w w' : World} {base : Nat} {v : Value} {l : List ByteArray} (h : Strs w base v l) (hk : ∀ g, g < w.heap.size → v.ownBlock = some g → w'.heap[g]? = w.heap[g]?) : Strs w' base v l := by
 have hl := World.ownsRow.lt h
 refine ⟨h.1, h.2.imp id ?_⟩
 rintro ⟨g, cap, cur, rfl, hg, hh, r⟩
 refine ⟨g, cap, cur, rfl, hg, ?_, r⟩
 rw [hk g (hl g rfl).2 rfl]
 exact hh
theorem Strs.on {w w' : World} {base : Nat} {v : Value} {l : List ByteArray} (h : Strs w base v l) (hb : Below w.heap.size w w') : Strs w' base v l := h.kept fun g hg _ => hb.block g hg
theorem Strs.under {w w' : World} {base B : Nat} {v : Value} {l : List ByteArray} (h : Strs w base v l) (hB : w.heap.size ≤ B) (hb : Below B w w') : Strs w' base v l := h.kept fun g hg _ => hb.block g (Nat.lt_of_lt_of_le hg hB)
theorem Strs.alloc {w : World} {base : Nat} {v : Value} {l : List ByteArray} (h : Strs w base v l) (o : Obj) : Strs (w.alloc o) base v l := World.ownsRow.alloc h o
theorem Strs.form {w : World} {base : Nat} {v : Value} {l : List ByteArray} (h : Strs w base v l) : (v = .slice none 0 0 ∧ l = []) ∨ ∃ g cap, v = .slice (some ⟨g, 0, none⟩) l.length cap ∧ base ≤ g ∧ g < w.heap.size := by
 have hl := World.ownsRow.lt h
 rcases h.2 with ⟨rfl, h0⟩ | ⟨g, cap, cur, rfl, hg, _⟩
 ·exact .inl ⟨rfl, List.eq_nil_of_length_eq_zero h0⟩
 ·exact .inr ⟨g, cap, rfl, hg, (hl g rfl).2⟩
theorem Strs.cell {w : World} {base g cap : Nat} {l : List ByteArray} (h : Strs w base (.slice (some ⟨g, 0, none⟩) l.length cap) l) (j : Nat) (hj : j < l.length) : w.cell? ⟨g, j, none⟩ = some (.string l[j]) := by
 rw [World.ownsRow.cellAt h j (by omega)]
 simp [strCells, hj]
theorem Strs.frozen {w : World} {base g cap : Nat} {l : List ByteArray} (h : Strs w base (.slice (some ⟨g, 0, none⟩) l.length cap) l) (j : Nat) : w.frozen? ⟨g, j, none⟩ = false := World.ownsRow.frozenAt h j
theorem Strs.stored {w : World} {base g cap : Nat} {l : List ByteArray} (h : Strs w base (.slice (some ⟨g, 0, none⟩) l.length cap) l) (j : Nat) (x : ByteArray) :
  Strs (w.setCell ⟨g, j, none⟩ (.string x)) base (.slice (some ⟨g, 0, none⟩) l.length cap) (l.set j x) := by
 have hs := (World.ownsRow.stored h j (.string x)).1
 unfold Strs
 rw [List.length_set, strCells, List.map_set]
 exact hs
def dg : Nat → Nat → List UInt8
 | 0, _ => []
 | f + 1, n => if n = 0 then [] else dg f (n / 10) ++ [byt (48 + n % 10)]
def mark (k : Nat) : ByteArray := txt (109 :: dg 20 k)
def marks (k : Nat) : Nat → List ByteArray
 | 0 => []
 | n + 1 => marks k n ++ [mark (k + n)]
def marked (k : Nat) (l : List ByteArray) (j : Nat) : List ByteArray := marks k j ++ l.drop j
end Go.Proofs.YthhamlahdjokkaaGreatDoor
namespace Go.Proofs.YthhamlahdjokkaaGreatDoor
open Go.ChangeShapes Go.WideShapes Go.ChangeAt Go.RowKit Go.PlainAid
set_option linter.unusedVariables false
theorem cSr : Tryz.prog.cellsOf 151 = 2 := by kernel_rfl
def SFits (l : List Ser) : Prop := l.length ≤ maxLen ∧ ∀ x ∈ l, x.key.size ≤ maxLen ∧ x.pts.length ≤ maxLen
section
variable {H : Type} {enc : TypeId × Value → H} {w : World} {base : Nat} {spare : Nat → Bool} {held : Bool}
set_option maxRecDepth 100000 in
theorem open_sr (n : Nat) (cs : List Value) (y : DataW H × List MemPlace) (h : DataW.trod enc Tryz.prog w base spare held n 151 cs = some y) : ∃ z : Ser × Value, cs = srC z ∧ (Lies w w.heap.size 2 z.2 (ptR z.1.pts) ∧ z.1.key.size ≤ maxLen ∧ z.1.pts.length ≤ maxLen) := by
 obtain ⟨xs, m, _, _, hl, hlen, hf⟩ := DataW.trod_struct Tryz.underlying151 h
 rw [cSr] at hl
 obtain ⟨a, b, rfl⟩ := list2 hl
 obtain ⟨x0, x1, rfl⟩ := list2 (show xs.length = 2 from hlen)
 have f0 := hf 0 _ rfl
 have f1 := hf 1 _ rfl
 simp only [List.getElem?_cons_zero, List.getElem?_cons_succ] at f0 f1
 obtain ⟨s0, e0, _, hs⟩ := DataW.trod_string Tryz.underlying9 f0
 cases e0
 obtain ⟨ls, l1, l2, _⟩ := open_rows Tryz.underlying149 2 cPt (by omega) ptC (fun _ => rfl) _ open_pt f1
 exact ⟨⟨⟨s0, ls⟩, b⟩, rfl, l1, hs, l2⟩
end
end Go.Proofs.YthhamlahdjokkaaGreatDoor
