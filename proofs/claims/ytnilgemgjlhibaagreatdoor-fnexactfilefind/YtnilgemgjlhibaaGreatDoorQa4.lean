/- BkMath FlMath FlAid FlFindM FlMathS FlWrite -/
import Derived.Test.YtnilgemgjlhibaaGreatDoorQa1
import Derived.Test.YtnilgemgjlhibaaGreatDoorQa3
import Derived.Test.YtnilgemgjlhibaaGreatDoorQa0
import Derived.Test.YtnilgemgjlhibaaGreatDoorQa2
import Derived.Test.YtnilgemgjlhibaaGreatDoorRows
import Derived.WalkKit
import Derived.ProofKit
import Derived.OpenShut
import Derived.Below
import Derived.WalkSmall
import Derived.BigQuiet
import Derived.Deep.QuietTactic
import Derived.Deep.RegionWith
import Derived.Handy
open List (setIfInBounds_toArray set_cons_zero set_cons_succ)
namespace Go.Proofs.YtnilgemgjlhibaaGreatDoor
open Go.RowKit Go.PlainAid
def ts (l : List Pnt) : List Int := l.map fun p => p.t
def vs (l : List Pnt) : List Int := l.map fun p => p.v
theorem ts_length (l : List Pnt) : (ts l).length = l.length := by simp [ts]
theorem vs_length (l : List Pnt) : (vs l).length = l.length := by simp [vs]
theorem ts_get (l : List Pnt) (j : Nat) (h : j < l.length) : (ts l).getD j 0 = tAt l j := by
 rw [tAt, ← getD_at l j h]
 simp [ts, List.getD, h]
theorem vs_get (l : List Pnt) (j : Nat) (h : j < l.length) : (vs l).getD j 0 = vAt l j := by
 rw [vAt, ← getD_at l j h]
 simp [vs, List.getD, h]
theorem rows_of_ok {l : List Pnt} (h : POk l) (h1 : 1 ≤ l.length) : TOk (ts l) ∧ VOk (vs l) := by
 refine ⟨⟨by rw [ts_length]; exact h1, by rw [ts_length]; exact h.1, fun j hj => ?_⟩, by rw [vs_length]; exact h1, by rw [vs_length]; exact h.1, fun j hj => ?_⟩
 ·rw [ts_length] at hj
  rw [ts_get l j hj]
  refine ⟨(h.2 j hj).1.1, fun h0 => ?_⟩
  rw [ts_get l (j - 1) (by omega)]
  exact (h.2 j hj).2 h0
 ·rw [vs_length] at hj
  rw [vs_get l j hj]
  exact (h.2 j hj).1.2
theorem ok_of_rows {l : List Pnt} (h : TOk (ts l)) (h' : VOk (vs l)) : POk l := by
 refine ⟨by have := h.2.1; rwa [ts_length] at this, fun j hj => ?_⟩
 have h1 := h.2.2 j (by rw [ts_length]; exact hj)
 have h2 := h'.2.2 j (by rw [vs_length]; exact hj)
 rw [ts_get l j hj] at h1
 rw [vs_get l j hj] at h2
 refine ⟨⟨h1.1, h2⟩, fun h0 => ?_⟩
 have := h1.2 h0
 rwa [ts_get l (j - 1) (by omega)] at this
def zipP (t v : List Int) : List Pnt := List.zipWith Pnt.mk t v
theorem zipP_length (t v : List Int) : (zipP t v).length = min t.length v.length := by simp [zipP]
theorem zipP_rows : ∀ l : List Pnt, zipP (ts l) (vs l) = l
 | [] => rfl
 | p :: l => by
  have := zipP_rows l
  simp only [zipP, ts, vs, List.map_cons, List.zipWith_cons_cons] at this ⊢
  rw [this]
theorem ts_zip : ∀ (t v : List Int), t.length = v.length → ts (zipP t v) = t ∧ vs (zipP t v) = v
 | [], [], _ => ⟨rfl, rfl⟩
 | [], _ :: _, h => by simp at h
 | _ :: _, [], h => by simp at h
 | x :: t, y :: v, h => by
  have ih := ts_zip t v (by simpa using h)
  simp only [zipP, ts, vs, List.zipWith_cons_cons, List.map_cons] at ih ⊢
  rw [ih.1, ih.2]
  exact ⟨rfl, rfl⟩
theorem zipP_get (t v : List Int) (k : Nat) (h1 : k < t.length) (h2 : k < v.length) : (zipP t v).take (k + 1) = (zipP t v).take k ++ [⟨t.getD k 0, v.getD k 0⟩] := by
 have hk : k < (zipP t v).length := by rw [zipP_length]; omega
 rw [List.take_succ_eq_append_getElem hk]
 congr 2
 simp [zipP, List.getD, h1, h2]
def bodyB (l : List Pnt) : List UInt8 := vF 6 l.length ++ (cat (tPiece (ts l)) l.length ++ cat (vPiece (vs l)) l.length)
def showB (l : List Pnt) : ByteArray := if 1 ≤ l.length ∧ POk l then frame (txt (vF 6 l.length) ++ showT (ts l) ++ showV (vs l)) else txt []
theorem body_is {l : List Pnt} (h : POk l) (h1 : 1 ≤ l.length) : txt (vF 6 l.length) ++ showT (ts l) ++ showV (vs l) = txt (bodyB l) := by
 obtain ⟨ht, hv⟩ := rows_of_ok h h1
 unfold showT showV bodyB
 rw [if_pos ht, if_pos hv, ts_length, vs_length, txt_cat, txt_cat, List.append_assoc]
theorem bodyB_size {l : List Pnt} (h : POk l) : 1 ≤ (bodyB l).length ∧ (bodyB l).length ≤ 847 := by
 have h1 := vF_pos 6 l.length
 have h2 := vF_length 6 l.length
 have h3 := cat_length (tPiece (ts l)) (tPiece_length (ts l)) l.length
 have h4 := cat_length (vPiece (vs l)) (vPiece_length (vs l)) l.length
 have := h.1
 unfold bodyB
 simp only [List.length_append]
 omega
def Good (s : ByteArray) (l : List Pnt) : Prop := 1 ≤ l.length ∧ POk l ∧ showB l = s
theorem Good.frame {s : ByteArray} {l : List Pnt} (h : Good s l) : s = frameOf (txt (bodyB l)) := by
 obtain ⟨h1, h2, rfl⟩ := h
 have hb := bodyB_size h2
 rw [showB, if_pos ⟨h1, h2⟩, body_is h2 h1, Go.Proofs.YtnilgemgjlhibaaGreatDoor.frame, if_neg (by rw [txt_size]; omega)]
theorem Good.read {s : ByteArray} {l : List Pnt} (h : Good s l) : code s = 0 ∧ 8 + rdv s 4 = s.size ∧ bodyOf s = txt (bodyB l) := by
 have hf := h.frame
 have hb := bodyB_size h.2.1
 have e : s = frameOf (txt (bodyB l)) ++ ByteArray.empty := by rw [ByteArray.append_empty]; exact hf
 have hz : (txt (bodyB l)).size ≤ 2000 := by rw [txt_size]; omega
 refine ⟨by rw [e]; exact code_frameOf _ _ (by rw [txt_size]; omega) hz, ?_, by rw [e]; exact bodyOf_frameOf _ _ hz⟩
 have h4 : rdv s 4 = (txt (bodyB l)).size := by rw [e]; exact rdv_frameOf _ _ hz
 rw [h4, hf, frameOf_size]
def RdV (s : ByteArray) (n : Int) (k : Nat) : Prop := (FindV s k ∧ n = (vvS s 0 k : Int)) ∨ ((∀ j, ¬ FindV s j) ∧ n = 0 ∧ k = 0)
theorem ReadV.rd {s : ByteArray} {e : Ending} (h : ReadV s e) : ∃ n k, RdV s n k ∧ e = .returned (.tuple #[.int .i64 n, .int .i64 (k : Int)]) := by
 rcases h with ⟨k, h1, h2⟩ | ⟨h1, h2⟩
 ·exact ⟨_, k, .inl ⟨h1, rfl⟩, h2⟩
 ·exact ⟨0, 0, .inr ⟨h1, rfl, rfl⟩, h2⟩
theorem RdV.one {s : ByteArray} {n n' : Int} {k k' : Nat} (h : RdV s n k) (h' : RdV s n' k') : n = n' ∧ k = k' := by
 rcases h with ⟨h1, h2⟩ | ⟨h1, h2, h3⟩ <;> rcases h' with ⟨h1', h2'⟩ | ⟨h1', h2', h3'⟩
 ·obtain rfl := h1.one h1'
  exact ⟨h2.trans h2'.symm, rfl⟩
 ·exact absurd h1 (h1' k)
 ·exact absurd h1' (h1 k')
 ·exact ⟨h2.trans h2'.symm, h3.trans h3'.symm⟩
theorem RdV.le {s : ByteArray} {n : Int} {k : Nat} (h : RdV s n k) : k ≤ s.size ∧ k ≤ 7 ∧ 0 ≤ n := by
 rcases h with ⟨⟨_, h2, h3, _⟩, h4⟩ | ⟨_, h2, h3⟩
 ·exact ⟨h3, h2, by omega⟩
 ·omega
def bodyR (s : ByteArray) : ByteArray := if code s = 0 then bodyOf s else ⟨#[]⟩
theorem bodyR_size (s : ByteArray) : (bodyR s).size ≤ 2000 := by
 unfold bodyR
 split
 ·rename_i h
  obtain ⟨_, _, h2, h8, _⟩ := (code_zero s).1 h
  rw [bodyOf_size s h8]
  exact h2
 ·exact Nat.zero_le _
structure Steps (s : ByteArray) (n : Int) (k : Nat) (t : List Int) (a : Nat) (v : List Int) (b : Nat) : Prop where
 rn : RdV (bodyR s) n k
 rt : RdAns showT rowT ((bodyR s).extract k (bodyR s).size) n t a
 rv : RdAns showV rowV ((bodyR s).extract (k + a) (bodyR s).size) n v b
theorem Good.steps {s : ByteArray} {l : List Pnt} (h : Good s l) : Steps s (l.length : Int) (vF 6 l.length).length (ts l) (cat (tPiece (ts l)) l.length).length (vs l) (cat (vPiece (vs l)) l.length).length := by
 obtain ⟨hc, _, hb⟩ := h.read
 obtain ⟨ht, hv⟩ := rows_of_ok h.2.1 h.1
 have hB : bodyR s = txt (bodyB l) := by rw [bodyR, if_pos hc, hb]
 have hn : l.length ≤ 562949953421311 := by have := h.2.1.1; omega
 have hf := find_var l.length (cat (tPiece (ts l)) l.length ++ cat (vPiece (vs l)) l.length) hn
 refine ⟨?_, ?_, ?_⟩
 ·rw [hB]
  exact .inl ⟨hf.1, by unfold bodyB; rw [hf.2]⟩
 ·rw [hB, bodyB, extract_back]
  have := readT_back (ts l) ht (cat (vPiece (vs l)) l.length)
  rw [ts_length] at this
  exact this
 ·rw [hB]
  have e : bodyB l = (vF 6 l.length ++ cat (tPiece (ts l)) l.length) ++ cat (vPiece (vs l)) l.length := by rw [bodyB, List.append_assoc]
  have := readV_back (vs l) hv []
  rw [vs_length, List.append_nil] at this
  rw [e, ← List.length_append, extract_back]
  exact this
theorem Steps.one {s : ByteArray} {n n' : Int} {k k' a a' b b' : Nat} {t t' v v' : List Int} (h : Steps s n k t a v b) (h' : Steps s n' k' t' a' v' b') : n = n' ∧ k = k' ∧ t = t' ∧ a = a' ∧ v = v' ∧ b = b' := by
 obtain ⟨rfl, rfl⟩ := h.rn.one h'.rn
 obtain ⟨rfl, rfl⟩ := h.rt.one h'.rt
 obtain ⟨rfl, rfl⟩ := h.rv.one h'.rv
 exact ⟨rfl, rfl, rfl, rfl, rfl, rfl⟩
theorem Steps.good {s : ByteArray} {n : Int} {k a b : Nat} {t v : List Int} (h : Steps s n k t a v b) {l : List Pnt} (hg : Good s l) : zipP t v = l ∧ n = (l.length : Int) ∧ t = ts l ∧ v = vs l ∧ 1 ≤ k ∧ 1 ≤ a ∧ 1 ≤ b ∧ k + a + b = (bodyR s).size := by
 obtain ⟨rfl, rfl, rfl, rfl, rfl, rfl⟩ := h.one hg.steps
 obtain ⟨hc, _, hb⟩ := hg.read
 have hB : bodyR s = txt (bodyB l) := by rw [bodyR, if_pos hc, hb]
 refine ⟨zipP_rows l, rfl, rfl, rfl, vF_pos _ _, cat_pos _ _ hg.1 (vF_pos _ _), cat_pos _ _ hg.1 (vF_pos _ _), ?_⟩
 rw [hB, txt_size, bodyB]
 simp only [List.length_append]
 omega
theorem Good.one {s : ByteArray} {l m : List Pnt} (h : Good s l) (h' : Good s m) : l = m := by
 have := (h.steps.good h').1
 rw [zipP_rows] at this
 exact this
theorem RdAns.pos {shw : List Int → ByteArray} {row : List Int → List Int} {s : ByteArray} {n : Int} {l : List Int} {k : Nat} (hrow : ∀ v, (row v).length = v.length) (h : RdAns shw row s n l k) (hk : k ≠ 0) : n = (l.length : Int) ∧ 1 ≤ l.length ∧ l.length ≤ 60 ∧ shw l = s.extract 0 k ∧ k ≤ s.size := by
 rcases h with ⟨m, v, h1, h2, h3, h4, h5, h6⟩ | ⟨_, _, h0⟩
 ·have hl : l.length = m := by rw [h6, hrow, h4.length]
  exact ⟨by rw [hl]; exact h1, by omega, by omega, by rw [h6]; exact h5, h4.le.2⟩
 ·exact absurd h0 hk
theorem okT_of_show {l : List Int} {s : ByteArray} {k : Nat} (h : showT l = s.extract 0 k) (hk : k ≠ 0) (hs : k ≤ s.size) : TOk l := by
 by_cases ho : TOk l
 ·exact ho
 ·unfold showT at h
  rw [if_neg ho] at h
  exact absurd h (extract_ne s k (by omega) hs)
theorem okV_of_show {l : List Int} {s : ByteArray} {k : Nat} (h : showV l = s.extract 0 k) (hk : k ≠ 0) (hs : k ≤ s.size) : VOk l := by
 by_cases ho : VOk l
 ·exact ho
 ·unfold showV at h
  rw [if_neg ho] at h
  exact absurd h (extract_ne s k (by omega) hs)
theorem Steps.back {s : ByteArray} {n : Int} {k a b : Nat} {t v : List Int} (h : Steps s n k t a v b) (hc : code s = 0) (h8 : 8 + rdv s 4 = s.size) (hk : k ≠ 0) (ha : a ≠ 0) (hb : b ≠ 0) (hs : k + a + b = (bodyR s).size) : Good s (zipP t v) ∧ t.length = v.length ∧ n = (t.length : Int) := by
 obtain ⟨ht1, ht2, ht3, ht4, ht5⟩ := h.rt.pos rowT_length ha
 obtain ⟨hv1, hv2, hv3, hv4, hv5⟩ := h.rv.pos rowV_length hb
 have hlen : t.length = v.length := by omega
 have hT := okT_of_show ht4 ha ht5
 have hV := okV_of_show hv4 hb hv5
 obtain ⟨e1, e2⟩ := ts_zip t v hlen
 have hzl : (zipP t v).length = t.length := by rw [zipP_length]; omega
 have hP : POk (zipP t v) := ok_of_rows (by rw [e1]; exact hT) (by rw [e2]; exact hV)
 have hfv : FindV (bodyR s) k ∧ n = (vvS (bodyR s) 0 k : Int) := by
  rcases h.rn with h | ⟨_, _, h0⟩
  ·exact h
  ·exact absurd h0 hk
 obtain ⟨⟨c1, c2, c3, c4⟩, hn⟩ := hfv
 have hvar : txt (vF 6 (zipP t v).length) = (bodyR s).extract 0 k := by
  have hh := (var_eq (bodyR s) k c1 c2 c3).2 c4
  have hm : vvS (bodyR s) 0 k = (zipP t v).length := by omega
  rw [hm] at hh
  by_cases e : txt (vF 6 (zipP t v).length) = (bodyR s).extract 0 k
  ·exact e
  ·rw [bytes_ne e] at hh
   cases hh
 have hbody : txt (vF 6 (zipP t v).length) ++ showT (ts (zipP t v)) ++ showV (vs (zipP t v)) = bodyR s := by
  rw [e1, e2, hvar, ht4, hv4, ByteArray.extract_extract, ByteArray.extract_extract, Nat.add_zero, Nat.add_zero, Nat.min_eq_left (by omega), Nat.min_eq_left (by omega), ByteArray.extract_append_extract, show min 0 k = 0 by omega, show max k (k + a) = k + a by omega, ByteArray.extract_append_extract, show min 0 (k + a) = 0 by omega, show max (k + a) (k + a + b) = k + a + b by omega, hs, ByteArray.extract_zero_size]
 refine ⟨⟨by omega, hP, ?_⟩, hlen, ht1⟩
 rw [showB, if_pos ⟨by omega, hP⟩, hbody, bodyR, if_pos hc]
 obtain ⟨g4, g1, g2, g8, gs⟩ := (code_zero s).1 hc
 rw [(frame_fits s g4 g1 g2 g8).2 gs, h8, ByteArray.extract_zero_size]
theorem Steps.empty {n : Int} {k a b : Nat} {t v : List Int} (h : Steps (txt []) n k t a v b) : t = [] := by
 have hc : ¬ code (txt []) = 0 := fun hc => by
  obtain ⟨h4, _⟩ := (code_zero _).1 hc
  rw [txt_size] at h4
  simp at h4
 have hB : bodyR (txt []) = ⟨#[]⟩ := by rw [bodyR, if_neg hc]
 have hz : n = 0 := by
  rcases h.rn with ⟨⟨h1, _, h3, _⟩, _⟩ | ⟨_, h0, _⟩
  ·rw [hB] at h3
   have : (ByteArray.mk #[]).size = 0 := rfl
   omega
  ·exact h0
 rcases h.rt with ⟨m, v, h1, h2, _⟩ | ⟨_, h0, _⟩
 ·omega
 ·exact h0
theorem Steps.shown {s : ByteArray} {n : Int} {k a b : Nat} {t v : List Int} (h : Steps s n k t a v b) (h1 : 1 ≤ (zipP t v).length) (hs : showB (zipP t v) = s) : Good s (zipP t v) := by
 by_cases hp : POk (zipP t v)
 ·exact ⟨h1, hp, hs⟩
 ·exfalso
  rw [showB, if_neg (fun hh => hp hh.2)] at hs
  subst hs
  rw [h.empty] at h1
  simp [zipP] at h1
def RbAns (s : ByteArray) (l : List Pnt) (ok : Bool) : Prop := (ok = true ∧ Good s l) ∨ (ok = false ∧ l = [] ∧ ∀ m, ¬ Good s m)
theorem RbAns.one {s : ByteArray} {l m : List Pnt} {x y : Bool} (h : RbAns s l x) (h' : RbAns s m y) : l = m ∧ x = y := by
 rcases h with ⟨h1, h2⟩ | ⟨h1, h2, h3⟩ <;> rcases h' with ⟨h1', h2'⟩ | ⟨h1', h2', h3'⟩
 ·exact ⟨h2.one h2', h1.trans h1'.symm⟩
 ·exact absurd h2 (h3' l)
 ·exact absurd h2' (h3 m)
 ·exact ⟨h2.trans h2'.symm, h1.trans h1'.symm⟩
theorem RbAns.len {s : ByteArray} {l : List Pnt} {x : Bool} (h : RbAns s l x) : l.length ≤ 60 := by
 rcases h with ⟨_, h2⟩ | ⟨_, h2, _⟩
 ·exact h2.2.1.1
 ·rw [h2]; simp
theorem showB_size (l : List Pnt) : (showB l).size ≤ 900 := by
 unfold showB
 split
 ·rename_i h
  have hb := bodyB_size h.2
  rw [body_is h.2 h.1, frame, if_neg (by rw [txt_size]; omega), frameOf_size, txt_size]
  omega
 ·rw [txt_size]; simp
end Go.Proofs.YtnilgemgjlhibaaGreatDoor
namespace Go.Proofs.YtnilgemgjlhibaaGreatDoor
open Go.RowKit Go.PlainAid
def bl (s : ByteArray) : List UInt8 := s.data.toList
theorem txt_bl (s : ByteArray) : txt (bl s) = s := txt_toList s
theorem bl_length (s : ByteArray) : (bl s).length = s.size := by rw [← txt_size, txt_bl]
def magic : List UInt8 := [116, 115, 98, 49]
def blkB (l : List Ser) (j : Nat) : List UInt8 := bl (showB (sAt l j).pts)
def blks (l : List Ser) (k : Nat) : List UInt8 := cat (blkB l) k
def atB (l : List Ser) (k : Nat) : Nat := 4 + (blks l k).length
def fT (l : List Ser) (j : Nat) : Nat := (tAt (sAt l j).pts 0).toNat
def lT (l : List Ser) (j : Nat) : Nat := (tAt (sAt l j).pts ((sAt l j).pts.length - 1)).toNat
def spB (l : List Ser) (j : Nat) : List UInt8 := vF 6 (sAt l j).key.size ++ (bl (sAt l j).key ++ (vF 6 (atB l j) ++ (vF 6 (blkB l j).length ++ (vF 6 (fT l j) ++ vF 6 (lT l j)))))
def idxB (l : List Ser) (k : Nat) : List UInt8 := cat (spB l) k
def bodyF (l : List Ser) : List UInt8 := magic ++ (blks l l.length ++ (idxB l l.length ++ low (atB l l.length) 4))
def fileB (l : List Ser) : List UInt8 := bodyF l ++ low (crc (txt (bodyF l))) 4
def fileT (l : List Ser) : ByteArray := if 1 ≤ l.length ∧ SOk l then txt (fileB l) else txt []
def GoodF (s : ByteArray) (l : List Ser) : Prop := 1 ≤ l.length ∧ SOk l ∧ fileT l = s
theorem GoodF.text {s : ByteArray} {l : List Ser} (h : GoodF s l) : s = txt (fileB l) := by
 rw [← h.2.2, fileT, if_pos ⟨h.1, h.2.1⟩]
theorem blkB_length (l : List Ser) (j : Nat) : (blkB l j).length ≤ 900 := by unfold blkB; rw [bl_length]; exact showB_size _
theorem blks_length (l : List Ser) (k : Nat) : (blks l k).length ≤ 900 * k := by
 induction k with
 | zero => simp [blks, cat_zero]
 | succ k ih => unfold blks at ih ⊢; rw [cat_succ, List.length_append]; have := blkB_length l k; omega
theorem SOk.key {l : List Ser} (h : SOk l) (j : Nat) (hj : j < l.length) : 1 ≤ (sAt l j).key.size ∧ (sAt l j).key.size ≤ 8 := ⟨(h.2 j hj).1.1.1, (h.2 j hj).1.1.2.1⟩
theorem SOk.times {l : List Ser} (h : SOk l) (j : Nat) (hj : j < l.length) : (0 ≤ tAt (sAt l j).pts 0 ∧ tAt (sAt l j).pts 0 ≤ 1099511627776) ∧ (0 ≤ tAt (sAt l j).pts ((sAt l j).pts.length - 1) ∧ tAt (sAt l j).pts ((sAt l j).pts.length - 1) ≤ 1099511627776) := by
 have h1 := (h.2 j hj).2
 exact ⟨(h1.2.2 0 (by omega)).1.1, (h1.2.2 _ (by omega)).1.1⟩
theorem spB_length {l : List Ser} (h : SOk l) (j : Nat) (hj : j < l.length) : 6 ≤ (spB l j).length ∧ (spB l j).length ≤ 43 := by
 have := h.key j hj
 unfold spB
 simp only [List.length_append, bl_length]
 have a1 := vF_pos 6 (sAt l j).key.size
 have a2 := vF_pos 6 (atB l j)
 have a3 := vF_pos 6 (blkB l j).length
 have a4 := vF_pos 6 (fT l j)
 have a5 := vF_pos 6 (lT l j)
 have b1 := vF_length 6 (sAt l j).key.size
 have b2 := vF_length 6 (atB l j)
 have b3 := vF_length 6 (blkB l j).length
 have b4 := vF_length 6 (fT l j)
 have b5 := vF_length 6 (lT l j)
 omega
theorem idxB_length {l : List Ser} (h : SOk l) (k : Nat) (hk : k ≤ l.length) : 6 * k ≤ (idxB l k).length ∧ (idxB l k).length ≤ 43 * k := by
 induction k with
 | zero => simp [idxB, cat_zero]
 | succ k ih =>
  have ih := ih (by omega)
  have := spB_length h k (by omega)
  unfold idxB at ih ⊢
  rw [cat_succ, List.length_append]
  omega
theorem atB_le {l : List Ser} (h : SOk l) (k : Nat) (hk : k ≤ l.length) : atB l k ≤ 4504 := by
 have := blks_length l k
 have := h.1
 unfold atB
 omega
theorem bodyF_length {l : List Ser} (h : SOk l) : (bodyF l).length = 8 + (blks l l.length).length + (idxB l l.length).length ∧ (bodyF l).length ≤ 5000 := by
 have h1 := blks_length l l.length
 have h2 := idxB_length h l.length (Nat.le_refl _)
 have := h.1
 unfold bodyF
 simp only [List.length_append, low_length]
 have : magic.length = 4 := rfl
 omega
theorem fileB_length (l : List Ser) : (fileB l).length = (bodyF l).length + 4 := by unfold fileB; rw [List.length_append, low_length]
theorem rdV_ex (s : ByteArray) : ∃ n k : Nat, RdV s (n : Int) k := by
 by_cases h : ∃ k, FindV s k
 ·obtain ⟨k, h⟩ := h
  exact ⟨vvS s 0 k, k, .inl ⟨h, rfl⟩⟩
 ·exact ⟨0, 0, .inr ⟨fun j hj => h ⟨j, hj⟩, rfl, rfl⟩⟩
noncomputable def rvN (s : ByteArray) : Nat := Classical.choose (rdV_ex s)
noncomputable def rvK (s : ByteArray) : Nat := Classical.choose (Classical.choose_spec (rdV_ex s))
theorem rv_rd (s : ByteArray) : RdV s (rvN s : Int) (rvK s) := Classical.choose_spec (Classical.choose_spec (rdV_ex s))
theorem rv_is {s : ByteArray} {n : Int} {k : Nat} (h : RdV s n k) : n = (rvN s : Int) ∧ k = rvK s := h.one (rv_rd s)
theorem rvN_le (s : ByteArray) : rvN s ≤ 562949953421311 := by
 rcases rv_rd s with ⟨⟨_, h7, _, _⟩, h⟩ | ⟨_, h, _⟩
 ·have := vvS_le s (rvK s) h7 0
  omega
 ·omega
theorem rvK_le (s : ByteArray) : rvK s ≤ s.size ∧ rvK s ≤ 7 := by
 have := (rv_rd s).le
 omega
theorem rv_var (n : Nat) (tl : List UInt8) (hn : n ≤ 562949953421311) : rvN (txt (vF 6 n ++ tl)) = n ∧ rvK (txt (vF 6 n ++ tl)) = (vF 6 n).length := by
 have hf := find_var n tl hn
 have := rv_is (s := txt (vF 6 n ++ tl)) (n := (n : Int)) (k := (vF 6 n).length) (.inl ⟨hf.1, by rw [hf.2]⟩)
 omega
theorem extract_mid (a b c : List UInt8) : (txt (a ++ (b ++ c))).extract a.length (a.length + b.length) = txt b := by
 have h1 := extract_back a (b ++ c)
 have h2 := extract_front b c
 rw [← h1, ByteArray.extract_extract] at h2
 rw [← h2]
 congr 1
 rw [txt_size]
 simp only [List.length_append]
 omega
theorem rest_mid (a b : List UInt8) : rest (txt (a ++ b)) a.length = txt b := extract_back a b
noncomputable def tkN (s : ByteArray) (p : Nat) : Nat := rvN (rest s p)
noncomputable def tkP (s : ByteArray) (p : Nat) : Nat := p + rvK (rest s p)
theorem tkP_le (s : ByteArray) (p : Nat) (h : p ≤ s.size) : tkP s p ≤ s.size := by
 have := (rvK_le (rest s p)).1
 rw [rest_size] at this
 unfold tkP
 omega
theorem tk_var (a : List UInt8) (n : Nat) (tl : List UInt8) (hn : n ≤ 562949953421311) : tkN (txt (a ++ (vF 6 n ++ tl))) a.length = n ∧ tkP (txt (a ++ (vF 6 n ++ tl))) a.length = (a ++ vF 6 n).length := by
 unfold tkN tkP
 rw [rest_mid, (rv_var n tl hn).1, (rv_var n tl hn).2, List.length_append]
 exact ⟨rfl, rfl⟩
structure Spot where
 key : ByteArray
 at' : Nat
 size : Nat
 first : Nat
 last : Nat
instance : Inhabited Spot := ⟨⟨⟨#[]⟩, 0, 0, 0, 0⟩⟩
def tk (s : ByteArray) (p many : Nat) : Nat := min (p + many) s.size
noncomputable def spK (s : ByteArray) (p : Nat) : Nat := tk s (tkP s p) (tkN s p)
noncomputable def spotA (s : ByteArray) (p : Nat) : Spot :=
 ⟨s.extract (tkP s p) (spK s p), tkN s (spK s p), tkN s (tkP s (spK s p)), tkN s (tkP s (tkP s (spK s p))), tkN s (tkP s (tkP s (tkP s (spK s p))))⟩
noncomputable def spotP (s : ByteArray) (p : Nat) : Nat := tkP s (tkP s (tkP s (tkP s (spK s p))))
theorem tk_le (s : ByteArray) (p many : Nat) : tk s p many ≤ s.size := Nat.min_le_right _ _
theorem spotP_le (s : ByteArray) (p : Nat) : spotP s p ≤ s.size := tkP_le _ _ (tkP_le _ _ (tkP_le _ _ (tkP_le _ _ (tk_le _ _ _))))
noncomputable def idxA (s : ByteArray) (e : Nat) : Nat → Nat → List Spot
 | 0, _ => []
 | f + 1, p => if p < e then spotA s p :: idxA s e f (spotP s p) else []
noncomputable def spots (s : ByteArray) : List Spot := if s.size < 8 then [] else idxA s (s.size - 8) 5 (min (rdv (rest s (s.size - 8)) 4) s.size)
theorem idxA_length (s : ByteArray) (e : Nat) : ∀ f p, (idxA s e f p).length ≤ f
 | 0, _ => by simp [idxA]
 | f + 1, p => by
  rw [idxA]
  split
  ·have := idxA_length s e f (spotP s p)
   simp only [List.length_cons]
   omega
  ·simp
theorem spots_length (s : ByteArray) : (spots s).length ≤ 5 := by
 unfold spots
 split
 ·simp
 ·exact idxA_length _ _ _ _
def blkA (s : ByteArray) (x : Spot) : ByteArray := s.extract (min x.at' s.size) (tk s (min x.at' s.size) x.size)
theorem rb_ex (s : ByteArray) : ∃ l ok, RbAns s l ok := by
 by_cases h : ∃ l, Good s l
 ·obtain ⟨l, h⟩ := h
  exact ⟨l, true, .inl ⟨rfl, h⟩⟩
 ·exact ⟨[], false, .inr ⟨rfl, rfl, fun m hm => h ⟨m, hm⟩⟩⟩
noncomputable def rbP (s : ByteArray) : List Pnt := Classical.choose (rb_ex s)
theorem rbP_is {s : ByteArray} {l : List Pnt} {ok : Bool} (h : RbAns s l ok) : l = rbP s := by
 obtain ⟨ok', h'⟩ := Classical.choose_spec (rb_ex s)
 exact (h.one h').1
theorem rbP_good {s : ByteArray} {l : List Pnt} (h : Good s l) : rbP s = l := (rbP_is (ok := true) (.inl ⟨rfl, h⟩)).symm
theorem rbP_length (s : ByteArray) : (rbP s).length ≤ 60 := by
 obtain ⟨ok, h⟩ := Classical.choose_spec (rb_ex s)
 exact h.len
noncomputable def serA (s : ByteArray) (x : Spot) : Ser := ⟨x.key, rbP (blkA s x)⟩
noncomputable def serAll (s : ByteArray) : List Ser := (spots s).map (serA s)
def spotOf (l : List Ser) (j : Nat) : Spot := ⟨(sAt l j).key, atB l j, (blkB l j).length, fT l j, lT l j⟩
def posF (l : List Ser) (j : Nat) : Nat := atB l l.length + (idxB l j).length
theorem file_at (l : List Ser) (j : Nat) (hj : j < l.length) : ∃ a b : List UInt8, fileB l = a ++ (spB l j ++ (b ++ (low (atB l l.length) 4 ++ low (crc (txt (bodyF l))) 4))) ∧ a.length = posF l j ∧ idxB l l.length = idxB l j ++ (spB l j ++ b) := by
 obtain ⟨b, hb⟩ := cat_split (spB l) j l.length hj
 refine ⟨magic ++ (blks l l.length ++ idxB l j), b, ?_, ?_, hb⟩
 ·unfold fileB bodyF
  rw [show idxB l l.length = cat (spB l) l.length from rfl, hb]
  simp only [List.append_assoc]
  rfl
 ·unfold posF atB
  simp only [List.length_append]
  have : magic.length = 4 := rfl
  omega
theorem posF_end {l : List Ser} (h : SOk l) : posF l l.length + 8 = (fileB l).length := by
 have := bodyF_length h
 rw [fileB_length, this.1]
 unfold posF atB
 omega
theorem posF_lt {l : List Ser} (h : SOk l) (j : Nat) (hj : j < l.length) : posF l j < posF l l.length := by
 obtain ⟨a, b, _, _, hb⟩ := file_at l j hj
 have := spB_length h j hj
 unfold posF
 rw [hb]
 simp only [List.length_append]
 omega
theorem posF_succ (l : List Ser) (j : Nat) : posF l (j + 1) = posF l j + (spB l j).length := by
 unfold posF idxB
 rw [cat_succ, List.length_append, Nat.add_assoc]
theorem nums_le {l : List Ser} (h : SOk l) (j : Nat) (hj : j < l.length) : (sAt l j).key.size ≤ 562949953421311 ∧ atB l j ≤ 562949953421311 ∧ (blkB l j).length ≤ 562949953421311 ∧ fT l j ≤ 562949953421311 ∧ lT l j ≤ 562949953421311 := by
 have h1 := h.key j hj
 have h2 := atB_le h j (by omega)
 have h3 := blkB_length l j
 have h4 := h.times j hj
 unfold fT lT
 omega
theorem spot_read {l : List Ser} (h : SOk l) (j : Nat) (hj : j < l.length) : spotA (txt (fileB l)) (posF l j) = spotOf l j ∧ spotP (txt (fileB l)) (posF l j) = posF l (j + 1) := by
 obtain ⟨a, b, hf, ha, _⟩ := file_at l j hj
 obtain ⟨n1, n2, n3, n4, n5⟩ := nums_le h j hj
 generalize hK : (sAt l j).key = K at *
 generalize hA : atB l j = A at *
 generalize hZ : (blkB l j).length = Z at *
 generalize hF : fT l j = F at *
 generalize hE : lT l j = E at *
 generalize b ++ (low (atB l l.length) 4 ++ low (crc (txt (bodyF l))) 4) = T at hf
 have hsp : spB l j = vF 6 K.size ++ (bl K ++ (vF 6 A ++ (vF 6 Z ++ (vF 6 F ++ vF 6 E)))) := by unfold spB; rw [hK, hA, hZ, hF, hE]
 have e0 : fileB l = a ++ (vF 6 K.size ++ (bl K ++ (vF 6 A ++ (vF 6 Z ++ (vF 6 F ++ (vF 6 E ++ T)))))) := by rw [hf, hsp]; simp only [List.append_assoc]
 have e1 : fileB l = (a ++ vF 6 K.size) ++ (bl K ++ (vF 6 A ++ (vF 6 Z ++ (vF 6 F ++ (vF 6 E ++ T))))) := by rw [e0]; simp only [List.append_assoc]
 have e2 : fileB l = (a ++ vF 6 K.size ++ bl K) ++ (vF 6 A ++ (vF 6 Z ++ (vF 6 F ++ (vF 6 E ++ T)))) := by rw [e0]; simp only [List.append_assoc]
 have e3 : fileB l = (a ++ vF 6 K.size ++ bl K ++ vF 6 A) ++ (vF 6 Z ++ (vF 6 F ++ (vF 6 E ++ T))) := by rw [e0]; simp only [List.append_assoc]
 have e4 : fileB l = (a ++ vF 6 K.size ++ bl K ++ vF 6 A ++ vF 6 Z) ++ (vF 6 F ++ (vF 6 E ++ T)) := by rw [e0]; simp only [List.append_assoc]
 have e5 : fileB l = (a ++ vF 6 K.size ++ bl K ++ vF 6 A ++ vF 6 Z ++ vF 6 F) ++ (vF 6 E ++ T) := by rw [e0]; simp only [List.append_assoc]
 have t1 := tk_var a K.size (bl K ++ (vF 6 A ++ (vF 6 Z ++ (vF 6 F ++ (vF 6 E ++ T))))) n1
 rw [← e0] at t1
 have k1 : spK (txt (fileB l)) a.length = (a ++ vF 6 K.size ++ bl K).length := by
  unfold spK tk
  rw [t1.1, t1.2, txt_size, e2]
  simp only [List.length_append, bl_length]
  omega
 have x1 := extract_mid (a ++ vF 6 K.size) (bl K) (vF 6 A ++ (vF 6 Z ++ (vF 6 F ++ (vF 6 E ++ T))))
 rw [← e1, ← List.length_append] at x1
 have t2 := tk_var (a ++ vF 6 K.size ++ bl K) A (vF 6 Z ++ (vF 6 F ++ (vF 6 E ++ T))) n2
 rw [← e2] at t2
 have t3 := tk_var (a ++ vF 6 K.size ++ bl K ++ vF 6 A) Z (vF 6 F ++ (vF 6 E ++ T)) n3
 rw [← e3] at t3
 have t4 := tk_var (a ++ vF 6 K.size ++ bl K ++ vF 6 A ++ vF 6 Z) F (vF 6 E ++ T) n4
 rw [← e4] at t4
 have t5 := tk_var (a ++ vF 6 K.size ++ bl K ++ vF 6 A ++ vF 6 Z ++ vF 6 F) E T n5
 rw [← e5] at t5
 rw [posF_succ, ← ha]
 unfold spotA spotP
 rw [k1, t1.2, t2.1, t2.2, t3.1, t3.2, t4.1, t4.2, t5.1, t5.2, x1]
 refine ⟨?_, ?_⟩
 ·unfold spotOf
  rw [hK, hA, hZ, hF, hE, txt_bl]
 ·rw [hsp]
  simp only [List.length_append]
  omega
theorem idx_read {l : List Ser} (h : SOk l) (d : Nat) : ∀ j f, j + d = l.length → d ≤ f → idxA (txt (fileB l)) (posF l l.length) f (posF l j) = (List.range d).map fun i => spotOf l (j + i) := by
 induction d with
 | zero =>
  intro j f hj _
  obtain rfl : j = l.length := by omega
  cases f with
  | zero => rfl
  | succ f => rw [idxA, if_neg (by omega)]; rfl
 | succ d ih =>
  intro j f hj hf
  match f, hf with
  | f + 1, hf =>
   rw [idxA, if_pos (posF_lt h j (by omega)), (spot_read h j (by omega)).1, (spot_read h j (by omega)).2, ih (j + 1) f (by omega) (by omega), List.range_succ_eq_map, List.map_cons, List.map_map, Nat.add_zero]
   congr 1
   apply List.map_congr_left
   intro i _
   show spotOf l (j + 1 + i) = spotOf l (j + (i + 1))
   congr 1
   omega
theorem begin_read {l : List Ser} (h : SOk l) : rdv (rest (txt (fileB l)) ((txt (fileB l)).size - 8)) 4 = atB l l.length ∧ 12 ≤ (txt (fileB l)).size := by
 have hb := atB_le h l.length (Nat.le_refl _)
 have hl := bodyF_length h
 have e : fileB l = (magic ++ (blks l l.length ++ idxB l l.length)) ++ (low (atB l l.length) 4 ++ low (crc (txt (bodyF l))) 4) := by
  unfold fileB
  conv => lhs; arg 1; unfold bodyF
  simp only [List.append_assoc]
 have hz : (txt (fileB l)).size - 8 = (magic ++ (blks l l.length ++ idxB l l.length)).length := by
  rw [txt_size, fileB_length, hl.1]
  simp only [List.length_append]
  have : magic.length = 4 := rfl
  omega
 refine ⟨?_, by rw [txt_size, fileB_length, hl.1]; omega⟩
 rw [hz]
 conv => lhs; arg 1; rw [e]
 rw [rest_mid, ← txt_cat, rdv_append _ _ _ (by rw [txt_size, low_length]; exact Nat.le_refl _)]
 exact rdv_four_four _ (by omega)
theorem spots_read {l : List Ser} (h : SOk l) : spots (txt (fileB l)) = (List.range l.length).map (spotOf l) := by
 obtain ⟨h1, h2⟩ := begin_read h
 have hp := posF_end h
 have hb := atB_le h l.length (Nat.le_refl _)
 have h5 := h.1
 have hl := bodyF_length h
 have e0 : min (atB l l.length) (txt (fileB l)).size = posF l 0 := by
  rw [txt_size, fileB_length, hl.1]
  unfold posF idxB
  rw [cat_zero]
  unfold atB
  simp only [List.length_nil]
  omega
 have ee : (txt (fileB l)).size - 8 = posF l l.length := by rw [txt_size]; omega
 unfold spots
 rw [if_neg (by omega), h1, e0, ee, idx_read h l.length 0 5 (by omega) h5]
 simp only [Nat.zero_add]
theorem blk_read {l : List Ser} (j : Nat) (hj : j < l.length) : blkA (txt (fileB l)) (spotOf l j) = showB (sAt l j).pts := by
 obtain ⟨c, hc⟩ := cat_split (blkB l) j l.length hj
 have e : ∃ T, fileB l = (magic ++ blks l j) ++ (blkB l j ++ T) := by
  refine ⟨c ++ (idxB l l.length ++ low (atB l l.length) 4) ++ low (crc (txt (bodyF l))) 4, ?_⟩
  unfold fileB
  conv => lhs; arg 1; unfold bodyF
  rw [show blks l l.length = cat (blkB l) l.length from rfl, hc]
  simp only [List.append_assoc]
  rfl
 obtain ⟨T, e⟩ := e
 have ha : atB l j = (magic ++ blks l j).length := by
  unfold atB
  rw [List.length_append]
  rfl
 have hm := extract_mid (magic ++ blks l j) (blkB l j) T
 unfold blkA spotOf tk
 simp only
 rw [txt_size, ha, e]
 rw [show min (magic ++ blks l j).length ((magic ++ blks l j) ++ (blkB l j ++ T)).length = (magic ++ blks l j).length by simp only [List.length_append]; omega,
  show min ((magic ++ blks l j).length + (blkB l j).length) ((magic ++ blks l j) ++ (blkB l j ++ T)).length = (magic ++ blks l j).length + (blkB l j).length by simp only [List.length_append]; omega, hm]
 exact txt_bl _
theorem ser_read {l : List Ser} (h : SOk l) (j : Nat) (hj : j < l.length) : serA (txt (fileB l)) (spotOf l j) = sAt l j := by
 have hg : Good (showB (sAt l j).pts) (sAt l j).pts := ⟨(h.2 j hj).2.1, (h.2 j hj).2.2, rfl⟩
 unfold serA
 rw [blk_read j hj, rbP_good hg]
 rfl
theorem range_at (l : List Ser) : (List.range l.length).map (sAt l) = l := by
 apply List.ext_getElem (by simp)
 intro j h1 h2
 rw [List.getElem_map, List.getElem_range, sAt, ← getD_at l j h2]
theorem GoodF.read {s : ByteArray} {l : List Ser} (h : GoodF s l) : serAll s = l ∧ spots s = (List.range l.length).map (spotOf l) := by
 rw [h.text]
 refine ⟨?_, spots_read h.2.1⟩
 unfold serAll
 rw [spots_read h.2.1, List.map_map]
 conv => rhs; rw [← range_at l]
 apply List.map_congr_left
 intro j hj
 exact ser_read h.2.1 j (List.mem_range.1 hj)
theorem GoodF.one {s : ByteArray} {l m : List Ser} (h : GoodF s l) (h' : GoodF s m) : l = m := h.read.1.symm.trans h'.read.1
theorem GoodF.of {s : ByteArray} {l : List Ser} (h1 : 1 ≤ l.length) (h8 : 8 ≤ s.size) (hs : fileT l = s) : GoodF s l := by
 refine ⟨h1, ?_, hs⟩
 by_cases h : SOk l
 ·exact h
 ·rw [fileT, if_neg (fun hh => h hh.2)] at hs
  rw [← hs, txt_size] at h8
  simp at h8
def RfAns (s : ByteArray) (l : List Ser) (ok : Bool) : Prop := (ok = true ∧ GoodF s l) ∨ (ok = false ∧ l = [] ∧ ∀ m, ¬ GoodF s m)
theorem RfAns.one {s : ByteArray} {l m : List Ser} {x y : Bool} (h : RfAns s l x) (h' : RfAns s m y) : l = m ∧ x = y := by
 rcases h with ⟨h1, h2⟩ | ⟨h1, h2, h3⟩ <;> rcases h' with ⟨h1', h2'⟩ | ⟨h1', h2', h3'⟩
 ·exact ⟨h2.one h2', h1.trans h1'.symm⟩
 ·exact absurd h2 (h3' l)
 ·exact absurd h2' (h3 m)
 ·exact ⟨h2.trans h2'.symm, h1.trans h1'.symm⟩
theorem RfAns.len {s : ByteArray} {l : List Ser} {x : Bool} (h : RfAns s l x) : l.length ≤ 5 := by
 rcases h with ⟨_, h2⟩ | ⟨_, h2, _⟩
 ·exact h2.2.1.1
 ·rw [h2]; simp
theorem RfAns.short {s : ByteArray} {l : List Ser} {x : Bool} (h : RfAns s l x) : ∀ y ∈ l, y.pts.length ≤ 60 := by
 rcases h with ⟨_, h2⟩ | ⟨_, h2, _⟩
 ·intro y hy
  obtain ⟨j, hj, rfl⟩ := List.getElem_of_mem hy
  have := (h2.2.1.2 j hj).2.2.1
  rwa [sAt, ← getD_at l j hj] at this
 ·rw [h2]
  intro y hy
  cases hy
end Go.Proofs.YtnilgemgjlhibaaGreatDoor
namespace Go.Proofs.YtnilgemgjlhibaaGreatDoor
open Go.ChangeShapes Go.WideShapes Go.ChangeAt Go.RowKit Go.PlainAid
set_option linter.unusedVariables false
def KeptBut (g : Nat) (w w' : World) : Prop := Below g w w' ∧ ∀ b, b ≠ g → b < w.heap.size → w'.heap[b]? = w.heap[b]?
theorem KeptBut.of {g : Nat} {w w' : World} (h : Below w.heap.size w w') (hg : g < w.heap.size) : KeptBut g w w' := ⟨h.mono (Nat.le_of_lt hg), fun b _ hb => h.block b hb⟩
theorem KeptBut.refl (g : Nat) (w : World) : KeptBut g w w := ⟨Below.refl _ _, fun _ _ _ => rfl⟩
theorem KeptBut.trans {g : Nat} {w w' w'' : World} (h : KeptBut g w w') (h' : KeptBut g w' w'') : KeptBut g w w'' := ⟨h.1.trans h'.1, fun b hb hl => by rw [h'.2 b hb (Nat.lt_of_lt_of_le hl h.1.size), h.2 b hb hl]⟩
theorem KeptBut.set {g : Nat} {w w' : World} (h : KeptBut g w w') (i : Nat) (x : Value) : KeptBut g w (w'.setCell ⟨g, i, none⟩ x) := ⟨h.1.setCell (Nat.le_refl _) _, fun b hb hl => by rw [Below.heap_setCell _ _ _ _ hb]; exact h.2 b hb hl⟩
theorem KeptBut.setNew {g k : Nat} {w w' : World} (h : KeptBut g w w') (hk : w.heap.size ≤ k) (hg : g ≤ k) (i : Nat) (x : Value) : KeptBut g w (w'.setCell ⟨k, i, none⟩ x) := ⟨h.1.setCell hg _, fun b hb hl => by rw [Below.heap_setCell _ _ _ _ (show b ≠ k by omega)]; exact h.2 b hb hl⟩
theorem KeptBut.drew {g : Nat} {w w' : World} (h : KeptBut g w w') : KeptBut g w w'.drew := ⟨h.1.drew, h.2⟩
theorem KeptBut.size {g : Nat} {w w' : World} (h : KeptBut g w w') : w.heap.size ≤ w'.heap.size := h.1.size
theorem KeptBut.owns {g : Nat} {w w' : World} {base : Nat} {e : TypeId} {sz : Nat} {v : Value} {rows : List (List Value)} (h : KeptBut g w w') (ho : Owns w base e sz v rows) (hne : v.ownBlock ≠ some g) : Owns w' base e sz v rows := ho.kept fun k hk hv => h.2 k (fun e => hne (by rw [hv, e])) hk
theorem KeptBut.blk {g b : Nat} {w w' : World} {cs : Array Value} {t : TypeId} (h : KeptBut g w w') (hb : Blk w b cs t) (hne : b ≠ g) : Blk w' b cs t := (h.2 b hne hb.lt).trans hb
theorem Owns.notBlk {w : World} {base : Nat} {e t : TypeId} {sz g : Nat} {cs : Array Value} {v : Value} {rows : List (List Value)} (h : Owns w base e sz v rows) (hb : Blk w g cs t) (hne : e ≠ t) : v.ownBlock ≠ some g := fun hv => by
 rcases h.2.2 with ⟨rfl, _⟩ | ⟨g1, c1, cur1, rfl, _, k1, _⟩
 ·cases hv
 ·cases hv
  rw [hb] at k1
  cases k1
  exact hne rfl
def spC (x : Spot) : List Value := [.string x.key, .int .i64 (x.at' : Int), .int .i64 (x.size : Int), .int .i64 (x.first : Int), .int .i64 (x.last : Int)]
def spR (l : List Spot) : List (List Value) := l.map spC
theorem spR_length (l : List Spot) : (spR l).length = l.length := by simp [spR]
theorem spR_append (l m : List Spot) : spR (l ++ m) = spR l ++ spR m := by simp [spR]
theorem sp_one (x : Spot) : ∀ u ∈ spC x, u.oneCell' = true := by
 intro u hu
 simp only [spC, List.mem_cons, List.not_mem_nil, or_false] at hu
 rcases hu with rfl | rfl | rfl | rfl | rfl <;> rfl
theorem sp_look {w : World} {B : Nat} {v : Value} {l : List Spot} (h : Lies w B 5 v (spR l)) : ∃ A cap, v = .slice A l.length cap ∧ ∀ j, j < l.length → ∃ g off, A = some ⟨g, off, none⟩ ∧ g < B ∧
  w.cell? ⟨g, off + j * 5, none⟩ = some (.string (l.getD j default).key) ∧ w.cell? ⟨g, off + j * 5 + 1, none⟩ = some (.int .i64 ((l.getD j default).at' : Int)) ∧ w.cell? ⟨g, off + j * 5 + 2, none⟩ = some (.int .i64 ((l.getD j default).size : Int)) ∧
  w.cell? ⟨g, off + j * 5 + 3, none⟩ = some (.int .i64 ((l.getD j default).first : Int)) ∧ w.cell? ⟨g, off + j * 5 + 4, none⟩ = some (.int .i64 ((l.getD j default).last : Int)) := by
 obtain ⟨A, cap, e, h⟩ := h.look
 refine ⟨A, cap, by rw [e]; simp [spR], fun j hj => ?_⟩
 rw [← getD_at l j hj]
 obtain ⟨g, off, e, hg, hc⟩ := h j (by simpa [spR] using hj)
 refine ⟨g, off, e, hg, ?_, ?_, ?_, ?_, ?_⟩
 ·have := hc 0 _ (by omega) (by simp [spR, spC]; rfl); simpa [Nat.add_assoc] using this
 ·have := hc 1 _ (by omega) (by simp [spR, spC]; rfl); simpa [Nat.add_assoc] using this
 ·have := hc 2 _ (by omega) (by simp [spR, spC]; rfl); simpa [Nat.add_assoc] using this
 ·have := hc 3 _ (by omega) (by simp [spR, spC]; rfl); simpa [Nat.add_assoc] using this
 ·have := hc 4 _ (by omega) (by simp [spR, spC]; rfl); simpa [Nat.add_assoc] using this
def vSp (x : Spot) : Value := .agg #[.string x.key, .int .i64 (x.at' : Int), .int .i64 (x.size : Int), .int .i64 (x.first : Int), .int .i64 (x.last : Int)]
theorem Tryz.infoSp : (Tryz.prog.info? 41).map (fun i => (i.zero, i.size, i.bytes)) = some (some (.agg #[.string ⟨#[]⟩, .int .i64 0, .int .i64 0, .int .i64 0, .int .i64 0]), 5, 48) := by kernel_rfl
def SpFits (x : Spot) : Prop := x.key.size ≤ 1048576 ∧ x.at' ≤ 562949953421311 ∧ x.size ≤ 562949953421311 ∧ x.first ≤ 562949953421311 ∧ x.last ≤ 562949953421311
def CurB (w : World) (g : Nat) (t : ByteArray) (p : Nat) (ty : TypeId) : Prop := Blk w g #[.string t, .int .i64 (p : Int)] ty
end Go.Proofs.YtnilgemgjlhibaaGreatDoor
namespace Go.Proofs.YtnilgemgjlhibaaGreatDoor
open Go.ChangeShapes Go.WideShapes Go.ChangeAt Go.RowKit Go.PlainAid
set_option linter.unusedVariables false
def FfAns (s key : ByteArray) (l : List Pnt) (ok : Bool) : Prop := (ok = true ∧ ∃ m j, GoodF s m ∧ j < m.length ∧ (sAt m j).key = key ∧ (∀ i, i < j → (sAt m i).key ≠ key) ∧ l = (sAt m j).pts) ∨ (ok = false ∧ l = [] ∧ ∀ m, GoodF s m → ∀ j, j < m.length → (sAt m j).key ≠ key)
theorem FfAns.one {s key : ByteArray} {l l' : List Pnt} {x y : Bool} (h : FfAns s key l x) (h' : FfAns s key l' y) : l = l' ∧ x = y := by
 rcases h with ⟨h1, m, j, h2, h3, h4, h5, h6⟩ | ⟨h1, h2, h3⟩ <;> rcases h' with ⟨h1', m', j', h2', h3', h4', h5', h6'⟩ | ⟨h1', h2', h3'⟩
 ·obtain rfl := h2.one h2'
  obtain rfl : j = j' := by
   rcases Nat.lt_trichotomy j j' with e | e | e
   ·exact absurd h4 (h5' j e)
   ·exact e
   ·exact absurd h4' (h5 j' e)
  exact ⟨h6.trans h6'.symm, h1.trans h1'.symm⟩
 ·exact absurd h4 (h3' m h2 j h3)
 ·exact absurd h4' (h3 m' h2' j' h3')
 ·exact ⟨h2.trans h2'.symm, h1.trans h1'.symm⟩
theorem FfAns.len {s key : ByteArray} {l : List Pnt} {x : Bool} (h : FfAns s key l x) : l.length ≤ 60 := by
 rcases h with ⟨_, m, j, h2, h3, _, _, h6⟩ | ⟨_, h2, _⟩
 ·rw [h6]
  exact (h2.2.1.2 j h3).2.2.1
 ·rw [h2]
  simp
def FfOk (s key : ByteArray) (w' : World) (b : Nat) (e : Ending) : Prop := ∃ v l ok, e = .returned (.tuple #[v, .bool ok]) ∧ FfAns s key l ok ∧ Owns w' b 38 2 v (ptR l)
end Go.Proofs.YtnilgemgjlhibaaGreatDoor
namespace Go.Proofs.YtnilgemgjlhibaaGreatDoor
open Go.RowKit Go.PlainAid
def fourN (l : List Ser) (j i : Nat) : Nat := if i = 0 then atB l j else if i = 1 then (blkB l j).length else if i = 2 then fT l j else lT l j
theorem four_cat (l : List Ser) (j : Nat) : cat (fun i => vF 6 (fourN l j i)) 4 = vF 6 (atB l j) ++ (vF 6 (blkB l j).length ++ (vF 6 (fT l j) ++ vF 6 (lT l j))) := by
 rw [cat_succ, cat_succ, cat_succ, cat_succ, cat_zero]
 simp only [fourN, List.nil_append, List.append_assoc]
 rfl
theorem GoodF.ends {s : ByteArray} {m : List Ser} (h : GoodF s m) : s.size - 8 = posF m m.length ∧ 12 ≤ s.size ∧ rdv (rest s (s.size - 8)) 4 = posF m 0 ∧ posF m 0 ≤ s.size - 8 := by
 have hp := posF_end h.2.1
 obtain ⟨h1, h2⟩ := begin_read h.2.1
 rw [h.text] at *
 have ee : (txt (fileB m)).size - 8 = posF m m.length := by rw [txt_size]; omega
 have h0 : posF m 0 = atB m m.length := by unfold posF idxB; rw [cat_zero]; rfl
 refine ⟨ee, h2, by rw [h1, h0], ?_⟩
 rw [ee]
 rcases Nat.eq_zero_or_pos m.length with h3 | h3
 ·rw [h3]; exact Nat.le_refl _
 ·exact Nat.le_of_lt (posF_lt h.2.1 0 h3)
theorem GoodF.more {s : ByteArray} {m : List Ser} (h : GoodF s m) (k : Nat) (hk : k ≤ m.length) (hp : posF m k < s.size - 8) : k < m.length := by
 rcases Nat.lt_or_ge k m.length with h1 | h1
 ·exact h1
 ·exfalso
  have : k = m.length := by omega
  subst this
  rw [h.ends.1] at hp
  omega
theorem GoodF.last {s : ByteArray} {m : List Ser} (h : GoodF s m) (k : Nat) (hk : k ≤ m.length) (hp : ¬ posF m k < s.size - 8) : k = m.length := by
 rcases Nat.lt_or_ge k m.length with h1 | h1
 ·exfalso
  rw [h.ends.1] at hp
  exact hp (posF_lt h.2.1 k h1)
 ·omega
theorem GoodF.step {s : ByteArray} {m : List Ser} (h : GoodF s m) (k : Nat) (hk : k < m.length) (p : Nat) (hp : p = posF m k) :
  rvN (s.extract p (s.size - 8)) = (sAt m k).key.size ∧ 1 ≤ rvK (s.extract p (s.size - 8)) ∧ p + rvK (s.extract p (s.size - 8)) + (sAt m k).key.size ≤ s.size - 8 ∧
  s.extract (p + rvK (s.extract p (s.size - 8))) (p + rvK (s.extract p (s.size - 8)) + (sAt m k).key.size) = (sAt m k).key ∧
  Rd (s.extract (p + rvK (s.extract p (s.size - 8)) + (sAt m k).key.size) (s.size - 8)) 4 (rowOf (fun i => (fourN m k i : Int)) 4) (cat (fun i => vF 6 (fourN m k i)) 4).length ∧
  p + rvK (s.extract p (s.size - 8)) + (sAt m k).key.size + (cat (fun i => vF 6 (fourN m k i)) 4).length = posF m (k + 1) ∧
  atB m k ≤ s.size ∧ (blkB m k).length ≤ s.size - atB m k ∧ s.extract (atB m k) (atB m k + (blkB m k).length) = showB (sAt m k).pts := by
 have hok := h.2.1
 obtain ⟨hend, h12, _, _⟩ := h.ends
 obtain ⟨a, b, hf, ha, hb⟩ := file_at m k hk
 obtain ⟨n1, n2, n3, n4, n5⟩ := nums_le hok k hk
 have hs := h.text
 have hblk := blk_read (l := m) k hk
 have hsp : spB m k = vF 6 (sAt m k).key.size ++ (bl (sAt m k).key ++ cat (fun i => vF 6 (fourN m k i)) 4) := by rw [four_cat]; rfl
 have hlen : posF m m.length = a.length + (spB m k ++ b).length := by
  rw [ha]
  unfold posF
  rw [hb]
  simp only [List.length_append]
  omega
 subst hp
 rw [← ha]
 generalize hK : (sAt m k).key = K at *
 generalize hC : cat (fun i => vF 6 (fourN m k i)) 4 = C at *
 generalize hT : low (atB m m.length) 4 ++ low (crc (txt (bodyF m))) 4 = T at *
 have e0 : fileB m = a ++ ((spB m k ++ b) ++ T) := by rw [hf]; simp only [List.append_assoc]
 have x0 : s.extract a.length (s.size - 8) = txt (vF 6 K.size ++ (bl K ++ (C ++ b))) := by
  rw [hend, hlen, hs, e0, extract_mid, hsp]
  simp only [List.append_assoc]
 have hr := rv_var K.size (bl K ++ (C ++ b)) n1
 rw [← x0] at hr
 rw [hr.1, hr.2]
 have hpos : 1 ≤ (vF 6 K.size).length := vF_pos _ _
 have hsl : (spB m k ++ b).length = (vF 6 K.size).length + (K.size + (C.length + b.length)) := by rw [hsp]; simp only [List.length_append, bl_length]; omega
 have e1 : fileB m = (a ++ vF 6 K.size) ++ (bl K ++ (C ++ b ++ T)) := by rw [e0, hsp]; simp only [List.append_assoc]
 have e2 : fileB m = (a ++ vF 6 K.size ++ bl K) ++ ((C ++ b) ++ T) := by rw [e0, hsp]; simp only [List.append_assoc]
 have x1 := extract_mid (a ++ vF 6 K.size) (bl K) (C ++ b ++ T)
 rw [← e1, ← hs, List.length_append, bl_length, txt_bl] at x1
 have x2 := extract_mid (a ++ vF 6 K.size ++ bl K) (C ++ b) T
 rw [← e2, ← hs, List.length_append, List.length_append, bl_length] at x2
 have e3 : a.length + (vF 6 K.size).length + K.size + (C ++ b).length = s.size - 8 := by rw [hend, hlen, hsl, List.length_append]; omega
 rw [e3] at x2
 have hrd := rd_cat (fourN m k) 4 (fun i _ => by unfold fourN; split; exact n2; split; exact n3; split; exact n4; exact n5) b 4 (Nat.le_refl _)
 rw [hC] at hrd
 have hat : atB m k + (blkB m k).length ≤ s.size := by
  obtain ⟨c, hc⟩ := cat_split (blkB m) k m.length hk
  have e4 : (blks m m.length).length = (blks m k).length + ((blkB m k).length + c.length) := by
   show (cat (blkB m) m.length).length = _
   rw [hc]
   simp only [List.length_append]
   rfl
  have := bodyF_length hok
  rw [hs, txt_size, fileB_length, this.1]
  unfold atB
  omega
 refine ⟨rfl, hpos, ?_, x1, ?_, ?_, by omega, by omega, ?_⟩
 ·rw [hend, hlen, hsl]
  omega
 ·rw [x2]
  exact hrd
 ·rw [posF_succ, ← ha, hsp]
  simp only [List.length_append, bl_length]
  omega
 ·rw [← hs] at hblk
  rw [← hblk]
  unfold blkA spotOf tk
  simp only
  rw [show min (atB m k) s.size = atB m k by omega, show min (atB m k + (blkB m k).length) s.size = atB m k + (blkB m k).length by omega]
theorem four_at (m : List Ser) (k : Nat) : (rowOf (fun i => (fourN m k i : Int)) 4).getD 0 0 = (atB m k : Int) ∧ (rowOf (fun i => (fourN m k i : Int)) 4).getD 1 0 = ((blkB m k).length : Int) := ⟨rfl, rfl⟩
theorem take_sAt {m : List Ser} (k : Nat) (hk : k < m.length) : m.take (k + 1) = m.take k ++ [sAt m k] := take_getD m k hk
theorem GoodF.pts {s : ByteArray} {m : List Ser} (h : GoodF s m) (k : Nat) (hk : k < m.length) : Good (showB (sAt m k).pts) (sAt m k).pts := ⟨(h.2.1.2 k hk).2.1, (h.2.1.2 k hk).2.2, rfl⟩
end Go.Proofs.YtnilgemgjlhibaaGreatDoor
namespace Go.Proofs.YtnilgemgjlhibaaGreatDoor
open Go.ChangeShapes Go.WideShapes Go.ChangeAt Go.RowKit Go.PlainAid
set_option linter.unusedVariables false
set_option maxHeartbeats 1000000 in
theorem placeV (w : World) (g p : Nat) (hc : w.cell? ⟨g, 1, none⟩ = some (.int .i64 (p : Int))) : Calls Tryz.prog 34 #[.pointer (some ⟨g, 0, none⟩)] w fun e w' => e = .returned (.int .i64 (p : Int)) ∧ w = w' := by
 go_enter Tryz.func34, Tryz.ntmps34
 go_wp2
 go_ret
 exact ⟨rfl, rfl⟩
set_option maxHeartbeats 1000000 in
theorem goToV (t : ByteArray) (p a : Nat) (w : World) (g : Nat) (ty : TypeId) (hb : CurB w g t p ty) (hs : t.size ≤ 1048576) (ha : a ≤ 9007199254740992) : Calls Tryz.prog 28 #[.pointer (some ⟨g, 0, none⟩), .int .i64 (a : Int)] w fun e w' => (∃ u, e = .returned u) ∧ w' = w.setCell ⟨g, 1, none⟩ (.int .i64 ((min a t.size : Nat) : Int)) := by
 have c0 : w.cell? ⟨g, 0, none⟩ = some (.string t) := Blk.cell hb 0 _ rfl
 have c1 : w.cell? ⟨g, 1, none⟩ = some (.int .i64 (p : Int)) := Blk.cell hb 1 _ rfl
 have f1 := Blk.free hb 1
 have q0 : (t.size : Int) ≤ 1048576 := by omega
 have q1 : (a : Int) ≤ 9007199254740992 := by omega
 have hm : ((min a t.size : Nat) : Int) = min (a : Int) (t.size : Int) := by omega
 clear hb
 rw [hm]
 go_enter Tryz.func28, Tryz.ntmps28
 go_wp2_with fail
 exact bodyPost_end (v := .tuple #[]) (by simp [results, go_sem]) rfl ⟨⟨_, rfl⟩, rfl⟩
set_option maxHeartbeats 1000000 in
theorem writeV (t part : ByteArray) (w : World) (g p : Nat) (hb : CurB w g t p 76) (hs : t.size + part.size ≤ 1000000) : Calls Tryz.prog 53 #[.pointer (some ⟨g, 0, none⟩), .string part] w fun e w' => (∃ u, e = .returned u) ∧ CurB w' g (t ++ part) (t ++ part).size 76 ∧ KeptBut g w w' := by
 have HB : Hid (CurB w g t p 76) := hb
 have c0 : w.cell? ⟨g, 0, none⟩ = some (.string t) := Blk.cell hb 0 _ rfl
 have f0 := Blk.free hb 0
 have q0 : (t.size : Int) + (part.size : Int) ≤ 1000000 := by omega
 have HN : Hid ((t ++ part).size = t.size + part.size) := ByteArray.size_append
 clear hb hs
 have b1 := Blk.set HB.out 0 (.string (t ++ part))
 have B1 : Hid (CurB (w.setCell ⟨g, 0, none⟩ (.string (t ++ part))) g (t ++ part) p 76) := b1
 have K1 : Hid (KeptBut g w (w.setCell ⟨g, 0, none⟩ (.string (t ++ part)))) := (KeptBut.refl g w).set 0 _
 clear b1
 have q1 : ((t ++ part).size : Int) ≤ 1048576 := by have := HN.out; omega
 generalize htp : t ++ part = tp at *
 generalize hW : w.setCell ⟨g, 0, none⟩ (.string tp) = W1 at *
 have S0 : Hid (W1.drew.cell? ⟨g, 0, none⟩ = some (.string tp)) := Blk.cell B1.out 0 _ rfl
 have c1 := goToV tp p tp.size W1.drew g 76 B1.out (by omega) (by omega)
 have HM : Hid (min tp.size tp.size = tp.size) := Nat.min_self _
 rw [HM.out] at c1
 go_enter Tryz.func53, Tryz.ntmps53
 go_wp2_with fail
 refine wp_region_until (fun w' => w'.cell? ⟨g, 0, none⟩ = some (.string tp)) (fun _ => false) 10 (by rfl) (by kernel_rfl) ?_
 refine until_take 0 (v := ?_) (by rfl) (by kernel_rfl) (by exact fun _ _ _ h => h) (by rfl) ?_ S0.out ?_
 rotate_left
 ·intro w hSw
  try dsimp only at hSw
  go_simp
  try with_reducible rfl
 try simp only [Act.put, setIfInBounds_toArray, set_cons_zero, set_cons_succ]
 refine until_take 1 (v := ?_) (by rfl) (by kernel_rfl) (by exact fun _ _ _ h => h) (by rfl) ?_ S0.out ?_
 rotate_left
 ·intro w hSw
  try dsimp only at hSw
  go_simp
  try with_reducible rfl
 try simp only [Act.put, setIfInBounds_toArray, set_cons_zero, set_cons_succ]
 refine until_take 2 (v := ?_) (by rfl) (by kernel_rfl) (by exact fun _ _ _ h => h) (by rfl) ?_ S0.out ?_
 rotate_left
 ·intro w hSw
  try dsimp only at hSw
  go_simp
  try with_reducible rfl
 try simp only [Act.put, setIfInBounds_toArray, set_cons_zero, set_cons_succ]
 refine until_take 3 (v := ?_) (by rfl) (by kernel_rfl) (by exact fun _ _ _ h => h) (by rfl) ?_ S0.out ?_
 rotate_left
 ·intro w hSw
  try dsimp only at hSw
  go_simp
  try with_reducible rfl
 try simp only [Act.put, setIfInBounds_toArray, set_cons_zero, set_cons_succ]
 refine until_take 4 (v := ?_) (by rfl) (by kernel_rfl) (by exact fun _ _ _ h => h) (by rfl) ?_ S0.out ?_
 rotate_left
 ·intro w hSw
  try dsimp only at hSw
  go_simp
  try with_reducible rfl
 try simp only [Act.put, setIfInBounds_toArray, set_cons_zero, set_cons_succ]
 refine until_take 5 (v := ?_) (by rfl) (by kernel_rfl) (by exact fun _ _ _ h => h) (by rfl) ?_ S0.out ?_
 rotate_left
 ·intro w hSw
  try dsimp only at hSw
  go_simp
  try with_reducible rfl
 try simp only [Act.put, setIfInBounds_toArray, set_cons_zero, set_cons_succ]
 refine until_take 6 (v := ?_) (by rfl) (by kernel_rfl) (by exact fun _ _ _ h => h) (by rfl) ?_ S0.out ?_
 rotate_left
 ·intro w hSw
  try dsimp only at hSw
  go_simp
  try with_reducible rfl
 try simp only [Act.put, setIfInBounds_toArray, set_cons_zero, set_cons_succ]
 refine until_take 7 (v := ?_) (by rfl) (by kernel_rfl) (by exact fun _ _ _ h => h) (by rfl) ?_ S0.out ?_
 rotate_left
 ·intro w hSw
  try dsimp only at hSw
  go_simp
  try with_reducible rfl
 try simp only [Act.put, setIfInBounds_toArray, set_cons_zero, set_cons_succ]
 refine until_take 8 (v := ?_) (by rfl) (by kernel_rfl) (by exact fun _ _ _ h => h) (by rfl) ?_ S0.out ?_
 rotate_left
 ·intro w hSw
  try dsimp only at hSw
  go_simp
  try with_reducible rfl
 try simp only [Act.put, setIfInBounds_toArray, set_cons_zero, set_cons_succ]
 refine until_one 9 (by rfl) (by kernel_rfl) (fun K hK => ?_)
 go_simp
 refine c1.mono ?_
 rintro e w2 ⟨⟨u, rfl⟩, rfl⟩
 have B2 : Hid (CurB (W1.drew.setCell ⟨g, 1, none⟩ (.int .i64 (tp.size : Int))) g tp tp.size 76) := Blk.set B1.out 1 _
 have K2 : Hid (KeptBut g w (W1.drew.setCell ⟨g, 1, none⟩ (.int .i64 (tp.size : Int)))) := K1.out.drew.set 1 _
 go_wp2_with fail
 refine hK.out _ _ (fun _ _ => Blk.cell B2.out 0 _ rfl) ?_
 clear hK K
 try simp only [Act.put, setIfInBounds_toArray, set_cons_zero, set_cons_succ]
 refine until_done (by kernel_rfl) ?_ _
 go_wp2_with fail
 exact bodyPost_end (v := .tuple #[]) (by simp [results, go_sem]) rfl ⟨⟨_, rfl⟩, B2.out, K2.out⟩
end Go.Proofs.YtnilgemgjlhibaaGreatDoor
