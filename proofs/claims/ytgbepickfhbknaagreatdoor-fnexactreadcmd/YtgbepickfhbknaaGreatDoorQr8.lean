/- CmOp BkReadS -/
import Derived.Test.YtgbepickfhbknaaGreatDoorRows
import Derived.Test.YtgbepickfhbknaaGreatDoorQr1
import Derived.Test.YtgbepickfhbknaaGreatDoorQr4
import Derived.Test.YtgbepickfhbknaaGreatDoorQr7
import Derived.Test.YtgbepickfhbknaaGreatDoorQr6
open List (setIfInBounds_toArray set_cons_zero set_cons_succ)
namespace Go.Proofs.YtgbepickfhbknaaGreatDoor
open Go.ChangeShapes Go.WideShapes Go.ChangeAt Go.RowKit Go.PlainAid
set_option linter.unusedVariables false
theorem Hid.mk {p : Prop} (h : p) : Hid p := h
theorem below_c1 (w : World) (a : Obj) : Below w.heap.size w (w.alloc a) := (Below.refl _ w).alloc (Nat.le_refl _) a
theorem below_c2 (w : World) (a b : Obj) : Below w.heap.size w ((w.alloc a).alloc b) := ((Below.refl _ w).alloc (Nat.le_refl _) a).alloc (by simp) b
noncomputable def opT (x : Opx) : ByteArray := if opOk x = true then txt [byt x.kind.toNat] ++ txt (vF 6 x.key.size) ++ x.key ++ txt (vF 6 x.frm.toNat) ++ txt (vF 6 x.til.toNat) ++ x.data else ⟨#[]⟩
def OpRd (s : ByteArray) (x : Opx) : Prop := ∃ k n1 f t m, 1 ≤ s.size ∧ RdF s 1 1 [((k : Nat) : Int)] n1 ∧ n1 + k ≤ s.size ∧ RdF s (n1 + k) 2 [f, t] m ∧ x = ⟨(bn s 0 : Int), s.extract n1 (n1 + k), f, t, lf s m⟩ ∧ opOk x = true
theorem OpRd.one {s : ByteArray} {x y : Opx} (h : OpRd s x) (h' : OpRd s y) : x = y := by
 obtain ⟨k, n1, f, t, m, _, h1, _, h2, rfl, _⟩ := h
 obtain ⟨k', n1', f', t', m', _, h1', _, h2', rfl, _⟩ := h'
 obtain ⟨e, rfl⟩ := h1.one h1'
 simp only [List.cons.injEq, and_true] at e
 obtain rfl : k = k' := by omega
 obtain ⟨e, rfl⟩ := h2.one h2'
 simp only [List.cons.injEq, and_true] at e
 obtain ⟨rfl, rfl⟩ := e
 rfl
def OpA (s : ByteArray) (e : Ending) : Prop := (∃ x, OpRd s x ∧ e = .returned (.tuple #[vOp x, .bool true])) ∨ ((∀ x, ¬ OpRd s x) ∧ e = .returned (.tuple #[vOp ⟨0, ⟨#[]⟩, 0, 0, ⟨#[]⟩⟩, .bool false]))
theorem OpA.one {s : ByteArray} {e e' : Ending} (h : OpA s e) (h' : OpA s e') : e = e' := by
 rcases h with ⟨x, hx, rfl⟩ | ⟨hn, rfl⟩ <;> rcases h' with ⟨y, hy, rfl⟩ | ⟨hn', rfl⟩
 ·rw [hx.one hy]
 ·exact absurd hx (hn' x)
 ·exact absurd hy (hn y)
 ·rfl
theorem OpA.form {s : ByteArray} {e : Ending} (h : OpA s e) : ∃ x b, e = .returned (.tuple #[vOp x, .bool b]) := by
 rcases h with ⟨x, hx, rfl⟩ | ⟨hn, rfl⟩
 ·exact ⟨_, _, rfl⟩
 ·exact ⟨_, _, rfl⟩
theorem emB_size {s : ByteArray} (h : emB s = true) : s.size = 0 := by
 unfold emB at h
 rw [List.isEmpty_iff, Lib.toList_data] at h
 have h2 : s.data.size = 0 := by rw [← Array.length_toList, h]; rfl
 exact h2
theorem keyB_size {s : ByteArray} (h : keyB s = true) : s.size ≤ 8 := (of_decide_eq_true h).2.1
theorem opOk_in {x : Opx} (h : opOk x = true) : (1 ≤ x.kind ∧ x.kind ≤ 7) ∧ x.key.size ≤ 8 ∧ (0 ≤ x.frm ∧ x.frm ≤ 1099511627776) ∧ (0 ≤ x.til ∧ x.til ≤ 1099511627776) := by
 unfold opOk at h
 split at h
 ·simp only [spanB, Bool.and_eq_true, decide_eq_true_eq] at h
  have := emB_size h.1.2
  omega
 ·split at h
  ·simp only [inRg, zB, Bool.and_eq_true, decide_eq_true_eq] at h
   have := emB_size h.1.1.2
   omega
  ·split at h
   ·simp only [inRg, zB, Bool.and_eq_true, decide_eq_true_eq] at h
    have := emB_size h.1.1.2
    omega
   ·split at h
    ·simp only [zB, Bool.and_eq_true, decide_eq_true_eq] at h
     have := keyB_size h.1.1.1
     omega
    ·split at h
     ·simp only [spanB, Bool.and_eq_true, decide_eq_true_eq] at h
      have := keyB_size h.1.1
      omega
     ·split at h
      ·simp only [zB, Bool.and_eq_true, decide_eq_true_eq] at h
       have := emB_size h.1.1.1
       omega
      ·cases h
theorem extract_more (s : ByteArray) (a b c : Nat) (h1 : a ≤ b) (h2 : b ≤ c) : s.extract a c = s.extract a b ++ s.extract b c := by
 rw [ByteArray.extract_append_extract]
 congr 1 <;> omega
theorem opT_back {s : ByteArray} {k n1 m : Nat} {f t : Int} (h0 : 1 ≤ s.size) (h1 : RdF s 1 1 [(k : Int)] n1) (h2 : n1 + k ≤ s.size) (h3 : RdF s (n1 + k) 2 [f, t] m) (ho : opOk ⟨(bn s 0 : Int), s.extract n1 (n1 + k), f, t, lf s m⟩ = true) :
  opT ⟨(bn s 0 : Int), s.extract n1 (n1 + k), f, t, lf s m⟩ = s := by
 have e1 := h1.text
 have e3 := h3.text
 have g1 := h1.ge
 have g3 := h3.ge
 have hc := cut_in_two s m (g3.2 (by omega))
 have e0 : s.extract 0 1 = txt [byt (bn s 0)] := sg_extract s 1 h0
 have hk : (s.extract n1 (n1 + k)).size = k := by rw [ByteArray.size_extract]; omega
 have hm : s.extract 0 m = s.extract 0 1 ++ s.extract 1 n1 ++ s.extract n1 (n1 + k) ++ s.extract (n1 + k) m := by
  rw [← extract_more s 0 1 n1 (by omega) (by omega), ← extract_more s 0 n1 (n1 + k) (by omega) (by omega), ← extract_more s 0 (n1 + k) m (by omega) (by omega)]
 unfold opT
 rw [if_pos ho]
 simp only [hk, Int.toNat_natCast]
 conv => rhs; rw [hc, hm, e0, e1, e3]
 simp [varsT, ByteArray.append_assoc]
set_option maxHeartbeats 1000000 in
theorem takeByteF (g : Nat) (s : ByteArray) (w : World) (hp : Prt w g s) (hs : s.size ≤ 1048576) :
  Calls Tryz.prog 26 #[.pointer (some ⟨g, 0, none⟩)] w fun e w' => ((1 ≤ s.size ∧ e = .returned (.int .i64 (bn s 0 : Int)) ∧ Prt w' g (lf s 1)) ∨ (¬ 1 ≤ s.size ∧ e = .panicked lackP)) ∧ PKeep g w w' := by
 by_cases h1 : 1 ≤ s.size
 ·have c := takeText_yes g s 1 w hp h1 hs
  have HP : Hid (Prt (w.setCell ⟨g, 0, none⟩ (.string (s.extract 1 s.size))) g (lf s 1)) := hp.put _
  have HK : Hid (PKeep g w (w.setCell ⟨g, 0, none⟩ (.string (s.extract 1 s.size)))) := (PKeep.refl g w).set 0 _
  have hz : (s.extract 0 1).size = 1 := by rw [ByteArray.size_extract]; omega
  have hg : ∀ h : 0 < (s.extract 0 1).size, (((s.extract 0 1)[0]'h).toNat : Int) = (bn s 0 : Int) := by
   intro h
   rw [← get_bn s 0 (by omega), ByteArray.getElem_extract]
  have hl := bn_lt s 0
  have H1 : Hid (1 ≤ s.size) := h1
  clear hp hs h1
  generalize s.extract 0 1 = b at *
  generalize w.setCell ⟨g, 0, none⟩ (.string (s.extract 1 s.size)) = V at *
  generalize bn s 0 = n at *
  go_enter Tryz.func26, Tryz.ntmps26
  go_wp2_with fail
  refine c.mono ?_
  rintro e w1 ⟨rfl, rfl⟩
  go_wp2_with fail
  go_ret
  exact ⟨.inl ⟨H1.out, rfl, HP.out⟩, HK.out⟩
 ·have c := takeText_no g s 1 w hp (by omega) hs
  have H1 : Hid (¬ 1 ≤ s.size) := h1
  clear hp hs h1
  go_enter Tryz.func26, Tryz.ntmps26
  go_wp2_with fail
  refine c.mono ?_
  rintro e w1 ⟨rfl, rfl⟩
  go_wp2_with fail
  exact ⟨rfl, .inr ⟨H1.out, rfl⟩, PKeep.refl _ _⟩
theorem takeTextF (g : Nat) (s : ByteArray) (n m : Nat) (w : World) (hp : Prt w g (lf s n)) (hn : n ≤ s.size) (hs : s.size ≤ 1048576) :
  Calls Tryz.prog 27 #[.pointer (some ⟨g, 0, none⟩), .int .i64 (m : Int)] w fun e w' => ((n + m ≤ s.size ∧ e = .returned (.string (s.extract n (n + m))) ∧ Prt w' g (lf s (n + m))) ∨ (¬ n + m ≤ s.size ∧ e = .panicked lackP)) ∧ PKeep g w w' := by
 have hz := lf_size s n
 by_cases h : n + m ≤ s.size
 ·refine (takeText_yes g (lf s n) m w hp (by omega) (by omega)).mono ?_
  rintro e w' ⟨rfl, rfl⟩
  refine ⟨.inl ⟨h, ?_, ?_⟩, (PKeep.refl g w).set 0 _⟩
  ·unfold lf
   rw [ByteArray.extract_extract]
   congr 3
   omega
  ·rw [lf_lf]
   exact hp.put _
 ·refine (takeText_no g (lf s n) m w hp (by omega) (by omega)).mono ?_
  rintro e w' ⟨rfl, rfl⟩
  exact ⟨.inr ⟨h, rfl⟩, PKeep.refl g w⟩
set_option maxHeartbeats 1000000 in
theorem copyOpV (x : Opx) (w : World) (hk : x.key.size ≤ 1048576) (hd : x.data.size ≤ 1048576) : Calls Tryz.prog 30 #[vOp x] w fun e w' => e = .returned (vOp x) ∧ Below w.heap.size w w' := by
 obtain ⟨k, key, f, t, d⟩ := x
 unfold vOp
 simp only at hk hd ⊢
 have c1 := fun wx => clone key wx (by omega)
 have c2 := fun wx => clone d wx (by omega)
 clear hd hk
 have hb0 := below_c2 w (.cells #[.int .i64 k, .string key, .int .i64 f, .int .i64 t, .string d] 23) (.cells #[.int .i64 0, .string ⟨#[]⟩, .int .i64 0, .int .i64 0, .string ⟨#[]⟩] 23)
 have k0 := (Blk.new w #[.int .i64 k, .string key, .int .i64 f, .int .i64 t, .string d] 23).alloc (.cells #[.int .i64 0, .string ⟨#[]⟩, .int .i64 0, .int .i64 0, .string ⟨#[]⟩] 23)
 have k1 := Blk.new (w.alloc (.cells #[.int .i64 k, .string key, .int .i64 f, .int .i64 t, .string d] 23)) #[.int .i64 0, .string ⟨#[]⟩, .int .i64 0, .int .i64 0, .string ⟨#[]⟩] 23
 rw [World.size_alloc] at k1
 go_enter Tryz.func30, Tryz.ntmps30
 go_wp2_with fail
 generalize (w.alloc (.cells #[.int .i64 k, .string key, .int .i64 f, .int .i64 t, .string d] 23)).alloc (.cells #[.int .i64 0, .string ⟨#[]⟩, .int .i64 0, .int .i64 0, .string ⟨#[]⟩] 23) = X at *
 refine (c1 _).mono ?_
 rintro e w1 ⟨rfl, hb1⟩
 have m0 := k0.on hb1 k0.lt
 have m1 := k1.on hb1 k1.lt
 have B1 : Hid (Below w.heap.size w (w1.setCell ⟨w.heap.size, 1, none⟩ (.string key))) := (hb0.trans (hb1.mono hb0.size)).setCell (Nat.le_refl _) _
 have n0 : Hid (Blk (w1.setCell ⟨w.heap.size, 1, none⟩ (.string key)) w.heap.size #[.int .i64 k, .string key, .int .i64 f, .int .i64 t, .string d] 23) := m0.set 1 (.string key)
 have n1 : Hid (Blk (w1.setCell ⟨w.heap.size, 1, none⟩ (.string key)) (w.heap.size + 1) #[.int .i64 0, .string ⟨#[]⟩, .int .i64 0, .int .i64 0, .string ⟨#[]⟩] 23) := m1.other (by omega) 1 _
 have f3 := m0.free 1
 have e3 : w1.cell? ⟨w.heap.size, 1, none⟩ = some (.string key) := m0.cell 1 _ rfl
 have e4 : (w1.setCell ⟨w.heap.size, 1, none⟩ (.string key)).cell? ⟨w.heap.size, 4, none⟩ = some (.string d) := n0.out.cell 4 _ rfl
 clear hb0 hb1 c1 k0 k1 m0 m1
 go_wp2_with fail
 generalize w1.setCell ⟨w.heap.size, 1, none⟩ (.string key) = Y at *
 clear e3 f3 e4
 refine (c2 _).mono ?_
 rintro e w2 ⟨rfl, hb1⟩
 have m0 := n0.out.on hb1 n0.out.lt
 have m1 := n1.out.on hb1 n1.out.lt
 have B2 : Hid (Below w.heap.size w (w2.setCell ⟨w.heap.size, 4, none⟩ (.string d))) := (B1.out.trans (hb1.mono B1.out.size)).setCell (Nat.le_refl _) _
 have o0 : Hid (Blk (w2.setCell ⟨w.heap.size, 4, none⟩ (.string d)) w.heap.size #[.int .i64 k, .string key, .int .i64 f, .int .i64 t, .string d] 23) := m0.set 4 (.string d)
 have o1 : Hid (Blk (w2.setCell ⟨w.heap.size, 4, none⟩ (.string d)) (w.heap.size + 1) #[.int .i64 0, .string ⟨#[]⟩, .int .i64 0, .int .i64 0, .string ⟨#[]⟩] 23) := m1.other (by omega) 4 _
 have f3 := m0.free 4
 have e3 : w2.cell? ⟨w.heap.size, 4, none⟩ = some (.string d) := m0.cell 4 _ rfl
 clear hb1 c2 n0 n1 m0 m1 B1
 obtain ⟨Q, hQ⟩ : ∃ Q, Q = w2.setCell ⟨w.heap.size, 4, none⟩ (.string d) := ⟨_, rfl⟩
 rw [← hQ] at B2 o0 o1
 obtain ⟨c0, c1, c2, c3, c4⟩ := cellsC5 o0.out
 obtain ⟨⟨r0, s0⟩, ⟨r1, s1⟩, ⟨r2, s2⟩, ⟨r3, s3⟩, ⟨r4, s4⟩, z0, z1, z2, z3, z4⟩ := resC5 (x0 := .int .i64 k) (x1 := .string key) (x2 := .int .i64 f) (x3 := .int .i64 t) (x4 := .string d) o1.out
 have B3 := Hid.mk (belowC5 B2.out (show w.heap.size ≤ w.heap.size + 1 by omega) (.int .i64 k) (.string key) (.int .i64 f) (.int .i64 t) (.string d))
 rw [hQ] at c0 c1 c2 c3 c4 r0 r1 r2 r3 r4 s0 s1 s2 s3 s4 z0 z1 z2 z3 z4 B3
 clear hQ o0 o1 B2
 go_wp2_with fail
 exact bodyPost_ret (v := .agg #[.int .i64 k, .string key, .int .i64 f, .int .i64 t, .string d]) (by simp [results, go_sem, z0, z1, z2, z3, z4]) rfl ⟨rfl, B3.out⟩
set_option maxHeartbeats 4000000 in
theorem takeOp (g : Nat) (s : ByteArray) (w : World) (hp : Prt w g s) (hs : s.size ≤ 1048576) (w0 : World) (hst : SumTab w0) (a0 a1 a2 : Addr) (he : Errs w0 a0 a1 a2) (hw0 : Below w0.heap.size w0 w) (hg0 : w0.heap.size ≤ g) :
  Calls Tryz.prog 20 #[.pointer (some ⟨g, 0, none⟩)] w fun e w' => ((∃ x, OpRd s x ∧ e = .returned (vOp x)) ∨ ((∀ x, ¬ OpRd s x) ∧ e = .panicked lackP)) ∧ PKeep g w w' := by
 have HS : Hid (s.size ≤ 1048576) := hs
 have HG : Hid (g < w.heap.size) := hp.lt
 have B0 : Hid (Blk (w.alloc (.cells #[.int .i64 0, .string ⟨#[]⟩, .int .i64 0, .int .i64 0, .string ⟨#[]⟩] 23)) w.heap.size #[.int .i64 0, .string ⟨#[]⟩, .int .i64 0, .int .i64 0, .string ⟨#[]⟩] 23) := Blk.new _ _ _
 have K0 : Hid (PKeep g w (w.alloc (.cells #[.int .i64 0, .string ⟨#[]⟩, .int .i64 0, .int .i64 0, .string ⟨#[]⟩] 23))) := (PKeep.refl g w).alloc hp.lt _
 have P0 : Hid (Prt (w.alloc (.cells #[.int .i64 0, .string ⟨#[]⟩, .int .i64 0, .int .i64 0, .string ⟨#[]⟩] 23)) g s) := hp.alloc _
 have HD : Hid (∀ wx, PKeep g w wx → SumTab wx ∧ Errs wx a0 a1 a2) := fun wx hk => by
  have hb : Below w0.heap.size w0 wx := hw0.trans (hk.1.mono hg0)
  exact ⟨hst.on hb, he.on hb⟩
 clear hp hs hst he hw0 hg0
 go_enter Tryz.func20, Tryz.ntmps20
 go_wp2_with fail
 generalize w.alloc (.cells #[.int .i64 0, .string ⟨#[]⟩, .int .i64 0, .int .i64 0, .string ⟨#[]⟩] 23) = W at *
 refine (takeByteF g s _ P0.out HS.out).mono ?_
 rintro e w1 ⟨hR, hk⟩
 have K1 : Hid (PKeep g w w1) := K0.out.trans hk
 have B1 := Hid.mk (hk.blk B0.out (by have := HG.out; omega))
 clear hk B0
 rcases hR with ⟨h1, rfl, hp⟩ | ⟨hno, rfl⟩
 rotate_left
 ·have HN : Hid (∀ x, ¬ OpRd s x) := by
   rintro x ⟨k, n1, f, t, m, h0, h1, h2, h3, h4, h5⟩
   exact hno h0
  clear hno
  go_wp2_with fail
  exact ⟨rfl, .inr ⟨HN.out, rfl⟩, K1.out⟩
 have H1 : Hid (1 ≤ s.size) := h1
 have P1 : Hid (Prt w1 g (lf s 1)) := hp
 clear h1 hp P0 K0
 have R1 : Hid (RdF s 1 0 [] 1) := ⟨rfl, rfl⟩
 have HKB : Hid ((bn s 0 : Int) = (bn s 0 : Int)) := rfl
 generalize hkn : (bn s 0 : Int) = kn at HKB
 have HKN : Hid ((bn s 0 : Int) = kn) := hkn
 clear HKB hkn
 go_wp2_with fail
 refine (takeVarF g s 1 _ P1.out HS.out).mono ?_
 rintro e w2 ⟨hR, hk⟩
 have K2 : Hid (PKeep g w w2) := K1.out.trans hk
 have B2 := Hid.mk (hk.blk B1.out (by have := HG.out; omega))
 clear hk B1
 rcases hR with ⟨k1, hf, rfl, hp⟩ | ⟨hno, rfl⟩
 rotate_left
 ·have HN : Hid (∀ x, ¬ OpRd s x) := by
   rintro x ⟨k, n1, f, t, m, h0, h1, h2, h3, h4, h5⟩
   exact R1.out.no (by omega) hno _ _ h1
  clear hno
  go_wp2_with fail
  exact ⟨rfl, .inr ⟨HN.out, rfl⟩, K2.out⟩
 have P2 : Hid (Prt w2 g (lf s (1 + k1))) := hp
 have R2 := Hid.mk (R1.out.snoc hf)
 have hv := vvS_le (lf s 1) k1 hf.2.1 0
 have L2 : Hid (1 + k1 ≤ s.size) := by have := hf.2.2.1; unfold Hid; rw [lf_size] at this; have := H1.out; omega
 generalize 1 + k1 = n1 at P2 R2 L2
 generalize vvS (lf s 1) 0 k1 = kl at *
 clear hf hp P1 K1
 go_wp2_with fail
 refine (takeTextF g s n1 kl _ P2.out L2.out HS.out).mono ?_
 rintro e w3 ⟨hR, hk⟩
 have K3 : Hid (PKeep g w w3) := K2.out.trans hk
 have B3 := Hid.mk (hk.blk B2.out (by have := HG.out; omega))
 clear hk B2
 rcases hR with ⟨h3, rfl, hp⟩ | ⟨hno, rfl⟩
 rotate_left
 ·have HN : Hid (∀ x, ¬ OpRd s x) := by
   rintro x ⟨k, n1, f, t, m, h0, h1, h2, h3, h4, h5⟩
   obtain ⟨e, rfl⟩ := h1.one R2.out
   simp only [List.nil_append, List.cons.injEq, and_true] at e
   obtain rfl : k = kl := by omega
   exact hno h2
  clear hno
  go_wp2_with fail
  exact ⟨rfl, .inr ⟨HN.out, rfl⟩, K3.out⟩
 have H3 : Hid (n1 + kl ≤ s.size) := h3
 have P3 : Hid (Prt w3 g (lf s (n1 + kl))) := hp
 have R3 : Hid (RdF s (n1 + kl) 0 [] (n1 + kl)) := ⟨rfl, rfl⟩
 have HKZ : Hid ((s.extract n1 (n1 + kl)).size ≤ 1048576) := by unfold Hid; rw [ByteArray.size_extract]; have := HS.out; omega
 generalize hky : s.extract n1 (n1 + kl) = ky at HKZ
 have HKY : Hid (s.extract n1 (n1 + kl) = ky) := hky
 clear hp h3 P2 K2 hv hky
 go_wp2_with fail
 refine (takeVarF g s (n1 + kl) _ P3.out HS.out).mono ?_
 rintro e w4 ⟨hR, hk⟩
 have K4 : Hid (PKeep g w w4) := K3.out.trans hk
 have B4 := Hid.mk (hk.blk B3.out (by have := HG.out; omega))
 clear hk B3
 rcases hR with ⟨k3, hf, rfl, hp⟩ | ⟨hno, rfl⟩
 rotate_left
 ·have HN : Hid (∀ x, ¬ OpRd s x) := by
   rintro x ⟨k, n1, f, t, m, h0, h1, h2, h3, h4, h5⟩
   obtain ⟨e, rfl⟩ := h1.one R2.out
   simp only [List.nil_append, List.cons.injEq, and_true] at e
   obtain rfl : k = kl := by omega
   exact R3.out.no (by omega) hno _ _ h3
  clear hno
  go_wp2_with fail
  exact ⟨rfl, .inr ⟨HN.out, rfl⟩, K4.out⟩
 have P4 : Hid (Prt w4 g (lf s (n1 + kl + k3))) := hp
 have R4 := Hid.mk (R3.out.snoc hf)
 generalize n1 + kl + k3 = n4 at P4 R4
 generalize (vvS (lf s (n1 + kl)) 0 k3 : Int) = z1 at *
 clear hf hp P3 K3
 go_wp2_with fail
 refine (takeVarF g s n4 _ P4.out HS.out).mono ?_
 rintro e w5 ⟨hR, hk⟩
 have K5 : Hid (PKeep g w w5) := K4.out.trans hk
 have B5 := Hid.mk (hk.blk B4.out (by have := HG.out; omega))
 clear hk B4
 rcases hR with ⟨k4, hf, rfl, hp⟩ | ⟨hno, rfl⟩
 rotate_left
 ·have HN : Hid (∀ x, ¬ OpRd s x) := by
   rintro x ⟨k, n1, f, t, m, h0, h1, h2, h3, h4, h5⟩
   obtain ⟨e, rfl⟩ := h1.one R2.out
   simp only [List.nil_append, List.cons.injEq, and_true] at e
   obtain rfl : k = kl := by omega
   exact R4.out.no (by omega) hno _ _ h3
  clear hno
  go_wp2_with fail
  exact ⟨rfl, .inr ⟨HN.out, rfl⟩, K5.out⟩
 have P5 : Hid (Prt w5 g (lf s (n4 + k4))) := hp
 have R5 := Hid.mk (R4.out.snoc hf)
 generalize n4 + k4 = n5 at P5 R5
 generalize (vvS (lf s n4) 0 k4 : Int) = z2 at *
 clear hf hp P4 K4
 go_wp2_with fail
 refine (takeRestF g s n5 _ P5.out HS.out).mono ?_
 rintro e w6 ⟨rfl, hk⟩
 have K6 : Hid (PKeep g w w6) := K5.out.trans hk
 have B6 := Hid.mk (hk.blk B5.out (by have := HG.out; omega))
 clear hk B5
 have HL : Hid ((lf s n5).size ≤ 1048576) := by unfold Hid; rw [lf_size]; have := HS.out; omega
 generalize hd : lf s n5 = d at HL
 have HE : Hid (lf s n5 = d) := hd
 clear K5 P5 hd
 have R2' : Hid (RdF s 1 1 [(kl : Int)] n1) := R2.out
 have R5' : Hid (RdF s (n1 + kl) 2 [z1, z2] n5) := R5.out
 have HX1 : Hid (opOk ⟨kn, ky, z1, z2, d⟩ = true → OpRd s ⟨kn, ky, z1, z2, d⟩) := fun h => ⟨kl, n1, z1, z2, n5, H1.out, R2'.out, H3.out, R5'.out, by rw [HKN.out, HKY.out, HE.out], h⟩
 have HX2 : Hid (opOk ⟨kn, ky, z1, z2, d⟩ = false → ∀ x, ¬ OpRd s x) := by
  rintro h x ⟨k, n1', f, t, m, h0, h1, h2, h3, rfl, h5⟩
  obtain ⟨e, rfl⟩ := h1.one R2'.out
  simp only [List.cons.injEq, and_true] at e
  obtain rfl : k = kl := by omega
  obtain ⟨e, rfl⟩ := h3.one R5'.out
  simp only [List.cons.injEq, and_true] at e
  obtain ⟨rfl, rfl⟩ := e
  rw [HKN.out, HKY.out, HE.out, h] at h5
  cases h5
 clear R1 R2 R3 R4 R5 R2' R5'
 obtain ⟨c0, c1, c2, c3, c4⟩ := cellsC5 (Blk.new w6 #[.int .i64 kn, .string ky, .int .i64 z1, .int .i64 z2, .string d] 23)
 have K7 : Hid (PKeep g w (w6.alloc (.cells #[.int .i64 kn, .string ky, .int .i64 z1, .int .i64 z2, .string d] 23))) := K6.out.alloc HG.out _
 have B7 := Hid.mk (B6.out.alloc (.cells #[.int .i64 kn, .string ky, .int .i64 z1, .int .i64 z2, .string d] 23))
 have A7 := Hid.mk (Blk.new w6 #[.int .i64 kn, .string ky, .int .i64 z1, .int .i64 z2, .string d] 23)
 clear K6 B6
 go_wp2_with fail
 generalize w6.alloc (.cells #[.int .i64 kn, .string ky, .int .i64 z1, .int .i64 z2, .string d] 23) = V at *
 refine (implOpOk ⟨kn, ky, z1, z2, d⟩ _ (by have := HKZ.out; simp only [maxLen]; omega) HL.out (HD.out _ K7.out).1 a0 a1 a2 (HD.out _ K7.out).2).mono ?_
 rintro e w7 ⟨rfl, hb⟩
 have K8 : Hid (PKeep g w w7) := K7.out.below HG.out hb
 have B8 := Hid.mk (B7.out.on hb B7.out.lt)
 have A8 := Hid.mk (A7.out.on hb A7.out.lt)
 clear hb c0 c1 c2 c3 c4 K7 B7 A7 HD
 cases ho : opOk ⟨kn, ky, z1, z2, d⟩
 ·have HN : Hid (∀ x, ¬ OpRd s x) := HX2.out ho
  clear ho
  go_wp2_with fail
  refine (need_no _).mono ?_
  rintro e w8 ⟨rfl, rfl⟩
  go_wp2_with fail
  exact ⟨rfl, .inr ⟨HN.out, rfl⟩, K8.out⟩
 have HX : Hid (OpRd s ⟨kn, ky, z1, z2, d⟩) := HX1.out ho
 clear ho HX1 HX2
 go_wp2_with fail
 refine (need_yes _).mono ?_
 rintro e w8 ⟨rfl, rfl⟩
 obtain ⟨c0, c1, c2, c3, c4⟩ := cellsC5 A8.out
 go_wp2_with fail
 refine (copyOpV ⟨kn, ky, z1, z2, d⟩ _ HKZ.out HL.out).mono ?_
 rintro e w8 ⟨rfl, hb⟩
 have K9 : Hid (PKeep g w w8) := K8.out.below HG.out hb
 have B9 := Hid.mk (B8.out.on hb B8.out.lt)
 clear hb c0 c1 c2 c3 c4 K8 B8 A8
 unfold vOp
 obtain ⟨⟨r0, s0⟩, ⟨r1, s1⟩, ⟨r2, s2⟩, ⟨r3, s3⟩, ⟨r4, s4⟩, y0, y1, y2, y3, y4⟩ := resC5 (x0 := .int .i64 kn) (x1 := .string ky) (x2 := .int .i64 z1) (x3 := .int .i64 z2) (x4 := .string d) B9.out
 go_wp2_with fail
 have hgs := Nat.le_of_lt HG.out
 exact bodyPost_ret (v := .agg #[.int .i64 kn, .string ky, .int .i64 z1, .int .i64 z2, .string d]) (by simp [results, go_sem, y0, y1, y2, y3, y4]) rfl ⟨.inl ⟨_, HX.out, rfl⟩, ((((K9.out.setNew (Nat.le_refl _) hgs _ _).setNew (Nat.le_refl _) hgs _ _).setNew (Nat.le_refl _) hgs _ _).setNew (Nat.le_refl _) hgs _ _).setNew (Nat.le_refl _) hgs _ _⟩
end Go.Proofs.YtgbepickfhbknaaGreatDoor
namespace Go.Proofs.YtgbepickfhbknaaGreatDoor
open Go.ChangeShapes Go.WideShapes Go.ChangeAt Go.RowKit Go.PlainAid
set_option linter.unusedVariables false
set_option maxRecDepth 20000 in
set_option maxHeartbeats 4000000 in
theorem specReadBlock (s : ByteArray) (w : World) (hs : s.size ≤ 1048576) : Calls Tryz.prog 23 #[.string s] w fun e w' => (∃ u l ok, RbAns s l ok ∧ e = .returned (.tuple #[u, .bool ok]) ∧ Owns w' w.heap.size 63 2 u (ptR l)) ∧ Below w.heap.size w w' := by
 obtain ⟨k0, c0, hu, hk0⟩ := unf_body s
 have HK0 : Hid ((code s = 0 ∧ k0 = 8 + rdv s 4) ∨ (code s ≠ 0 ∧ k0 = 0 ∧ bodyR s = ⟨#[]⟩)) := hk0
 have cU := fun wx => spec_unframe s wx hs
 rw [hu] at cU
 have hbz := bodyR_size s
 have qs : (s.size : Int) ≤ 1048576 := by omega
 have q0 : (k0 : Int) ≤ 3000 := by
  rcases hk0 with ⟨h1, h2⟩ | ⟨_, h2, _⟩
  ·have := ((code_zero s).1 h1).2.2.1; omega
  ·omega
 have E0 : Hid (Owns (w.alloc (.cells #[] 63)) w.heap.size 63 2 (.slice (some ⟨w.heap.size, 0, none⟩) 0 0) (ptR [])) := Owns.empty w _ _ _ (Nat.le_refl _)
 have B0 : Hid (Below w.heap.size w (w.alloc (.cells #[] 63))) := (Below.refl _ _).alloc (Nat.le_refl _) _
 clear hu hk0
 go_enter Tryz.func23, Tryz.ntmps23
 go_wp2_with fail
 generalize w.alloc (.cells #[] 63) = w0 at *
 refine (cU w0).mono ?_
 rintro e w1 ⟨rfl, hb⟩
 have B1 : Hid (Below w.heap.size w w1) := B0.out.trans (hb.mono B0.out.size)
 have E1 : Hid (Owns w1 w.heap.size 63 2 (.slice (some ⟨w.heap.size, 0, none⟩) 0 0) (ptR [])) := E0.out.on hb
 clear hb cU
 have cV := spec_readVar (bodyR s) w1 (by omega)
 go_wp2_with fail
 refine cV.mono ?_
 rintro e w2 ⟨hRV, hb⟩
 obtain ⟨n, k, hRd, rfl⟩ := hRV.rd
 have hle := hRd.le
 have HR : Hid (RdV (bodyR s) n k) := hRd
 have B2 : Hid (Below w.heap.size w w2) := B1.out.trans (hb.mono B1.out.size)
 have E2 : Hid (Owns w2 w.heap.size 63 2 (.slice (some ⟨w.heap.size, 0, none⟩) 0 0) (ptR [])) := E1.out.on hb
 have qk : (k : Int) ≤ 7 := by omega
 have qb : ((bodyR s).size : Int) ≤ 2000 := by omega
 have qkb : (k : Int) ≤ ((bodyR s).size : Int) := by omega
 have hkb : k ≤ (bodyR s).size := hle.1
 have HKG : Hid (∀ m, Good s m → k ≠ 0 ∧ k0 = s.size) := fun m hm => by
  have h1 := (HR.out.one hm.steps.rn).2
  have h2 := vF_pos 6 m.length
  obtain ⟨r1, r2, _⟩ := hm.read
  rcases HK0.out with ⟨_, h3⟩ | ⟨h3, _⟩
  ·exact ⟨by omega, by omega⟩
  ·exact absurd r1 h3
 clear hRd hRV cV hle hb
 by_cases hk1 : k = 0
 ·have HNO : Hid (∀ m, ¬ Good s m) := fun m hm => (HKG.out m hm).1 hk1
  subst hk1
  go_wp2_with fail
  go_ret2
  exact ⟨⟨_, [], false, .inr ⟨rfl, rfl, HNO.out⟩, rfl, E2.out⟩, B2.out⟩
 have d0 : decide (k = 0) = false := decide_eq_false hk1
 have d1 : ((k : Int) == 0) = false := by rw [beq_eq_false_iff_ne]; omega
 by_cases hk2 : k0 ≠ s.size
 ·have HNO : Hid (∀ m, ¬ Good s m) := fun m hm => hk2 (HKG.out m hm).2
  have d2 : ((k0 : Int) == (s.size : Int)) = false := by rw [beq_eq_false_iff_ne]; omega
  have d3 : ¬ k0 = s.size := hk2
  go_wp2_with fail
  go_ret2
  exact ⟨⟨_, [], false, .inr ⟨rfl, rfl, HNO.out⟩, rfl, E2.out⟩, B2.out⟩
 have hk2' : k0 = s.size := Decidable.not_not.1 hk2
 have HK2 : Hid (k0 = s.size) := hk2'
 have d2 : ((k0 : Int) == (s.size : Int)) = true := beq_iff_eq.2 (by omega)
 clear hk2
 have cT := specReadTimesA ((bodyR s).extract k (bodyR s).size) n w2 (by rw [ByteArray.size_extract]; omega)
 subst hk2'
 go_wp2_with fail
 refine cT.mono ?_
 rintro e w3 ⟨⟨t, a, ut, hAT, rfl, hNT⟩, hb⟩
 have HAT : Hid (RdAns showT rowT ((bodyR s).extract k (bodyR s).size) n t a) := hAT
 have hsh := hAT.short rowT_length
 have LT : Hid (t.length ≤ 60) := hsh.1
 have hak : k + a ≤ (bodyR s).size := by have h2 := hsh.2; rw [ByteArray.size_extract] at h2; omega
 have B3 : Hid (Below w.heap.size w w3) := B2.out.trans (hb.mono B2.out.size)
 have E3 : Hid (Owns w3 w.heap.size 63 2 (.slice (some ⟨w.heap.size, 0, none⟩) 0 0) (ptR [])) := E2.out.on hb
 have NT : Hid (Nums w3 w2.heap.size ut t) := hNT
 have qa : (k : Int) + (a : Int) ≤ ((bodyR s).size : Int) := by omega
 have qa1 : (a : Int) ≤ 2000 := by omega
 have ena : ((k : Int) + (a : Int)).toNat = k + a := by omega
 have HAG : Hid (∀ m, Good s m → a ≠ 0) := fun m hm => by
  have hst := hm.steps
  obtain ⟨e1, e2⟩ := HR.out.one hst.rn
  subst e1
  subst e2
  have h1 := (HAT.out.one hst.rt).2
  have h2 := cat_pos (tPiece (ts m)) m.length hm.1 (vF_pos _ _)
  omega
 clear hAT hNT hb cT hsh
 by_cases ha : a = 0
 ·have HNO : Hid (∀ m, ¬ Good s m) := fun m hm => HAG.out m hm ha
  subst ha
  go_wp2_with fail
  go_ret2
  exact ⟨⟨_, [], false, .inr ⟨rfl, rfl, HNO.out⟩, rfl, E3.out⟩, B3.out⟩
 have d4 : decide (a = 0) = false := decide_eq_false ha
 have d5 : ((a : Int) == 0) = false := by rw [beq_eq_false_iff_ne]; omega
 have cW := specReadValuesA ((bodyR s).extract (k + a) (bodyR s).size) n w3 (by rw [ByteArray.size_extract]; omega)
 go_wp2_with fail
 refine cW.mono ?_
 rintro e w4 ⟨⟨v, b, uv, hAV, rfl, hNV⟩, hb⟩
 have HST : Hid (Steps s n k t a v b) := ⟨HR.out, HAT.out, hAV⟩
 have hsv := hAV.short rowV_length
 have LV : Hid (v.length ≤ 60) := hsv.1
 have hbk : k + a + b ≤ (bodyR s).size := by have h2 := hsv.2; rw [ByteArray.size_extract] at h2; omega
 have B4 : Hid (Below w.heap.size w w4) := B3.out.trans (hb.mono B3.out.size)
 have E4 : Hid (Owns w4 w.heap.size 63 2 (.slice (some ⟨w.heap.size, 0, none⟩) 0 0) (ptR [])) := E3.out.on hb
 have NT4 : Hid (Nums w4 w2.heap.size ut t) := NT.out.on hb
 have NV4 : Hid (Nums w4 w3.heap.size uv v) := hNV
 have qb1 : (b : Int) ≤ 2000 := by omega
 have qab : (k : Int) + (a : Int) + (b : Int) ≤ ((bodyR s).size : Int) := by omega
 clear hAV hNV hb cW NT hsv
 by_cases hb0 : b = 0
 ·have HNO : Hid (∀ m, ¬ Good s m) := fun m hm => by have := (HST.out.good hm).2.2.2.2.2.2.1; omega
  subst hb0
  go_wp2_with fail
  go_ret2
  exact ⟨⟨_, [], false, .inr ⟨rfl, rfl, HNO.out⟩, rfl, E4.out⟩, B4.out⟩
 have d6 : decide (b = 0) = false := decide_eq_false hb0
 have d7 : ((b : Int) == 0) = false := by rw [beq_eq_false_iff_ne]; omega
 by_cases hlen : k + a + b ≠ (bodyR s).size
 ·have HNO : Hid (∀ m, ¬ Good s m) := fun m hm => hlen (HST.out.good hm).2.2.2.2.2.2.2
  have d8 : ((k : Int) + (a : Int) + (b : Int) == ((bodyR s).size : Int)) = false := by rw [beq_eq_false_iff_ne]; omega
  have d9 : ¬ (k : Int) + (a : Int) + (b : Int) = ((bodyR s).size : Int) := by omega
  go_wp2_with fail
  go_ret2
  exact ⟨⟨_, [], false, .inr ⟨rfl, rfl, HNO.out⟩, rfl, E4.out⟩, B4.out⟩
 have hlen' : k + a + b = (bodyR s).size := Decidable.not_not.1 hlen
 have d8 : ((k : Int) + (a : Int) + (b : Int) == ((bodyR s).size : Int)) = true := beq_iff_eq.2 (by omega)
 have d10 : ((k : Int) + (a : Int) + (b : Int) != ((bodyR s).size : Int)) = false := by rw [bne, d8]; rfl
 have hc : code s = 0 := by
  rcases HK0.out with ⟨h1, _⟩ | ⟨_, _, h3⟩
  ·exact h1
  ·rw [h3] at hkb
   have : (ByteArray.mk #[]).size = 0 := rfl
   omega
 have h8 : 8 + rdv s 4 = s.size := by
  rcases HK0.out with ⟨_, h1⟩ | ⟨h1, _⟩
  ·omega
  ·exact absurd hc h1
 obtain ⟨hg, htv, hn⟩ := HST.out.back hc h8 hk1 ha hb0 hlen'
 have HG : Hid (Good s (zipP t v)) := hg
 have HZL : Hid ((zipP t v).length = t.length) := by unfold Hid; rw [zipP_length]; omega
 have HZG : Hid (∀ k, k < t.length → k < v.length → (zipP t v).take (k + 1) = (zipP t v).take k ++ [⟨t.getD k 0, v.getD k 0⟩]) := zipP_get t v
 subst hn
 obtain ⟨At, ct, rfl, _, _, h1⟩ := NT4.out.lies
 obtain ⟨Av, cv, rfl, _, _, h2⟩ := NV4.out.lies
 have HT : Hid (∀ j, j < t.length → ∃ g off, At = some ⟨g, off, none⟩ ∧ g < w4.heap.size ∧ w4.cell? ⟨g, off + j, none⟩ = some (.int .i64 (t.getD j 0))) := h1
 have HV : Hid (∀ j, j < v.length → ∃ g off, Av = some ⟨g, off, none⟩ ∧ g < w4.heap.size ∧ w4.cell? ⟨g, off + j, none⟩ = some (.int .i64 (v.getD j 0))) := h2
 have q9 : (t.length : Int) ≤ 60 := by have := LT.out; omega
 clear h1 h2 hlen hg HAG HKG HK0 HK2 hbk
 generalize hm : v.length = m at *
 generalize hn : t.length = N at *
 subst htv
 clear hm hn
 go_wp2_with fail
 go_loopw [14, 15] (fun v14 v15 wr => ∃ k : Nat, k ≤ N ∧ v15 = .int .i64 (k : Int) ∧ Owns wr w4.heap.size 63 2 v14 (ptR ((zipP t v).take k)) ∧ Below w4.heap.size w4 wr) (fun _ i _ => N - (intOf i).toNat)
 case atStart => exact ⟨0, by omega, rfl, by rw [List.take_zero]; exact Owns.empty w4 _ _ _ (Nat.le_refl _), (Below.refl _ _).alloc (Nat.le_refl _) _⟩
 case round =>
  clear hlen' d8 ena hc h8 hak hkb d0 d1 d2 d4 d5 d6 d7 hk1 ha hb0 qab qa qkb
  obtain ⟨k, hk, rfl, hO, hb⟩ := hrel
  have HO : Hid (Owns wr w4.heap.size 63 2 u14 (ptR ((zipP t v).take k))) := hO
  have HB1 : Hid (Below w4.heap.size w4 wr) := hb
  clear hO hb
  by_cases hlt : k < N
  ·have q3 : (k : Int) < (N : Int) := by omega
   obtain ⟨gt, ot, rfl, hgt, hc1⟩ := HT.out k hlt
   obtain ⟨gv, ov, rfl, hgv, hc2⟩ := HV.out k hlt
   have HZ : Hid ((zipP t v).take (k + 1) = (zipP t v).take k ++ [⟨t.getD k 0, v.getD k 0⟩]) := HZG.out k hlt hlt
   rw [← HB1.out.cell (p := ⟨_, _, none⟩) hgt] at hc1
   rw [← HB1.out.cell (p := ⟨_, _, none⟩) hgv] at hc2
   generalize t.getD k 0 = x at *
   generalize v.getD k 0 = y at *
   have hz : w4.heap.size ≤ wr.drew.heap.size := HB1.out.size
   obtain ⟨nA, nm, nc, w5, r5, hO5, hb5, hk5, _⟩ := run_append_row (P := Tryz.prog) wr.drew 54 54 63 (.agg #[.int .i64 0, .int .i64 0]) 2 16 Tryz.underlying54 Tryz.infoPt rfl (by omega) w4.heap.size u14 (ptR ((zipP t v).take k)) (HO.out.kept fun _ _ _ => rfl) [.int .i64 x, .int .i64 y] rfl (pt_cells x y) (by rw [ptR_length, List.length_take]; omega) (by omega) hz
   have B5 : Hid (Below w4.heap.size w4 w5) := (HB1.out.drew).trans hb5
   have O5 : Hid (Owns w5 w4.heap.size 63 2 (.slice nA nm nc) (ptR ((zipP t v).take (k + 1)))) := by unfold Hid; rw [HZ.out, ptR_snoc']; exact hO5
   have S0 : Hid (wr.drew.cell? ⟨gt, ot + k, none⟩ = some (.int .i64 x) ∧ wr.drew.cell? ⟨gv, ov + k, none⟩ = some (.int .i64 y)) := ⟨hc1, hc2⟩
   clear hc1 hc2 hO5 hb5 hk5
   clear hgt hgv
   go_wp2_with fail
   refine wp_region_until (fun w' => w'.cell? ⟨gt, ot + k, none⟩ = some (.int .i64 x) ∧ w'.cell? ⟨gv, ov + k, none⟩ = some (.int .i64 y)) (fun i => i == 11 || i == 12) 13 (by rfl) (by kernel_rfl) ?_
   refine until_take 0 (v := ?_) (by rfl) (by kernel_rfl) (by exact fun _ _ _ h => h) (by rfl) ?_ S0.out ?_
   rotate_left
   ·intro w hSw
    try dsimp only at hSw
    go_simp
    try with_reducible rfl
   try simp only [Act.put, setIfInBounds_toArray, set_cons_zero, set_cons_succ]
   refine until_take 1 (v := ?_) (by rfl) (by kernel_rfl) (by exact fun _ _ _ h => h) (by rfl) ?_ S0.out ?_
   rotate_left
   ·intro w hSw
    try dsimp only at hSw
    go_simp
    try with_reducible rfl
   try simp only [Act.put, setIfInBounds_toArray, set_cons_zero, set_cons_succ]
   refine until_take 2 (v := ?_) (by rfl) (by kernel_rfl) (by exact fun _ _ _ h => h) (by rfl) ?_ S0.out ?_
   rotate_left
   ·intro w hSw
    try dsimp only at hSw
    go_simp
    try with_reducible rfl
   try simp only [Act.put, setIfInBounds_toArray, set_cons_zero, set_cons_succ]
   refine until_take 3 (v := ?_) (by rfl) (by kernel_rfl) (by exact fun _ _ _ h => h) (by rfl) ?_ S0.out ?_
   rotate_left
   ·intro w hSw
    try dsimp only at hSw
    go_simp
    try with_reducible rfl
   try simp only [Act.put, setIfInBounds_toArray, set_cons_zero, set_cons_succ]
   refine until_take 4 (v := ?_) (by rfl) (by kernel_rfl) (by exact fun _ _ _ h => h) (by rfl) ?_ S0.out ?_
   rotate_left
   ·intro w hSw
    try dsimp only at hSw
    go_simp
    try with_reducible rfl
   try simp only [Act.put, setIfInBounds_toArray, set_cons_zero, set_cons_succ]
   refine until_take 5 (v := ?_) (by rfl) (by kernel_rfl) (by exact fun _ _ _ h => h) (by rfl) ?_ S0.out ?_
   rotate_left
   ·intro w hSw
    try dsimp only at hSw
    go_simp
    try with_reducible rfl
   try simp only [Act.put, setIfInBounds_toArray, set_cons_zero, set_cons_succ]
   refine until_take 6 (v := ?_) (by rfl) (by kernel_rfl) (by exact fun _ _ _ h => h) (by rfl) ?_ S0.out ?_
   rotate_left
   ·intro w hSw
    try dsimp only at hSw
    go_simp
    try with_reducible rfl
   try simp only [Act.put, setIfInBounds_toArray, set_cons_zero, set_cons_succ]
   refine until_take 7 (v := ?_) (by rfl) (by kernel_rfl) (by exact fun _ _ _ h => h) (by rfl) ?_ S0.out ?_
   rotate_left
   ·intro w hSw
    try dsimp only at hSw
    go_simp
    try with_reducible rfl
   try simp only [Act.put, setIfInBounds_toArray, set_cons_zero, set_cons_succ]
   refine until_take 8 (v := ?_) (by rfl) (by kernel_rfl) (by exact fun _ _ _ h => h) (by rfl) ?_ S0.out ?_
   rotate_left
   ·intro w hSw
    try dsimp only at hSw
    go_simp
    try with_reducible rfl
   try simp only [Act.put, setIfInBounds_toArray, set_cons_zero, set_cons_succ]
   refine until_take 9 (v := ?_) (by rfl) (by kernel_rfl) (by exact fun _ _ _ h => h) (by rfl) ?_ S0.out ?_
   rotate_left
   ·intro w hSw
    try dsimp only at hSw
    go_simp
    try with_reducible rfl
   try simp only [Act.put, setIfInBounds_toArray, set_cons_zero, set_cons_succ]
   refine until_one 10 (by rfl) (by kernel_rfl) (fun K hK => ?_)
   go_simp
   refine hK.out _ _ (fun _ h => ⟨cell_alloc_keep h.1 _, cell_alloc_keep h.2 _⟩) ?_
   clear hK K
   try simp only [Act.put, setIfInBounds_toArray, set_cons_zero, set_cons_succ]
   refine until_one 11 (by rfl) (by kernel_rfl) (fun K hK => ?_)
   refine step_append_run (by rfl) (.tmp 77) (.tmp 87) 54 (by rfl) _ _ _ _ (by rfl) (by rfl) r5 ?_
   refine hK.out _ _ (fun h => by cases h) ?_
   clear hK K
   try simp only [Act.put, setIfInBounds_toArray, set_cons_zero, set_cons_succ]
   refine until_one 12 (by rfl) (by kernel_rfl) (fun K hK => ?_)
   go_simp
   refine hK.out _ _ (fun h => by cases h) ?_
   clear hK K
   try simp only [Act.put, setIfInBounds_toArray, set_cons_zero, set_cons_succ]
   refine until_done (by kernel_rfl) ?_ _
   go_wp2_with fail
   go_roundw
   case rel => exact ⟨k + 1, by omega, by go_num, O5.out, B5.out⟩
   case measure => simp [intOf]; omega
  ·obtain rfl : k = N := by omega
   have hF := HO.out
   rw [List.take_of_length_le (by rw [HZL.out]; exact Nat.le_refl _)] at hF
   have HF : Hid (Owns wr w.heap.size 63 2 u14 (ptR (zipP t v))) := hF.mono B4.out.size
   have BF : Hid (Below w.heap.size w wr) := B4.out.trans (HB1.out.mono B4.out.size)
   clear hF HO
   go_wp2_with fail
   go_ret2
   exact ⟨⟨_, zipP t v, true, .inl ⟨rfl, HG.out⟩, rfl, HF.out⟩, BF.out⟩
end Go.Proofs.YtgbepickfhbknaaGreatDoor
