/- LawShowOp CmOpR CmVars CmOpP LawReadOp -/
import Derived.Test.YtgbepickfhbknaaDoorRows
import Derived.Test.YtgbepickfhbknaaDoorQm1
import Derived.Test.YtgbepickfhbknaaDoorQm7
import Derived.Test.YtgbepickfhbknaaDoorQm10
import Derived.Test.YtgbepickfhbknaaDoorQm8
import Derived.Test.YtgbepickfhbknaaDoorQm2
open List (setIfInBounds_toArray set_cons_zero set_cons_succ)
namespace Go.Proofs.YtgbepickfhbknaaDoor
open Go.ChangeShapes Go.WideShapes Go.ChangeAt Go.RowKit Go.PlainAid
set_option linter.unusedVariables false
set_option maxHeartbeats 1000000 in
theorem law_fnExactShowOp (x : Opx) (v : Value) (w : World) (hv : v = vOp x) (hd : OpFit x) (hi : OpInt x) (hst : SumTab w) (a0 a1 a2 : Addr) (he : Errs w a0 a1 a2) :
  Calls Tryd.prog 3 #[v] w fun e w' => e = .returned (.bool true) ∧ Below w.heap.size w w' := by
 subst hv
 have c1 := fun wx => szOp x 1048576 wx (by omega) (by omega) hd
 have c2 := fun wx => toOp x wx
 unfold vOp at *
 have hb0 := below_a1 w (.cells #[.int .i64 x.kind, .string x.key, .int .i64 x.frm, .int .i64 x.til, .string x.data] 23)
 have k0 := CellO.new w x 23
 have HD : Hid (OpFit x) := hd
 have HI : Hid (OpInt x) := hi
 have HST : Hid (SumTab w) := hst
 have HER : Hid (Errs w a0 a1 a2) := he
 clear hd hi hst he
 go_enter Tryd.func3, Tryd.ntmps3
 go_wp2_with fail
 generalize w.alloc (.cells #[.int .i64 x.kind, .string x.key, .int .i64 x.frm, .int .i64 x.til, .string x.data] 23) = W at *
 refine (c1 _).mono ?_
 rintro e w1 ⟨⟨q, rfl, hq⟩, hb1⟩
 have B1 : Hid (Below w.heap.size w w1) := hb0.trans (hb1.mono hb0.size)
 have K1 : Hid (CellO w1 w.heap.size x) := k0.on hb1 k0.2
 clear hb0 hb1 c1 k0
 rcases hq.out with rfl | ⟨hq0, hq1⟩
 ·go_wp2_with fail
  go_ret
  exact ⟨rfl, B1.out⟩
 have q1 : decide (q < 0) = false := decide_eq_false (by omega)
 have HS : Hid (x.key.size ≤ 1048576 ∧ x.data.size ≤ 1048576) := by unfold Hid; omega
 clear hq1
 obtain ⟨⟨e0, e1, e2, e3, e4⟩, _⟩ := K1.out
 go_wp2_with fail
 refine (c2 _).mono ?_
 rintro e w2 ⟨rfl, hb2⟩
 go_wp2_with fail
 refine (specShowOp x _ HD.out.1 HS.out.2).mono ?_
 rintro e w3 ⟨rfl, hb3⟩
 have B3 : Hid (Below w.heap.size w w3) := B1.out.trans ((hb2.trans (hb3.mono hb2.size)).mono B1.out.size)
 have K3 : Hid (CellO w3 w.heap.size x) := (K1.out.on hb2 K1.out.2).on hb3 (K1.out.on hb2 K1.out.2).2
 clear e0 e1 e2 e3 e4 hb2 hb3
 obtain ⟨⟨e0, e1, e2, e3, e4⟩, _⟩ := K3.out
 go_wp2_with fail
 refine (c2 _).mono ?_
 rintro e w4 ⟨rfl, hb4⟩
 go_wp2_with fail
 refine (implShowOp x _ HD.out.1 HS.out.2 (HST.out.on (B3.out.trans (hb4.mono B3.out.size))) a0 a1 a2 (HER.out.on (B3.out.trans (hb4.mono B3.out.size)))).mono ?_
 rintro e w5 ⟨rfl, hb5⟩
 have B5 : Hid (Below w.heap.size w w5) := B3.out.trans ((hb4.trans (hb5.mono hb4.size)).mono B3.out.size)
 clear hb4 hb5
 generalize opT x = y at *
 go_wp2_with fail
 go_ret
 exact ⟨rfl, B5.out⟩
end Go.Proofs.YtgbepickfhbknaaDoor
namespace Go.Proofs.YtgbepickfhbknaaDoor
open Go.ChangeShapes Go.WideShapes Go.ChangeAt Go.RowKit Go.PlainAid
set_option linter.unusedVariables false
theorem catchOp_panicking (u : TypeId) (pv : Value) (older : List PanicEntry) (w : World) :
  CallsD Tryd.prog 34 #[] (.panicking ({ v := .iface u pv, recovered := false } :: older)) w fun e u' w' =>
   e = .returned (.tuple #[]) ∧ u' = .panicking ({ v := .iface u pv, recovered := true } :: older) ∧ w' = w := by
 refine callsD_of_wpS Tryd.func34 rfl fun c₀ cs hu => ?_
 apply wpS_region
 simp [wpOpsS, go_sem, recoverD, hu, Tryd.ntmps34, bodyPostS, results, Tryd.results34]
theorem catchOp_idle (w : World) :
  CallsD Tryd.prog 34 #[] .returning w fun e u' w' => e = .returned (.tuple #[]) ∧ u' = .returning ∧ w' = w := by
 refine callsD_of_wpS Tryd.func34 rfl fun c₀ cs hu => ?_
 apply wpS_region
 simp [wpOpsS, go_sem, recoverD, hu, Tryd.ntmps34, bodyPostS, results, Tryd.results34]
 cases c₀
 simp_all
set_option maxHeartbeats 2000000 in
theorem partsOp (s : ByteArray) (w : World) (hs : s.size ≤ 1048576) (hst : SumTab w) (a0 a1 a2 : Addr) (he : Errs w a0 a1 a2) :
  Calls Tryd.prog 23 #[.string s, .func (.func 24) #[] #[]] w fun e w' => OpA s e ∧ Below w.heap.size w w' := by
 have hmf : ∀ (fn : Fn) (first cap : Array Value) (w : World), (Instr.makeFunc fn first cap).run Tryd.prog w = .ok (.func fn first cap) w := fun _ _ _ _ => rfl
 have k0 := (Blk.new w #[.int .i64 0, .string ⟨#[]⟩, .int .i64 0, .int .i64 0, .string ⟨#[]⟩] 26).alloc (.cells #[.string s] 61)
 have p0 : Prt ((w.alloc (.cells #[.int .i64 0, .string ⟨#[]⟩, .int .i64 0, .int .i64 0, .string ⟨#[]⟩] 26)).alloc (.cells #[.string s] 61)) (w.heap.size + 1) s := by
  have := heap_alloc_new (w.alloc (.cells #[.int .i64 0, .string ⟨#[]⟩, .int .i64 0, .int .i64 0, .string ⟨#[]⟩] 26)) (.cells #[.string s] 61)
  rw [World.size_alloc] at this
  exact this
 have hb0 := below_c2 w (.cells #[.int .i64 0, .string ⟨#[]⟩, .int .i64 0, .int .i64 0, .string ⟨#[]⟩] 26) (.cells #[.string s] 61)
 go_enter_defers Tryd.func23, Tryd.ntmps23
 go_wp2_with fail
 generalize (w.alloc (.cells #[.int .i64 0, .string ⟨#[]⟩, .int .i64 0, .int .i64 0, .string ⟨#[]⟩] 26)).alloc (.cells #[.string s] 61) = X at *
 refine (takeOp (w.heap.size + 1) s X p0 hs w hst a0 a1 a2 he hb0 (by omega)).mono ?_
 rintro e w1 ⟨hR, hk⟩
 have k1 := hk.blk k0 (by omega)
 have B1 : Hid (Below w.heap.size w w1) := hb0.trans (hk.1.mono (by omega))
 clear hk hb0 p0 k0 hs hst he
 rcases hR with ⟨x, hx, rfl⟩ | ⟨hn, rfl⟩
 ·have HX : Hid (OpRd s x) := hx
  unfold vOp
  clear hx
  obtain ⟨⟨r0, s0⟩, ⟨r1, s1⟩, ⟨r2, s2⟩, ⟨r3, s3⟩, ⟨r4, s4⟩, y0, y1, y2, y3, y4⟩ := resC5 (x0 := .int .i64 x.kind) (x1 := .string x.key) (x2 := .int .i64 x.frm) (x3 := .int .i64 x.til) (x4 := .string x.data) k1
  have B2 : Hid (Below w.heap.size w _) := belowC5 B1.out (Nat.le_refl _) (.int .i64 x.kind) (.string x.key) (.int .i64 x.frm) (.int .i64 x.til) (.string x.data)
  clear k1
  go_wp2_with fail
  refine leaves_cons (f := 34) (args := #[]) (by simp) (by simp [go_sem]) ?_
  refine (catchOp_idle _).mono ?_
  rintro e u' w'' ⟨rfl, rfl, rfl⟩
  refine ⟨.tuple #[.agg #[.int .i64 x.kind, .string x.key, .int .i64 x.frm, .int .i64 x.til, .string x.data], .bool true], ?_, .inl ⟨x, HX.out, rfl⟩, B2.out⟩
  simp [results, Tryd.results23, go_sem, y0, y1, y2, y3, y4]
 ·have HN : Hid (∀ x, ¬ OpRd s x) := hn
  clear hn
  have hz := cellsC5 k1
  obtain ⟨y0, y1, y2, y3, y4⟩ := hz
  clear k1
  go_wp2_with fail
  refine leaves_cons (f := 34) (args := #[]) (by simp) (by simp [go_sem]) ?_
  refine (catchOp_panicking _ _ [] _).mono ?_
  rintro e u' w'' ⟨rfl, rfl, rfl⟩
  refine ⟨.tuple #[.agg #[.int .i64 0, .string ⟨#[]⟩, .int .i64 0, .int .i64 0, .string ⟨#[]⟩], .bool false], ?_, .inr ⟨HN.out, rfl⟩, B1.out⟩
  simp [results, Tryd.results23, go_sem, y0, y1, y2, y3, y4]
set_option maxHeartbeats 1000000 in
theorem implReadOp (s : ByteArray) (w : World) (hs : s.size ≤ 1048576) (hst : SumTab w) (a0 a1 a2 : Addr) (he : Errs w a0 a1 a2) :
  Calls Tryd.prog 11 #[.string s] w fun e w' => OpA s e ∧ Below w.heap.size w w' := by
 have c := fun wx (hb : Below w.heap.size w wx) => partsOp s wx hs (hst.on hb) a0 a1 a2 (he.on hb)
 have k0 := Blk.new w #[.int .i64 0, .string ⟨#[]⟩, .int .i64 0, .int .i64 0, .string ⟨#[]⟩] 26
 have hb0 := (Below.refl w.heap.size w).alloc (Nat.le_refl _) (.cells #[.int .i64 0, .string ⟨#[]⟩, .int .i64 0, .int .i64 0, .string ⟨#[]⟩] 26)
 clear hs hst he
 go_enter Tryd.func11, Tryd.ntmps11
 go_wp2_with fail
 generalize w.alloc (.cells #[.int .i64 0, .string ⟨#[]⟩, .int .i64 0, .int .i64 0, .string ⟨#[]⟩] 26) = X at *
 refine (c _ hb0).mono ?_
 rintro e w1 ⟨hR, hb1⟩
 have k1 := k0.on hb1 k0.lt
 have B1 : Hid (Below w.heap.size w w1) := hb0.trans (hb1.mono hb0.size)
 have HR : Hid (OpA s e) := hR
 obtain ⟨x, b, rfl⟩ := hR.form
 clear hb0 hb1 c k0 hR
 unfold vOp at *
 obtain ⟨⟨r0, s0⟩, ⟨r1, s1⟩, ⟨r2, s2⟩, ⟨r3, s3⟩, ⟨r4, s4⟩, y0, y1, y2, y3, y4⟩ := resC5 (x0 := .int .i64 x.kind) (x1 := .string x.key) (x2 := .int .i64 x.frm) (x3 := .int .i64 x.til) (x4 := .string x.data) k1
 have B2 : Hid (Below w.heap.size w _) := belowC5 B1.out (Nat.le_refl _) (.int .i64 x.kind) (.string x.key) (.int .i64 x.frm) (.int .i64 x.til) (.string x.data)
 clear k1 B1
 go_wp2_with fail
 exact bodyPost_ret (v := .tuple #[.agg #[.int .i64 x.kind, .string x.key, .int .i64 x.frm, .int .i64 x.til, .string x.data], .bool b]) (by simp [results, go_sem, y0, y1, y2, y3, y4]) rfl ⟨HR.out, B2.out⟩
end Go.Proofs.YtgbepickfhbknaaDoor
namespace Go.Proofs.YtgbepickfhbknaaDoor
open Go.ChangeShapes Go.WideShapes Go.ChangeAt Go.RowKit Go.PlainAid
set_option linter.unusedVariables false
set_option maxHeartbeats 1000000 in
theorem specVars (s : ByteArray) (a k0 : Nat) (w : World) (hs : s.size ≤ 1048576) (ha : a ≤ 2097152) (h2 : k0 ≤ 60) :
  Calls Tryd.prog 22 #[.string s, .int .i64 (a : Int), .int .i64 (k0 : Int)] w fun e w' => ((∃ l n u, RdF s a k0 l n ∧ e = .returned (.tuple #[u, .int .i64 (n : Int)]) ∧ Nums w' w.heap.size u l) ∨ ((∀ l n, ¬ RdF s a k0 l n) ∧ ∃ u, e = .returned (.tuple #[u, .int .i64 (-1)]))) ∧ Below w.heap.size w w' := by
 have q2 : (k0 : Int) ≤ 60 := by omega
 have HS : Hid (s.size ≤ 1048576) := hs
 have HA : Hid (a ≤ 2097152) := ha
 have q3 : (s.size : Int) ≤ 1048576 := by omega
 clear hs ha
 go_enter Tryd.func22, Tryd.ntmps22
 go_wp2_with fail
 go_loopw [1, 8, 9] (fun v1 v8 v9 wr => ∃ (k n : Nat) (l : List Int), k ≤ k0 ∧ v9 = .int .i64 (k : Int) ∧ v1 = .int .i64 (n : Int) ∧ Hid (RdF s a k l n) ∧ Nums wr w.heap.size v8 l ∧ Below w.heap.size w wr) (fun _ _ i _ => k0 - (intOf i).toNat)
 case atStart => exact ⟨0, a, [], by omega, rfl, rfl, ⟨rfl, rfl⟩, Nums.empty _ _ (Nat.le_refl _), (Below.refl _ _).alloc (Nat.le_refl _) _⟩
 case round =>
  obtain ⟨k, n, l, hk, rfl, rfl, HR, hN, hb⟩ := hrel
  have HN : Hid (Nums wr w.heap.size _ l) := hN
  obtain ⟨A, c, rfl, _, _⟩ := hN.shape
  have HB : Hid (Below w.heap.size w wr) := hb
  have hln := HR.out.length
  have HLN : Hid (l.length ≤ 2097152) := by unfold Hid; omega
  clear hN hb
  by_cases hlt : k < k0
  ·have q4 : (k : Int) < (k0 : Int) := by omega
   have hnb : (n : Int) ≤ 4194304 := by have := HR.out.le; have := HA.out; omega
   by_cases hns : n ≤ s.size
   ·have q5 : (n : Int) ≤ (s.size : Int) := by omega
    have q5' : decide ((s.size : Int) < (n : Int)) = false := decide_eq_false (by omega)
    have hsx : (lf s n).size ≤ 1048576 := by rw [lf_size]; have := HS.out; omega
    have c := fun wx => spec_readVar (lf s n) wx hsx
    have HX : Hid (∀ m, FindV (lf s n) m → m ≤ s.size - n) := fun m hm => by have := hm.2.2.1; rw [lf_size] at this; omega
    have HSX0 : Hid (s.extract n s.size = lf s n) := rfl
    unfold lf at c
    clear hsx hln
    go_wp2_with fail
    refine (c _).mono ?_
    rw [HSX0.out]
    clear c HSX0
    generalize hsx' : lf s n = sx at *
    have HSX : Hid (lf s n = sx) := hsx'
    clear hsx'
    rintro e w1 ⟨hR, hb1⟩
    have HB1 : Hid (Below w.heap.size w w1) := HB.out.trans (hb1.mono HB.out.size)
    have HN1 : Hid (Nums w1 w.heap.size (.slice A l.length _) l) := HN.out.on hb1
    clear hb1
    rcases hR with ⟨m, hm, rfl⟩ | ⟨hno, rfl⟩
    ·have hmx := HX.out m hm
     have hm1 := hm.1
     have hm7 := hm.2.1
     have q6 : (m : Int) ≤ 7 := by omega
     have q7 : (1 : Int) ≤ (m : Int) := by omega
     have q8 : ¬ (m : Int) = 0 := by omega
     have q9 : ¬ m = 0 := by omega
     have HM : Hid (FindV sx m) := hm
     have HZ : Hid (w.heap.size ≤ w1.heap.size) := HB1.out.size
     generalize hz : (vvS sx 0 m : Int) = z at *
     have HR2 : Hid (RdF s a (k + 1) (l ++ [z]) (n + m)) := by
      refine ⟨l, n, m, HR.out, ?_, ?_, rfl⟩
      ·rw [HSX.out]; exact HM.out
      ·rw [HSX.out, hz]
     clear hz hm
     go_wp2_with (at_builtin; refine wpList_append_num rfl (.tmp 33) (.tmp 35) 45 rfl Tryd.underlying45 Tryd.infoInt w.heap.size _ l rfl HN1.out z rfl HLN.out HZ.out ?_; intro v' w2 hN2 hb2 hk2)
     go_roundw
     case rel => exact ⟨k + 1, n + m, l ++ [z], by omega, by go_num, by go_num, HR2, hN2, HB1.out.trans hb2⟩
     case measure => simp [intOf]; omega
    ·have HNO : Hid (∀ l n, ¬ RdF s a k0 l n) := HR.out.no hlt (by rw [HSX.out]; exact hno)
     clear hno
     go_wp2_with fail
     go_ret2
     exact ⟨.inr ⟨HNO.out, _, rfl⟩, HB1.out⟩
   ·have q5 : decide ((s.size : Int) < (n : Int)) = true := decide_eq_true (by omega)
    have HNO : Hid (∀ l n, ¬ RdF s a k0 l n) := HR.out.no hlt (fun m hm => by have h3 := hm.2.2.1; have h1 := hm.1; rw [lf_size] at h3; omega)
    clear hln
    go_wp2_with fail
    go_ret2
    exact ⟨.inr ⟨HNO.out, _, rfl⟩, HB.out⟩
  ·obtain rfl : k = k0 := by omega
   go_wp2_with fail
   go_ret2
   exact ⟨.inl ⟨l, n, _, HR.out, rfl, HN.out⟩, HB.out⟩
end Go.Proofs.YtgbepickfhbknaaDoor
namespace Go.Proofs.YtgbepickfhbknaaDoor
open Go.ChangeShapes Go.WideShapes Go.ChangeAt Go.RowKit Go.PlainAid
set_option linter.unusedVariables false
theorem text_neqC {a b : ByteArray} (h : ¬ a = b) : ¬ a.toList = b.toList ∧ (a.toList == b.toList) = false ∧ (a.toList != b.toList) = true := by
 have : ¬ a.toList = b.toList := by
  intro e
  rw [Lib.toList_data, Lib.toList_data] at e
  exact h (ByteArray.ext (Array.toList_inj.1 e))
 exact ⟨this, by simpa using this, by simpa [bne] using this⟩
theorem Nums.full1 {w : World} {base : Nat} {v : Value} {l : List Int} (h : Nums w base v l) (hl : 0 < l.length) : ∃ g cap, v = .slice (some ⟨g, 0, none⟩) l.length cap ∧ base ≤ g ∧ g < w.heap.size := by
 rcases h.form with ⟨_, e⟩ | ⟨g, cap, e, _, _, h1, h2⟩
 ·rw [e] at hl; cases hl
 ·exact ⟨g, cap, e, h1, h2⟩
set_option maxHeartbeats 4000000 in
theorem specReadOp (s : ByteArray) (w : World) (hs : s.size ≤ 1048576) :
  Calls Tryd.prog 10 #[.string s] w fun e w' => OpA s e ∧ Below w.heap.size w w' := by
 have c := fun wx => specVars s 1 1 wx hs (by omega) (by omega)
 have c2 := fun a wx (ha : a ≤ 2097152) => specVars s a 2 wx hs ha (by omega)
 have k0 := Blk.new w #[.int .i64 0, .string ⟨#[]⟩, .int .i64 0, .int .i64 0, .string ⟨#[]⟩] 26
 have hb0 := (Below.refl w.heap.size w).alloc (Nat.le_refl _) (.cells #[.int .i64 0, .string ⟨#[]⟩, .int .i64 0, .int .i64 0, .string ⟨#[]⟩] 26)
 have HS : Hid (s.size ≤ 1048576) := hs
 have q2 : (s.size : Int) ≤ 1048576 := by omega
 clear hs
 go_enter Tryd.func10, Tryd.ntmps10
 go_wp2_with fail
 generalize w.alloc (.cells #[.int .i64 0, .string ⟨#[]⟩, .int .i64 0, .int .i64 0, .string ⟨#[]⟩] 26) = X at *
 refine (c _).mono ?_
 rintro e w1 ⟨hR, hb1⟩
 have k1 := Hid.mk (k0.on hb1 k0.lt)
 have B1 : Hid (Below w.heap.size w w1) := hb0.trans (hb1.mono hb0.size)
 clear hb1 k0 c
 rcases hR with ⟨l, n1, u, hR, rfl, hN⟩ | ⟨hno, u, rfl⟩
 rotate_left
 ·have HN : Hid (∀ x, ¬ OpRd s x) := by
   rintro x ⟨k, n1, f, t, m, h0, h1, h2, h3, h4, h5⟩
   exact hno _ _ h1
  clear hno hb0 c2
  obtain ⟨⟨r0, s0⟩, ⟨r1, s1⟩, ⟨r2, s2⟩, ⟨r3, s3⟩, ⟨r4, s4⟩, y0, y1, y2, y3, y4⟩ := resC5 (x0 := .int .i64 0) (x1 := .string ⟨#[]⟩) (x2 := .int .i64 0) (x3 := .int .i64 0) (x4 := .string ⟨#[]⟩) k1.out
  have BZ := Hid.mk (belowC5 B1.out (Nat.le_refl _) (.int .i64 0) (.string ⟨#[]⟩) (.int .i64 0) (.int .i64 0) (.string ⟨#[]⟩))
  go_wp2_with fail
  exact bodyPost_ret (v := .tuple #[.agg #[.int .i64 0, .string ⟨#[]⟩, .int .i64 0, .int .i64 0, .string ⟨#[]⟩], .bool false]) (by simp [results, go_sem, y0, y1, y2, y3, y4]) rfl ⟨.inr ⟨HN.out, rfl⟩, BZ.out⟩
 have hl := hR.length
 obtain ⟨z, rfl⟩ : ∃ a, l = [a] := by
  match l, hl with
  | [a], _ => exact ⟨a, rfl⟩
 have hz := hR.bound z (by simp)
 obtain ⟨kl, rfl⟩ : ∃ n : Nat, z = (n : Int) := ⟨z.toNat, by omega⟩
 have HR : Hid (RdF s 1 1 [(kl : Int)] n1) := hR
 have hns := hR.ge.2 (by omega)
 have hn1 := hR.ge.1
 have hnl := hR.le
 obtain ⟨g1, cap1, rfl, hg1, hg2⟩ := hN.full1 (by simp)
 have e0 : w1.cell? ⟨g1, 0, none⟩ = some (.int .i64 (kl : Int)) := hN.cell 0 (by simp)
 have HG1 : Hid (g1 < w1.heap.size) := hg2
 have hlen : [(kl : Int)].length = 1 := rfl
 rw [hlen] at *
 have q1 : (n1 : Int) ≤ (s.size : Int) := by omega
 have q3 : decide ((n1 : Int) < 0) = false := decide_eq_false (by omega)
 have HKO : Hid (∀ x, OpRd s x → kl ≤ 8 ∧ n1 + kl ≤ s.size) := by
  rintro x ⟨k, n1', f, t, m, h0, h1, h2, h3, rfl, h5⟩
  obtain ⟨e, rfl⟩ := h1.one HR.out
  simp only [List.cons.injEq, and_true] at e
  obtain rfl : k = kl := by omega
  have := (opOk_in h5).2.1
  simp only [ByteArray.size_extract] at this
  omega
 have hw1 : IntKind.i64.wrap ((s.size : Int) - (n1 : Int)) = (s.size : Int) - (n1 : Int) := by rw [IntKind.wrap_i64]; omega
 have hw2 : wrap64 ((s.size : Int) - (n1 : Int)) = (s.size : Int) - (n1 : Int) := by unfold wrap64; omega
 clear hR hl hN hg1 hg2 hlen hz
 by_cases h8 : kl ≤ 8
 rotate_left
 ·have HN : Hid (∀ x, ¬ OpRd s x) := fun x hx => h8 (HKO.out x hx).1
  have q4 : (8 : Int) < (kl : Int) := by omega
  clear c2 hb0 h8 HKO
  obtain ⟨⟨r0, s0⟩, ⟨r1, s1⟩, ⟨r2, s2⟩, ⟨r3, s3⟩, ⟨r4, s4⟩, y0, y1, y2, y3, y4⟩ := resC5 (x0 := .int .i64 0) (x1 := .string ⟨#[]⟩) (x2 := .int .i64 0) (x3 := .int .i64 0) (x4 := .string ⟨#[]⟩) k1.out
  have BZ := Hid.mk (belowC5 B1.out (Nat.le_refl _) (.int .i64 0) (.string ⟨#[]⟩) (.int .i64 0) (.int .i64 0) (.string ⟨#[]⟩))
  go_wp2_with fail
  exact bodyPost_ret (v := .tuple #[.agg #[.int .i64 0, .string ⟨#[]⟩, .int .i64 0, .int .i64 0, .string ⟨#[]⟩], .bool false]) (by simp [results, go_sem, y0, y1, y2, y3, y4]) rfl ⟨.inr ⟨HN.out, rfl⟩, BZ.out⟩
 have q4 : (kl : Int) ≤ 8 := by omega
 have q4' : decide ((8 : Int) < (kl : Int)) = false := decide_eq_false (by omega)
 by_cases hle : n1 + kl ≤ s.size
 rotate_left
 ·have HN : Hid (∀ x, ¬ OpRd s x) := fun x hx => hle (HKO.out x hx).2
  have q5 : (s.size : Int) - (n1 : Int) < (kl : Int) := by omega
  clear c2 hb0 hle HKO h8
  obtain ⟨⟨r0, s0⟩, ⟨r1, s1⟩, ⟨r2, s2⟩, ⟨r3, s3⟩, ⟨r4, s4⟩, y0, y1, y2, y3, y4⟩ := resC5 (x0 := .int .i64 0) (x1 := .string ⟨#[]⟩) (x2 := .int .i64 0) (x3 := .int .i64 0) (x4 := .string ⟨#[]⟩) k1.out
  have BZ := Hid.mk (belowC5 B1.out (Nat.le_refl _) (.int .i64 0) (.string ⟨#[]⟩) (.int .i64 0) (.int .i64 0) (.string ⟨#[]⟩))
  go_wp2_with fail
  exact bodyPost_ret (v := .tuple #[.agg #[.int .i64 0, .string ⟨#[]⟩, .int .i64 0, .int .i64 0, .string ⟨#[]⟩], .bool false]) (by simp [results, go_sem, y0, y1, y2, y3, y4]) rfl ⟨.inr ⟨HN.out, rfl⟩, BZ.out⟩
 have q5 : (kl : Int) ≤ (s.size : Int) - (n1 : Int) := by omega
 have q5' : decide ((s.size : Int) - (n1 : Int) < (kl : Int)) = false := decide_eq_false (by omega)
 have HLE : Hid (n1 + kl ≤ s.size) := hle
 have hw3 : IntKind.i64.wrap ((n1 : Int) + (kl : Int)) = ((n1 + kl : Nat) : Int) := by rw [IntKind.wrap_i64]; omega
 have hw4 : wrap64 ((n1 : Int) + (kl : Int)) = ((n1 + kl : Nat) : Int) := by unfold wrap64; omega
 have c3 := fun wx => c2 (n1 + kl) wx (by omega)
 have HN1 : Hid (2 ≤ n1) := by unfold Hid; omega
 clear c2 HKO h8 hle hb0 hns hn1 hnl
 generalize hnk : n1 + kl = nk at *
 have HNK : Hid (n1 + kl = nk) := hnk
 clear hnk
 go_wp2_with fail
 refine (c3 _).mono ?_
 rintro e w2 ⟨hR, hb2⟩
 have k2 := Hid.mk (k1.out.on hb2 k1.out.lt)
 have B2 : Hid (Below w.heap.size w w2) := B1.out.trans (hb2.mono B1.out.size)
 have e1 : w2.cell? ⟨g1, 0, none⟩ = some (.int .i64 (kl : Int)) := by rw [hb2.cell HG1.out]; exact e0
 have HG3 : Hid (g1 < w2.heap.size) := Nat.lt_of_lt_of_le HG1.out hb2.size
 clear hb2 k1 B1 c3 e0 HG1
 rcases hR with ⟨l, m, u, hR, rfl, hN⟩ | ⟨hno, u, rfl⟩
 rotate_left
 ·have HN : Hid (∀ x, ¬ OpRd s x) := by
   rintro x ⟨k, n1', f, t, m, h0, h1, h2, h3, rfl, h5⟩
   obtain ⟨e, rfl⟩ := h1.one HR.out
   simp only [List.cons.injEq, and_true] at e
   obtain rfl : k = kl := by omega
   rw [HNK.out] at h3
   exact hno _ _ h3
  clear hno
  obtain ⟨⟨r0, s0⟩, ⟨r1, s1⟩, ⟨r2, s2⟩, ⟨r3, s3⟩, ⟨r4, s4⟩, y0, y1, y2, y3, y4⟩ := resC5 (x0 := .int .i64 0) (x1 := .string ⟨#[]⟩) (x2 := .int .i64 0) (x3 := .int .i64 0) (x4 := .string ⟨#[]⟩) k2.out
  have BZ := Hid.mk (belowC5 B2.out (Nat.le_refl _) (.int .i64 0) (.string ⟨#[]⟩) (.int .i64 0) (.int .i64 0) (.string ⟨#[]⟩))
  go_wp2_with fail
  exact bodyPost_ret (v := .tuple #[.agg #[.int .i64 0, .string ⟨#[]⟩, .int .i64 0, .int .i64 0, .string ⟨#[]⟩], .bool false]) (by simp [results, go_sem, y0, y1, y2, y3, y4]) rfl ⟨.inr ⟨HN.out, rfl⟩, BZ.out⟩
 have hl := hR.length
 obtain ⟨z1, z2, rfl⟩ : ∃ a b, l = [a, b] := by
  match l, hl with
  | [a, b], _ => exact ⟨a, b, rfl⟩
 have HR2 : Hid (RdF s nk 2 [z1, z2] m) := hR
 have hns := hR.ge.2 (by omega)
 obtain ⟨g2, cap2, rfl, hg1, hg2⟩ := hN.full1 (by simp)
 have e2 : w2.cell? ⟨g2, 0, none⟩ = some (.int .i64 z1) := hN.cell 0 (by simp)
 have e3 : w2.cell? ⟨g2, 1, none⟩ = some (.int .i64 z2) := hN.cell 1 (by simp)
 have hlen : [z1, z2].length = 2 := rfl
 rw [hlen] at *
 have HG4 : Hid (g2 < w2.heap.size) := hg2
 have SS : Hid (w2.drew.cell? ⟨g1, 0, none⟩ = some (.int .i64 (kl : Int)) ∧ w2.drew.cell? ⟨g2, 0, none⟩ = some (.int .i64 z1) ∧ w2.drew.cell? ⟨g2, 1, none⟩ = some (.int .i64 z2)) := ⟨e1, e2, e3⟩
 have q6 : (m : Int) ≤ (s.size : Int) := by omega
 have q7 : decide ((m : Int) < 0) = false := decide_eq_false (by omega)
 have q8 : (n1 : Int) ≤ (nk : Int) := by have := HNK.out; omega
 have q9 : (nk : Int) ≤ (s.size : Int) := by have := HLE.out; omega
 have qa : (0 : Int) < (s.size : Int) := by have := HN1.out; omega
 have qb : 0 < s.size := by omega
 have hbt := get_bn s
 have hbl := bn_lt s 0
 have HZ : Hid (1 ≤ s.size) := qb
 have HNE : Hid (¬ s = ⟨#[]⟩) := by
  intro e
  rw [e] at qb
  have h0 : (⟨#[]⟩ : ByteArray).size = 0 := rfl
  omega
 have HX1 : Hid (opOk ⟨(bn s 0 : Int), s.extract n1 nk, z1, z2, lf s m⟩ = true → OpRd s ⟨(bn s 0 : Int), s.extract n1 nk, z1, z2, lf s m⟩ ∧ opT ⟨(bn s 0 : Int), s.extract n1 nk, z1, z2, lf s m⟩ = s) := by
  have h1 := HR.out
  have h2 := HR2.out
  have h3 := HLE.out
  rw [← HNK.out] at h2 h3 ⊢
  exact fun h => ⟨⟨kl, n1, z1, z2, m, HZ.out, h1, h3, h2, rfl, h⟩, opT_back HZ.out h1 h3 h2 h⟩
 have HX2 : Hid (opOk ⟨(bn s 0 : Int), s.extract n1 nk, z1, z2, lf s m⟩ = false → (∀ x, ¬ OpRd s x) ∧ opT ⟨(bn s 0 : Int), s.extract n1 nk, z1, z2, lf s m⟩ = ⟨#[]⟩) := by
  intro h
  refine ⟨?_, by unfold opT; rw [h]; rfl⟩
  rintro x ⟨k, n1', f, t, m', h0, h1, h2, h3, rfl, h5⟩
  obtain ⟨e, rfl⟩ := h1.one HR.out
  simp only [List.cons.injEq, and_true] at e
  obtain rfl : k = kl := by omega
  rw [HNK.out] at h3 h5
  obtain ⟨e, rfl⟩ := h3.one HR2.out
  simp only [List.cons.injEq, and_true] at e
  obtain ⟨rfl, rfl⟩ := e
  rw [h] at h5
  cases h5
 have HL1 : Hid ((s.extract n1 nk).size ≤ 1048576) := by unfold Hid; rw [ByteArray.size_extract]; have := HS.out; omega
 have HL2 : Hid ((lf s m).size ≤ 1048576) := by unfold Hid; rw [lf_size]; have := HS.out; omega
 have HEX : Hid (s.extract m s.size = lf s m) := rfl
 clear hR hl hN e1 e2 e3 hg1 hg2 hlen hns
 go_wp2_with fail
 refine wp_region_until (fun w' => w'.cell? ⟨g1, 0, none⟩ = some (.int .i64 (kl : Int)) ∧ w'.cell? ⟨g2, 0, none⟩ = some (.int .i64 z1) ∧ w'.cell? ⟨g2, 1, none⟩ = some (.int .i64 z2)) (fun i => i == 22) 23 (by rfl) (by kernel_rfl) ?_
 have B2' : Hid (Below w.heap.size w w2.drew) := B2.out.drew
 have k2' : Hid (Blk w2.drew w.heap.size #[.int .i64 0, .string ⟨#[]⟩, .int .i64 0, .int .i64 0, .string ⟨#[]⟩] 26) := k2.out
 have HG3' : Hid (g1 < w2.drew.heap.size) := HG3.out
 have HG4' : Hid (g2 < w2.drew.heap.size) := HG4.out
 clear k2 B2 HG3 HG4
 generalize w2.drew = Y at *
 refine until_pure 0 (v := ?_) (by rfl) (by kernel_rfl) (by exact fun _ _ _ h => h) (by rfl) ?_ ?_
 rotate_left
 ·intro w
  go_simp
  try with_reducible rfl
 try simp only [Act.put, setIfInBounds_toArray, set_cons_zero, set_cons_succ]
 refine until_pure 1 (v := ?_) (by rfl) (by kernel_rfl) (by exact fun _ _ _ h => h) (by rfl) ?_ ?_
 rotate_left
 ·intro w
  go_simp
  try with_reducible rfl
 try simp only [Act.put, setIfInBounds_toArray, set_cons_zero, set_cons_succ]
 refine until_pure 2 (v := ?_) (by rfl) (by kernel_rfl) (by exact fun _ _ _ h => h) (by rfl) ?_ ?_
 rotate_left
 ·intro w
  go_simp
  try with_reducible rfl
 try simp only [Act.put, setIfInBounds_toArray, set_cons_zero, set_cons_succ]
 refine until_pure 3 (v := ?_) (by rfl) (by kernel_rfl) (by exact fun _ _ _ h => h) (by rfl) ?_ ?_
 rotate_left
 ·intro w
  go_simp
  try with_reducible rfl
 try simp only [Act.put, setIfInBounds_toArray, set_cons_zero, set_cons_succ]
 refine until_pure 4 (v := ?_) (by rfl) (by kernel_rfl) (by exact fun _ _ _ h => h) (by rfl) ?_ ?_
 rotate_left
 ·intro w
  go_simp
  try with_reducible rfl
 try simp only [Act.put, setIfInBounds_toArray, set_cons_zero, set_cons_succ]
 refine until_pure 5 (v := ?_) (by rfl) (by kernel_rfl) (by exact fun _ _ _ h => h) (by rfl) ?_ ?_
 rotate_left
 ·intro w
  go_simp
  try with_reducible rfl
 try simp only [Act.put, setIfInBounds_toArray, set_cons_zero, set_cons_succ]
 refine until_pure 6 (v := ?_) (by rfl) (by kernel_rfl) (by exact fun _ _ _ h => h) (by rfl) ?_ ?_
 rotate_left
 ·intro w
  go_simp
  try with_reducible rfl
 try simp only [Act.put, setIfInBounds_toArray, set_cons_zero, set_cons_succ]
 refine until_pure 7 (v := ?_) (by rfl) (by kernel_rfl) (by exact fun _ _ _ h => h) (by rfl) ?_ ?_
 rotate_left
 ·intro w
  go_simp
  try with_reducible rfl
 try simp only [Act.put, setIfInBounds_toArray, set_cons_zero, set_cons_succ]
 refine until_take 8 (v := ?_) (by rfl) (by kernel_rfl) (by exact fun _ _ _ h => h) (by rfl) ?_ SS.out ?_
 rotate_left
 ·intro w hSw
  try dsimp only at hSw
  go_simp
  try with_reducible rfl
 try simp only [Act.put, setIfInBounds_toArray, set_cons_zero, set_cons_succ]
 refine until_pure 9 (v := ?_) (by rfl) (by kernel_rfl) (by exact fun _ _ _ h => h) (by rfl) ?_ ?_
 rotate_left
 ·intro w
  go_simp
  try with_reducible rfl
 try simp only [Act.put, setIfInBounds_toArray, set_cons_zero, set_cons_succ]
 refine until_pure 10 (v := ?_) (by rfl) (by kernel_rfl) (by exact fun _ _ _ h => h) (by rfl) ?_ ?_
 rotate_left
 ·intro w
  go_simp
  try with_reducible rfl
 try simp only [Act.put, setIfInBounds_toArray, set_cons_zero, set_cons_succ]
 refine until_pure 11 (v := ?_) (by rfl) (by kernel_rfl) (by exact fun _ _ _ h => h) (by rfl) ?_ ?_
 rotate_left
 ·intro w
  go_simp
  try with_reducible rfl
 try simp only [Act.put, setIfInBounds_toArray, set_cons_zero, set_cons_succ]
 refine until_pure 12 (v := ?_) (by rfl) (by kernel_rfl) (by exact fun _ _ _ h => h) (by rfl) ?_ ?_
 rotate_left
 ·intro w
  go_simp
  try with_reducible rfl
 try simp only [Act.put, setIfInBounds_toArray, set_cons_zero, set_cons_succ]
 refine until_take 13 (v := ?_) (by rfl) (by kernel_rfl) (by exact fun _ _ _ h => h) (by rfl) ?_ SS.out ?_
 rotate_left
 ·intro w hSw
  try dsimp only at hSw
  go_simp
  try with_reducible rfl
 try simp only [Act.put, setIfInBounds_toArray, set_cons_zero, set_cons_succ]
 refine until_pure 14 (v := ?_) (by rfl) (by kernel_rfl) (by exact fun _ _ _ h => h) (by rfl) ?_ ?_
 rotate_left
 ·intro w
  go_simp
  try with_reducible rfl
 try simp only [Act.put, setIfInBounds_toArray, set_cons_zero, set_cons_succ]
 refine until_pure 15 (v := ?_) (by rfl) (by kernel_rfl) (by exact fun _ _ _ h => h) (by rfl) ?_ ?_
 rotate_left
 ·intro w
  go_simp
  try with_reducible rfl
 try simp only [Act.put, setIfInBounds_toArray, set_cons_zero, set_cons_succ]
 refine until_take 16 (v := ?_) (by rfl) (by kernel_rfl) (by exact fun _ _ _ h => h) (by rfl) ?_ SS.out ?_
 rotate_left
 ·intro w hSw
  try dsimp only at hSw
  go_simp
  try with_reducible rfl
 try simp only [Act.put, setIfInBounds_toArray, set_cons_zero, set_cons_succ]
 refine until_pure 17 (v := ?_) (by rfl) (by kernel_rfl) (by exact fun _ _ _ h => h) (by rfl) ?_ ?_
 rotate_left
 ·intro w
  go_simp
  try with_reducible rfl
 try simp only [Act.put, setIfInBounds_toArray, set_cons_zero, set_cons_succ]
 refine until_pure 18 (v := ?_) (by rfl) (by kernel_rfl) (by exact fun _ _ _ h => h) (by rfl) ?_ ?_
 rotate_left
 ·intro w
  go_simp
  try with_reducible rfl
 try simp only [Act.put, setIfInBounds_toArray, set_cons_zero, set_cons_succ]
 refine until_pure 19 (v := ?_) (by rfl) (by kernel_rfl) (by exact fun _ _ _ h => h) (by rfl) ?_ ?_
 rotate_left
 ·intro w
  go_simp
  try with_reducible rfl
 try simp only [Act.put, setIfInBounds_toArray, set_cons_zero, set_cons_succ]
 refine until_pure 20 (v := ?_) (by rfl) (by kernel_rfl) (by exact fun _ _ _ h => h) (by rfl) ?_ ?_
 rotate_left
 ·intro w
  go_simp
  try with_reducible rfl
 try simp only [Act.put, setIfInBounds_toArray, set_cons_zero, set_cons_succ]
 rw [HEX.out]
 clear HEX hbt
 generalize lf s m = d at *
 generalize s.extract n1 nk = ky at *
 generalize bn s 0 = kn at *
 refine until_one 21 (by rfl) (by kernel_rfl) (fun K hK => ?_)
 go_simp
 have S2 : Hid ((Y.alloc (.cells #[.int .i64 0, .string ⟨#[]⟩, .int .i64 0, .int .i64 0, .string ⟨#[]⟩] 26)).cell? ⟨g1, 0, none⟩ = some (.int .i64 (kl : Int)) ∧ (Y.alloc (.cells #[.int .i64 0, .string ⟨#[]⟩, .int .i64 0, .int .i64 0, .string ⟨#[]⟩] 26)).cell? ⟨g2, 0, none⟩ = some (.int .i64 z1) ∧ (Y.alloc (.cells #[.int .i64 0, .string ⟨#[]⟩, .int .i64 0, .int .i64 0, .string ⟨#[]⟩] 26)).cell? ⟨g2, 1, none⟩ = some (.int .i64 z2)) := by
  have hb := below_c1 Y (.cells #[.int .i64 0, .string ⟨#[]⟩, .int .i64 0, .int .i64 0, .string ⟨#[]⟩] 26)
  exact ⟨by rw [hb.cell HG3'.out]; exact SS.out.1, by rw [hb.cell HG4'.out]; exact SS.out.2.1, by rw [hb.cell HG4'.out]; exact SS.out.2.2⟩
 refine hK.out _ _ (fun _ _ => S2.out) ?_
 clear hK K
 try simp only [Act.put, setIfInBounds_toArray, set_cons_zero, set_cons_succ]
 refine until_one 22 (by rfl) (by kernel_rfl) (fun K hK => ?_)
 go_simp
 refine hK.out _ _ (fun h => by cases h) ?_
 clear hK K
 try simp only [Act.put, setIfInBounds_toArray, set_cons_zero, set_cons_succ]
 refine until_done (by kernel_rfl) ?_ _
 have kA := Blk.new Y #[.int .i64 (kn : Int), .string ky, .int .i64 z1, .int .i64 z2, .string d] 26
 have kR := k2'.out.alloc (.cells #[.int .i64 (kn : Int), .string ky, .int .i64 z1, .int .i64 z2, .string d] 26)
 have hbA := B2'.out.alloc B2'.out.size (.cells #[.int .i64 (kn : Int), .string ky, .int .i64 z1, .int .i64 z2, .string d] 26)
 obtain ⟨c0, c1, c2, c3, c4⟩ := cellsC5 kA
 clear S2 SS k2' B2'
 go_wp2_with fail
 generalize Y.alloc (.cells #[.int .i64 (kn : Int), .string ky, .int .i64 z1, .int .i64 z2, .string d] 26) = V at *
 refine (specShowOp ⟨(kn : Int), ky, z1, z2, d⟩ _ (by have := HL1.out; simp only [maxLen]; omega) HL2.out).mono ?_
 rintro e w3 ⟨rfl, hb⟩
 have A2 := Hid.mk (kA.on hb kA.lt)
 have R2 := Hid.mk (kR.on hb kR.lt)
 have B3 : Hid (Below w.heap.size w w3) := hbA.trans (hb.mono hbA.size)
 clear hb kA kR hbA c0 c1 c2 c3 c4
 generalize opT ⟨(kn : Int), ky, z1, z2, d⟩ = T at *
 cases ho : opOk ⟨(kn : Int), ky, z1, z2, d⟩
 ·obtain ⟨HN, hT⟩ := HX2.out ho
  have HN : Hid (∀ x, ¬ OpRd s x) := HN
  obtain ⟨hq1, hq2, hq3⟩ := text_neqC (a := T) (b := s) (by rw [hT]; exact fun e => HNE.out e.symm)
  clear hT ho HX1 HX2
  obtain ⟨⟨r0, s0⟩, ⟨r1, s1⟩, ⟨r2, s2⟩, ⟨r3, s3⟩, ⟨r4, s4⟩, y0, y1, y2, y3, y4⟩ := resC5 (x0 := .int .i64 0) (x1 := .string ⟨#[]⟩) (x2 := .int .i64 0) (x3 := .int .i64 0) (x4 := .string ⟨#[]⟩) R2.out
  have BZ := Hid.mk (belowC5 B3.out (Nat.le_refl _) (.int .i64 0) (.string ⟨#[]⟩) (.int .i64 0) (.int .i64 0) (.string ⟨#[]⟩))
  go_wp2_with fail
  exact bodyPost_ret (v := .tuple #[.agg #[.int .i64 0, .string ⟨#[]⟩, .int .i64 0, .int .i64 0, .string ⟨#[]⟩], .bool false]) (by simp [results, go_sem, y0, y1, y2, y3, y4]) rfl ⟨.inr ⟨HN.out, rfl⟩, BZ.out⟩
 ·obtain ⟨hx, hT⟩ := HX1.out ho
  have HX : Hid (OpRd s ⟨(kn : Int), ky, z1, z2, d⟩) := hx
  subst hT
  clear hx ho HX1 HX2
  obtain ⟨c0, c1, c2, c3, c4⟩ := cellsC5 A2.out
  obtain ⟨⟨r0, s0⟩, ⟨r1, s1⟩, ⟨r2, s2⟩, ⟨r3, s3⟩, ⟨r4, s4⟩, y0, y1, y2, y3, y4⟩ := resC5 (x0 := .int .i64 (kn : Int)) (x1 := .string ky) (x2 := .int .i64 z1) (x3 := .int .i64 z2) (x4 := .string d) R2.out
  have BZ := Hid.mk (belowC5 B3.out (Nat.le_refl _) (.int .i64 (kn : Int)) (.string ky) (.int .i64 z1) (.int .i64 z2) (.string d))
  go_wp2_with fail
  exact bodyPost_ret (v := .tuple #[.agg #[.int .i64 (kn : Int), .string ky, .int .i64 z1, .int .i64 z2, .string d], .bool true]) (by simp [results, go_sem, y0, y1, y2, y3, y4]) rfl ⟨.inl ⟨_, HX.out, rfl⟩, BZ.out⟩
end Go.Proofs.YtgbepickfhbknaaDoor
namespace Go.Proofs.YtgbepickfhbknaaDoor
open Go.ChangeShapes Go.WideShapes Go.ChangeAt Go.RowKit Go.PlainAid
set_option linter.unusedVariables false
set_option maxHeartbeats 400000 in
theorem eqOp (x : Opx) (w : World) : Calls Tryd.prog 12 #[vOp x, vOp x] w fun e w' => e = .returned (.bool true) ∧ Below w.heap.size w w' := by
 unfold vOp
 go_enter Tryd.func12, Tryd.ntmps12
 go_wp2
 go_ret
 exact ⟨rfl, below_c2 _ _ _⟩
set_option maxHeartbeats 1000000 in
theorem law_fnExactReadOp (s : ByteArray) (w : World) (hs : s.size ≤ maxLen) (hst : SumTab w) (a0 a1 a2 : Addr) (he : Errs w a0 a1 a2) :
  Calls Tryd.prog 4 #[.string s] w fun e w' => e = .returned (.bool true) ∧ Below w.heap.size w w' := by
 by_cases hb : s.size ≤ 1048576
 rotate_left
 ·have q1 : (1048576 : Int) < (s.size : Int) := by omega
  have q2 : (s.size : Int) ≤ 9223372036854775807 := by unfold maxLen at hs; omega
  clear hs hb hst he
  go_enter Tryd.func4, Tryd.ntmps4
  go_wp2_with fail
  go_ret
  exact ⟨rfl, Below.refl _ _⟩
 have q1 : (s.size : Int) ≤ 1048576 := by omega
 have c1 := fun wx => specReadOp s wx hb
 have c2 := fun wx (hk : Below w.heap.size w wx) => implReadOp s wx hb (hst.on hk) a0 a1 a2 (he.on hk)
 clear hs hb hst he
 go_enter Tryd.func4, Tryd.ntmps4
 go_wp2_with fail
 refine (c1 _).mono ?_
 rintro e w1 ⟨hA, hb1⟩
 have B1 : Hid (Below w.heap.size w w1) := hb1
 have HA : Hid (OpA s e) := hA
 obtain ⟨x, b, rfl⟩ := hA.form
 clear hb1 hA c1
 have k1 := Hid.mk (Blk.new w1 #[.int .i64 x.kind, .string x.key, .int .i64 x.frm, .int .i64 x.til, .string x.data] 26)
 have B2 : Hid (Below w.heap.size w (w1.alloc (.cells #[.int .i64 x.kind, .string x.key, .int .i64 x.frm, .int .i64 x.til, .string x.data] 26))) := B1.out.alloc B1.out.size _
 clear B1
 unfold vOp
 go_wp2_with fail
 generalize hX : w1.alloc (.cells #[.int .i64 x.kind, .string x.key, .int .i64 x.frm, .int .i64 x.til, .string x.data] 26) = X at *
 clear hX
 refine (c2 _ B2.out).mono ?_
 rintro e w2 ⟨hA, hb2⟩
 obtain rfl := HA.out.one hA
 have B3 : Hid (Below w.heap.size w w2) := B2.out.trans (hb2.mono B2.out.size)
 have k2 := Hid.mk (k1.out.on hb2 k1.out.lt)
 clear hb2 hA c2 HA k1 B2
 have k3 := Hid.mk (k2.out.alloc (.cells #[.int .i64 x.kind, .string x.key, .int .i64 x.frm, .int .i64 x.til, .string x.data] 26))
 have k4 := Hid.mk (Blk.new w2 #[.int .i64 x.kind, .string x.key, .int .i64 x.frm, .int .i64 x.til, .string x.data] 26)
 have B4 : Hid (Below w.heap.size w (w2.alloc (.cells #[.int .i64 x.kind, .string x.key, .int .i64 x.frm, .int .i64 x.til, .string x.data] 26))) := B3.out.alloc B3.out.size _
 clear k2 B3
 obtain ⟨c0, c1, c2, c3, c4⟩ := cellsC5 k3.out
 obtain ⟨d0, d1, d2, d3, d4⟩ := cellsC5 k4.out
 unfold vOp
 go_wp2_with fail
 refine (eqOp x _).mono ?_
 rintro e w3 ⟨rfl, hb3⟩
 have B5 : Hid (Below w.heap.size w w3) := B4.out.trans (hb3.mono B4.out.size)
 clear hb3 c0 c1 c2 c3 c4 d0 d1 d2 d3 d4
 go_wp2_with fail
 go_ret
 exact ⟨rfl, B5.out⟩
end Go.Proofs.YtgbepickfhbknaaDoor
