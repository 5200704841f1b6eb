/- CmAns CmVars CmAnsS CmCmd TxMail UntilF TxAny CmCmdT MgAid RcSpec RcImpl RcOf WokSpec -/
import Derived.Test.YtifmjdakefkbiaaGreatDoorQt6
import Derived.Test.YtifmjdakefkbiaaGreatDoorRows
import Derived.Test.YtifmjdakefkbiaaGreatDoorQt2
import Derived.Test.YtifmjdakefkbiaaGreatDoorQt5
import Derived.Test.YtifmjdakefkbiaaGreatDoorQt0
import Derived.Test.YtifmjdakefkbiaaGreatDoorQt8
import Derived.Test.YtifmjdakefkbiaaGreatDoorQt1
import Derived.Test.YtifmjdakefkbiaaGreatDoorQt7
import Derived.Lib.OwnKind
import Derived.Deep.Cut
import Derived.Deep.CutRange
import Derived.Deep.CutBlock
import Derived.Handy
import Derived.Test.YtifmjdakefkbiaaGreatDoorQt3
import Derived.OwnWalk
import Derived.Deep.RegionWith
open List (setIfInBounds_toArray set_cons_zero set_cons_succ)
namespace Go.Proofs.YtifmjdakefkbiaaGreatDoor
open Go.ChangeShapes Go.WideShapes Go.ChangeAt Go.RowKit Go.PlainAid
set_option linter.unusedVariables false
def ansT (x : Ans) : ByteArray := if ansOk x = true then txt (vF 6 x.code.toNat) ++ txt (vF 6 x.index.toNat) ++ txt (vF 6 x.mark.toNat) ++ x.data else ⟨#[]⟩
def AnsRd (s : ByteArray) (x : Ans) : Prop := ∃ c i m n, RdF s 0 3 [c, i, m] n ∧ x = ⟨c, i, m, lf s n⟩ ∧ ansOk x = true
theorem AnsRd.one {s : ByteArray} {x y : Ans} (h : AnsRd s x) (h' : AnsRd s y) : x = y := by
 obtain ⟨c, i, m, n, h1, rfl, _⟩ := h
 obtain ⟨c', i', m', n', h1', rfl, _⟩ := h'
 obtain ⟨e, rfl⟩ := h1.one h1'
 simp only [List.cons.injEq, and_true] at e
 obtain ⟨rfl, rfl, rfl⟩ := e
 rfl
def AnsA (s : ByteArray) (e : Ending) : Prop := (∃ x, AnsRd s x ∧ e = .returned (.tuple #[vAns x, .bool true])) ∨ ((∀ x, ¬ AnsRd s x) ∧ e = .returned (.tuple #[vAns ⟨0, 0, 0, ⟨#[]⟩⟩, .bool false]))
theorem AnsA.one {s : ByteArray} {e e' : Ending} (h : AnsA s e) (h' : AnsA s e') : e = e' := by
 rcases h with ⟨x, hx, rfl⟩ | ⟨hn, rfl⟩ <;> rcases h' with ⟨y, hy, rfl⟩ | ⟨hn', rfl⟩
 ·rw [hx.one hy]
 ·exact absurd hx (hn' x)
 ·exact absurd hy (hn y)
 ·rfl
theorem AnsA.form {s : ByteArray} {e : Ending} (h : AnsA s e) : ∃ x b, e = .returned (.tuple #[vAns x, .bool b]) := by
 rcases h with ⟨x, hx, rfl⟩ | ⟨hn, rfl⟩
 ·exact ⟨_, _, rfl⟩
 ·exact ⟨_, _, rfl⟩
set_option maxHeartbeats 400000 in
theorem copyAns (x : Ans) (w : World) (hd : x.data.size ≤ 1048576) : Calls Tryz.prog 102 #[vAns x] w fun e w' => e = .returned (vAns x) ∧ Below w.heap.size w w' := by
 obtain ⟨c, i, m, d⟩ := x
 unfold vAns
 simp only at hd ⊢
 have c1 := fun wx => clone d wx (by omega)
 clear hd
 have hb0 := below_c2 w (.cells #[.int .i64 c, .int .i64 i, .int .i64 m, .string d] 46) (.cells #[.int .i64 0, .int .i64 0, .int .i64 0, .string ⟨#[]⟩] 46)
 have k0 := (Blk.new w #[.int .i64 c, .int .i64 i, .int .i64 m, .string d] 46).alloc (.cells #[.int .i64 0, .int .i64 0, .int .i64 0, .string ⟨#[]⟩] 46)
 have k1 := Blk.new (w.alloc (.cells #[.int .i64 c, .int .i64 i, .int .i64 m, .string d] 46)) #[.int .i64 0, .int .i64 0, .int .i64 0, .string ⟨#[]⟩] 46
 rw [World.size_alloc] at k1
 go_enter Tryz.func102, Tryz.ntmps102
 go_wp2_with fail
 generalize (w.alloc (.cells #[.int .i64 c, .int .i64 i, .int .i64 m, .string d] 46)).alloc (.cells #[.int .i64 0, .int .i64 0, .int .i64 0, .string ⟨#[]⟩] 46) = X at *
 refine (c1 _).mono ?_
 rintro e w1 ⟨rfl, hb1⟩
 have m0 := k0.on hb1 k0.lt
 have m1 := k1.on hb1 k1.lt
 have B1 : Hid (Below w.heap.size w (w1.setCell ⟨w.heap.size, 3, none⟩ (.string d))) := (hb0.trans (hb1.mono hb0.size)).setCell (Nat.le_refl _) _
 have n0 : Hid (Blk (w1.setCell ⟨w.heap.size, 3, none⟩ (.string d)) w.heap.size #[.int .i64 c, .int .i64 i, .int .i64 m, .string d] 46) := m0.set 3 (.string d)
 have n1 : Hid (Blk (w1.setCell ⟨w.heap.size, 3, none⟩ (.string d)) (w.heap.size + 1) #[.int .i64 0, .int .i64 0, .int .i64 0, .string ⟨#[]⟩] 46) := m1.other (by omega) 3 _
 have f3 := m0.free 3
 have e3 : w1.cell? ⟨w.heap.size, 3, none⟩ = some (.string d) := m0.cell 3 _ rfl
 clear hb0 hb1 c1 k0 k1 m0 m1
 obtain ⟨Y, hY⟩ : ∃ Y, Y = w1.setCell ⟨w.heap.size, 3, none⟩ (.string d) := ⟨_, rfl⟩
 rw [← hY] at B1 n0 n1
 obtain ⟨c0, c1, c2, c3⟩ := cellsC4 n0.out
 have R := resC4 (x0 := .int .i64 c) (x1 := .int .i64 i) (x2 := .int .i64 m) (x3 := .string d) n1.out
 obtain ⟨⟨r0, s0⟩, ⟨r1, s1⟩, ⟨r2, s2⟩, ⟨r3, s3⟩, z0, z1, z2, z3⟩ := R
 have B2 : Hid (Below w.heap.size w ((((Y.setCell ⟨w.heap.size + 1, 0, none⟩ (.int .i64 c)).setCell ⟨w.heap.size + 1, 1, none⟩ (.int .i64 i)).setCell ⟨w.heap.size + 1, 2, none⟩ (.int .i64 m)).setCell ⟨w.heap.size + 1, 3, none⟩ (.string d))) := belowC4 B1.out (by omega) _ _ _ _
 rw [hY] at c0 c1 c2 c3 r0 r1 r2 r3 s0 s1 s2 s3 z0 z1 z2 z3 B2
 clear hY n0 n1 B1
 go_wp2_with fail
 exact bodyPost_ret (v := .agg #[.int .i64 c, .int .i64 i, .int .i64 m, .string d]) (by simp [results, go_sem, z0, z1, z2, z3]) rfl ⟨rfl, B2.out⟩
set_option maxHeartbeats 2000000 in
theorem takeAns (g : Nat) (s : ByteArray) (w : World) (hp : Prt w g s) (hs : s.size ≤ 1048576) :
  Calls Tryz.prog 59 #[.pointer (some ⟨g, 0, none⟩)] w fun e w' => ((∃ x, AnsRd s x ∧ e = .returned (vAns x)) ∨ ((∀ x, ¬ AnsRd s x) ∧ e = .panicked lackP)) ∧ PKeep g w w' := by
 have HS : Hid (s.size ≤ 1048576) := hs
 have HG : Hid (g < w.heap.size) := hp.lt
 have B0 : Hid (Blk (w.alloc (.cells #[.int .i64 0, .int .i64 0, .int .i64 0, .string ⟨#[]⟩] 46)) w.heap.size #[.int .i64 0, .int .i64 0, .int .i64 0, .string ⟨#[]⟩] 46) := Blk.new _ _ _
 have K0 : Hid (PKeep g w (w.alloc (.cells #[.int .i64 0, .int .i64 0, .int .i64 0, .string ⟨#[]⟩] 46))) := (PKeep.refl g w).alloc hp.lt _
 obtain ⟨n0, hn0⟩ : ∃ n0, n0 = 0 := ⟨0, rfl⟩
 have P0 : Hid (Prt (w.alloc (.cells #[.int .i64 0, .int .i64 0, .int .i64 0, .string ⟨#[]⟩] 46)) g (lf s n0)) := by subst hn0; rw [lf_zero]; exact hp.alloc _
 have R0 : Hid (RdF s 0 0 [] n0) := ⟨rfl, hn0⟩
 clear hp hs hn0
 go_enter Tryz.func59, Tryz.ntmps59
 go_wp2_with fail
 generalize w.alloc (.cells #[.int .i64 0, .int .i64 0, .int .i64 0, .string ⟨#[]⟩] 46) = W at *
 refine (takeVarF g s n0 _ P0.out HS.out).mono ?_
 rintro e w1 ⟨hR, hk⟩
 have K1 : Hid (PKeep g w w1) := K0.out.trans hk
 have B1 := Hid.mk (hk.blk B0.out (by have := HG.out; omega))
 clear hk B0
 rcases hR with ⟨k0, hf, rfl, hp⟩ | ⟨hno, rfl⟩
 rotate_left
 ·have HN : Hid (∀ x, ¬ AnsRd s x) := by
   rintro x ⟨c, i, m, n, h1, _⟩
   exact R0.out.no (by omega) hno _ _ h1
  clear hno
  go_wp2_with fail
  exact ⟨rfl, .inr ⟨HN.out, rfl⟩, K1.out⟩
 have P1 : Hid (Prt w1 g (lf s (n0 + k0))) := hp
 have R1 := Hid.mk (R0.out.snoc hf)
 generalize n0 + k0 = n1 at P1 R1
 generalize (vvS (lf s n0) 0 k0 : Int) = z0 at *
 clear hf hp P0 K0
 go_wp2_with fail
 refine (takeVarF g s n1 _ P1.out HS.out).mono ?_
 rintro e w2 ⟨hR, hk⟩
 have K2 : Hid (PKeep g w w2) := K1.out.trans hk
 have B2 := Hid.mk (hk.blk B1.out (by have := HG.out; omega))
 clear hk B1
 rcases hR with ⟨k1, hf, rfl, hp⟩ | ⟨hno, rfl⟩
 rotate_left
 ·have HN : Hid (∀ x, ¬ AnsRd s x) := by
   rintro x ⟨c, i, m, n, h1, _⟩
   exact R1.out.no (by omega) hno _ _ h1
  clear hno
  go_wp2_with fail
  exact ⟨rfl, .inr ⟨HN.out, rfl⟩, K2.out⟩
 have P2 : Hid (Prt w2 g (lf s (n1 + k1))) := hp
 have R2 := Hid.mk (R1.out.snoc hf)
 generalize n1 + k1 = n2 at P2 R2
 generalize (vvS (lf s n1) 0 k1 : Int) = z1 at *
 clear hf hp P1 K1
 go_wp2_with fail
 refine (takeVarF g s n2 _ P2.out HS.out).mono ?_
 rintro e w3 ⟨hR, hk⟩
 have K3 : Hid (PKeep g w w3) := K2.out.trans hk
 have B3 := Hid.mk (hk.blk B2.out (by have := HG.out; omega))
 clear hk B2
 rcases hR with ⟨k2, hf, rfl, hp⟩ | ⟨hno, rfl⟩
 rotate_left
 ·have HN : Hid (∀ x, ¬ AnsRd s x) := by
   rintro x ⟨c, i, m, n, h1, _⟩
   exact R2.out.no (by omega) hno _ _ h1
  clear hno
  go_wp2_with fail
  exact ⟨rfl, .inr ⟨HN.out, rfl⟩, K3.out⟩
 have P3 : Hid (Prt w3 g (lf s (n2 + k2))) := hp
 have R3 := Hid.mk (R2.out.snoc hf)
 generalize n2 + k2 = n3 at P3 R3
 generalize (vvS (lf s n2) 0 k2 : Int) = z2 at *
 clear hf hp P2 K2
 go_wp2_with fail
 refine (takeRestF g s n3 _ P3.out HS.out).mono ?_
 rintro e w4 ⟨rfl, hk⟩
 have K4 : Hid (PKeep g w w4) := K3.out.trans hk
 have B4 := Hid.mk (hk.blk B3.out (by have := HG.out; omega))
 have HL : Hid ((lf s n3).size ≤ 1048576) := by unfold Hid; rw [lf_size]; have := HS.out; omega
 generalize hd : lf s n3 = d at HL
 have HE : Hid (lf s n3 = d) := hd
 clear hk B3 K3 P3 hd
 obtain ⟨c0, c1, c2, c3⟩ := cellsC4 (Blk.new w4 #[.int .i64 z0, .int .i64 z1, .int .i64 z2, .string d] 46)
 have hsz : w.heap.size ≤ w4.heap.size := K4.out.1.size
 have K5 : Hid (PKeep g w (w4.alloc (.cells #[.int .i64 z0, .int .i64 z1, .int .i64 z2, .string d] 46))) := K4.out.alloc HG.out _
 have B5 := Hid.mk (B4.out.alloc (.cells #[.int .i64 z0, .int .i64 z1, .int .i64 z2, .string d] 46))
 have A5 := Hid.mk (Blk.new w4 #[.int .i64 z0, .int .i64 z1, .int .i64 z2, .string d] 46)
 have HZ : Hid (w.heap.size ≤ w4.heap.size) := hsz
 clear K4 B4 hsz
 go_wp2_with fail
 generalize w4.alloc (.cells #[.int .i64 z0, .int .i64 z1, .int .i64 z2, .string d] 46) = V at *
 refine (implAnswerOk ⟨z0, z1, z2, d⟩ _ (by have := HL.out; simp only [maxLen]; omega)).mono ?_
 rintro e w5 ⟨rfl, hb⟩
 have K6 : Hid (PKeep g w w5) := K5.out.below HG.out hb
 have B6 := Hid.mk (B5.out.on hb B5.out.lt)
 have A6 := Hid.mk (A5.out.on hb A5.out.lt)
 clear hb c0 c1 c2 c3 K5 B5 A5
 cases ho : ansOk ⟨z0, z1, z2, d⟩
 ·have HN : Hid (∀ x, ¬ AnsRd s x) := by
   rintro x ⟨c, i, m, n, h1, rfl, h3⟩
   obtain ⟨e, rfl⟩ := h1.one R3.out
   simp only [List.nil_append, List.cons_append, List.cons.injEq, and_true] at e
   obtain ⟨rfl, rfl, rfl⟩ := e
   rw [HE.out, ho] at h3
   cases h3
  clear ho
  go_wp2_with fail
  refine (need_no _).mono ?_
  rintro e w6 ⟨rfl, rfl⟩
  go_wp2_with fail
  exact ⟨rfl, .inr ⟨HN.out, rfl⟩, K6.out⟩
 have HX : Hid (AnsRd s ⟨z0, z1, z2, d⟩) := ⟨z0, z1, z2, n3, R3.out, by rw [HE.out], ho⟩
 clear ho
 go_wp2_with fail
 refine (need_yes _).mono ?_
 rintro e w6 ⟨rfl, rfl⟩
 obtain ⟨c0, c1, c2, c3⟩ := cellsC4 A6.out
 go_wp2_with fail
 refine (copyAns ⟨z0, z1, z2, d⟩ _ HL.out).mono ?_
 rintro e w6 ⟨rfl, hb⟩
 have K7 : Hid (PKeep g w w6) := K6.out.below HG.out hb
 have B7 := Hid.mk (B6.out.on hb B6.out.lt)
 clear hb c0 c1 c2 c3 K6 B6 A6
 unfold vAns
 obtain ⟨⟨r0, s0⟩, ⟨r1, s1⟩, ⟨r2, s2⟩, ⟨r3, s3⟩, y0, y1, y2, y3⟩ := resC4 (x0 := .int .i64 z0) (x1 := .int .i64 z1) (x2 := .int .i64 z2) (x3 := .string d) B7.out
 go_wp2_with fail
 have hgs := Nat.le_of_lt HG.out
 exact bodyPost_ret (v := .agg #[.int .i64 z0, .int .i64 z1, .int .i64 z2, .string d]) (by simp [results, go_sem, y0, y1, y2, y3]) rfl ⟨.inl ⟨_, HX.out, rfl⟩, (((K7.out.setNew (Nat.le_refl _) hgs _ _).setNew (Nat.le_refl _) hgs _ _).setNew (Nat.le_refl _) hgs _ _).setNew (Nat.le_refl _) hgs _ _⟩
end Go.Proofs.YtifmjdakefkbiaaGreatDoor
namespace Go.Proofs.YtifmjdakefkbiaaGreatDoor
open Go.ChangeShapes Go.WideShapes Go.ChangeAt Go.RowKit Go.PlainAid
set_option linter.unusedVariables false
set_option maxHeartbeats 1000000 in
theorem specVars (s : ByteArray) (a k0 : Nat) (w : World) (hs : s.size ≤ 1048576) (ha : a ≤ 2097152) (h2 : k0 ≤ 60) :
  Calls Tryz.prog 66 #[.string s, .int .i64 (a : Int), .int .i64 (k0 : Int)] w fun e w' => ((∃ l n u, RdF s a k0 l n ∧ e = .returned (.tuple #[u, .int .i64 (n : Int)]) ∧ Nums w' w.heap.size u l) ∨ ((∀ l n, ¬ RdF s a k0 l n) ∧ ∃ u, e = .returned (.tuple #[u, .int .i64 (-1)]))) ∧ Below w.heap.size w w' := by
 have q2 : (k0 : Int) ≤ 60 := by omega
 have HS : Hid (s.size ≤ 1048576) := hs
 have HA : Hid (a ≤ 2097152) := ha
 have q3 : (s.size : Int) ≤ 1048576 := by omega
 clear hs ha
 go_enter Tryz.func66, Tryz.ntmps66
 go_wp2_with fail
 go_loopw [1, 8, 9] (fun v1 v8 v9 wr => ∃ (k n : Nat) (l : List Int), k ≤ k0 ∧ v9 = .int .i64 (k : Int) ∧ v1 = .int .i64 (n : Int) ∧ Hid (RdF s a k l n) ∧ Nums wr w.heap.size v8 l ∧ Below w.heap.size w wr) (fun _ _ i _ => k0 - (intOf i).toNat)
 case atStart => exact ⟨0, a, [], by omega, rfl, rfl, ⟨rfl, rfl⟩, Nums.empty _ _ (Nat.le_refl _), (Below.refl _ _).alloc (Nat.le_refl _) _⟩
 case round =>
  obtain ⟨k, n, l, hk, rfl, rfl, HR, hN, hb⟩ := hrel
  have HN : Hid (Nums wr w.heap.size _ l) := hN
  obtain ⟨A, c, rfl, _, _⟩ := hN.shape
  have HB : Hid (Below w.heap.size w wr) := hb
  have hln := HR.out.length
  have HLN : Hid (l.length ≤ 2097152) := by unfold Hid; omega
  clear hN hb
  by_cases hlt : k < k0
  ·have q4 : (k : Int) < (k0 : Int) := by omega
   have hnb : (n : Int) ≤ 4194304 := by have := HR.out.le; have := HA.out; omega
   by_cases hns : n ≤ s.size
   ·have q5 : (n : Int) ≤ (s.size : Int) := by omega
    have q5' : decide ((s.size : Int) < (n : Int)) = false := decide_eq_false (by omega)
    have hsx : (lf s n).size ≤ 1048576 := by rw [lf_size]; have := HS.out; omega
    have c := fun wx => spec_readVar (lf s n) wx hsx
    have HX : Hid (∀ m, FindV (lf s n) m → m ≤ s.size - n) := fun m hm => by have := hm.2.2.1; rw [lf_size] at this; omega
    have HSX0 : Hid (s.extract n s.size = lf s n) := rfl
    unfold lf at c
    clear hsx hln
    go_wp2_with fail
    refine (c _).mono ?_
    rw [HSX0.out]
    clear c HSX0
    generalize hsx' : lf s n = sx at *
    have HSX : Hid (lf s n = sx) := hsx'
    clear hsx'
    rintro e w1 ⟨hR, hb1⟩
    have HB1 : Hid (Below w.heap.size w w1) := HB.out.trans (hb1.mono HB.out.size)
    have HN1 : Hid (Nums w1 w.heap.size (.slice A l.length _) l) := HN.out.on hb1
    clear hb1
    rcases hR with ⟨m, hm, rfl⟩ | ⟨hno, rfl⟩
    ·have hmx := HX.out m hm
     have hm1 := hm.1
     have hm7 := hm.2.1
     have q6 : (m : Int) ≤ 7 := by omega
     have q7 : (1 : Int) ≤ (m : Int) := by omega
     have q8 : ¬ (m : Int) = 0 := by omega
     have q9 : ¬ m = 0 := by omega
     have HM : Hid (FindV sx m) := hm
     have HZ : Hid (w.heap.size ≤ w1.heap.size) := HB1.out.size
     generalize hz : (vvS sx 0 m : Int) = z at *
     have HR2 : Hid (RdF s a (k + 1) (l ++ [z]) (n + m)) := by
      refine ⟨l, n, m, HR.out, ?_, ?_, rfl⟩
      ·rw [HSX.out]; exact HM.out
      ·rw [HSX.out, hz]
     clear hz hm
     go_wp2_with (at_builtin; refine wpList_append_num rfl (.tmp 33) (.tmp 35) 101 rfl Tryz.underlying101 Tryz.infoInt w.heap.size _ l rfl HN1.out z rfl HLN.out HZ.out ?_; intro v' w2 hN2 hb2 hk2)
     go_roundw
     case rel => exact ⟨k + 1, n + m, l ++ [z], by omega, by go_num, by go_num, HR2, hN2, HB1.out.trans hb2⟩
     case measure => simp [intOf]; omega
    ·have HNO : Hid (∀ l n, ¬ RdF s a k0 l n) := HR.out.no hlt (by rw [HSX.out]; exact hno)
     clear hno
     go_wp2_with fail
     go_ret2
     exact ⟨.inr ⟨HNO.out, _, rfl⟩, HB1.out⟩
   ·have q5 : decide ((s.size : Int) < (n : Int)) = true := decide_eq_true (by omega)
    have HNO : Hid (∀ l n, ¬ RdF s a k0 l n) := HR.out.no hlt (fun m hm => by have h3 := hm.2.2.1; have h1 := hm.1; rw [lf_size] at h3; omega)
    clear hln
    go_wp2_with fail
    go_ret2
    exact ⟨.inr ⟨HNO.out, _, rfl⟩, HB.out⟩
  ·obtain rfl : k = k0 := by omega
   go_wp2_with fail
   go_ret2
   exact ⟨.inl ⟨l, n, _, HR.out, rfl, HN.out⟩, HB.out⟩
end Go.Proofs.YtifmjdakefkbiaaGreatDoor
namespace Go.Proofs.YtifmjdakefkbiaaGreatDoor
open Go.ChangeShapes Go.WideShapes Go.ChangeAt Go.RowKit Go.PlainAid
set_option linter.unusedVariables false
theorem ansOk_in {x : Ans} (h : ansOk x = true) : (0 ≤ x.code ∧ x.code ≤ 4) ∧ (0 ≤ x.index ∧ x.index ≤ 100000) ∧ (0 ≤ x.mark ∧ x.mark ≤ 1099511627776) ∧ x.data.size ≤ 900 := by
 unfold ansOk inRg at h
 simp only [Bool.and_eq_true, decide_eq_true_eq] at h
 omega
set_option maxHeartbeats 2000000 in
theorem specShowAnswer (x : Ans) (w : World) (hd : x.data.size ≤ maxLen) : Calls Tryz.prog 86 #[vAns x] w fun e w' => e = .returned (.string (ansT x)) ∧ Below w.heap.size w w' := by
 have c0 := fun wx => specAnswerOk x wx hd
 have hb0 := below_a1 w (.cells #[.int .i64 x.code, .int .i64 x.index, .int .i64 x.mark, .string x.data] 46)
 have k0 := Cell4.new w x 46
 cases ho : ansOk x
 ·have HT : Hid (ansT x = ⟨#[]⟩) := by unfold Hid ansT; rw [ho]; rfl
  rw [ho] at c0
  unfold vAns at *
  clear ho hd k0
  go_enter Tryz.func86, Tryz.ntmps86
  go_wp2_with fail
  generalize w.alloc (.cells #[.int .i64 x.code, .int .i64 x.index, .int .i64 x.mark, .string x.data] 46) = W at *
  refine (c0 _).mono ?_
  rintro e w1 ⟨rfl, hb1⟩
  have B1 : Hid (Below w.heap.size w w1) := hb0.trans (hb1.mono hb0.size)
  clear hb0 hb1 c0
  go_wp2_with fail
  go_ret
  exact ⟨by rw [HT.out]; rfl, B1.out⟩
 obtain ⟨⟨a1, a2⟩, ⟨a3, a4⟩, ⟨a5, a6⟩, a7⟩ := ansOk_in ho
 have HT : Hid (ansT x = txt (vF 6 x.code.toNat) ++ txt (vF 6 x.index.toNat) ++ txt (vF 6 x.mark.toNat) ++ x.data) := by unfold Hid ansT; rw [if_pos ho]
 rw [ho] at c0
 clear ho hd
 obtain ⟨c, i, m, d⟩ := x
 simp only at *
 obtain ⟨cn, rfl⟩ : ∃ cn : Nat, c = (cn : Int) := ⟨c.toNat, by omega⟩
 obtain ⟨jn, rfl⟩ : ∃ cn : Nat, i = (cn : Int) := ⟨i.toNat, by omega⟩
 obtain ⟨mn, rfl⟩ : ∃ cn : Nat, m = (cn : Int) := ⟨m.toNat, by omega⟩
 simp only [Int.toNat_natCast] at HT
 have c1 := fun wx => spec_var cn wx (by omega)
 have c2 := fun wx => spec_var jn wx (by omega)
 have c3 := fun wx => spec_var mn wx (by omega)
 have l1 : (txt (vF 6 cn)).size ≤ 7 := by rw [txt_size]; exact vF_length 6 cn
 have l2 : (txt (vF 6 jn)).size ≤ 7 := by rw [txt_size]; exact vF_length 6 jn
 have l3 : (txt (vF 6 mn)).size ≤ 7 := by rw [txt_size]; exact vF_length 6 mn
 generalize txt (vF 6 cn) = t1 at *
 generalize txt (vF 6 jn) = t2 at *
 generalize txt (vF 6 mn) = t3 at *
 have p1 : ¬ 9223372036854775807 < t1.size + t2.size := by omega
 have p2 : ¬ 9223372036854775807 < t1.size + t2.size + t3.size := by omega
 have p3 : ¬ 9223372036854775807 < t1.size + t2.size + t3.size + d.size := by omega
 clear a1 a2 a3 a4 a5 a6 a7 l1 l2 l3
 unfold vAns at *
 simp only at *
 go_enter Tryz.func86, Tryz.ntmps86
 go_wp2_with fail
 generalize w.alloc (.cells #[.int .i64 (cn : Int), .int .i64 (jn : Int), .int .i64 (mn : Int), .string d] 46) = W at *
 refine (c0 _).mono ?_
 rintro e y1 ⟨rfl, hb1⟩
 have B1 : Hid (Below w.heap.size w y1) := hb0.trans (hb1.mono hb0.size)
 have Q1 := Hid.mk (k0.on hb1 k0.2.2.2.2 (Nat.le_refl _))
 clear hb0 hb1 c0 k0
 go_wp2_with fail
 have SS : Hid (y1.drew.cell? ⟨w.heap.size, 0, none⟩ = some (.int .i64 (cn : Int)) ∧ y1.drew.cell? ⟨w.heap.size, 1, none⟩ = some (.int .i64 (jn : Int)) ∧ y1.drew.cell? ⟨w.heap.size, 2, none⟩ = some (.int .i64 (mn : Int)) ∧ y1.drew.cell? ⟨w.heap.size, 3, none⟩ = some (.string d)) := ⟨Q1.out.1, Q1.out.2.1, Q1.out.2.2.1, Q1.out.2.2.2.1⟩
 have B1' : Hid (Below w.heap.size w y1.drew) := B1.out.drew
 have Q1' : Hid (Cell4 y1.drew w.heap.size ⟨(cn : Int), (jn : Int), (mn : Int), d⟩) := Q1.out
 refine wp_region_until (fun w' => w'.cell? ⟨w.heap.size, 0, none⟩ = some (.int .i64 (cn : Int)) ∧ w'.cell? ⟨w.heap.size, 1, none⟩ = some (.int .i64 (jn : Int)) ∧ w'.cell? ⟨w.heap.size, 2, none⟩ = some (.int .i64 (mn : Int)) ∧ w'.cell? ⟨w.heap.size, 3, none⟩ = some (.string d)) (fun i => false) 15 (by rfl) (by kernel_rfl) ?_
 clear Q1 B1
 generalize y1.drew = y0 at *
 have B1 := B1'
 have Q1 := Q1'
 clear B1' Q1'
 refine tKf 0 SS.out ?_
 refine tKf 1 SS.out ?_
 refine tKf 3 SS.out ?_
 refine tKf 4 SS.out ?_
 refine tKf 7 SS.out ?_
 refine tKf 8 SS.out ?_
 refine tKf 11 SS.out ?_
 refine tKf 12 SS.out ?_
 refine uNe 2 (fun K hK => ?_)
 go_simp
 refine (c1 _).mono ?_
 rintro e y2 ⟨rfl, hb⟩
 have B2 : Hid (Below w.heap.size w y2) := B1.out.trans (hb.mono B1.out.size)
 have Q2 := Hid.mk (Q1.out.on hb Q1.out.2.2.2.2 (Nat.le_refl _))
 clear hb SS Q1 B1
 have SS : Hid (y2.cell? ⟨w.heap.size, 0, none⟩ = some (.int .i64 (cn : Int)) ∧ y2.cell? ⟨w.heap.size, 1, none⟩ = some (.int .i64 (jn : Int)) ∧ y2.cell? ⟨w.heap.size, 2, none⟩ = some (.int .i64 (mn : Int)) ∧ y2.cell? ⟨w.heap.size, 3, none⟩ = some (.string d)) := ⟨Q2.out.1, Q2.out.2.1, Q2.out.2.2.1, Q2.out.2.2.2.1⟩
 go_wp2_with fail
 refine hK.out _ _ (fun _ _ => SS.out) ?_
 clear hK K
 try simp only [Act.put, zQ1, zQ2, zQ3]
 refine uNe 5 (fun K hK => ?_)
 go_simp
 refine (c2 _).mono ?_
 rintro e y3 ⟨rfl, hb⟩
 have B3 : Hid (Below w.heap.size w y3) := B2.out.trans (hb.mono B2.out.size)
 have Q3 := Hid.mk (Q2.out.on hb Q2.out.2.2.2.2 (Nat.le_refl _))
 clear hb SS Q2 B2
 have SS : Hid (y3.cell? ⟨w.heap.size, 0, none⟩ = some (.int .i64 (cn : Int)) ∧ y3.cell? ⟨w.heap.size, 1, none⟩ = some (.int .i64 (jn : Int)) ∧ y3.cell? ⟨w.heap.size, 2, none⟩ = some (.int .i64 (mn : Int)) ∧ y3.cell? ⟨w.heap.size, 3, none⟩ = some (.string d)) := ⟨Q3.out.1, Q3.out.2.1, Q3.out.2.2.1, Q3.out.2.2.2.1⟩
 go_wp2_with fail
 refine hK.out _ _ (fun _ _ => SS.out) ?_
 clear hK K
 try simp only [Act.put, zQ1, zQ2, zQ3]
 refine pUf 6 ?_
 refine uNe 9 (fun K hK => ?_)
 go_simp
 refine (c3 _).mono ?_
 rintro e y4 ⟨rfl, hb⟩
 have B4 : Hid (Below w.heap.size w y4) := B3.out.trans (hb.mono B3.out.size)
 have Q4 := Hid.mk (Q3.out.on hb Q3.out.2.2.2.2 (Nat.le_refl _))
 clear hb SS Q3 B3
 have SS : Hid (y4.cell? ⟨w.heap.size, 0, none⟩ = some (.int .i64 (cn : Int)) ∧ y4.cell? ⟨w.heap.size, 1, none⟩ = some (.int .i64 (jn : Int)) ∧ y4.cell? ⟨w.heap.size, 2, none⟩ = some (.int .i64 (mn : Int)) ∧ y4.cell? ⟨w.heap.size, 3, none⟩ = some (.string d)) := ⟨Q4.out.1, Q4.out.2.1, Q4.out.2.2.1, Q4.out.2.2.2.1⟩
 go_wp2_with fail
 refine hK.out _ _ (fun _ _ => SS.out) ?_
 clear hK K
 try simp only [Act.put, zQ1, zQ2, zQ3]
 refine pUf 10 ?_
 refine pUf 13 ?_
 refine pUf 14 ?_
 refine until_done (by kernel_rfl) ?_ _
 go_wp2_with fail
 go_ret
 exact ⟨by rw [HT.out]; rfl, B4.out⟩
end Go.Proofs.YtifmjdakefkbiaaGreatDoor
namespace Go.Proofs.YtifmjdakefkbiaaGreatDoor
open Go.ChangeShapes Go.WideShapes Go.ChangeAt Go.RowKit Go.PlainAid
set_option linter.unusedVariables false
structure Cmx where
 client : Int
 serial : Int
 op : Opx
def vCmd (x : Cmx) : Value := .agg #[.int .i64 x.client, .int .i64 x.serial, .int .i64 x.op.kind, .string x.op.key, .int .i64 x.op.frm, .int .i64 x.op.til, .string x.op.data]
def trnOk (x : Cmx) : Bool := inRg x.client 1 4 && inRg x.serial 1 1000000
theorem opT_none {x : Opx} (h : opOk x = false) : opT x = ⟨#[]⟩ := by unfold opT; rw [h]; rfl
theorem opT_size (x : Opx) : (opT x).size ≤ 31 + x.data.size := by
 cases h : opOk x
 ·rw [opT_none h]; exact Nat.zero_le _
 ·have hk := (opOk_in h).2.1
  have l1 := vF_length 6 x.key.size
  have l2 := vF_length 6 x.frm.toNat
  have l3 := vF_length 6 x.til.toNat
  unfold opT
  rw [if_pos h]
  simp only [ByteArray.size_append, txt_size, List.length_cons, List.length_nil]
  omega
end Go.Proofs.YtifmjdakefkbiaaGreatDoor
namespace Go.Proofs.YtifmjdakefkbiaaGreatDoor
open Go.ChangeShapes Go.WideShapes Go.ChangeAt Go.RowKit Go.PlainAid
set_option linter.unusedVariables false
theorem ansT_small (x : Ans) : (ansT x).size ≤ 21 + x.data.size := by
 unfold ansT
 split
 ·have h1 := vF_length 6 x.code.toNat
  have h2 := vF_length 6 x.index.toNat
  have h3 := vF_length 6 x.mark.toNat
  simp only [ByteArray.size_append, txt_size]
  omega
 ·have : (⟨#[]⟩ : ByteArray).size = 0 := rfl
  omega
set_option maxRecDepth 20000 in
set_option maxHeartbeats 8000000 in
theorem mail_any (w : World) (p : Nat) (h : AtS w p) : Calls Tryz.prog 78 #[.pointer (some ⟨p, 0, none⟩)] w (DrawnM w p) := by
 have S0 : Hid (RsD w p w.heap.size 31 (w.alloc (.cells #[.int .i64 0, .int .i64 0, .int .i64 0, .int .i64 0, .int .i64 0, .int .i64 0, .int .i64 0, .bool false, .slice none 0 0, .string ⟨#[]⟩] 31)) #[.int .i64 0, .int .i64 0, .int .i64 0, .int .i64 0, .int .i64 0, .int .i64 0, .int .i64 0, .bool false, .slice none 0 0, .string ⟨#[]⟩]) := RsD.start h _ _
 clear h
 go_enter Tryz.func78, Tryz.ntmps78
 go_wp2_with fail
 generalize w.alloc (.cells #[.int .i64 0, .int .i64 0, .int .i64 0, .int .i64 0, .int .i64 0, .int .i64 0, .int .i64 0, .bool false, .slice none 0 0, .string ⟨#[]⟩] 31) = w0 at *
 refine (belowS w0 p 4 (by omega) (by omega) S0.out.a).mono ?_
 rintro e w1 ⟨a, rfl, ⟨a0, a1⟩, hA, hm⟩
 have S1 : Hid (RsD w p w.heap.size 31 w1 #[.int .i64 0, .int .i64 0, .int .i64 0, .int .i64 0, .int .i64 0, .int .i64 0, .int .i64 0, .bool false, .slice none 0 0, .string ⟨#[]⟩]) := S0.out.draw hA hm
 clear hA hm S0
 go_wp2_with fail
 refine (belowS w1 p 5 (by omega) (by omega) S1.out.a).mono ?_
 rintro e w2 ⟨b, rfl, -, hA, hm⟩
 have S2 : Hid (RsD w p w.heap.size 31 w2 #[.int .i64 0, .int .i64 0, .int .i64 0, .int .i64 0, .int .i64 0, .int .i64 0, .int .i64 0, .bool false, .slice none 0 0, .string ⟨#[]⟩]) := S1.out.draw hA hm
 clear hA hm S1
 go_wp2_with fail
 refine (once_some w2 p 2 (by omega) S2.out.a).mono ?_
 rintro e w3 ⟨o, rfl, hA, hm⟩
 have S3 : Hid (RsD w p w.heap.size 31 w3 #[.int .i64 0, .int .i64 0, .int .i64 0, .int .i64 0, .int .i64 0, .int .i64 0, .int .i64 0, .bool false, .slice none 0 0, .string ⟨#[]⟩]) := S2.out.draw hA hm
 clear hA hm S2
 cases o
 ·go_wp2_with fail
  refine (belowS w3 p 4 (by omega) (by omega) S3.out.a).mono ?_
  rintro e w4 ⟨x, rfl, ⟨x0, x1⟩, hA, hm⟩
  have S4 : Hid (RsD w p w.heap.size 31 w4 #[.int .i64 0, .int .i64 0, .int .i64 0, .int .i64 0, .int .i64 0, .int .i64 0, .int .i64 0, .bool false, .slice none 0 0, .string ⟨#[]⟩]) := S3.out.draw hA hm
  clear hA hm S3
  go_wp2_with fail
  refine (answer_any w4 p S4.out.a).mono ?_
  rintro e w5 ⟨ax, rfl, hdx, hA, hm⟩
  have S5 : Hid (RsD w p w.heap.size 31 w5 #[.int .i64 0, .int .i64 0, .int .i64 0, .int .i64 0, .int .i64 0, .int .i64 0, .int .i64 0, .bool false, .slice none 0 0, .string ⟨#[]⟩]) := S4.out.draw hA hm
  clear hA hm S4
  have HDX : Hid (ax.data.size ≤ 1000) := hdx
  clear hdx
  go_wp2_with fail
  refine (specShowAnswer ax w5 (by have := HDX.out; unfold maxLen; omega)).mono ?_
  rintro e w6 ⟨rfl, hb⟩
  have S6 : Hid (RsD w p w.heap.size 31 w6 #[.int .i64 0, .int .i64 0, .int .i64 0, .int .i64 0, .int .i64 0, .int .i64 0, .int .i64 0, .bool false, .slice none 0 0, .string ⟨#[]⟩]) := S5.out.below hb
  clear hb S5
  have HDT : Hid ((ansT ax).size ≤ 3000) := by have := ansT_small ax; have := HDX.out; unfold Hid; omega
  generalize ansT ax = tx at *
  obtain ⟨⟨r0, q0⟩, ⟨r1, q1⟩, ⟨r2, q2⟩, ⟨r3, q3⟩, ⟨r4, q4⟩, ⟨r5, q5⟩, ⟨r6, q6⟩, ⟨r7, q7⟩, ⟨r8, q8⟩, ⟨r9, q9⟩, n0, n1, n2, n3, n4, n5, n6, n7, n8, n9⟩ := resC10 (x0 := .int .i64 7) (x1 := .int .i64 b) (x2 := .int .i64 (11 + a)) (x3 := .int .i64 0) (x4 := .int .i64 (1 + x)) (x5 := .int .i64 0) (x6 := .int .i64 0) (x7 := .bool false) (x8 := .slice none 0 0) (x9 := .string tx) S6.out.res
  have FF := ((((((((((S6.out.setR 0 (.int .i64 7)).setR 1 (.int .i64 b)).setR 2 (.int .i64 (11 + a))).setR 3 (.int .i64 0)).setR 4 (.int .i64 (1 + x))).setR 5 (.int .i64 0)).setR 6 (.int .i64 0)).setR 7 (.bool false)).setR 8 (.slice none 0 0)).setR 9 (.string tx))
  have HA := Hid.mk FF.a
  have HM := Hid.mk FF.m
  clear FF S6
  go_wp2_with fail
  exact bodyPost_ret (v := .agg #[.int .i64 7, .int .i64 b, .int .i64 (11 + a), .int .i64 0, .int .i64 (1 + x), .int .i64 0, .int .i64 0, .bool false, .slice none 0 0, .string tx]) (by simp [results, go_sem, n0, n1, n2, n3, n4, n5, n6, n7, n8, n9]) rfl ⟨⟨_, _, _, _, _, _, _, _, [], _⟩, _, rfl, ⟨_, rfl, Owns.nil _ _ _ _⟩, Nat.zero_le _, fun _ h => (by cases h), HDT.out, HA.out, HM.out⟩
 ·go_wp2_with fail
  refine (belowS w3 p 4 (by omega) (by omega) S3.out.a).mono ?_
  rintro e w4 ⟨x, rfl, ⟨x0, x1⟩, hA, hm⟩
  have S4 : Hid (RsD w p w.heap.size 31 w4 #[.int .i64 0, .int .i64 0, .int .i64 0, .int .i64 0, .int .i64 0, .int .i64 0, .int .i64 0, .bool false, .slice none 0 0, .string ⟨#[]⟩]) := S3.out.draw hA hm
  clear hA hm S3
  go_wp2_with fail
  refine (belowS w4 p 2 (by omega) (by omega) S4.out.a).mono ?_
  rintro e w5 ⟨k, rfl, ⟨k0, k1⟩, hA, hm⟩
  have S5 : Hid (RsD w p w.heap.size 31 w5 #[.int .i64 0, .int .i64 0, .int .i64 0, .int .i64 0, .int .i64 0, .int .i64 0, .int .i64 0, .bool false, .slice none 0 0, .string ⟨#[]⟩]) := S4.out.draw hA hm
  clear hA hm S4
  go_wp2_with fail
  refine (op_any w5 p (1 + k) (by omega) S5.out.a).mono ?_
  rintro e w6 ⟨ox, rfl, hkx, hdx, hA, hm⟩
  have S6 : Hid (RsD w p w.heap.size 31 w6 #[.int .i64 0, .int .i64 0, .int .i64 0, .int .i64 0, .int .i64 0, .int .i64 0, .int .i64 0, .bool false, .slice none 0 0, .string ⟨#[]⟩]) := S5.out.draw hA hm
  clear hA hm S5
  have HKX : Hid (ox.key.size ≤ 9) := hkx
  have HDX : Hid (ox.data.size ≤ 2000) := hdx
  clear hdx hkx
  go_wp2_with fail
  refine (specShowOp ox w6 (by have := HKX.out; unfold maxLen; omega) (by have := HDX.out; omega)).mono ?_
  rintro e w7 ⟨rfl, hb⟩
  have S7 : Hid (RsD w p w.heap.size 31 w7 #[.int .i64 0, .int .i64 0, .int .i64 0, .int .i64 0, .int .i64 0, .int .i64 0, .int .i64 0, .bool false, .slice none 0 0, .string ⟨#[]⟩]) := S6.out.below hb
  clear hb S6
  have HDT : Hid ((opT ox).size ≤ 3000) := by have := opT_size ox; have := HDX.out; unfold Hid; omega
  generalize opT ox = tx at *
  obtain ⟨⟨r0, q0⟩, ⟨r1, q1⟩, ⟨r2, q2⟩, ⟨r3, q3⟩, ⟨r4, q4⟩, ⟨r5, q5⟩, ⟨r6, q6⟩, ⟨r7, q7⟩, ⟨r8, q8⟩, ⟨r9, q9⟩, n0, n1, n2, n3, n4, n5, n6, n7, n8, n9⟩ := resC10 (x0 := .int .i64 6) (x1 := .int .i64 (11 + a)) (x2 := .int .i64 b) (x3 := .int .i64 0) (x4 := .int .i64 (1 + x)) (x5 := .int .i64 0) (x6 := .int .i64 0) (x7 := .bool false) (x8 := .slice none 0 0) (x9 := .string tx) S7.out.res
  have FF := ((((((((((S7.out.setR 0 (.int .i64 6)).setR 1 (.int .i64 (11 + a))).setR 2 (.int .i64 b)).setR 3 (.int .i64 0)).setR 4 (.int .i64 (1 + x))).setR 5 (.int .i64 0)).setR 6 (.int .i64 0)).setR 7 (.bool false)).setR 8 (.slice none 0 0)).setR 9 (.string tx))
  have HA := Hid.mk FF.a
  have HM := Hid.mk FF.m
  clear FF S7
  go_wp2_with fail
  exact bodyPost_ret (v := .agg #[.int .i64 6, .int .i64 (11 + a), .int .i64 b, .int .i64 0, .int .i64 (1 + x), .int .i64 0, .int .i64 0, .bool false, .slice none 0 0, .string tx]) (by simp [results, go_sem, n0, n1, n2, n3, n4, n5, n6, n7, n8, n9]) rfl ⟨⟨_, _, _, _, _, _, _, _, [], _⟩, _, rfl, ⟨_, rfl, Owns.nil _ _ _ _⟩, Nat.zero_le _, fun _ h => (by cases h), HDT.out, HA.out, HM.out⟩
end Go.Proofs.YtifmjdakefkbiaaGreatDoor
namespace Go.Proofs.YtifmjdakefkbiaaGreatDoor
set_option linter.unusedVariables false
section
variable {P : Program} {Q : Exit → Act → World → Prop} {md : Region.Mode} {S : World → Prop} {T : Nat → Bool}
theorem tF {l : List Oper} (i : Nat) {oi : Oper} {rest : List Oper} {v : Value} {fuel : Nat} {listed : Array Bool} {a b : Act} {w : World} (hS : S w) (h : wpUntil P md l.toArray Q S T fuel (listed.setIfInBounds i true) b w) (hd : l.drop i = oi :: rest := by rfl) (hB : takeB md l.toArray T listed i = true := by kernel_rfl) (hw : Region.wanted oi (yielded l.toArray a.tmps) = true := by rfl) (hy : ∀ w, S w → (execOp a.eval oi).run P w = .ok (.value v) w := by intro w hSw; (try dsimp only at hSw); go_simp; try with_reducible rfl) (hb : a.put oi.dst v = b := by (try simp only [Act.put, zQ1, zQ2, zQ3]); exact rfl) (hQ : ∀ c a w, Q (.panic c) (a.put oi.dst v) w → Q (.panic c) a w := by exact fun _ _ _ h => h) : wpUntil P md l.toArray Q S T (fuel + 1) listed a w := until_take i hd hB hQ hw hy hS (hb ▸ h)
theorem pF {l : List Oper} (i : Nat) {oi : Oper} {rest : List Oper} {v : Value} {fuel : Nat} {listed : Array Bool} {a b : Act} {w : World} (h : wpUntil P md l.toArray Q S T fuel (listed.setIfInBounds i true) b w) (hd : l.drop i = oi :: rest := by rfl) (hB : pureB md l.toArray listed i = true := by kernel_rfl) (hw : Region.wanted oi (yielded l.toArray a.tmps) = true := by rfl) (hy : ∀ w, (execOp a.eval oi).run P w = .ok (.value v) w := by intro w; go_simp; try with_reducible rfl) (hb : a.put oi.dst v = b := by (try simp only [Act.put, zQ1, zQ2, zQ3]); exact rfl) (hQ : ∀ c a w, Q (.panic c) (a.put oi.dst v) w → Q (.panic c) a w := by exact fun _ _ _ h => h) : wpUntil P md l.toArray Q S T (fuel + 1) listed a w := until_pure i hd hB hQ hw hy (hb ▸ h)
end
end Go.Proofs.YtifmjdakefkbiaaGreatDoor
namespace Go.Proofs.YtifmjdakefkbiaaGreatDoor
open Go.ChangeShapes Go.WideShapes Go.ChangeAt Go.RowKit Go.PlainAid
set_option linter.unusedVariables false
theorem BxD.all10 {w wc : World} {p g r : Nat} {T : TypeId} {Z : Array Value} {a0 a1 a2 a3 a4 a5 a6 a7 a8 a9 : Value} (S : BxD w p g r T wc Z #[a0, a1, a2, a3, a4, a5, a6, a7, a8, a9]) (x0 x1 x2 x3 x4 x5 x6 x7 x8 x9 : Value) : BxD w p g r T ((((((((((wc.setCell ⟨g, 0, none⟩ x0).setCell ⟨g, 1, none⟩ x1).setCell ⟨g, 2, none⟩ x2).setCell ⟨g, 3, none⟩ x3).setCell ⟨g, 4, none⟩ x4).setCell ⟨g, 5, none⟩ x5).setCell ⟨g, 6, none⟩ x6).setCell ⟨g, 7, none⟩ x7).setCell ⟨g, 8, none⟩ x8).setCell ⟨g, 9, none⟩ x9) Z #[x0, x1, x2, x3, x4, x5, x6, x7, x8, x9] :=
 have F := ((((((((((S.set 0 x0).set 1 x1).set 2 x2).set 3 x3).set 4 x4).set 5 x5).set 6 x6).set 7 x7).set 8 x8).set 9 x9)
 ⟨blkC10 S.box, F.res, F.a, F.m, S.hp, S.hg, S.hr, S.ne⟩
theorem cell_alloc_w {w : World} {a : Addr} {x : Value} (h : w.cell? a = some x) (o : Obj) : (w.alloc o).cell? a = some x := by
 rw [((Below.refl w.heap.size w).alloc (Nat.le_refl _) o).cell (World.block_lt_of_cell? _ _ h)]
 exact h
def DrawnM9 (w : World) (p : Nat) (e : Ending) (w' : World) : Prop := ∃ (x : Mg) (u : Value), e = .returned u ∧ MgO w' w.heap.size u x ∧ x.ents.length ≤ 9 ∧ (∀ y ∈ x.ents, y.data.size ≤ 1000) ∧ x.data.size ≤ 3001 ∧ AtS w' p ∧ Mod w.heap.size p w w'
def MgB9 (w : World) (p g : Nat) (wc : World) (k f d t i it c : Int) (y : Bool) (ua : Option Addr) (um uc : Nat) (es : List Ent) (da : ByteArray) : Prop :=
 (es.length ≤ 9 ∧ (∀ y ∈ es, y.data.size ≤ 1000) ∧ da.size ≤ 3001) ∧ Owns wc w.heap.size 75 2 (.slice ua um uc) (entR es) ∧ BxD w p g w.heap.size 31 wc #[.int .i64 0, .int .i64 0, .int .i64 0, .int .i64 0, .int .i64 0, .int .i64 0, .int .i64 0, .bool false, .slice none 0 0, .string ⟨#[]⟩] #[.int .i64 k, .int .i64 f, .int .i64 d, .int .i64 t, .int .i64 i, .int .i64 it, .int .i64 c, .bool y, .slice ua um uc, .string da]
section
variable {w wc : World} {p g : Nat} {k f d t i it c : Int} {y : Bool} {ua : Option Addr} {um uc : Nat} {es : List Ent} {da : ByteArray}
theorem MgB.nine (h : MgB w p g wc k f d t i it c y ua um uc es da) : MgB9 w p g wc k f d t i it c y ua um uc es da := ⟨⟨by have := h.1.1; omega, h.1.2.1, by have := h.1.2.2; omega⟩, h.2.1, h.2.2⟩
theorem MgB.more (h : MgB w p g wc k f d t i it c y ua um uc es da) {z : Int} : (es ++ [(⟨z, ⟨#[]⟩⟩ : Ent)]).length ≤ 9 ∧ (∀ y ∈ es ++ [(⟨z, ⟨#[]⟩⟩ : Ent)], y.data.size ≤ 1000) ∧ da.size ≤ 3001 := by
 refine ⟨by have := h.1.1; simp; omega, fun x hx => ?_, by have := h.1.2.2; omega⟩
 rcases List.mem_append.1 hx with hx | hx
 ·exact h.1.2.1 x hx
 ·rw [List.mem_singleton.1 hx]; exact Nat.zero_le _
theorem MgB.longer (h : MgB w p g wc k f d t i it c y ua um uc es da) : es.length ≤ 9 ∧ (∀ y ∈ es, y.data.size ≤ 1000) ∧ (da ++ ⟨#[120]⟩).size ≤ 3001 := by
 refine ⟨by have := h.1.1; omega, h.1.2.1, ?_⟩
 rw [ByteArray.size_append]
 have := h.1.2.2
 have : (⟨#[120]⟩ : ByteArray).size = 1 := rfl
 omega
end
set_option maxRecDepth 20000 in
set_option maxHeartbeats 16000000 in
theorem anyMsg_any (w : World) (p : Nat) (h : AtS w p) : Calls Tryz.prog 34 #[.pointer (some ⟨p, 0, none⟩)] w (DrawnM9 w p) := by
 have S0 : Hid (RsD w p w.heap.size 31 (w.alloc (.cells #[.int .i64 0, .int .i64 0, .int .i64 0, .int .i64 0, .int .i64 0, .int .i64 0, .int .i64 0, .bool false, .slice none 0 0, .string ⟨#[]⟩] 31)) #[.int .i64 0, .int .i64 0, .int .i64 0, .int .i64 0, .int .i64 0, .int .i64 0, .int .i64 0, .bool false, .slice none 0 0, .string ⟨#[]⟩]) := RsD.start h _ _
 clear h
 go_enter Tryz.func34, Tryz.ntmps34
 go_wp2_with fail
 generalize w.alloc (.cells #[.int .i64 0, .int .i64 0, .int .i64 0, .int .i64 0, .int .i64 0, .int .i64 0, .int .i64 0, .bool false, .slice none 0 0, .string ⟨#[]⟩] 31) = w0 at *
 refine (msg_any w0 p S0.out.a).mono ?_
 rintro e w1 ⟨⟨k, f, d, t, i, it, c, y, es, da⟩, u, rfl, ⟨u1, rfl, hO⟩, hl, hd, hz, hA, hm⟩
 obtain ⟨ua, um, uc, rfl⟩ := hO.shape
 simp only at hl hd hz hO
 have S1 : Hid (RsD w p w.heap.size 31 w1 #[.int .i64 0, .int .i64 0, .int .i64 0, .int .i64 0, .int .i64 0, .int .i64 0, .int .i64 0, .bool false, .slice none 0 0, .string ⟨#[]⟩]) := S0.out.draw hA hm
 have O1 := Hid.mk (hO.mono S0.out.m.size)
 have HX := Hid.mk (And.intro hl (And.intro hd hz))
 clear hO hl hd hz hA hm S0
 obtain ⟨g, hg⟩ : ∃ g, g = w1.heap.size := ⟨_, rfl⟩
 have S2 : Hid (MgB w p g (w1.alloc (.cells #[.int .i64 k, .int .i64 f, .int .i64 d, .int .i64 t, .int .i64 i, .int .i64 it, .int .i64 c, .bool y, .slice ua um uc, .string da] 31)) k f d t i it c y ua um uc es da) := by rw [hg]; exact ⟨HX.out, O1.out.on ((Below.refl _ _).alloc (Nat.le_refl _) _), S1.out.box _⟩
 unfold vMg
 go_wp2_with fail
 rw [← hg]
 clear hg S1 O1 HX
 generalize w1.alloc (.cells #[.int .i64 k, .int .i64 f, .int .i64 d, .int .i64 t, .int .i64 i, .int .i64 it, .int .i64 c, .bool y, .slice ua um uc, .string da] 31) = w2 at *
 refine (once_some w2 p 3 (by omega) S2.out.a).mono ?_
 rintro e w3 ⟨o, rfl, hA, hm⟩
 have S3 : Hid (MgB w p g w3 k f d t i it c y ua um uc es da) := S2.out.draw hA hm
 clear hA hm S2
 go_upto_if 7 with fail
 go_cut [] from 4 to 9 (fun wc => ∃ (k f d t i it c : Int) (y : Bool) (ua : Option Addr) (um uc : Nat) (es : List Ent) (da : ByteArray), MgB w p g wc k f d t i it c y ua um uc es da)
 case first =>
  cases o
  ·go_wp2_with fail
   go_meet
   exact ⟨_, _, _, _, _, _, _, _, _, _, _, _, _, S3.out⟩
  ·go_wp2_with fail
   refine (mail_any w3 p S3.out.a).mono ?_
   rintro e wm ⟨⟨k2, f2, d2, t2, i2, it2, c2, y2, es2, da2⟩, u2, rfl, ⟨u3, rfl, hO⟩, hl, hd, hz, hA, hm⟩
   obtain ⟨ub, un, ud, rfl⟩ := hO.shape
   simp only at hl hd hz hO
   have S9 : Hid (MgB w p g wm k f d t i it c y ua um uc es da) := S3.out.draw hA hm
   have O9 := Hid.mk (hO.mono S3.out.2.2.m.size)
   have HX := Hid.mk (And.intro hl (And.intro hd hz))
   clear hO hl hd hz hA hm S3
   obtain ⟨⟨r0, q0⟩, ⟨r1, q1⟩, ⟨r2, q2⟩, ⟨r3, q3⟩, ⟨r4, q4⟩, ⟨r5, q5⟩, ⟨r6, q6⟩, ⟨r7, q7⟩, ⟨r8, q8⟩, ⟨r9, q9⟩, _⟩ := resC10 (x0 := .int .i64 k2) (x1 := .int .i64 f2) (x2 := .int .i64 d2) (x3 := .int .i64 t2) (x4 := .int .i64 i2) (x5 := .int .i64 it2) (x6 := .int .i64 c2) (x7 := .bool y2) (x8 := .slice ub un ud) (x9 := .string da2) S9.out.2.2.box
   have FF := Hid.mk (S9.out.2.2.all10 (.int .i64 k2) (.int .i64 f2) (.int .i64 d2) (.int .i64 t2) (.int .i64 i2) (.int .i64 it2) (.int .i64 c2) (.bool y2) (.slice ub un ud) (.string da2))
   have OE := Hid.mk (ownsC10n O9.out (O9.out.notBlk S9.out.2.2.box (by decide)) (.int .i64 k2) (.int .i64 f2) (.int .i64 d2) (.int .i64 t2) (.int .i64 i2) (.int .i64 it2) (.int .i64 c2) (.bool y2) (.slice ub un ud) (.string da2))
   clear S9 O9
   unfold vMg
   go_wp2_with fail
   go_meet
   exact ⟨_, _, _, _, _, _, _, _, _, _, _, _, _, HX.out, OE.out, FF.out⟩
 case rest =>
  obtain ⟨k, f, d, t, i, it, c, y, ua, um, uc, es, da, hS⟩ := hcut
  have S20 : Hid (MgB w p g wc k f d t i it c y ua um uc es da) := hS
  clear hS S3
  go_wp2_with fail
  refine (once_some wc p 8 (by omega) S20.out.a).mono ?_
  rintro e w4 ⟨o2, rfl, hA, hm⟩
  have S21 : Hid (MgB w p g w4 k f d t i it c y ua um uc es da) := S20.out.draw hA hm
  clear hA hm S20
  go_upto_if 11 with fail
  go_cut [] from 10 to 63 (fun wc => ∃ (k f d t i it c : Int) (y : Bool) (ua : Option Addr) (um uc : Nat) (es : List Ent) (da : ByteArray), MgB9 w p g wc k f d t i it c y ua um uc es da)
  case first =>
   cases o2
   ·go_wp2_with fail
    go_meet
    exact ⟨_, _, _, _, _, _, _, _, _, _, _, _, _, S21.out.nine⟩
   ·go_wp2_with fail
    refine (belowS w4 p 8 (by omega) (by omega) S21.out.a).mono ?_
    rintro e w5 ⟨q, rfl, ⟨q0, q1⟩, hA, hm⟩
    have S22 : Hid (MgB w p g w5 k f d t i it c y ua um uc es da) := S21.out.draw hA hm
    clear hA hm S21
    rcases (show q = 0 ∨ q = 1 ∨ q = 2 ∨ q = 3 ∨ q = 4 ∨ q = 5 ∨ q = 6 ∨ q = 7 by omega) with rfl | rfl | rfl | rfl | rfl | rfl | rfl | rfl
    ·go_wp2_with fail
     refine (belowS w5 p 12 (by omega) (by omega) S22.out.a).mono ?_
     rintro e w6 ⟨z, rfl, ⟨z0, z1⟩, hA, hm⟩
     have S23 : Hid (MgB w p g w6 k f d t i it c y ua um uc es da) := S22.out.draw hA hm
     clear hA hm S22
     have zz : IntKind.i64.wrap (z - 1) = z - 1 := by rw [IntKind.wrap_i64]; omega
     have e0 := S23.out.2.2.box.cell 0 _ rfl
     have x0 := S23.out.2.2.box.free 0
     have S24 : Hid (MgB9 w p g (w6.setCell ⟨g, 0, none⟩ (.int .i64 (z - 1))) (z - 1) f d t i it c y ua um uc es da) := ⟨S23.out.nine.1, S23.out.2.1.other (S23.out.2.1.notBlk S23.out.2.2.box (by decide)) 0 _, S23.out.2.2.set 0 _⟩
     go_wp2_with fail
     go_meet
     exact ⟨_, _, _, _, _, _, _, _, _, _, _, _, _, S24.out⟩
    ·have S23 : Hid (MgB w p g (w5.alloc (.cells #[.int .i64 (-1), .int .i64 5, .int .i64 10, .int .i64 11, .int .i64 14, .int .i64 15] 3)) k f d t i it c y ua um uc es da) := S22.out.alloc _
     have K23 : Hid (Blk (w5.alloc (.cells #[.int .i64 (-1), .int .i64 5, .int .i64 10, .int .i64 11, .int .i64 14, .int .i64 15] 3)) w5.heap.size #[.int .i64 (-1), .int .i64 5, .int .i64 10, .int .i64 11, .int .i64 14, .int .i64 15] 3) := Blk.new _ _ _
     have Z23 : Hid (w5.heap.size ≠ p) := by have := S22.out.a.lt; unfold Hid; omega
     go_wp2_with fail
     generalize w5.alloc (.cells #[.int .i64 (-1), .int .i64 5, .int .i64 10, .int .i64 11, .int .i64 14, .int .i64 15] 3) = w6 at *
     refine (pickS w6 p w5.heap.size [-1, 5, 10, 11, 14, 15] 6 rfl (by omega) (by omega) (fun _ => True) trivial (fun _ _ => trivial) S23.out.a Z23.out K23.out).mono ?_
     rintro e w7 ⟨z, rfl, -, hA, hm⟩
     have S24 : Hid (MgB w p g w7 k f d t i it c y ua um uc es da) := S23.out.draw hA hm
     clear hA hm S22 S23 K23 Z23
     have e2 := S24.out.2.2.box.cell 2 _ rfl
     have x2 := S24.out.2.2.box.free 2
     have S25 : Hid (MgB9 w p g (w7.setCell ⟨g, 2, none⟩ (.int .i64 z)) k f z t i it c y ua um uc es da) := ⟨S24.out.nine.1, S24.out.2.1.other (S24.out.2.1.notBlk S24.out.2.2.box (by decide)) 2 _, S24.out.2.2.set 2 _⟩
     go_wp2_with fail
     go_meet
     exact ⟨_, _, _, _, _, _, _, _, _, _, _, _, _, S25.out⟩
    ·have S23 : Hid (MgB w p g (w5.alloc (.cells #[.int .i64 (-1), .int .i64 0, .int .i64 100000, .int .i64 100001] 3)) k f d t i it c y ua um uc es da) := S22.out.alloc _
     have K23 : Hid (Blk (w5.alloc (.cells #[.int .i64 (-1), .int .i64 0, .int .i64 100000, .int .i64 100001] 3)) w5.heap.size #[.int .i64 (-1), .int .i64 0, .int .i64 100000, .int .i64 100001] 3) := Blk.new _ _ _
     have Z23 : Hid (w5.heap.size ≠ p) := by have := S22.out.a.lt; unfold Hid; omega
     go_wp2_with fail
     generalize w5.alloc (.cells #[.int .i64 (-1), .int .i64 0, .int .i64 100000, .int .i64 100001] 3) = w6 at *
     refine (pickS w6 p w5.heap.size [-1, 0, 100000, 100001] 4 rfl (by omega) (by omega) (fun _ => True) trivial (fun _ _ => trivial) S23.out.a Z23.out K23.out).mono ?_
     rintro e w7 ⟨z, rfl, -, hA, hm⟩
     have S24 : Hid (MgB w p g w7 k f d t i it c y ua um uc es da) := S23.out.draw hA hm
     clear hA hm S22 S23 K23 Z23
     have e3 := S24.out.2.2.box.cell 3 _ rfl
     have x3 := S24.out.2.2.box.free 3
     have S25 : Hid (MgB9 w p g (w7.setCell ⟨g, 3, none⟩ (.int .i64 z)) k f d z i it c y ua um uc es da) := ⟨S24.out.nine.1, S24.out.2.1.other (S24.out.2.1.notBlk S24.out.2.2.box (by decide)) 3 _, S24.out.2.2.set 3 _⟩
     go_wp2_with fail
     go_meet
     exact ⟨_, _, _, _, _, _, _, _, _, _, _, _, _, S25.out⟩
    ·have S23 : Hid (MgB w p g (w5.alloc (.cells #[.int .i64 (-1), .int .i64 0, .int .i64 100000, .int .i64 100001] 3)) k f d t i it c y ua um uc es da) := S22.out.alloc _
     have K23 : Hid (Blk (w5.alloc (.cells #[.int .i64 (-1), .int .i64 0, .int .i64 100000, .int .i64 100001] 3)) w5.heap.size #[.int .i64 (-1), .int .i64 0, .int .i64 100000, .int .i64 100001] 3) := Blk.new _ _ _
     have Z23 : Hid (w5.heap.size ≠ p) := by have := S22.out.a.lt; unfold Hid; omega
     go_wp2_with fail
     generalize w5.alloc (.cells #[.int .i64 (-1), .int .i64 0, .int .i64 100000, .int .i64 100001] 3) = w6 at *
     refine (pickS w6 p w5.heap.size [-1, 0, 100000, 100001] 4 rfl (by omega) (by omega) (fun _ => True) trivial (fun _ _ => trivial) S23.out.a Z23.out K23.out).mono ?_
     rintro e w7 ⟨z, rfl, -, hA, hm⟩
     have S24 : Hid (MgB w p g w7 k f d t i it c y ua um uc es da) := S23.out.draw hA hm
     clear hA hm S22 S23 K23 Z23
     have e4 := S24.out.2.2.box.cell 4 _ rfl
     have x4 := S24.out.2.2.box.free 4
     have S25 : Hid (MgB9 w p g (w7.setCell ⟨g, 4, none⟩ (.int .i64 z)) k f d t z it c y ua um uc es da) := ⟨S24.out.nine.1, S24.out.2.1.other (S24.out.2.1.notBlk S24.out.2.2.box (by decide)) 4 _, S24.out.2.2.set 4 _⟩
     go_wp2_with fail
     go_meet
     exact ⟨_, _, _, _, _, _, _, _, _, _, _, _, _, S25.out⟩
    ·have S23 : Hid (MgB w p g (w5.alloc (.cells #[.int .i64 (-1), .int .i64 1, .int .i64 100000, .int .i64 100001] 3)) k f d t i it c y ua um uc es da) := S22.out.alloc _
     have K23 : Hid (Blk (w5.alloc (.cells #[.int .i64 (-1), .int .i64 1, .int .i64 100000, .int .i64 100001] 3)) w5.heap.size #[.int .i64 (-1), .int .i64 1, .int .i64 100000, .int .i64 100001] 3) := Blk.new _ _ _
     have Z23 : Hid (w5.heap.size ≠ p) := by have := S22.out.a.lt; unfold Hid; omega
     go_wp2_with fail
     generalize w5.alloc (.cells #[.int .i64 (-1), .int .i64 1, .int .i64 100000, .int .i64 100001] 3) = w6 at *
     refine (pickS w6 p w5.heap.size [-1, 1, 100000, 100001] 4 rfl (by omega) (by omega) (fun _ => True) trivial (fun _ _ => trivial) S23.out.a Z23.out K23.out).mono ?_
     rintro e w7 ⟨z, rfl, -, hA, hm⟩
     have S24 : Hid (MgB w p g w7 k f d t i it c y ua um uc es da) := S23.out.draw hA hm
     clear hA hm S22 S23 K23 Z23
     have e6 := S24.out.2.2.box.cell 6 _ rfl
     have x6 := S24.out.2.2.box.free 6
     have S25 : Hid (MgB9 w p g (w7.setCell ⟨g, 6, none⟩ (.int .i64 z)) k f d t i it z y ua um uc es da) := ⟨S24.out.nine.1, S24.out.2.1.other (S24.out.2.1.notBlk S24.out.2.2.box (by decide)) 6 _, S24.out.2.2.set 6 _⟩
     go_wp2_with fail
     go_meet
     exact ⟨_, _, _, _, _, _, _, _, _, _, _, _, _, S25.out⟩
    ·have e7 := S22.out.2.2.box.cell 7 _ rfl
     have x7 := S22.out.2.2.box.free 7
     have S23 : Hid (MgB9 w p g (w5.setCell ⟨g, 7, none⟩ (.bool (!y))) k f d t i it c (!y) ua um uc es da) := ⟨S22.out.nine.1, S22.out.2.1.other (S22.out.2.1.notBlk S22.out.2.2.box (by decide)) 7 _, S22.out.2.2.set 7 _⟩
     go_wp2_with fail
     go_meet
     exact ⟨_, _, _, _, _, _, _, _, _, _, _, _, _, S23.out⟩
    ·have HSz : Hid ((entR es).length ≤ 2097152) := by unfold Hid; rw [entR_length]; have := S22.out.1.1; omega
     have D0 : Hid (MgB w p g w5.drew k f d t i it c y ua um uc es da) := S22.out.draw (S22.out.a.below (Below.refl w5.heap.size w5).drew S22.out.a.lt) (Mod.of_below (Below.refl _ w5).drew)
     go_wp2_with fail
     refine wp_region_until (fun w' => w'.cell? ⟨g, 8, none⟩ = some (.slice ua um uc)) (fun i => i == 6 || i == 8) 9 (by rfl) (by kernel_rfl) ?_
     have Q0 := Hid.mk (D0.out.2.2.box.cell 8 _ rfl)
     generalize w5.drew = y0 at *
     refine pF 0 ?_
     refine tF 1 Q0.out ?_
     refine pF 2 ?_
     refine uNe 3 (fun K hK => ?_)
     go_simp
     refine (belowS y0 p 5 (by omega) (by omega) D0.out.a).mono ?_
     rintro e wd ⟨z, rfl, -, hA, hm⟩
     have D1 : Hid (MgB w p g wd k f d t i it c y ua um uc es da) := D0.out.draw hA hm
     have Q1 := Hid.mk (D1.out.2.2.box.cell 8 _ rfl)
     clear hA hm D0 Q0
     refine hK.out _ _ (fun _ _ => Q1.out) ?_
     clear hK K
     try simp only [Act.put, zQ1, zQ2, zQ3]
     refine pF 4 ?_
     refine uNe 5 (fun K hK => ?_)
     go_simp
     refine hK.out _ _ (fun _ h => cell_alloc_w h _) ?_
     clear hK K
     try simp only [Act.put, zQ1, zQ2, zQ3]
     obtain ⟨nA, nm, nc, Y5, r5, hO5, hb5, hk5, -⟩ := run_append_row (P := Tryz.prog) wd 29 29 75 (.agg #[.int .i64 0, .string ⟨#[]⟩]) 2 24 Tryz.underlying29 Tryz.infoEntB rfl (by omega) w.heap.size (.slice ua um uc) (entR es) D1.out.2.1 [.int .i64 z, .string ⟨#[]⟩] rfl (by intro y hy; simp at hy; rcases hy with rfl | rfl <;> rfl) HSz.out (by omega) D1.out.2.2.m.size
     refine uNe 6 (fun K hK => ?_)
     refine step_append_run (by rfl) (.tmp 57) (.tmp 61) 29 (by rfl) _ _ _ _ (by rfl) (by rfl) r5 ?_
     refine hK.out _ _ (fun h => by cases h) ?_
     clear hK K
     try simp only [Act.put, zQ1, zQ2, zQ3]
     have hO8 : Owns Y5 w.heap.size 75 2 (.slice nA nm nc) (entR (es ++ [(⟨z, ⟨#[]⟩⟩ : Ent)])) := by unfold entR; rw [List.map_append]; exact hO5
     have hbx : BxD w p g w.heap.size 31 Y5 #[.int .i64 0, .int .i64 0, .int .i64 0, .int .i64 0, .int .i64 0, .int .i64 0, .int .i64 0, .bool false, .slice none 0 0, .string ⟨#[]⟩] #[.int .i64 k, .int .i64 f, .int .i64 d, .int .i64 t, .int .i64 i, .int .i64 it, .int .i64 c, .bool y, .slice ua um uc, .string da] := ⟨(hk5 g D1.out.2.2.box.lt (D1.out.2.1.notBlk D1.out.2.2.box (by decide))).trans D1.out.2.2.box, (hk5 _ D1.out.2.2.res.lt (D1.out.2.1.notBlk D1.out.2.2.res (by decide))).trans D1.out.2.2.res, D1.out.a.below hb5 D1.out.2.2.hp, D1.out.2.2.m.trans (Mod.of_below (hb5.mono (Nat.le_refl _))), D1.out.2.2.hp, D1.out.2.2.hg, D1.out.2.2.hr, D1.out.2.2.ne⟩
     have S9 : Hid (MgB9 w p g (Y5.setCell ⟨g, 8, none⟩ (.slice nA nm nc)) k f d t i it c y nA nm nc (es ++ [(⟨z, ⟨#[]⟩⟩ : Ent)]) da) := ⟨D1.out.more, hO8.other (hO8.notBlk hbx.box (by decide)) 8 _, hbx.set 8 _⟩
     have m8 := hbx.box.cell 8 _ rfl
     have mf := hbx.box.free 8
     clear hO8 hbx hO5 hb5 hk5 D1 Q1
     refine pF 7 ?_
     refine uNe 8 (fun K hK => ?_)
     go_simp
     refine hK.out _ _ (fun h => by cases h) ?_
     clear hK K
     try simp only [Act.put, zQ1, zQ2, zQ3]
     refine until_done (by kernel_rfl) ?_ _
     go_wp2_with fail
     go_meet
     exact ⟨_, _, _, _, _, _, _, _, _, _, _, _, _, S9.out⟩
    ·have e9 := S22.out.2.2.box.cell 9 _ rfl
     have x9 := S22.out.2.2.box.free 9
     have S23 : Hid (MgB9 w p g (w5.setCell ⟨g, 9, none⟩ (.string (da ++ ⟨#[120]⟩))) k f d t i it c y ua um uc es (da ++ ⟨#[120]⟩)) := ⟨S22.out.longer, S22.out.2.1.other (S22.out.2.1.notBlk S22.out.2.2.box (by decide)) 9 _, S22.out.2.2.set 9 _⟩
     have ss : ¬ 9223372036854775807 < da.size + (⟨#[120]⟩ : ByteArray).size := by have := S22.out.1.2.2; have : (⟨#[120]⟩ : ByteArray).size = 1 := rfl; omega
     go_wp2_with fail
     go_meet
     exact ⟨_, _, _, _, _, _, _, _, _, _, _, _, _, S23.out⟩
  case rest =>
   obtain ⟨k, f, d, t, i, it, c, y, ua, um, uc, es, da, hS⟩ := hcut
   have SC := Hid.mk hS
   clear hS S21
   obtain ⟨hb1, hO, hX⟩ := SC.out
   have HB1 := Hid.mk hb1
   obtain ⟨e0, e1, e2, e3, e4, e5, e6, e7, e8, e9⟩ := cellsC10 hX.box
   obtain ⟨⟨r0, q0⟩, ⟨r1, q1⟩, ⟨r2, q2⟩, ⟨r3, q3⟩, ⟨r4, q4⟩, ⟨r5, q5⟩, ⟨r6, q6⟩, ⟨r7, q7⟩, ⟨r8, q8⟩, ⟨r9, q9⟩, n0, n1, n2, n3, n4, n5, n6, n7, n8, n9⟩ := resC10 (x0 := .int .i64 k) (x1 := .int .i64 f) (x2 := .int .i64 d) (x3 := .int .i64 t) (x4 := .int .i64 i) (x5 := .int .i64 it) (x6 := .int .i64 c) (x7 := .bool y) (x8 := .slice ua um uc) (x9 := .string da) hX.res
   have OE := Hid.mk (ownsC10n hO (hO.notBlk hX.res (by decide)) (.int .i64 k) (.int .i64 f) (.int .i64 d) (.int .i64 t) (.int .i64 i) (.int .i64 it) (.int .i64 c) (.bool y) (.slice ua um uc) (.string da))
   have FF := ((((((((((hX.setR 0 (.int .i64 k)).setR 1 (.int .i64 f)).setR 2 (.int .i64 d)).setR 3 (.int .i64 t)).setR 4 (.int .i64 i)).setR 5 (.int .i64 it)).setR 6 (.int .i64 c)).setR 7 (.bool y)).setR 8 (.slice ua um uc)).setR 9 (.string da))
   have HA := Hid.mk FF.a
   have HM := Hid.mk FF.m
   clear FF hX hO hb1 SC
   go_wp2_with fail
   exact bodyPost_ret (v := .agg #[.int .i64 k, .int .i64 f, .int .i64 d, .int .i64 t, .int .i64 i, .int .i64 it, .int .i64 c, .bool y, .slice ua um uc, .string da]) (by simp [results, go_sem, n0, n1, n2, n3, n4, n5, n6, n7, n8, n9]) rfl ⟨⟨_, _, _, _, _, _, _, _, _, _⟩, _, rfl, ⟨_, rfl, OE.out⟩, HB1.out.1, HB1.out.2.1, HB1.out.2.2, HA.out, HM.out⟩
end Go.Proofs.YtifmjdakefkbiaaGreatDoor
namespace Go.Proofs.YtifmjdakefkbiaaGreatDoor
open Go.ChangeShapes Go.WideShapes Go.ChangeAt Go.RowKit Go.PlainAid
set_option linter.unusedVariables false
def CmdRd (s : ByteArray) (x : Cmx) : Prop := ∃ c i n, RdF s 0 2 [c, i] n ∧ OpRd (lf s n) x.op ∧ x.client = c ∧ x.serial = i ∧ trnOk x = true
theorem CmdRd.one {s : ByteArray} {x y : Cmx} (h : CmdRd s x) (h' : CmdRd s y) : x = y := by
 obtain ⟨c, i, n, h1, h2, h3, h4, _⟩ := h
 obtain ⟨c', i', n', h1', h2', h3', h4', _⟩ := h'
 obtain ⟨e, rfl⟩ := h1.one h1'
 simp only [List.cons.injEq, and_true] at e
 obtain ⟨rfl, rfl⟩ := e
 obtain ⟨a, b, o⟩ := x
 obtain ⟨a', b', o'⟩ := y
 simp only at *
 rw [h3, h4, h3', h4', h2.one h2']
def CmdA (s : ByteArray) (e : Ending) : Prop := (∃ x, CmdRd s x ∧ e = .returned (.tuple #[vCmd x, .bool true])) ∨ ((∀ x, ¬ CmdRd s x) ∧ e = .returned (.tuple #[vCmd ⟨0, 0, ⟨0, ⟨#[]⟩, 0, 0, ⟨#[]⟩⟩⟩, .bool false]))
theorem CmdA.one {s : ByteArray} {e e' : Ending} (h : CmdA s e) (h' : CmdA s e') : e = e' := by
 rcases h with ⟨x, hx, rfl⟩ | ⟨hn, rfl⟩ <;> rcases h' with ⟨y, hy, rfl⟩ | ⟨hn', rfl⟩
 ·rw [hx.one hy]
 ·exact absurd hx (hn' x)
 ·exact absurd hy (hn y)
 ·rfl
theorem CmdA.form {s : ByteArray} {e : Ending} (h : CmdA s e) : ∃ x b, e = .returned (.tuple #[vCmd x, .bool b]) := by
 rcases h with ⟨x, hx, rfl⟩ | ⟨hn, rfl⟩
 ·exact ⟨_, _, rfl⟩
 ·exact ⟨_, _, rfl⟩
theorem OpRd.back {s : ByteArray} {x : Opx} (h : OpRd s x) : opT x = s ∧ opOk x = true := by
 obtain ⟨k, n1, f, t, m, h0, h1, h2, h3, rfl, h5⟩ := h
 exact ⟨opT_back h0 h1 h2 h3 h5, h5⟩
end Go.Proofs.YtifmjdakefkbiaaGreatDoor
namespace Go.Proofs.YtifmjdakefkbiaaGreatDoor
open Go.ChangeShapes Go.WideShapes Go.ChangeAt Go.RowKit Go.PlainAid
set_option linter.unusedVariables false
open Classical in
noncomputable def opB (s : ByteArray) : Bool := decide (∃ y, OpRd s y)
open Classical in
noncomputable def ansB (s : ByteArray) : Bool := decide (∃ y, AnsRd s y)
def mgW (x : Mg) (l : List Ent) : Wl := ⟨x.term, -1, x.index, x.iterm, l⟩
noncomputable def namB (x : Mg) : Bool :=
 if x.kind = 6 then opB x.data && inRg x.index 1 1000000
 else if x.kind = 7 then ansB x.data && inRg x.index 1 1000000
 else if x.term < 1 then false
 else if x.kind = 1 then walOk (mgW x [])
 else if x.kind = 2 then decide (x.term ≤ 100000)
 else if x.kind = 3 then inRg x.commit 0 100000 && decide (x.ents.length ≤ 4) && walOk (mgW x x.ents)
 else if x.kind = 4 then decide (x.term ≤ 100000) && inRg x.index 0 100000
 else if x.kind = 5 then decide (0 < x.index) && walOk (mgW x []) && decide (x.data.size ≤ 30000)
 else false
noncomputable def msgOk (x : Mg) : Bool := endB x && namB x && nonB (unn x)
end Go.Proofs.YtifmjdakefkbiaaGreatDoor
namespace Go.Proofs.YtifmjdakefkbiaaGreatDoor
open Go.ChangeShapes Go.WideShapes Go.ChangeAt Go.RowKit Go.PlainAid
set_option linter.unusedVariables false
theorem toList_beq (a b : ByteArray) : (a.toList == b.toList) = decide (a = b) := by
 rw [Lib.toList_data, Lib.toList_data]
 by_cases h : a = b
 ·subst h
  simp
 ·rw [decide_eq_false h, beq_eq_false_iff_ne]
  intro e
  exact h (ByteArray.ext (Array.toList_inj.1 e))
theorem empty_beq (d : ByteArray) : d.toList.isEmpty = decide (d = ByteArray.empty) := by
 have h := toList_beq d ByteArray.empty
 rw [← h]
 have : ByteArray.empty.toList = [] := by rw [Lib.toList_data]; rfl
 rw [this]
 cases d.toList <;> rfl
set_option maxHeartbeats 400000 in
theorem inBW (x lo hi : Int) (w : World) : Calls Tryz.prog 43 #[.int .i64 x, .int .i64 lo, .int .i64 hi] w fun e w' => e = .returned (.bool (inIt x lo hi)) ∧ w = w' := by
 by_cases h1 : lo ≤ x
 ·go_enter Tryz.func43, Tryz.ntmps43
  go_wp2
  go_ret
  exact ⟨by simp [inIt, h1], rfl⟩
 ·have z : decide (lo ≤ x) = false := decide_eq_false h1
  have z2 : x < lo := by omega
  go_enter Tryz.func43, Tryz.ntmps43
  go_wp2
  go_ret
  exact ⟨by unfold inIt; rw [z]; rfl, rfl⟩
set_option maxHeartbeats 400000 in
theorem basedV (i t : Int) (w : World) : Calls Tryz.prog 44 #[.int .i64 i, .int .i64 t] w fun e w' => e = .returned (.bool (based i t)) ∧ w = w' := by
 by_cases h1 : i = 0
 ·subst h1
  go_enter Tryz.func44, Tryz.ntmps44
  go_wp2
  go_ret
  exact ⟨by unfold based; rw [if_pos rfl]; exact congrArg (fun b => Ending.returned (.bool b)) (by by_cases h : t = 0 <;> simp [h]), rfl⟩
 ·have z : (i == 0) = false := by simpa using h1
  have a1 := inBW i 1 100000
  have a2 := inBW t 1 100000
  have HE : Hid (based i t = (inIt i 1 100000 && inIt t 1 100000)) := by unfold Hid based; rw [if_neg h1]
  cases h2 : inIt i 1 100000 <;> rw [h2] at a1 HE <;> clear h1 h2
  ·go_enter Tryz.func44, Tryz.ntmps44
   go_wp2_with fail
   refine (a1 _).mono ?_
   rintro e w' ⟨rfl, rfl⟩
   go_wp2_with fail
   go_ret
   exact ⟨by rw [HE.out]; rfl, rfl⟩
  ·go_enter Tryz.func44, Tryz.ntmps44
   go_wp2_with fail
   refine (a1 _).mono ?_
   rintro e w' ⟨rfl, rfl⟩
   go_wp2_with fail
   refine (a2 _).mono ?_
   rintro e w' ⟨rfl, rfl⟩
   go_wp2_with fail
   go_ret
   exact ⟨by rw [HE.out]; rfl, rfl⟩
end Go.Proofs.YtifmjdakefkbiaaGreatDoor
namespace Go.Proofs.YtifmjdakefkbiaaGreatDoor
open Go.ChangeShapes Go.WideShapes Go.ChangeAt Go.RowKit Go.PlainAid
set_option linter.unusedVariables false
def bnd (k t i v n : Int) : Bool := decide ((k = 1 ∧ 0 ≤ t ∧ t ≤ 100000 ∧ -1 ≤ v ∧ v ≤ 4) ∨ (k = 4 ∧ i = 0 ∧ t = 0) ∨ ((k = 4 ∧ i ≠ 0 ∨ k = 2) ∧ 1 ≤ t ∧ t ≤ 100000 ∧ n ≤ 900 ∧ 1 ≤ i ∧ i ≤ 100000) ∨ (k = 3 ∧ 1 ≤ i ∧ i ≤ 100000))
def kindV (r : Rcd) : Value :=
 if r.kind = 1 then .iface 195 (.agg #[.int .i64 r.term, .int .i64 r.vote])
 else if r.kind = 2 then .iface 197 (.agg #[.int .i64 r.index, .int .i64 r.term, .string r.data])
 else if r.kind = 3 then .iface 199 (.agg #[.int .i64 r.index])
 else .iface 201 (.agg #[.int .i64 r.index, .int .i64 r.term])
set_option maxHeartbeats 4000000 in
theorem inBoundsV (k t i v : Int) (d : ByteArray) (w : World) (hd : d.size ≤ maxLen) : Calls Tryz.prog 172 #[.agg #[.int .i64 k, .int .i64 t, .int .i64 i, .int .i64 v, .string d]] w fun e w' => e = .returned (.bool (bnd k t i v d.size)) ∧ Below w.heap.size w w' := by
 have HB : Hid (Below w.heap.size w (w.alloc (.cells #[.int .i64 k, .int .i64 t, .int .i64 i, .int .i64 v, .string d] 180))) := (Below.refl _ _).alloc (Nat.le_refl _) _
 have hdi : (d.size : Int) ≤ 9223372036854775807 := by unfold maxLen at hd; omega
 clear hd
 by_cases k1 : k = 1
 ·subst k1
  by_cases h4 : 0 ≤ t
  ·by_cases h3 : t ≤ 100000
   ·by_cases h2 : -1 ≤ v
    ·by_cases h1 : v < 5
     ·go_enter Tryz.func172, Tryz.ntmps172
      go_wp2
      go_ret
      exact ⟨by first | (rw [show bnd _ _ _ _ _ = true from decide_eq_true (by omega)]; rfl) | (rw [show bnd _ _ _ _ _ = false from decide_eq_false (by omega)]; rfl), HB.out⟩
     ·go_enter Tryz.func172, Tryz.ntmps172
      go_wp2
      go_ret
      exact ⟨by first | (rw [show bnd _ _ _ _ _ = true from decide_eq_true (by omega)]; rfl) | (rw [show bnd _ _ _ _ _ = false from decide_eq_false (by omega)]; rfl), HB.out⟩
    ·go_enter Tryz.func172, Tryz.ntmps172
     go_wp2
     go_ret
     exact ⟨by first | (rw [show bnd _ _ _ _ _ = true from decide_eq_true (by omega)]; rfl) | (rw [show bnd _ _ _ _ _ = false from decide_eq_false (by omega)]; rfl), HB.out⟩
   ·go_enter Tryz.func172, Tryz.ntmps172
    go_wp2
    go_ret
    exact ⟨by first | (rw [show bnd _ _ _ _ _ = true from decide_eq_true (by omega)]; rfl) | (rw [show bnd _ _ _ _ _ = false from decide_eq_false (by omega)]; rfl), HB.out⟩
  ·go_enter Tryz.func172, Tryz.ntmps172
   go_wp2
   go_ret
   exact ⟨by first | (rw [show bnd _ _ _ _ _ = true from decide_eq_true (by omega)]; rfl) | (rw [show bnd _ _ _ _ _ = false from decide_eq_false (by omega)]; rfl), HB.out⟩
 by_cases k4 : k = 4
 ·subst k4
  by_cases i0 : i = 0
  ·subst i0
   by_cases t0 : t = 0
   ·subst t0
    go_enter Tryz.func172, Tryz.ntmps172
    go_wp2
    go_ret
    exact ⟨by first | (rw [show bnd _ _ _ _ _ = true from decide_eq_true (by omega)]; rfl) | (rw [show bnd _ _ _ _ _ = false from decide_eq_false (by omega)]; rfl), HB.out⟩
   ·have zt : (t == 0) = false := by simpa using t0
    go_enter Tryz.func172, Tryz.ntmps172
    go_wp2
    go_ret
    exact ⟨by first | (rw [show bnd _ _ _ _ _ = true from decide_eq_true (by omega)]; rfl) | (rw [show bnd _ _ _ _ _ = false from decide_eq_false (by omega)]; rfl), HB.out⟩
  ·have zi : (i == 0) = false := by simpa using i0
   by_cases g3 : t < 1
   ·go_enter Tryz.func172, Tryz.ntmps172
    go_wp2
    go_ret
    exact ⟨by first | (rw [show bnd _ _ _ _ _ = true from decide_eq_true (by omega)]; rfl) | (rw [show bnd _ _ _ _ _ = false from decide_eq_false (by omega)]; rfl), HB.out⟩
   ·by_cases g2 : 100000 < t
    ·go_enter Tryz.func172, Tryz.ntmps172
     go_wp2
     go_ret
     exact ⟨by first | (rw [show bnd _ _ _ _ _ = true from decide_eq_true (by omega)]; rfl) | (rw [show bnd _ _ _ _ _ = false from decide_eq_false (by omega)]; rfl), HB.out⟩
    ·by_cases g1 : 900 < (d.size : Int)
     ·go_enter Tryz.func172, Tryz.ntmps172
      go_wp2
      go_ret
      exact ⟨by first | (rw [show bnd _ _ _ _ _ = true from decide_eq_true (by omega)]; rfl) | (rw [show bnd _ _ _ _ _ = false from decide_eq_false (by omega)]; rfl), HB.out⟩
     ·by_cases h2 : 1 ≤ i
      ·by_cases h1 : i ≤ 100000
       ·go_enter Tryz.func172, Tryz.ntmps172
        go_wp2
        go_ret
        exact ⟨by first | (rw [show bnd _ _ _ _ _ = true from decide_eq_true (by omega)]; rfl) | (rw [show bnd _ _ _ _ _ = false from decide_eq_false (by omega)]; rfl), HB.out⟩
       ·go_enter Tryz.func172, Tryz.ntmps172
        go_wp2
        go_ret
        exact ⟨by first | (rw [show bnd _ _ _ _ _ = true from decide_eq_true (by omega)]; rfl) | (rw [show bnd _ _ _ _ _ = false from decide_eq_false (by omega)]; rfl), HB.out⟩
      ·go_enter Tryz.func172, Tryz.ntmps172
       go_wp2
       go_ret
       exact ⟨by first | (rw [show bnd _ _ _ _ _ = true from decide_eq_true (by omega)]; rfl) | (rw [show bnd _ _ _ _ _ = false from decide_eq_false (by omega)]; rfl), HB.out⟩
 by_cases k2 : k = 2
 ·subst k2
  by_cases g3 : t < 1
  ·go_enter Tryz.func172, Tryz.ntmps172
   go_wp2
   go_ret
   exact ⟨by first | (rw [show bnd _ _ _ _ _ = true from decide_eq_true (by omega)]; rfl) | (rw [show bnd _ _ _ _ _ = false from decide_eq_false (by omega)]; rfl), HB.out⟩
  ·by_cases g2 : 100000 < t
   ·go_enter Tryz.func172, Tryz.ntmps172
    go_wp2
    go_ret
    exact ⟨by first | (rw [show bnd _ _ _ _ _ = true from decide_eq_true (by omega)]; rfl) | (rw [show bnd _ _ _ _ _ = false from decide_eq_false (by omega)]; rfl), HB.out⟩
   ·by_cases g1 : 900 < (d.size : Int)
    ·go_enter Tryz.func172, Tryz.ntmps172
     go_wp2
     go_ret
     exact ⟨by first | (rw [show bnd _ _ _ _ _ = true from decide_eq_true (by omega)]; rfl) | (rw [show bnd _ _ _ _ _ = false from decide_eq_false (by omega)]; rfl), HB.out⟩
    ·by_cases h2 : 1 ≤ i
     ·by_cases h1 : i ≤ 100000
      ·go_enter Tryz.func172, Tryz.ntmps172
       go_wp2
       go_ret
       exact ⟨by first | (rw [show bnd _ _ _ _ _ = true from decide_eq_true (by omega)]; rfl) | (rw [show bnd _ _ _ _ _ = false from decide_eq_false (by omega)]; rfl), HB.out⟩
      ·go_enter Tryz.func172, Tryz.ntmps172
       go_wp2
       go_ret
       exact ⟨by first | (rw [show bnd _ _ _ _ _ = true from decide_eq_true (by omega)]; rfl) | (rw [show bnd _ _ _ _ _ = false from decide_eq_false (by omega)]; rfl), HB.out⟩
     ·go_enter Tryz.func172, Tryz.ntmps172
      go_wp2
      go_ret
      exact ⟨by first | (rw [show bnd _ _ _ _ _ = true from decide_eq_true (by omega)]; rfl) | (rw [show bnd _ _ _ _ _ = false from decide_eq_false (by omega)]; rfl), HB.out⟩
 by_cases k3 : k = 3
 ·subst k3
  by_cases h2 : 1 ≤ i
  ·by_cases h1 : i ≤ 100000
   ·go_enter Tryz.func172, Tryz.ntmps172
    go_wp2
    go_ret
    exact ⟨by first | (rw [show bnd _ _ _ _ _ = true from decide_eq_true (by omega)]; rfl) | (rw [show bnd _ _ _ _ _ = false from decide_eq_false (by omega)]; rfl), HB.out⟩
   ·go_enter Tryz.func172, Tryz.ntmps172
    go_wp2
    go_ret
    exact ⟨by first | (rw [show bnd _ _ _ _ _ = true from decide_eq_true (by omega)]; rfl) | (rw [show bnd _ _ _ _ _ = false from decide_eq_false (by omega)]; rfl), HB.out⟩
  ·go_enter Tryz.func172, Tryz.ntmps172
   go_wp2
   go_ret
   exact ⟨by first | (rw [show bnd _ _ _ _ _ = true from decide_eq_true (by omega)]; rfl) | (rw [show bnd _ _ _ _ _ = false from decide_eq_false (by omega)]; rfl), HB.out⟩
 have y1 : (k == 1) = false := by simpa using k1
 have y2 : (k == 2) = false := by simpa using k2
 have y3 : (k == 3) = false := by simpa using k3
 have y4 : (k == 4) = false := by simpa using k4
 go_enter Tryz.func172, Tryz.ntmps172
 go_wp2
 go_ret
 exact ⟨by first | (rw [show bnd _ _ _ _ _ = true from decide_eq_true (by omega)]; rfl) | (rw [show bnd _ _ _ _ _ = false from decide_eq_false (by omega)]; rfl), HB.out⟩
set_option maxHeartbeats 1000000 in
theorem kindOfV (k t i v : Int) (d : ByteArray) (w : World) : Calls Tryz.prog 173 #[.agg #[.int .i64 k, .int .i64 t, .int .i64 i, .int .i64 v, .string d]] w fun e w' => e = .returned (kindV ⟨k, t, i, v, d⟩) ∧ Below w.heap.size w w' := by
 have HB : Hid (Below w.heap.size w (w.alloc (.cells #[.int .i64 k, .int .i64 t, .int .i64 i, .int .i64 v, .string d] 180))) := (Below.refl _ _).alloc (Nat.le_refl _) _
 by_cases k1 : k = 1
 ·subst k1
  go_enter Tryz.func173, Tryz.ntmps173
  go_wp2
  go_ret
  exact ⟨rfl, HB.out⟩
 by_cases k2 : k = 2
 ·subst k2
  go_enter Tryz.func173, Tryz.ntmps173
  go_wp2
  go_ret
  exact ⟨rfl, HB.out⟩
 by_cases k3 : k = 3
 ·subst k3
  go_enter Tryz.func173, Tryz.ntmps173
  go_wp2
  go_ret
  exact ⟨rfl, HB.out⟩
 have y1 : (k == 1) = false := by simpa using k1
 have y2 : (k == 2) = false := by simpa using k2
 have y3 : (k == 3) = false := by simpa using k3
 have HE : Hid (kindV ⟨k, t, i, v, d⟩ = .iface 201 (.agg #[.int .i64 i, .int .i64 t])) := by unfold Hid kindV; rw [if_neg k1, if_neg k2, if_neg k3]
 clear k1 k2 k3
 go_enter Tryz.func173, Tryz.ntmps173
 go_wp2
 go_ret
 exact ⟨by rw [HE.out]; rfl, HB.out⟩
theorem below_alloc2' (w : World) (a b : Obj) : Below w.heap.size w ((w.alloc a).alloc b) := ((Below.refl _ w).alloc (Nat.le_refl _) a).alloc (by simp) b
set_option maxHeartbeats 400000 in
theorem hardRec (t v : Int) (w : World) : Calls Tryz.prog 205 #[.agg #[.int .i64 t, .int .i64 v]] w fun e w' => e = .returned (.agg #[.int .i64 1, .int .i64 t, .int .i64 0, .int .i64 v, .string ⟨#[]⟩]) ∧ Below w.heap.size w w' := by
 go_enter Tryz.func205, Tryz.ntmps205
 go_wp2
 exact bodyPost_ret (v := .agg #[.int .i64 1, .int .i64 t, .int .i64 0, .int .i64 v, .string ⟨#[]⟩]) (by simp [results, go_sem]) rfl ⟨rfl, below_alloc2' _ _ _⟩
set_option maxHeartbeats 400000 in
theorem entryRec (i t : Int) (d : ByteArray) (w : World) : Calls Tryz.prog 206 #[.agg #[.int .i64 i, .int .i64 t, .string d]] w fun e w' => e = .returned (.agg #[.int .i64 2, .int .i64 t, .int .i64 i, .int .i64 0, .string d]) ∧ Below w.heap.size w w' := by
 go_enter Tryz.func206, Tryz.ntmps206
 go_wp2
 exact bodyPost_ret (v := .agg #[.int .i64 2, .int .i64 t, .int .i64 i, .int .i64 0, .string d]) (by simp [results, go_sem]) rfl ⟨rfl, below_alloc2' _ _ _⟩
set_option maxHeartbeats 400000 in
theorem cutRec (i : Int) (w : World) : Calls Tryz.prog 207 #[.agg #[.int .i64 i]] w fun e w' => e = .returned (.agg #[.int .i64 3, .int .i64 0, .int .i64 i, .int .i64 0, .string ⟨#[]⟩]) ∧ Below w.heap.size w w' := by
 go_enter Tryz.func207, Tryz.ntmps207
 go_wp2
 exact bodyPost_ret (v := .agg #[.int .i64 3, .int .i64 0, .int .i64 i, .int .i64 0, .string ⟨#[]⟩]) (by simp [results, go_sem]) rfl ⟨rfl, below_alloc2' _ _ _⟩
set_option maxHeartbeats 400000 in
theorem baseRec (i t : Int) (w : World) : Calls Tryz.prog 208 #[.agg #[.int .i64 i, .int .i64 t]] w fun e w' => e = .returned (.agg #[.int .i64 4, .int .i64 t, .int .i64 i, .int .i64 0, .string ⟨#[]⟩]) ∧ Below w.heap.size w w' := by
 go_enter Tryz.func208, Tryz.ntmps208
 go_wp2
 exact bodyPost_ret (v := .agg #[.int .i64 4, .int .i64 t, .int .i64 i, .int .i64 0, .string ⟨#[]⟩]) (by simp [results, go_sem]) rfl ⟨rfl, below_alloc2' _ _ _⟩
end Go.Proofs.YtifmjdakefkbiaaGreatDoor
namespace Go.Proofs.YtifmjdakefkbiaaGreatDoor
open Go.ChangeShapes Go.WideShapes Go.ChangeAt Go.RowKit Go.PlainAid
set_option linter.unusedVariables false
def recV (r : Rcd) : Value := if recOk r = true then kindV r else .nilIface
def rest0 (k t i v : Int) (d : ByteArray) : Bool :=
 if k = 1 then decide (i = 0) && decide (d = ByteArray.empty) else if k = 2 then decide (v = 0)
 else if k = 3 then decide (t = 0) && decide (v = 0) && decide (d = ByteArray.empty) else decide (v = 0) && decide (d = ByteArray.empty)
theorem recOk_iff (k t i v : Int) (d : ByteArray) : recOk ⟨k, t, i, v, d⟩ = (bnd k t i v d.size && rest0 k t i v d) := by
 rw [Bool.eq_iff_iff]
 unfold recOk bnd rest0 based inIt
 have hz : d = ByteArray.empty → (d.size : Int) = 0 := fun h => by subst h; rfl
 by_cases k1 : k = 1
 ·subst k1
  simp
  constructor <;> intro h <;> simp [h]
 by_cases k2 : k = 2
 ·subst k2
  simp
  omega
 by_cases k3 : k = 3
 ·subst k3
  simp
  constructor <;> intro h <;> simp [h]
 by_cases k4 : k = 4
 ·subst k4
  by_cases hd : d = ByteArray.empty
  ·have := hz hd
   by_cases hi : i = 0
   ·subst hi
    simp [hd]
   ·simp [hd, hi]
    omega
  ·simp [hd]
 ·simp [k1, k2, k3, k4]
theorem empty_eqs (d : ByteArray) : ([] == d.toList) = decide (d = ByteArray.empty) := by
 rw [← empty_beq]
 cases d.toList <;> rfl
set_option maxHeartbeats 1000000 in
theorem recordOf_no (k t i v : Int) (d : ByteArray) (w : World) (hd : d.size ≤ maxLen) (hn : bnd k t i v d.size = false) : Calls Tryz.prog 160 #[.agg #[.int .i64 k, .int .i64 t, .int .i64 i, .int .i64 v, .string d]] w fun e w' => e = .returned .nilIface ∧ Below w.heap.size w w' := by
 have c1 := fun wx => inBoundsV k t i v d wx hd
 rw [hn] at c1
 have hb0 : Below w.heap.size w (w.alloc (.cells #[.int .i64 k, .int .i64 t, .int .i64 i, .int .i64 v, .string d] 180)) := (Below.refl _ _).alloc (Nat.le_refl _) _
 go_enter Tryz.func160, Tryz.ntmps160
 go_wp2_with fail
 generalize w.alloc (.cells #[.int .i64 k, .int .i64 t, .int .i64 i, .int .i64 v, .string d] 180) = W at *
 refine (c1 _).mono ?_
 rintro e w1 ⟨rfl, hb1⟩
 have B1 : Hid (Below w.heap.size w w1) := hb0.trans (hb1.mono hb0.size)
 clear hb0 hb1 c1
 go_wp2_with fail
 go_ret
 exact ⟨rfl, B1.out⟩
set_option maxHeartbeats 2000000 in
theorem recordOf_hard (t i v : Int) (d : ByteArray) (w : World) (hd : d.size ≤ maxLen) (hn : bnd 1 t i v d.size = true) : Calls Tryz.prog 160 #[.agg #[.int .i64 1, .int .i64 t, .int .i64 i, .int .i64 v, .string d]] w fun e w' => e = .returned (recV ⟨1, t, i, v, d⟩) ∧ Below w.heap.size w w' := by
 have HE : Hid (recV ⟨1, t, i, v, d⟩ = if (decide (i = 0) && decide (d = ByteArray.empty)) = true then kindV ⟨1, t, i, v, d⟩ else .nilIface) := by unfold Hid recV; rw [recOk_iff, hn, Bool.true_and]; rfl
 have c1 := fun wx => inBoundsV 1 t i v d wx hd
 rw [hn] at c1
 have c2 := fun wx => kindOfV 1 t i v d wx
 have c3 := fun wx => hardRec t v wx
 have hb0 : Below w.heap.size w (w.alloc (.cells #[.int .i64 1, .int .i64 t, .int .i64 i, .int .i64 v, .string d] 180)) := (Below.refl _ _).alloc (Nat.le_refl _) _
 have k0 := Blk.new w #[.int .i64 1, .int .i64 t, .int .i64 i, .int .i64 v, .string d] 180
 clear hd hn
 go_enter Tryz.func160, Tryz.ntmps160
 go_wp2_with fail
 generalize w.alloc (.cells #[.int .i64 1, .int .i64 t, .int .i64 i, .int .i64 v, .string d] 180) = W at *
 refine (c1 _).mono ?_
 rintro e w1 ⟨rfl, hb1⟩
 have B1 : Hid (Below w.heap.size w w1) := hb0.trans (hb1.mono hb0.size)
 have k1 := k0.on hb1 k0.lt
 clear hb0 hb1 c1 k0
 have e0 := k1.cell 0 (.int .i64 1) rfl
 have e1 := k1.cell 1 (.int .i64 t) rfl
 have e2 := k1.cell 2 (.int .i64 i) rfl
 have e3 := k1.cell 3 (.int .i64 v) rfl
 have e4 := k1.cell 4 (.string d) rfl
 have K1 : Hid (Blk w1 w.heap.size _ _) := k1
 clear k1
 go_wp2_with fail
 refine (c2 _).mono ?_
 rintro e w2 ⟨rfl, hb2⟩
 have B2 : Hid (Below w.heap.size w w2) := B1.out.trans (hb2.mono B1.out.size)
 have k2 := K1.out.on hb2 K1.out.lt
 have hlt : w.heap.size < w2.heap.size := k2.lt
 clear hb2 e0 e1 e2 e3 e4 K1 B1
 have e0 := k2.cell 0 (.int .i64 1) rfl
 have e1 := k2.cell 1 (.int .i64 t) rfl
 have e2 := k2.cell 2 (.int .i64 i) rfl
 have e3 := k2.cell 3 (.int .i64 v) rfl
 have e4 := k2.cell 4 (.string d) rfl
 clear k2 c2
 rw [show kindV ⟨1, t, i, v, d⟩ = .iface 195 (.agg #[.int .i64 t, .int .i64 v]) from rfl]
 by_cases hzi : i = 0
 ·subst hzi
  rw [decide_eq_true rfl] at HE
  have hb1 := empty_beq d
  have hb2 := empty_eqs d
  cases hdd : decide (d = ByteArray.empty) <;> rw [hdd] at hb1 hb2 HE <;> clear hdd
  ·have HE : Hid (recV ⟨1, t, 0, v, d⟩ = .nilIface) := by unfold Hid; rw [HE.out]; rfl
   go_wp2_with fail
   go_region_with (go_at_call 205; refine (c3 _).mono ?_; rintro e w3 ⟨rfl, hb3⟩; have a0 := (hb3.cell (p := ⟨w.heap.size, 0, none⟩) hlt).trans e0; have a1 := (hb3.cell (p := ⟨w.heap.size, 1, none⟩) hlt).trans e1; have a2 := (hb3.cell (p := ⟨w.heap.size, 2, none⟩) hlt).trans e2; have a3 := (hb3.cell (p := ⟨w.heap.size, 3, none⟩) hlt).trans e3; have a4 := (hb3.cell (p := ⟨w.heap.size, 4, none⟩) hlt).trans e4)
   all_goals go_wp2_with fail
   all_goals go_ret
   all_goals exact ⟨by rw [HE.out]; first | rfl | simp [kindV], B2.out.trans (((Below.refl _ w2).drew.trans hb3).mono B2.out.size)⟩
  ·have HE : Hid (recV ⟨1, t, 0, v, d⟩ = kindV ⟨1, t, 0, v, d⟩) := by unfold Hid; rw [HE.out]; rfl
   go_wp2_with fail
   go_region_with (go_at_call 205; refine (c3 _).mono ?_; rintro e w3 ⟨rfl, hb3⟩; have a0 := (hb3.cell (p := ⟨w.heap.size, 0, none⟩) hlt).trans e0; have a1 := (hb3.cell (p := ⟨w.heap.size, 1, none⟩) hlt).trans e1; have a2 := (hb3.cell (p := ⟨w.heap.size, 2, none⟩) hlt).trans e2; have a3 := (hb3.cell (p := ⟨w.heap.size, 3, none⟩) hlt).trans e3; have a4 := (hb3.cell (p := ⟨w.heap.size, 4, none⟩) hlt).trans e4)
   all_goals go_wp2_with fail
   all_goals go_ret
   all_goals exact ⟨by rw [HE.out]; first | rfl | simp [kindV], B2.out.trans (((Below.refl _ w2).drew.trans hb3).mono B2.out.size)⟩
 ·rw [decide_eq_false hzi] at HE
  have HE : Hid (recV ⟨1, t, i, v, d⟩ = .nilIface) := by unfold Hid; rw [HE.out]; first | rfl | simp
  have zi : ((0 : Int) == i) = false := by simpa using Ne.symm hzi
  go_wp2_with fail
  go_region_with (go_at_call 205; refine (c3 _).mono ?_; rintro e w3 ⟨rfl, hb3⟩; have a0 := (hb3.cell (p := ⟨w.heap.size, 0, none⟩) hlt).trans e0; have a1 := (hb3.cell (p := ⟨w.heap.size, 1, none⟩) hlt).trans e1; have a2 := (hb3.cell (p := ⟨w.heap.size, 2, none⟩) hlt).trans e2; have a3 := (hb3.cell (p := ⟨w.heap.size, 3, none⟩) hlt).trans e3; have a4 := (hb3.cell (p := ⟨w.heap.size, 4, none⟩) hlt).trans e4)
  all_goals go_wp2_with fail
  all_goals go_ret
  all_goals exact ⟨by rw [HE.out]; first | rfl | simp [kindV], B2.out.trans (((Below.refl _ w2).drew.trans hb3).mono B2.out.size)⟩
set_option maxHeartbeats 2000000 in
theorem recordOf_entry (t i v : Int) (d : ByteArray) (w : World) (hd : d.size ≤ maxLen) (hn : bnd 2 t i v d.size = true) : Calls Tryz.prog 160 #[.agg #[.int .i64 2, .int .i64 t, .int .i64 i, .int .i64 v, .string d]] w fun e w' => e = .returned (recV ⟨2, t, i, v, d⟩) ∧ Below w.heap.size w w' := by
 have HE : Hid (recV ⟨2, t, i, v, d⟩ = if (decide (v = 0)) = true then kindV ⟨2, t, i, v, d⟩ else .nilIface) := by unfold Hid recV; rw [recOk_iff, hn, Bool.true_and]; rfl
 have c1 := fun wx => inBoundsV 2 t i v d wx hd
 rw [hn] at c1
 have c2 := fun wx => kindOfV 2 t i v d wx
 have c3 := fun wx => entryRec i t d wx
 have hb0 : Below w.heap.size w (w.alloc (.cells #[.int .i64 2, .int .i64 t, .int .i64 i, .int .i64 v, .string d] 180)) := (Below.refl _ _).alloc (Nat.le_refl _) _
 have k0 := Blk.new w #[.int .i64 2, .int .i64 t, .int .i64 i, .int .i64 v, .string d] 180
 clear hd hn
 go_enter Tryz.func160, Tryz.ntmps160
 go_wp2_with fail
 generalize w.alloc (.cells #[.int .i64 2, .int .i64 t, .int .i64 i, .int .i64 v, .string d] 180) = W at *
 refine (c1 _).mono ?_
 rintro e w1 ⟨rfl, hb1⟩
 have B1 : Hid (Below w.heap.size w w1) := hb0.trans (hb1.mono hb0.size)
 have k1 := k0.on hb1 k0.lt
 clear hb0 hb1 c1 k0
 have e0 := k1.cell 0 (.int .i64 2) rfl
 have e1 := k1.cell 1 (.int .i64 t) rfl
 have e2 := k1.cell 2 (.int .i64 i) rfl
 have e3 := k1.cell 3 (.int .i64 v) rfl
 have e4 := k1.cell 4 (.string d) rfl
 have K1 : Hid (Blk w1 w.heap.size _ _) := k1
 clear k1
 go_wp2_with fail
 refine (c2 _).mono ?_
 rintro e w2 ⟨rfl, hb2⟩
 have B2 : Hid (Below w.heap.size w w2) := B1.out.trans (hb2.mono B1.out.size)
 have k2 := K1.out.on hb2 K1.out.lt
 have hlt : w.heap.size < w2.heap.size := k2.lt
 clear hb2 e0 e1 e2 e3 e4 K1 B1
 have e0 := k2.cell 0 (.int .i64 2) rfl
 have e1 := k2.cell 1 (.int .i64 t) rfl
 have e2 := k2.cell 2 (.int .i64 i) rfl
 have e3 := k2.cell 3 (.int .i64 v) rfl
 have e4 := k2.cell 4 (.string d) rfl
 clear k2 c2
 rw [show kindV ⟨2, t, i, v, d⟩ = .iface 197 (.agg #[.int .i64 i, .int .i64 t, .string d]) from rfl]
 by_cases hzv : v = 0
 ·subst hzv
  rw [decide_eq_true rfl] at HE
  have HE : Hid (recV ⟨2, t, i, 0, d⟩ = kindV ⟨2, t, i, 0, d⟩) := by unfold Hid; rw [HE.out]; rfl
  go_wp2_with fail
  go_region_with (go_at_call 206; refine (c3 _).mono ?_; rintro e w3 ⟨rfl, hb3⟩; have a0 := (hb3.cell (p := ⟨w.heap.size, 0, none⟩) hlt).trans e0; have a1 := (hb3.cell (p := ⟨w.heap.size, 1, none⟩) hlt).trans e1; have a2 := (hb3.cell (p := ⟨w.heap.size, 2, none⟩) hlt).trans e2; have a3 := (hb3.cell (p := ⟨w.heap.size, 3, none⟩) hlt).trans e3; have a4 := (hb3.cell (p := ⟨w.heap.size, 4, none⟩) hlt).trans e4)
  all_goals go_wp2_with fail
  all_goals go_ret
  all_goals exact ⟨by rw [HE.out]; first | rfl | simp [kindV], B2.out.trans (((Below.refl _ w2).drew.trans hb3).mono B2.out.size)⟩
 ·rw [decide_eq_false hzv] at HE
  have HE : Hid (recV ⟨2, t, i, v, d⟩ = .nilIface) := by unfold Hid; rw [HE.out]; first | rfl | simp
  have zv : ((0 : Int) == v) = false := by simpa using Ne.symm hzv
  go_wp2_with fail
  go_region_with (go_at_call 206; refine (c3 _).mono ?_; rintro e w3 ⟨rfl, hb3⟩; have a0 := (hb3.cell (p := ⟨w.heap.size, 0, none⟩) hlt).trans e0; have a1 := (hb3.cell (p := ⟨w.heap.size, 1, none⟩) hlt).trans e1; have a2 := (hb3.cell (p := ⟨w.heap.size, 2, none⟩) hlt).trans e2; have a3 := (hb3.cell (p := ⟨w.heap.size, 3, none⟩) hlt).trans e3; have a4 := (hb3.cell (p := ⟨w.heap.size, 4, none⟩) hlt).trans e4)
  all_goals go_wp2_with fail
  all_goals go_ret
  all_goals exact ⟨by rw [HE.out]; first | rfl | simp [kindV], B2.out.trans (((Below.refl _ w2).drew.trans hb3).mono B2.out.size)⟩
set_option maxHeartbeats 2000000 in
theorem recordOf_cut (t i v : Int) (d : ByteArray) (w : World) (hd : d.size ≤ maxLen) (hn : bnd 3 t i v d.size = true) : Calls Tryz.prog 160 #[.agg #[.int .i64 3, .int .i64 t, .int .i64 i, .int .i64 v, .string d]] w fun e w' => e = .returned (recV ⟨3, t, i, v, d⟩) ∧ Below w.heap.size w w' := by
 have HE : Hid (recV ⟨3, t, i, v, d⟩ = if (decide (t = 0) && decide (v = 0) && decide (d = ByteArray.empty)) = true then kindV ⟨3, t, i, v, d⟩ else .nilIface) := by unfold Hid recV; rw [recOk_iff, hn, Bool.true_and]; rfl
 have c1 := fun wx => inBoundsV 3 t i v d wx hd
 rw [hn] at c1
 have c2 := fun wx => kindOfV 3 t i v d wx
 have c3 := fun wx => cutRec i wx
 have hb0 : Below w.heap.size w (w.alloc (.cells #[.int .i64 3, .int .i64 t, .int .i64 i, .int .i64 v, .string d] 180)) := (Below.refl _ _).alloc (Nat.le_refl _) _
 have k0 := Blk.new w #[.int .i64 3, .int .i64 t, .int .i64 i, .int .i64 v, .string d] 180
 clear hd hn
 go_enter Tryz.func160, Tryz.ntmps160
 go_wp2_with fail
 generalize w.alloc (.cells #[.int .i64 3, .int .i64 t, .int .i64 i, .int .i64 v, .string d] 180) = W at *
 refine (c1 _).mono ?_
 rintro e w1 ⟨rfl, hb1⟩
 have B1 : Hid (Below w.heap.size w w1) := hb0.trans (hb1.mono hb0.size)
 have k1 := k0.on hb1 k0.lt
 clear hb0 hb1 c1 k0
 have e0 := k1.cell 0 (.int .i64 3) rfl
 have e1 := k1.cell 1 (.int .i64 t) rfl
 have e2 := k1.cell 2 (.int .i64 i) rfl
 have e3 := k1.cell 3 (.int .i64 v) rfl
 have e4 := k1.cell 4 (.string d) rfl
 have K1 : Hid (Blk w1 w.heap.size _ _) := k1
 clear k1
 go_wp2_with fail
 refine (c2 _).mono ?_
 rintro e w2 ⟨rfl, hb2⟩
 have B2 : Hid (Below w.heap.size w w2) := B1.out.trans (hb2.mono B1.out.size)
 have k2 := K1.out.on hb2 K1.out.lt
 have hlt : w.heap.size < w2.heap.size := k2.lt
 clear hb2 e0 e1 e2 e3 e4 K1 B1
 have e0 := k2.cell 0 (.int .i64 3) rfl
 have e1 := k2.cell 1 (.int .i64 t) rfl
 have e2 := k2.cell 2 (.int .i64 i) rfl
 have e3 := k2.cell 3 (.int .i64 v) rfl
 have e4 := k2.cell 4 (.string d) rfl
 clear k2 c2
 rw [show kindV ⟨3, t, i, v, d⟩ = .iface 199 (.agg #[.int .i64 i]) from rfl]
 by_cases hzt : t = 0
 ·subst hzt
  rw [decide_eq_true rfl] at HE
  by_cases hzv : v = 0
  ·subst hzv
   rw [decide_eq_true rfl] at HE
   have hb1 := empty_beq d
   have hb2 := empty_eqs d
   cases hdd : decide (d = ByteArray.empty) <;> rw [hdd] at hb1 hb2 HE <;> clear hdd
   ·have HE : Hid (recV ⟨3, 0, i, 0, d⟩ = .nilIface) := by unfold Hid; rw [HE.out]; rfl
    go_wp2_with fail
    go_region_with (go_at_call 207; refine (c3 _).mono ?_; rintro e w3 ⟨rfl, hb3⟩; have a0 := (hb3.cell (p := ⟨w.heap.size, 0, none⟩) hlt).trans e0; have a1 := (hb3.cell (p := ⟨w.heap.size, 1, none⟩) hlt).trans e1; have a2 := (hb3.cell (p := ⟨w.heap.size, 2, none⟩) hlt).trans e2; have a3 := (hb3.cell (p := ⟨w.heap.size, 3, none⟩) hlt).trans e3; have a4 := (hb3.cell (p := ⟨w.heap.size, 4, none⟩) hlt).trans e4)
    all_goals go_wp2_with fail
    all_goals go_ret
    all_goals exact ⟨by rw [HE.out]; first | rfl | simp [kindV], B2.out.trans (((Below.refl _ w2).drew.trans hb3).mono B2.out.size)⟩
   ·have HE : Hid (recV ⟨3, 0, i, 0, d⟩ = kindV ⟨3, 0, i, 0, d⟩) := by unfold Hid; rw [HE.out]; rfl
    go_wp2_with fail
    go_region_with (go_at_call 207; refine (c3 _).mono ?_; rintro e w3 ⟨rfl, hb3⟩; have a0 := (hb3.cell (p := ⟨w.heap.size, 0, none⟩) hlt).trans e0; have a1 := (hb3.cell (p := ⟨w.heap.size, 1, none⟩) hlt).trans e1; have a2 := (hb3.cell (p := ⟨w.heap.size, 2, none⟩) hlt).trans e2; have a3 := (hb3.cell (p := ⟨w.heap.size, 3, none⟩) hlt).trans e3; have a4 := (hb3.cell (p := ⟨w.heap.size, 4, none⟩) hlt).trans e4)
    all_goals go_wp2_with fail
    all_goals go_ret
    all_goals exact ⟨by rw [HE.out]; first | rfl | simp [kindV], B2.out.trans (((Below.refl _ w2).drew.trans hb3).mono B2.out.size)⟩
  ·rw [decide_eq_false hzv] at HE
   have HE : Hid (recV ⟨3, 0, i, v, d⟩ = .nilIface) := by unfold Hid; rw [HE.out]; first | rfl | simp
   have zv : ((0 : Int) == v) = false := by simpa using Ne.symm hzv
   go_wp2_with fail
   go_region_with (go_at_call 207; refine (c3 _).mono ?_; rintro e w3 ⟨rfl, hb3⟩; have a0 := (hb3.cell (p := ⟨w.heap.size, 0, none⟩) hlt).trans e0; have a1 := (hb3.cell (p := ⟨w.heap.size, 1, none⟩) hlt).trans e1; have a2 := (hb3.cell (p := ⟨w.heap.size, 2, none⟩) hlt).trans e2; have a3 := (hb3.cell (p := ⟨w.heap.size, 3, none⟩) hlt).trans e3; have a4 := (hb3.cell (p := ⟨w.heap.size, 4, none⟩) hlt).trans e4)
   all_goals go_wp2_with fail
   all_goals go_ret
   all_goals exact ⟨by rw [HE.out]; first | rfl | simp [kindV], B2.out.trans (((Below.refl _ w2).drew.trans hb3).mono B2.out.size)⟩
 ·rw [decide_eq_false hzt] at HE
  have HE : Hid (recV ⟨3, t, i, v, d⟩ = .nilIface) := by unfold Hid; rw [HE.out]; first | rfl | simp
  have zt : ((0 : Int) == t) = false := by simpa using Ne.symm hzt
  go_wp2_with fail
  go_region_with (go_at_call 207; refine (c3 _).mono ?_; rintro e w3 ⟨rfl, hb3⟩; have a0 := (hb3.cell (p := ⟨w.heap.size, 0, none⟩) hlt).trans e0; have a1 := (hb3.cell (p := ⟨w.heap.size, 1, none⟩) hlt).trans e1; have a2 := (hb3.cell (p := ⟨w.heap.size, 2, none⟩) hlt).trans e2; have a3 := (hb3.cell (p := ⟨w.heap.size, 3, none⟩) hlt).trans e3; have a4 := (hb3.cell (p := ⟨w.heap.size, 4, none⟩) hlt).trans e4)
  all_goals go_wp2_with fail
  all_goals go_ret
  all_goals exact ⟨by rw [HE.out]; first | rfl | simp [kindV], B2.out.trans (((Below.refl _ w2).drew.trans hb3).mono B2.out.size)⟩
set_option maxHeartbeats 2000000 in
theorem recordOf_base (t i v : Int) (d : ByteArray) (w : World) (hd : d.size ≤ maxLen) (hn : bnd 4 t i v d.size = true) : Calls Tryz.prog 160 #[.agg #[.int .i64 4, .int .i64 t, .int .i64 i, .int .i64 v, .string d]] w fun e w' => e = .returned (recV ⟨4, t, i, v, d⟩) ∧ Below w.heap.size w w' := by
 have HE : Hid (recV ⟨4, t, i, v, d⟩ = if (decide (v = 0) && decide (d = ByteArray.empty)) = true then kindV ⟨4, t, i, v, d⟩ else .nilIface) := by unfold Hid recV; rw [recOk_iff, hn, Bool.true_and]; rfl
 have c1 := fun wx => inBoundsV 4 t i v d wx hd
 rw [hn] at c1
 have c2 := fun wx => kindOfV 4 t i v d wx
 have c3 := fun wx => baseRec i t wx
 have hb0 : Below w.heap.size w (w.alloc (.cells #[.int .i64 4, .int .i64 t, .int .i64 i, .int .i64 v, .string d] 180)) := (Below.refl _ _).alloc (Nat.le_refl _) _
 have k0 := Blk.new w #[.int .i64 4, .int .i64 t, .int .i64 i, .int .i64 v, .string d] 180
 clear hd hn
 go_enter Tryz.func160, Tryz.ntmps160
 go_wp2_with fail
 generalize w.alloc (.cells #[.int .i64 4, .int .i64 t, .int .i64 i, .int .i64 v, .string d] 180) = W at *
 refine (c1 _).mono ?_
 rintro e w1 ⟨rfl, hb1⟩
 have B1 : Hid (Below w.heap.size w w1) := hb0.trans (hb1.mono hb0.size)
 have k1 := k0.on hb1 k0.lt
 clear hb0 hb1 c1 k0
 have e0 := k1.cell 0 (.int .i64 4) rfl
 have e1 := k1.cell 1 (.int .i64 t) rfl
 have e2 := k1.cell 2 (.int .i64 i) rfl
 have e3 := k1.cell 3 (.int .i64 v) rfl
 have e4 := k1.cell 4 (.string d) rfl
 have K1 : Hid (Blk w1 w.heap.size _ _) := k1
 clear k1
 go_wp2_with fail
 refine (c2 _).mono ?_
 rintro e w2 ⟨rfl, hb2⟩
 have B2 : Hid (Below w.heap.size w w2) := B1.out.trans (hb2.mono B1.out.size)
 have k2 := K1.out.on hb2 K1.out.lt
 have hlt : w.heap.size < w2.heap.size := k2.lt
 clear hb2 e0 e1 e2 e3 e4 K1 B1
 have e0 := k2.cell 0 (.int .i64 4) rfl
 have e1 := k2.cell 1 (.int .i64 t) rfl
 have e2 := k2.cell 2 (.int .i64 i) rfl
 have e3 := k2.cell 3 (.int .i64 v) rfl
 have e4 := k2.cell 4 (.string d) rfl
 clear k2 c2
 rw [show kindV ⟨4, t, i, v, d⟩ = .iface 201 (.agg #[.int .i64 i, .int .i64 t]) from rfl]
 by_cases hzv : v = 0
 ·subst hzv
  rw [decide_eq_true rfl] at HE
  have hb1 := empty_beq d
  have hb2 := empty_eqs d
  cases hdd : decide (d = ByteArray.empty) <;> rw [hdd] at hb1 hb2 HE <;> clear hdd
  ·have HE : Hid (recV ⟨4, t, i, 0, d⟩ = .nilIface) := by unfold Hid; rw [HE.out]; rfl
   go_wp2_with fail
   go_region_with (go_at_call 208; refine (c3 _).mono ?_; rintro e w3 ⟨rfl, hb3⟩; have a0 := (hb3.cell (p := ⟨w.heap.size, 0, none⟩) hlt).trans e0; have a1 := (hb3.cell (p := ⟨w.heap.size, 1, none⟩) hlt).trans e1; have a2 := (hb3.cell (p := ⟨w.heap.size, 2, none⟩) hlt).trans e2; have a3 := (hb3.cell (p := ⟨w.heap.size, 3, none⟩) hlt).trans e3; have a4 := (hb3.cell (p := ⟨w.heap.size, 4, none⟩) hlt).trans e4)
   all_goals go_wp2_with fail
   all_goals go_ret
   all_goals exact ⟨by rw [HE.out]; first | rfl | simp [kindV], B2.out.trans (((Below.refl _ w2).drew.trans hb3).mono B2.out.size)⟩
  ·have HE : Hid (recV ⟨4, t, i, 0, d⟩ = kindV ⟨4, t, i, 0, d⟩) := by unfold Hid; rw [HE.out]; rfl
   go_wp2_with fail
   go_region_with (go_at_call 208; refine (c3 _).mono ?_; rintro e w3 ⟨rfl, hb3⟩; have a0 := (hb3.cell (p := ⟨w.heap.size, 0, none⟩) hlt).trans e0; have a1 := (hb3.cell (p := ⟨w.heap.size, 1, none⟩) hlt).trans e1; have a2 := (hb3.cell (p := ⟨w.heap.size, 2, none⟩) hlt).trans e2; have a3 := (hb3.cell (p := ⟨w.heap.size, 3, none⟩) hlt).trans e3; have a4 := (hb3.cell (p := ⟨w.heap.size, 4, none⟩) hlt).trans e4)
   all_goals go_wp2_with fail
   all_goals go_ret
   all_goals exact ⟨by rw [HE.out]; first | rfl | simp [kindV], B2.out.trans (((Below.refl _ w2).drew.trans hb3).mono B2.out.size)⟩
 ·rw [decide_eq_false hzv] at HE
  have HE : Hid (recV ⟨4, t, i, v, d⟩ = .nilIface) := by unfold Hid; rw [HE.out]; first | rfl | simp
  have zv : ((0 : Int) == v) = false := by simpa using Ne.symm hzv
  go_wp2_with fail
  go_region_with (go_at_call 208; refine (c3 _).mono ?_; rintro e w3 ⟨rfl, hb3⟩; have a0 := (hb3.cell (p := ⟨w.heap.size, 0, none⟩) hlt).trans e0; have a1 := (hb3.cell (p := ⟨w.heap.size, 1, none⟩) hlt).trans e1; have a2 := (hb3.cell (p := ⟨w.heap.size, 2, none⟩) hlt).trans e2; have a3 := (hb3.cell (p := ⟨w.heap.size, 3, none⟩) hlt).trans e3; have a4 := (hb3.cell (p := ⟨w.heap.size, 4, none⟩) hlt).trans e4)
  all_goals go_wp2_with fail
  all_goals go_ret
  all_goals exact ⟨by rw [HE.out]; first | rfl | simp [kindV], B2.out.trans (((Below.refl _ w2).drew.trans hb3).mono B2.out.size)⟩
theorem recordOfV (r : Rcd) (w : World) (hd : r.data.size ≤ maxLen) : Calls Tryz.prog 160 #[vRcd r] w fun e w' => e = .returned (recV r) ∧ Below w.heap.size w w' := by
 obtain ⟨k, t, i, v, d⟩ := r
 cases hn : bnd k t i v d.size
 ·have : recV ⟨k, t, i, v, d⟩ = .nilIface := by unfold recV; rw [recOk_iff, hn]; rfl
  rw [this]
  exact recordOf_no k t i v d w hd hn
 ·have hh := of_decide_eq_true hn
  rcases (show k = 1 ∨ k = 2 ∨ k = 3 ∨ k = 4 by omega) with rfl | rfl | rfl | rfl
  ·exact recordOf_hard t i v d w hd hn
  ·exact recordOf_entry t i v d w hd hn
  ·exact recordOf_cut t i v d w hd hn
  ·exact recordOf_base t i v d w hd hn
set_option maxHeartbeats 1000000 in
theorem implRecOk (r : Rcd) (w : World) (hd : r.data.size ≤ maxLen) : Calls Tryz.prog 144 #[vRcd r] w fun e w' => e = .returned (.bool (recOk r)) ∧ Below w.heap.size w w' := by
 have c1 := fun wx => recordOfV r wx hd
 have HE : Hid (recV r = if recOk r = true then kindV r else .nilIface) := rfl
 have HK : Hid (∃ a b, kindV r = .iface a b) := by
  unfold Hid kindV
  split
  ·exact ⟨_, _, rfl⟩
  split
  ·exact ⟨_, _, rfl⟩
  split
  ·exact ⟨_, _, rfl⟩
  ·exact ⟨_, _, rfl⟩
 unfold vRcd at *
 have hb0 : Below w.heap.size w (w.alloc (.cells #[.int .i64 r.kind, .int .i64 r.term, .int .i64 r.index, .int .i64 r.vote, .string r.data] 180)) := (Below.refl _ _).alloc (Nat.le_refl _) _
 go_enter Tryz.func144, Tryz.ntmps144
 go_wp2_with fail
 generalize w.alloc (.cells #[.int .i64 r.kind, .int .i64 r.term, .int .i64 r.index, .int .i64 r.vote, .string r.data] 180) = W at *
 refine (c1 _).mono ?_
 rintro e w1 ⟨rfl, hb1⟩
 have B1 : Hid (Below w.heap.size w w1) := hb0.trans (hb1.mono hb0.size)
 clear hb0 hb1 c1
 cases ho : recOk r
 ·rw [show recV r = .nilIface by rw [HE.out, ho]; rfl]
  go_wp2_with fail
  go_ret
  exact ⟨by rw [ho]; rfl, B1.out⟩
 ·obtain ⟨a, b, hk⟩ := HK.out
  rw [show recV r = .iface a b by rw [HE.out, ho, hk]; rfl]
  clear hk
  go_wp2_with fail
  go_ret
  exact ⟨by rw [ho]; rfl, B1.out⟩
end Go.Proofs.YtifmjdakefkbiaaGreatDoor
namespace Go.Proofs.YtifmjdakefkbiaaGreatDoor
open Go.ChangeShapes Go.WideShapes Go.ChangeAt Go.RowKit Go.PlainAid
set_option linter.unusedVariables false
theorem based_in (i t : Int) (h : based i t = true) : (0 ≤ i ∧ i ≤ 100000) ∧ 0 ≤ t ∧ t ≤ 100000 := by
 unfold based inIt at h
 split at h
 ·have := of_decide_eq_true h
  omega
 ·simp at h
  omega
end Go.Proofs.YtifmjdakefkbiaaGreatDoor
