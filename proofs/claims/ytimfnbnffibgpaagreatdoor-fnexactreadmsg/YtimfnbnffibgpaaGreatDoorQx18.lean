/- MgTm MgRp WkEq StrAid StrLaw WkMk WkHd -/
import Derived.Test.YtimfnbnffibgpaaGreatDoorRows
import Derived.Test.YtimfnbnffibgpaaGreatDoorQx17
import Derived.Test.YtimfnbnffibgpaaGreatDoorQx14
import Derived.Test.YtimfnbnffibgpaaGreatDoorQx8
import Derived.Test.YtimfnbnffibgpaaGreatDoorQx6
import Derived.Laws.StructEq
import Derived.Laws.DeepStrings4
import Derived.Deep.Cut
import Derived.Deep.CutRange
import Derived.Handy
import Derived.Test.YtimfnbnffibgpaaGreatDoorQx4
import Derived.Test.YtimfnbnffibgpaaGreatDoorQx16
import Derived.Deep.RegionWith
import Derived.Test.YtimfnbnffibgpaaGreatDoorQx0
import Derived.WalkKit
import Derived.ProofKit
import Derived.Laws.OwnMore
import Derived.Below
import Derived.OwnWalk
import Derived.WalkSmall
import Derived.OpenShut
import Derived.WalkLawsBesides
import Derived.Outline
import Derived.BigQuiet
import Derived.Deep.QuietTactic
import Derived.Test.YtimfnbnffibgpaaGreatDoorQx1
open List (setIfInBounds_toArray set_cons_zero set_cons_succ)
namespace Go.Proofs.YtimfnbnffibgpaaGreatDoor
open Go.ChangeShapes Go.WideShapes Go.ChangeAt Go.RowKit Go.PlainAid
set_option linter.unusedVariables false
theorem RdF.ninth {s : ByteArray} {a7 a8 : Int} {l l7 : List Int} {n n7 : Nat} (h : RdF s 4 9 l n) (h7 : RdF s 4 7 l7 n7) (hl : ∃ p, p.length = 7 ∧ l = p ++ [a7, a8]) : ∃ m m2, FindV (lf s n7) m ∧ a7 = (vvS (lf s n7) 0 m : Int) ∧ FindV (lf s (n7 + m)) m2 ∧ a8 = (vvS (lf s (n7 + m)) 0 m2 : Int) ∧ n = n7 + m + m2 := by
 obtain ⟨p, hp, rfl⟩ := hl
 obtain ⟨l8, n8, m2, h8, f2, e2, rfl⟩ := h
 obtain ⟨l7', n7', m, h7', f1, e1, rfl⟩ := h8
 obtain ⟨rfl, rfl⟩ := h7.one h7'
 have hl7 := h7.length
 rw [e1, List.append_assoc] at e2
 obtain ⟨_, e3⟩ := List.append_inj e2 (by omega)
 simp only [List.cons_append, List.nil_append, List.cons.injEq, and_true] at e3
 exact ⟨m, m2, f1, e3.1, f2, e3.2, rfl⟩
theorem MgP.ninth {s : ByteArray} {x : Mg} {yn n1 n2 : Nat} (h : MgP s x yn n1 n2) {l7 : List Int} {n7 : Nat} (h7 : RdF s 4 7 l7 n7) : ∃ m m2, FindV (lf s n7) m ∧ yn = vvS (lf s n7) 0 m ∧ FindV (lf s (n7 + m)) m2 ∧ x.ents.length = vvS (lf s (n7 + m)) 0 m2 ∧ n1 = n7 + m + m2 := by
 obtain ⟨m, m2, f1, e1, f2, e2, e3⟩ := h.1.ninth (a7 := (yn : Int)) (a8 := (x.ents.length : Int)) h7 ⟨[x.kind, x.frm, x.dst, x.term, x.index, x.iterm, x.commit], rfl, rfl⟩
 exact ⟨m, m2, f1, by omega, f2, by omega, e3⟩
theorem noYes {s : ByteArray} {l7 : List Int} {n7 : Nat} (h7 : RdF s 4 7 l7 n7) (hn : ∀ k, FindV (lf s n7) k → 1 < vvS (lf s n7) 0 k) : ∀ x, ¬ MgRd s x := by
 rintro x ⟨yn, n1, n2, h1, h2, _⟩
 obtain ⟨m, m2, f1, e1, _⟩ := h1.ninth h7
 have := hn m f1
 omega
theorem noEntsI {s : ByteArray} {l7 : List Int} {n7 k : Nat} (h7 : RdF s 4 7 l7 n7) (hk : FindV (lf s n7) k) (hn : ∀ k2 es m, FindV (lf s (n7 + k)) k2 → vvS (lf s (n7 + k)) 0 k2 ≤ 4 → ¬ RdL (EnRd s) (n7 + k + k2) (vvS (lf s (n7 + k)) 0 k2) es m) : ∀ x, ¬ MgRd s x := by
 rintro x ⟨yn, n1, n2, h1, _⟩
 obtain ⟨m, m2, f1, e1, f2, e2, e3⟩ := h1.ninth h7
 obtain rfl := f1.one hk
 have h4 := h1.2.1
 have h5 := h1.2.2.1
 rw [e2] at h4
 rw [e2, e3] at h5
 exact hn m2 _ _ f2 h4 h5
set_option maxRecDepth 20000 in
set_option maxHeartbeats 16000000 in
theorem takeMsg (g : Nat) (s : ByteArray) (w : World) (hp : Prt w g s) (hs : s.size ≤ 1048576) (w0 : World) (hst : SumTab w0) (a0 a1 a2 : Addr) (her : Errs w0 a0 a1 a2) (hb0 : Below w0.heap.size w0 w) (hg0 : w0.heap.size ≤ g) :
  Calls Tryz.prog 44 #[.pointer (some ⟨g, 0, none⟩)] w fun e w' => ((∃ x u, MgRd s x ∧ e = .returned u ∧ MgO w' w.heap.size u x) ∨ ((∀ x, ¬ MgRd s x) ∧ e = .panicked lackP)) ∧ PKeep g w w' := by
 have HS : Hid (s.size ≤ 1048576) := hs
 have ST := Hid.mkM hst
 have ER := Hid.mkM her
 have HG0 : Hid (w0.heap.size ≤ g) := hg0
 have HG : Hid (g < w.heap.size) := hp.lt
 have K0 : Hid (PKeep g w (w.alloc (.cells #[.int .i64 0, .int .i64 0, .int .i64 0, .int .i64 0, .int .i64 0, .int .i64 0, .int .i64 0, .bool false, .slice none 0 0, .string ⟨#[]⟩] 29))) := (PKeep.refl g w).alloc hp.lt _
 have R0 := Hid.mkM (Blk.new w #[.int .i64 0, .int .i64 0, .int .i64 0, .int .i64 0, .int .i64 0, .int .i64 0, .int .i64 0, .bool false, .slice none 0 0, .string ⟨#[]⟩] 29)
 have P0 : Hid (Prt (w.alloc (.cells #[.int .i64 0, .int .i64 0, .int .i64 0, .int .i64 0, .int .i64 0, .int .i64 0, .int .i64 0, .bool false, .slice none 0 0, .string ⟨#[]⟩] 29)) g (lf s 0)) := by unfold Hid; rw [lf_zero]; exact hp.alloc _
 have B0 : Hid (Below w0.heap.size w0 (w.alloc (.cells #[.int .i64 0, .int .i64 0, .int .i64 0, .int .i64 0, .int .i64 0, .int .i64 0, .int .i64 0, .bool false, .slice none 0 0, .string ⟨#[]⟩] 29))) := hb0.alloc hb0.size _
 have HRB : Hid (∀ (X Y : World), Blk X w.heap.size #[.int .i64 0, .int .i64 0, .int .i64 0, .int .i64 0, .int .i64 0, .int .i64 0, .int .i64 0, .bool false, .slice none 0 0, .string ⟨#[]⟩] 29 → PKeep g X Y → w.heap.size < X.heap.size → Blk Y w.heap.size #[.int .i64 0, .int .i64 0, .int .i64 0, .int .i64 0, .int .i64 0, .int .i64 0, .int .i64 0, .bool false, .slice none 0 0, .string ⟨#[]⟩] 29) := fun X Y h hk hl => (hk.2 _ (by have := HG.out; omega) hl).trans h
 clear hp hs hst her hb0 hg0
 go_enter Tryz.func44, Tryz.ntmps44
 go_wp2_with fail
 generalize w.alloc (.cells #[.int .i64 0, .int .i64 0, .int .i64 0, .int .i64 0, .int .i64 0, .int .i64 0, .int .i64 0, .bool false, .slice none 0 0, .string ⟨#[]⟩] 29) = X0 at *
 refine (takeTextF g s 0 4 X0 P0.out (Nat.zero_le _) HS.out).mono ?_
 rintro e X1 ⟨hR, hk⟩
 have K1 := Hid.mkM (K0.out.trans hk)
 have R1 := Hid.mkM (HRB.out _ _ R0.out hk R0.out.lt)
 have B1 : Hid (Below w0.heap.size w0 X1) := B0.out.trans (hk.1.mono HG0.out)
 clear hk K0 R0 B0 P0
 rcases hR with ⟨hfit, rfl, hp⟩ | ⟨hno, rfl⟩
 rotate_left
 ·have HN : Hid (∀ x, ¬ MgRd s x) := by
   rintro x ⟨_, _, _, h1, _⟩
   have := h1.inS
   omega
  clear hno
  go_wp2_with fail
  exact ⟨rfl, .inr ⟨HN.out, rfl⟩, K1.out⟩
 rw [Nat.zero_add] at hfit hp ⊢
 have P1 := Hid.mkM hp
 have H4 : Hid (4 ≤ s.size) := hfit
 have hcl := P1.out.cell
 have hls := lf_size s 4
 have cS := fun wx h => msgSumV (lf s 4) wx (by have := HS.out; omega) h
 have HSU : Hid (sumOk s ↔ fixed (crc (lf s 4)) 4 = s.extract 0 4) := Iff.rfl
 have HLP : Hid (∀ X, Prt X g (lf s 4) ↔ Prt X g (lf s 4)) := fun _ => Iff.rfl
 clear hp hfit hls HLP
 generalize fixed (crc (lf s 4)) 4 = fx at *
 generalize s.extract 0 4 = sx at *
 generalize hl4 : lf s 4 = l4 at *
 have HL4 := Hid.mkM hl4
 clear hl4
 go_wp2_with fail
 refine (cS _ (ST.out.on B1.out)).mono ?_
 rintro e X2 ⟨rfl, hb⟩
 have K2 := Hid.mkM (K1.out.below HG.out hb)
 have R2 := Hid.mkM (R1.out.on hb R1.out.lt)
 have B2 : Hid (Below w0.heap.size w0 X2) := B1.out.trans (hb.mono B1.out.size)
 have P2 : Hid (Prt X2 g (lf s 4)) := by unfold Hid; rw [HL4.out]; exact P1.out.on hb
 clear hb K1 R1 B1 P1 cS hcl
 by_cases hsum : fx = sx
 rotate_left
 ·have HN : Hid (∀ x, ¬ MgRd s x) := by
   rintro x ⟨_, _, _, _, _, h3, _⟩
   exact hsum (HSU.out.1 h3)
  have hne : ¬ sx = fx := fun e => hsum e.symm
  obtain ⟨t0, t1, t2⟩ := text_neqC hne
  clear hsum hne
  go_wp2_with fail
  refine (need_no _).mono ?_
  rintro e X3 ⟨rfl, rfl⟩
  go_wp2_with fail
  exact ⟨rfl, .inr ⟨HN.out, rfl⟩, K2.out⟩
 have HSO : Hid (sumOk s) := HSU.out.2 hsum
 have t1 : (sx.toList == fx.toList) = true := by rw [hsum]; simp
 clear hsum
 go_wp2_with fail
 refine (need_yes _).mono ?_
 rintro e X3 ⟨rfl, rfl⟩
 have HR0 : Hid (RdF s 4 0 [] 4) := ⟨rfl, rfl⟩
 go_wp2_with fail
 refine (takeVarF g s 4 X2 P2.out HS.out).mono ?_
 rintro e Y1 ⟨hR, hk⟩
 have KY1 := Hid.mkM (K2.out.trans hk)
 have RY1 := Hid.mkM (HRB.out _ _ R2.out hk R2.out.lt)
 have BY1 : Hid (Below w0.heap.size w0 Y1) := B2.out.trans (hk.1.mono HG0.out)
 clear hk K2 R2 B2 P2
 rcases hR with ⟨k, hF, rfl, hp⟩ | ⟨hno, rfl⟩
 rotate_left
 ·have HN : Hid (∀ x, ¬ MgRd s x) := noVars (RdF.no HR0.out (by omega) hno)
  clear hno
  go_wp2_with fail
  exact ⟨rfl, .inr ⟨HN.out, rfl⟩, KY1.out⟩
 have PY1 := Hid.mkM hp
 have HR1 : Hid (RdF s 4 1 [(vvS (lf s 4) 0 k : Int)] (4 + k)) := HR0.out.snoc hF
 clear hp hF HR0
 generalize (vvS (lf s 4) 0 k : Int) = z0 at *
 generalize 4 + k = n1 at *
 go_wp2_with fail
 refine (takeVarF g s n1 Y1 PY1.out HS.out).mono ?_
 rintro e Y2 ⟨hR, hk⟩
 have KY2 := Hid.mkM (KY1.out.trans hk)
 have RY2 := Hid.mkM (HRB.out _ _ RY1.out hk RY1.out.lt)
 have BY2 : Hid (Below w0.heap.size w0 Y2) := BY1.out.trans (hk.1.mono HG0.out)
 clear hk KY1 RY1 BY1 PY1
 rcases hR with ⟨k, hF, rfl, hp⟩ | ⟨hno, rfl⟩
 rotate_left
 ·have HN : Hid (∀ x, ¬ MgRd s x) := noVars (RdF.no HR1.out (by omega) hno)
  clear hno
  go_wp2_with fail
  exact ⟨rfl, .inr ⟨HN.out, rfl⟩, KY2.out⟩
 have PY2 := Hid.mkM hp
 have HR2 : Hid (RdF s 4 2 [z0, (vvS (lf s n1) 0 k : Int)] (n1 + k)) := HR1.out.snoc hF
 clear hp hF HR1
 generalize (vvS (lf s n1) 0 k : Int) = z1 at *
 generalize n1 + k = n2 at *
 go_wp2_with fail
 refine (takeVarF g s n2 Y2 PY2.out HS.out).mono ?_
 rintro e Y3 ⟨hR, hk⟩
 have KY3 := Hid.mkM (KY2.out.trans hk)
 have RY3 := Hid.mkM (HRB.out _ _ RY2.out hk RY2.out.lt)
 have BY3 : Hid (Below w0.heap.size w0 Y3) := BY2.out.trans (hk.1.mono HG0.out)
 clear hk KY2 RY2 BY2 PY2
 rcases hR with ⟨k, hF, rfl, hp⟩ | ⟨hno, rfl⟩
 rotate_left
 ·have HN : Hid (∀ x, ¬ MgRd s x) := noVars (RdF.no HR2.out (by omega) hno)
  clear hno
  go_wp2_with fail
  exact ⟨rfl, .inr ⟨HN.out, rfl⟩, KY3.out⟩
 have PY3 := Hid.mkM hp
 have HR3 : Hid (RdF s 4 3 [z0, z1, (vvS (lf s n2) 0 k : Int)] (n2 + k)) := HR2.out.snoc hF
 clear hp hF HR2
 generalize (vvS (lf s n2) 0 k : Int) = z2 at *
 generalize n2 + k = n3 at *
 go_wp2_with fail
 refine (takeVarF g s n3 Y3 PY3.out HS.out).mono ?_
 rintro e Y4 ⟨hR, hk⟩
 have KY4 := Hid.mkM (KY3.out.trans hk)
 have RY4 := Hid.mkM (HRB.out _ _ RY3.out hk RY3.out.lt)
 have BY4 : Hid (Below w0.heap.size w0 Y4) := BY3.out.trans (hk.1.mono HG0.out)
 clear hk KY3 RY3 BY3 PY3
 rcases hR with ⟨k, hF, rfl, hp⟩ | ⟨hno, rfl⟩
 rotate_left
 ·have HN : Hid (∀ x, ¬ MgRd s x) := noVars (RdF.no HR3.out (by omega) hno)
  clear hno
  go_wp2_with fail
  exact ⟨rfl, .inr ⟨HN.out, rfl⟩, KY4.out⟩
 have PY4 := Hid.mkM hp
 have HR4 : Hid (RdF s 4 4 [z0, z1, z2, (vvS (lf s n3) 0 k : Int)] (n3 + k)) := HR3.out.snoc hF
 clear hp hF HR3
 generalize (vvS (lf s n3) 0 k : Int) = z3 at *
 generalize n3 + k = n4 at *
 go_wp2_with fail
 refine (takeVarF g s n4 Y4 PY4.out HS.out).mono ?_
 rintro e Y5 ⟨hR, hk⟩
 have KY5 := Hid.mkM (KY4.out.trans hk)
 have RY5 := Hid.mkM (HRB.out _ _ RY4.out hk RY4.out.lt)
 have BY5 : Hid (Below w0.heap.size w0 Y5) := BY4.out.trans (hk.1.mono HG0.out)
 clear hk KY4 RY4 BY4 PY4
 rcases hR with ⟨k, hF, rfl, hp⟩ | ⟨hno, rfl⟩
 rotate_left
 ·have HN : Hid (∀ x, ¬ MgRd s x) := noVars (RdF.no HR4.out (by omega) hno)
  clear hno
  go_wp2_with fail
  exact ⟨rfl, .inr ⟨HN.out, rfl⟩, KY5.out⟩
 have PY5 := Hid.mkM hp
 have HR5 : Hid (RdF s 4 5 [z0, z1, z2, z3, (vvS (lf s n4) 0 k : Int)] (n4 + k)) := HR4.out.snoc hF
 clear hp hF HR4
 generalize (vvS (lf s n4) 0 k : Int) = z4 at *
 generalize n4 + k = n5 at *
 go_wp2_with fail
 refine (takeVarF g s n5 Y5 PY5.out HS.out).mono ?_
 rintro e Y6 ⟨hR, hk⟩
 have KY6 := Hid.mkM (KY5.out.trans hk)
 have RY6 := Hid.mkM (HRB.out _ _ RY5.out hk RY5.out.lt)
 have BY6 : Hid (Below w0.heap.size w0 Y6) := BY5.out.trans (hk.1.mono HG0.out)
 clear hk KY5 RY5 BY5 PY5
 rcases hR with ⟨k, hF, rfl, hp⟩ | ⟨hno, rfl⟩
 rotate_left
 ·have HN : Hid (∀ x, ¬ MgRd s x) := noVars (RdF.no HR5.out (by omega) hno)
  clear hno
  go_wp2_with fail
  exact ⟨rfl, .inr ⟨HN.out, rfl⟩, KY6.out⟩
 have PY6 := Hid.mkM hp
 have HR6 : Hid (RdF s 4 6 [z0, z1, z2, z3, z4, (vvS (lf s n5) 0 k : Int)] (n5 + k)) := HR5.out.snoc hF
 clear hp hF HR5
 generalize (vvS (lf s n5) 0 k : Int) = z5 at *
 generalize n5 + k = n6 at *
 go_wp2_with fail
 refine (takeVarF g s n6 Y6 PY6.out HS.out).mono ?_
 rintro e Y7 ⟨hR, hk⟩
 have KY7 := Hid.mkM (KY6.out.trans hk)
 have RY7 := Hid.mkM (HRB.out _ _ RY6.out hk RY6.out.lt)
 have BY7 : Hid (Below w0.heap.size w0 Y7) := BY6.out.trans (hk.1.mono HG0.out)
 clear hk KY6 RY6 BY6 PY6
 rcases hR with ⟨k, hF, rfl, hp⟩ | ⟨hno, rfl⟩
 rotate_left
 ·have HN : Hid (∀ x, ¬ MgRd s x) := noVars (RdF.no HR6.out (by omega) hno)
  clear hno
  go_wp2_with fail
  exact ⟨rfl, .inr ⟨HN.out, rfl⟩, KY7.out⟩
 have PY7 := Hid.mkM hp
 have HR7 : Hid (RdF s 4 7 [z0, z1, z2, z3, z4, z5, (vvS (lf s n6) 0 k : Int)] (n6 + k)) := HR6.out.snoc hF
 clear hp hF HR6
 generalize (vvS (lf s n6) 0 k : Int) = z6 at *
 generalize n6 + k = n7 at *
 go_wp2_with fail
 refine (takeYes g s n7 Y7 PY7.out HS.out).mono ?_
 rintro e Y8 ⟨hR, hk⟩
 have KY8 := Hid.mkM (KY7.out.trans hk)
 have RY8 := Hid.mkM (HRB.out _ _ RY7.out hk RY7.out.lt)
 have BY8 : Hid (Below w0.heap.size w0 Y8) := BY7.out.trans (hk.1.mono HG0.out)
 clear hk KY7 RY7 BY7 PY7
 rcases hR with ⟨k, hF, hy1, rfl, hp⟩ | ⟨hno, rfl⟩
 rotate_left
 ·have HN : Hid (∀ x, ¬ MgRd s x) := noYes HR7.out hno
  clear hno
  go_wp2_with fail
  exact ⟨rfl, .inr ⟨HN.out, rfl⟩, KY8.out⟩
 have PY8 := Hid.mkM hp
 have HF8 := Hid.mkM hF
 have HR8 : Hid (RdF s 4 8 [z0, z1, z2, z3, z4, z5, z6, (vvS (lf s n7) 0 k : Int)] (n7 + k)) := HR7.out.snoc hF
 have HNE : Hid ((∀ k2 es m, FindV (lf s (n7 + k)) k2 → vvS (lf s (n7 + k)) 0 k2 ≤ 4 → ¬ RdL (EnRd s) (n7 + k + k2) (vvS (lf s (n7 + k)) 0 k2) es m) → ∀ x, ¬ MgRd s x) := fun h => noEntsI HR7.out HF8.out h
 have HY1 := Hid.mkM hy1
 clear hp hF hy1 HR7 HF8
 generalize vvS (lf s n7) 0 k = yn at *
 generalize n7 + k = n8 at *
 obtain ⟨yb, hyb⟩ : ∃ yb : Bool, yb = decide (yn = 1) := ⟨_, rfl⟩
 have HYB := Hid.mkM hyb
 rw [← hyb]
 clear hyb
 have HZ8 : Hid (g < Y8.heap.size) := PY8.out.lt
 go_wp2_with fail
 refine (takeEntries g s n8 Y8 PY8.out HS.out).mono ?_
 rintro e Y9 ⟨hR, hk⟩
 have KY9 := Hid.mkM (KY8.out.trans hk)
 have RY9 := Hid.mkM (HRB.out _ _ RY8.out hk RY8.out.lt)
 have BY9 : Hid (Below w0.heap.size w0 Y9) := BY8.out.trans (hk.1.mono HG0.out)
 have HZQ : Hid (Y8.heap.size ≤ Y9.heap.size) := hk.1.size
 clear hk KY8 RY8 BY8 PY8
 rcases hR with ⟨k, es, m, u, hF, h4, hrl, hm, rfl, ho, hp⟩ | ⟨hno, rfl⟩
 rotate_left
 ·have HN : Hid (∀ x, ¬ MgRd s x) := HNE.out hno
  clear hno
  go_wp2_with fail
  exact ⟨rfl, .inr ⟨HN.out, rfl⟩, KY9.out⟩
 obtain ⟨Ae, me, ce, rfl⟩ := ho.shape
 have PY9 := Hid.mkM hp
 have O9 := Hid.mkM ho
 have HX : Hid (MgP s ⟨z0, z1, z2, z3, z4, z5, z6, yb, es, lf s m⟩ yn (n8 + k) m) := by
  have hl := hrl.length
  refine ⟨?_, ?_, ?_, rfl, HYB.out⟩
  ·show RdF s 4 9 [z0, z1, z2, z3, z4, z5, z6, (yn : Int), (es.length : Int)] (n8 + k)
   rw [hl]
   exact HR8.out.snoc hF
  ·show es.length ≤ 4
   rw [hl]; exact h4
  ·show RdL (EnRd s) (n8 + k) es.length es m
   rw [hl]; exact hrl
 clear hp ho hF h4 hrl hm HNE HR8
 go_wp2_with fail
 refine (takeRestF g s m Y9 PY9.out HS.out).mono ?_
 rintro e Ya ⟨rfl, hk⟩
 have KYa := Hid.mkM (KY9.out.trans hk)
 have RYa := Hid.mkM (HRB.out _ _ RY9.out hk RY9.out.lt)
 have BYa : Hid (Below w0.heap.size w0 Ya) := BY9.out.trans (hk.1.mono HG0.out)
 have Oa : Hid (Owns Ya Y8.heap.size 57 2 (.slice Ae me ce) (entR es)) := O9.out.kept fun b hb ho => hk.2 b (by have := (O9.out.lt b ho).1; have := HZ8.out; omega) hb
 have HZY : Hid (Y8.heap.size ≤ Ya.heap.size) := Nat.le_trans HZQ.out hk.1.size
 clear hk KY9 RY9 BY9 PY9 O9
 obtain ⟨hw1, hf1⟩ := HX.out.short HS.out
 have HDS : Hid ((lf s m).size ≤ 1048576) := by have h := lf_size s m; have := HS.out; unfold Hid; omega
 have HED : Hid (∀ y ∈ es, y.data.size ≤ 1048576) := fun y hy => by have h := HX.out.2.2.1.wide.2 y hy; have := HS.out; omega
 have HEL : Hid (es.length ≤ 1048576) := by have h : es.length ≤ 4 := HX.out.2.1; unfold Hid; omega
 have HNO : Hid (msgOk ⟨z0, z1, z2, z3, z4, z5, z6, yb, es, lf s m⟩ = false → ∀ x, ¬ MgRd s x) := fun hf y hy => by
  obtain ⟨_, _, _, g1, _, _, g4⟩ := hy
  obtain ⟨e, _⟩ := HX.out.one g1
  rw [e, g4] at hf
  cases hf
 have HYE : Hid (msgOk ⟨z0, z1, z2, z3, z4, z5, z6, yb, es, lf s m⟩ = true → MgRd s ⟨z0, z1, z2, z3, z4, z5, z6, yb, es, lf s m⟩) := fun h => ⟨_, _, _, HX.out, HY1.out, HSO.out, h⟩
 have cI := fun wx (h1 : Owns wx Y8.heap.size 57 2 (.slice Ae me ce) (entR es)) hs (he : Errs wx a0 a1 a2) => implMsgOk ⟨z0, z1, z2, z3, z4, z5, z6, yb, es, lf s m⟩ (vMg ⟨z0, z1, z2, z3, z4, z5, z6, yb, es, lf s m⟩ (.slice Ae me ce)) wx wx.heap.size ⟨_, rfl, h1.lies⟩ hf1 HDS.out (Nat.le_refl _) hs a0 a1 a2 he
 have HMO : Hid (∀ wx b u, Owns wx b 57 2 u (entR es) → MgO wx b (vMg ⟨z0, z1, z2, z3, z4, z5, z6, yb, es, lf s m⟩ u) ⟨z0, z1, z2, z3, z4, z5, z6, yb, es, lf s m⟩) := fun wx b u h => ⟨_, rfl, h⟩
 unfold vMg at cI HMO
 simp only at cI HMO
 generalize lf s m = df at *
 clear hw1 hf1 HX HYB HY1 HSO
 have al := (Below.refl Ya.heap.size Ya).alloc (Nat.le_refl _) (.cells #[.int .i64 z0, .int .i64 z1, .int .i64 z2, .int .i64 z3, .int .i64 z4, .int .i64 z5, .int .i64 z6, .bool yb, .slice Ae me ce, .string df] 29)
 have KB := Hid.mkM (Blk.new Ya #[.int .i64 z0, .int .i64 z1, .int .i64 z2, .int .i64 z3, .int .i64 z4, .int .i64 z5, .int .i64 z6, .bool yb, .slice Ae me ce, .string df] 29)
 have KYb := Hid.mkM (KYa.out.below HG.out al)
 have RYb := Hid.mkM (RYa.out.on al RYa.out.lt)
 have BYb : Hid (Below w0.heap.size w0 (Ya.alloc (.cells #[.int .i64 z0, .int .i64 z1, .int .i64 z2, .int .i64 z3, .int .i64 z4, .int .i64 z5, .int .i64 z6, .bool yb, .slice Ae me ce, .string df] 29))) := BYa.out.trans (al.mono BYa.out.size)
 have Ob := Hid.mkM (Oa.out.on al)
 have HZa : Hid (Y8.heap.size ≤ Ya.heap.size ∧ w.heap.size < Ya.heap.size) := by have h1 := Oa.out; have h2 := RYa.out.lt; exact ⟨HZY.out, h2⟩
 clear al KYa RYa BYa Oa
 go_wp2_with fail
 generalize hgx : Ya.heap.size = gx at *
 clear hgx
 generalize Ya.alloc (.cells #[.int .i64 z0, .int .i64 z1, .int .i64 z2, .int .i64 z3, .int .i64 z4, .int .i64 z5, .int .i64 z6, .bool yb, .slice Ae me ce, .string df] 29) = Yb at *
 refine (cI _ Ob.out (ST.out.on BYb.out) (ER.out.on BYb.out)).mono ?_
 rintro e Yc ⟨rfl, hb⟩
 have KYc := Hid.mkM (KYb.out.below HG.out hb)
 have RYc := Hid.mkM (RYb.out.on hb RYb.out.lt)
 have Oc := Hid.mkM (Ob.out.on hb)
 have KBc := Hid.mkM (KB.out.on hb KB.out.lt)
 clear hb KYb RYb BYb Ob KB cI
 cases hok : msgOk ⟨z0, z1, z2, z3, z4, z5, z6, yb, es, df⟩
 ·have HN : Hid (∀ x, ¬ MgRd s x) := HNO.out hok
  clear hok
  go_wp2_with fail
  refine (need_no _).mono ?_
  rintro e Yd ⟨rfl, rfl⟩
  go_wp2_with fail
  exact ⟨rfl, .inr ⟨HN.out, rfl⟩, KYc.out⟩
 have HRD := Hid.mkM (HYE.out hok)
 clear hok HNO HYE
 go_wp2_with fail
 refine (need_yes _).mono ?_
 rintro e Yd ⟨rfl, rfl⟩
 have HS1 : Hid (∀ wx, Below Yc.heap.size Yc wx → wx.cell? ⟨gx, 8, none⟩ = some (.slice Ae me ce) ∧ wx.cell? ⟨gx, 9, none⟩ = some (.string df)) := fun wx hx => ⟨(KBc.out.on hx KBc.out.lt).cell 8 _ rfl, (KBc.out.on hx KBc.out.lt).cell 9 _ rfl⟩
 go_wp2_with fail
 refine wp_region_until (fun w' => w'.cell? ⟨gx, 8, none⟩ = some (.slice Ae me ce) ∧ w'.cell? ⟨gx, 9, none⟩ = some (.string df)) (fun i => i == 7 || i == 9) 10 (by rfl) (by kernel_rfl) ?_
 have V0 : Hid (Below Yc.heap.size Yc Yc.drew) := (Below.refl _ _).drew
 generalize Yc.drew = Q0 at *
 refine tF 0 (HS1.out _ V0.out) ?_
 refine tF 1 (HS1.out _ V0.out) ?_
 refine tF 3 (HS1.out _ V0.out) ?_
 refine tF 4 (HS1.out _ V0.out) ?_
 refine uNe 2 (fun K hK => ?_)
 go_simp
 refine (copyEntriesV es (.slice Ae me ce) Q0 Q0.heap.size (Oc.out.on V0.out).lies HEL.out HED.out (Nat.le_refl _)).mono ?_
 rintro e Q1 ⟨⟨u, rfl, ho⟩, hb⟩
 obtain ⟨Au, mu, cu, rfl⟩ := ho.shape
 have V1 : Hid (Below Yc.heap.size Yc Q1) := V0.out.trans (hb.mono V0.out.size)
 have Ou := Hid.mkM (ho.mono V0.out.size)
 clear hb ho V0 Oc
 refine hK.out _ _ (fun _ _ => HS1.out _ V1.out) ?_
 clear hK K
 try simp only [Act.put, zQ1, zQ2, zQ3]
 refine pF 6 ?_
 refine uNe 5 (fun K hK => ?_)
 go_simp
 refine (clone df Q1 (by have := HDS.out; omega)).mono ?_
 rintro e Q2 ⟨rfl, hb⟩
 have V2 : Hid (Below Yc.heap.size Yc Q2) := V1.out.trans (hb.mono V1.out.size)
 have Ov := Hid.mkM (Ou.out.on hb)
 clear hb V1 Ou
 refine hK.out _ _ (fun _ _ => HS1.out _ V2.out) ?_
 clear hK K
 try simp only [Act.put, zQ1, zQ2, zQ3]
 have KE := Hid.mkM (KBc.out.on V2.out KBc.out.lt)
 have HGY : Hid (gx < Yc.heap.size) := KBc.out.lt
 have k8 := KE.out.cell 8 _ rfl
 have f8 := KE.out.free 8
 have k9 := (KE.out.set 8 (.slice Au mu cu)).cell 9 _ rfl
 have f9 := (KE.out.set 8 (.slice Au mu cu)).free 9
 refine uNe 7 (fun K hK => ?_)
 go_simp
 refine hK.out _ _ (fun h => by cases h) ?_
 clear hK K
 try simp only [Act.put, zQ1, zQ2, zQ3]
 refine pF 8 ?_
 refine uNe 9 (fun K hK => ?_)
 go_simp
 refine hK.out _ _ (fun h => by cases h) ?_
 clear hK K
 try simp only [Act.put, zQ1, zQ2, zQ3]
 refine until_done (by kernel_rfl) ?_ _
 have hKF : Blk ((Q2.setCell ⟨gx, 8, none⟩ (.slice Au mu cu)).setCell ⟨gx, 9, none⟩ (.string df)) gx #[.int .i64 z0, .int .i64 z1, .int .i64 z2, .int .i64 z3, .int .i64 z4, .int .i64 z5, .int .i64 z6, .bool yb, .slice Au mu cu, .string df] 29 := (KE.out.set 8 (.slice Au mu cu)).set 9 (.string df)
 have hOF : Owns ((Q2.setCell ⟨gx, 8, none⟩ (.slice Au mu cu)).setCell ⟨gx, 9, none⟩ (.string df)) Yc.heap.size 57 2 (.slice Au mu cu) (entR es) := (Ov.out.lowM HGY.out).lowM HGY.out
 have hKK : PKeep g w ((Q2.setCell ⟨gx, 8, none⟩ (.slice Au mu cu)).setCell ⟨gx, 9, none⟩ (.string df)) := ((KYc.out.below HG.out V2.out).setNew (Nat.le_of_lt HZa.out.2) (Nat.le_of_lt (Nat.lt_trans HG.out HZa.out.2)) 8 _).setNew (Nat.le_of_lt HZa.out.2) (Nat.le_of_lt (Nat.lt_trans HG.out HZa.out.2)) 9 _
 have hRR : Blk ((Q2.setCell ⟨gx, 8, none⟩ (.slice Au mu cu)).setCell ⟨gx, 9, none⟩ (.string df)) w.heap.size #[.int .i64 0, .int .i64 0, .int .i64 0, .int .i64 0, .int .i64 0, .int .i64 0, .int .i64 0, .bool false, .slice none 0 0, .string ⟨#[]⟩] 29 := ((RYc.out.on V2.out RYc.out.lt).other (show w.heap.size ≠ gx by have := HZa.out.2; omega) 8 _).other (show w.heap.size ≠ gx by have := HZa.out.2; omega) 9 _
 clear k8 f8 k9 f9 KE KBc V2 Ov KYc RYc HS1
 generalize (Q2.setCell ⟨gx, 8, none⟩ (.slice Au mu cu)).setCell ⟨gx, 9, none⟩ (.string df) = Q3 at *
 have HKK := Hid.mkM hKK
 have b0 := hKF.cell 0 _ rfl
 have b1 := hKF.cell 1 _ rfl
 have b2 := hKF.cell 2 _ rfl
 have b3 := hKF.cell 3 _ rfl
 have b4 := hKF.cell 4 _ rfl
 have b5 := hKF.cell 5 _ rfl
 have b6 := hKF.cell 6 _ rfl
 have b7 := hKF.cell 7 _ rfl
 have b8 := hKF.cell 8 _ rfl
 have b9 := hKF.cell 9 _ rfl
 obtain ⟨⟨r0, f0⟩, ⟨r1, f1⟩, ⟨r2, f2⟩, ⟨r3, f3⟩, ⟨r4, f4⟩, ⟨r5, f5⟩, ⟨r6, f6⟩, ⟨r7, f7⟩, ⟨r8, f8⟩, ⟨r9, f9⟩, y0, y1, y2, y3, y4, y5, y6, y7, y8, y9⟩ := resC10 (x0 := .int .i64 z0) (x1 := .int .i64 z1) (x2 := .int .i64 z2) (x3 := .int .i64 z3) (x4 := .int .i64 z4) (x5 := .int .i64 z5) (x6 := .int .i64 z6) (x7 := .bool yb) (x8 := .slice Au mu cu) (x9 := .string df) hRR
 have OE := Hid.mkM (ownsC10 hOF (show w.heap.size < Yc.heap.size by have := HZa.out.2; have := HGY.out; omega) (.int .i64 z0) (.int .i64 z1) (.int .i64 z2) (.int .i64 z3) (.int .i64 z4) (.int .i64 z5) (.int .i64 z6) (.bool yb) (.slice Au mu cu) (.string df))
 have HWY : Hid (w.heap.size ≤ Yc.heap.size) := by have := HZa.out.2; have := HGY.out; unfold Hid; omega
 clear hKF hOF hKK hRR
 have KE := Hid.mkM ((((((((((HKK.out.setNew (Nat.le_refl _) (Nat.le_of_lt HG.out) 0 (.int .i64 z0)).setNew (Nat.le_refl _) (Nat.le_of_lt HG.out) 1 (.int .i64 z1)).setNew (Nat.le_refl _) (Nat.le_of_lt HG.out) 2 (.int .i64 z2)).setNew (Nat.le_refl _) (Nat.le_of_lt HG.out) 3 (.int .i64 z3)).setNew (Nat.le_refl _) (Nat.le_of_lt HG.out) 4 (.int .i64 z4)).setNew (Nat.le_refl _) (Nat.le_of_lt HG.out) 5 (.int .i64 z5)).setNew (Nat.le_refl _) (Nat.le_of_lt HG.out) 6 (.int .i64 z6)).setNew (Nat.le_refl _) (Nat.le_of_lt HG.out) 7 (.bool yb)).setNew (Nat.le_refl _) (Nat.le_of_lt HG.out) 8 (.slice Au mu cu)).setNew (Nat.le_refl _) (Nat.le_of_lt HG.out) 9 (.string df))
 go_wp2_with fail
 exact bodyPost_ret (v := .agg #[.int .i64 z0, .int .i64 z1, .int .i64 z2, .int .i64 z3, .int .i64 z4, .int .i64 z5, .int .i64 z6, .bool yb, .slice Au mu cu, .string df]) (by simp [results, go_sem, y0, y1, y2, y3, y4, y5, y6, y7, y8, y9]) rfl ⟨.inl ⟨_, _, HRD.out, rfl, (HMO.out _ _ _ OE.out).mono HWY.out⟩, KE.out⟩
end Go.Proofs.YtimfnbnffibgpaaGreatDoor
namespace Go.Proofs.YtimfnbnffibgpaaGreatDoor
open Go.ChangeShapes Go.WideShapes Go.ChangeAt Go.RowKit Go.PlainAid
set_option linter.unusedVariables false
theorem catchMg_panicking (u : TypeId) (pv : Value) (older : List PanicEntry) (w : World) :
  CallsD Tryz.prog 64 #[] (.panicking ({ v := .iface u pv, recovered := false } :: older)) w fun e u' w' =>
   e = .returned (.tuple #[]) ∧ u' = .panicking ({ v := .iface u pv, recovered := true } :: older) ∧ w' = w := by
 refine callsD_of_wpS Tryz.func64 rfl fun c₀ cs hu => ?_
 apply wpS_region
 simp [wpOpsS, go_sem, recoverD, hu, Tryz.ntmps64, bodyPostS, results, Tryz.results64]
theorem catchMg_idle (w : World) :
  CallsD Tryz.prog 64 #[] .returning w fun e u' w' => e = .returned (.tuple #[]) ∧ u' = .returning ∧ w' = w := by
 refine callsD_of_wpS Tryz.func64 rfl fun c₀ cs hu => ?_
 apply wpS_region
 simp [wpOpsS, go_sem, recoverD, hu, Tryz.ntmps64, bodyPostS, results, Tryz.results64]
 cases c₀
 simp_all
theorem MgO.shape {w : World} {base : Nat} {u : Value} {x : Mg} (h : MgO w base u x) : ∃ A m c, u = .agg #[.int .i64 x.kind, .int .i64 x.frm, .int .i64 x.dst, .int .i64 x.term, .int .i64 x.index, .int .i64 x.iterm, .int .i64 x.commit, .bool x.yes, .slice A m c, .string x.data] ∧ Owns w base 57 2 (.slice A m c) (entR x.ents) := by
 obtain ⟨v, rfl, ho⟩ := h
 obtain ⟨A, m, c, rfl⟩ := ho.shape
 exact ⟨A, m, c, rfl, ho⟩
set_option maxHeartbeats 4000000 in
theorem partsMg (s : ByteArray) (w : World) (hs : s.size ≤ 1048576) (hst : SumTab w) (a0 a1 a2 : Addr) (he : Errs w a0 a1 a2) :
  Calls Tryz.prog 43 #[.string s, .func (.func 44) #[] #[]] w fun e w' => MgA s w.heap.size e w' ∧ Below w.heap.size w w' := by
 have hmf : ∀ (fn : Fn) (first cap : Array Value) (w : World), (Instr.makeFunc fn first cap).run Tryz.prog w = .ok (.func fn first cap) w := fun _ _ _ _ => rfl
 have k0 := (Blk.new w #[.int .i64 0, .int .i64 0, .int .i64 0, .int .i64 0, .int .i64 0, .int .i64 0, .int .i64 0, .bool false, .slice none 0 0, .string ⟨#[]⟩] 29).alloc (.cells #[.string s] 92)
 have p0 : Prt ((w.alloc (.cells #[.int .i64 0, .int .i64 0, .int .i64 0, .int .i64 0, .int .i64 0, .int .i64 0, .int .i64 0, .bool false, .slice none 0 0, .string ⟨#[]⟩] 29)).alloc (.cells #[.string s] 92)) (w.heap.size + 1) s := by
  have := heap_alloc_new (w.alloc (.cells #[.int .i64 0, .int .i64 0, .int .i64 0, .int .i64 0, .int .i64 0, .int .i64 0, .int .i64 0, .bool false, .slice none 0 0, .string ⟨#[]⟩] 29)) (.cells #[.string s] 92)
  rw [World.size_alloc] at this
  exact this
 have hb0 := below_c2 w (.cells #[.int .i64 0, .int .i64 0, .int .i64 0, .int .i64 0, .int .i64 0, .int .i64 0, .int .i64 0, .bool false, .slice none 0 0, .string ⟨#[]⟩] 29) (.cells #[.string s] 92)
 go_enter_defers Tryz.func43, Tryz.ntmps43
 go_wp2_with fail
 generalize (w.alloc (.cells #[.int .i64 0, .int .i64 0, .int .i64 0, .int .i64 0, .int .i64 0, .int .i64 0, .int .i64 0, .bool false, .slice none 0 0, .string ⟨#[]⟩] 29)).alloc (.cells #[.string s] 92) = X at *
 have ZX : Hid (w.heap.size < X.heap.size) := k0.lt
 refine (takeMsg (w.heap.size + 1) s X p0 hs w hst a0 a1 a2 he hb0 (by omega)).mono ?_
 rintro e w1 ⟨hR, hk⟩
 have k1 := hk.blk k0 (by omega)
 have B1 : Hid (Below w.heap.size w w1) := hb0.trans (hk.1.mono (by omega))
 clear hk hb0 p0 k0 hs hst he
 rcases hR with ⟨x, u, hx, rfl, hO⟩ | ⟨hn, rfl⟩
 ·have HX : Hid (MgRd s x) := hx
  obtain ⟨Ae, me, ce, rfl, ho⟩ := hO.shape
  have HMO : Hid (∀ (X : World) b, Owns X b 57 2 (.slice Ae me ce) (entR x.ents) → MgO X b (.agg #[.int .i64 x.kind, .int .i64 x.frm, .int .i64 x.dst, .int .i64 x.term, .int .i64 x.index, .int .i64 x.iterm, .int .i64 x.commit, .bool x.yes, .slice Ae me ce, .string x.data]) x) := fun X b h => ⟨_, rfl, h⟩
  obtain ⟨⟨r0, f0⟩, ⟨r1, f1⟩, ⟨r2, f2⟩, ⟨r3, f3⟩, ⟨r4, f4⟩, ⟨r5, f5⟩, ⟨r6, f6⟩, ⟨r7, f7⟩, ⟨r8, f8⟩, ⟨r9, f9⟩, y0, y1, y2, y3, y4, y5, y6, y7, y8, y9⟩ := resC10 (x0 := .int .i64 x.kind) (x1 := .int .i64 x.frm) (x2 := .int .i64 x.dst) (x3 := .int .i64 x.term) (x4 := .int .i64 x.index) (x5 := .int .i64 x.iterm) (x6 := .int .i64 x.commit) (x7 := .bool x.yes) (x8 := .slice Ae me ce) (x9 := .string x.data) k1
  have B2 : Hid (Below w.heap.size w _) := belowC10 B1.out (Nat.le_refl _) (.int .i64 x.kind) (.int .i64 x.frm) (.int .i64 x.dst) (.int .i64 x.term) (.int .i64 x.index) (.int .i64 x.iterm) (.int .i64 x.commit) (.bool x.yes) (.slice Ae me ce) (.string x.data)
  have OE := Hid.mkM ((HMO.out _ _ (ownsC10 ho ZX.out (.int .i64 x.kind) (.int .i64 x.frm) (.int .i64 x.dst) (.int .i64 x.term) (.int .i64 x.index) (.int .i64 x.iterm) (.int .i64 x.commit) (.bool x.yes) (.slice Ae me ce) (.string x.data))).mono (Nat.le_of_lt ZX.out))
  clear k1 hx hO ho
  go_wp2_with fail
  refine leaves_cons (f := 64) (args := #[]) (by simp) (by simp [go_sem]) ?_
  refine (catchMg_idle _).mono ?_
  rintro e u' w'' ⟨rfl, rfl, rfl⟩
  refine ⟨.tuple #[.agg #[.int .i64 x.kind, .int .i64 x.frm, .int .i64 x.dst, .int .i64 x.term, .int .i64 x.index, .int .i64 x.iterm, .int .i64 x.commit, .bool x.yes, .slice Ae me ce, .string x.data], .bool true], ?_, ⟨x, _, _, .inl ⟨HX.out, rfl⟩, rfl, OE.out⟩, B2.out⟩
  simp [results, Tryz.results43, go_sem, y0, y1, y2, y3, y4, y5, y6, y7, y8, y9]
 ·have HN : Hid (∀ x, ¬ MgRd s x) := hn
  clear hn
  have hz := cellsC10 k1
  obtain ⟨y0, y1, y2, y3, y4, y5, y6, y7, y8, y9⟩ := hz
  clear k1
  go_wp2_with fail
  refine leaves_cons (f := 64) (args := #[]) (by simp) (by simp [go_sem]) ?_
  refine (catchMg_panicking _ _ [] _).mono ?_
  rintro e u' w'' ⟨rfl, rfl, rfl⟩
  refine ⟨.tuple #[.agg #[.int .i64 0, .int .i64 0, .int .i64 0, .int .i64 0, .int .i64 0, .int .i64 0, .int .i64 0, .bool false, .slice none 0 0, .string ⟨#[]⟩], .bool false], ?_, ⟨_, _, _, .inr ⟨HN.out, rfl, rfl⟩, rfl, MgO.zero _ _⟩, B1.out⟩
  simp [results, Tryz.results43, go_sem, y0, y1, y2, y3, y4, y5, y6, y7, y8, y9]
set_option maxHeartbeats 2000000 in
theorem implReadMsg (s : ByteArray) (w : World) (hs : s.size ≤ 1048576) (hst : SumTab w) (a0 a1 a2 : Addr) (he : Errs w a0 a1 a2) :
  Calls Tryz.prog 14 #[.string s] w fun e w' => MgA s w.heap.size e w' ∧ Below w.heap.size w w' := by
 have c := fun wx (hb : Below w.heap.size w wx) => partsMg s wx hs (hst.on hb) a0 a1 a2 (he.on hb)
 have k0 := Blk.new w #[.int .i64 0, .int .i64 0, .int .i64 0, .int .i64 0, .int .i64 0, .int .i64 0, .int .i64 0, .bool false, .slice none 0 0, .string ⟨#[]⟩] 29
 have hb0 := (Below.refl w.heap.size w).alloc (Nat.le_refl _) (.cells #[.int .i64 0, .int .i64 0, .int .i64 0, .int .i64 0, .int .i64 0, .int .i64 0, .int .i64 0, .bool false, .slice none 0 0, .string ⟨#[]⟩] 29)
 clear hs hst he
 go_enter Tryz.func14, Tryz.ntmps14
 go_wp2_with fail
 generalize w.alloc (.cells #[.int .i64 0, .int .i64 0, .int .i64 0, .int .i64 0, .int .i64 0, .int .i64 0, .int .i64 0, .bool false, .slice none 0 0, .string ⟨#[]⟩] 29) = X at *
 have ZX : Hid (w.heap.size < X.heap.size) := k0.lt
 refine (c _ hb0).mono ?_
 rintro e w1 ⟨hR, hb1⟩
 have k1 := k0.on hb1 k0.lt
 have B1 : Hid (Below w.heap.size w w1) := hb0.trans (hb1.mono hb0.size)
 obtain ⟨x, u, b, hA, rfl, hO⟩ := hR
 have HA : Hid (MgN s x b) := hA
 obtain ⟨Ae, me, ce, rfl, ho⟩ := hO.shape
 have HMO : Hid (∀ (X : World) b, Owns X b 57 2 (.slice Ae me ce) (entR x.ents) → MgO X b (.agg #[.int .i64 x.kind, .int .i64 x.frm, .int .i64 x.dst, .int .i64 x.term, .int .i64 x.index, .int .i64 x.iterm, .int .i64 x.commit, .bool x.yes, .slice Ae me ce, .string x.data]) x) := fun X b h => ⟨_, rfl, h⟩
 clear hb0 hb1 c k0 hA hO
 obtain ⟨⟨r0, f0⟩, ⟨r1, f1⟩, ⟨r2, f2⟩, ⟨r3, f3⟩, ⟨r4, f4⟩, ⟨r5, f5⟩, ⟨r6, f6⟩, ⟨r7, f7⟩, ⟨r8, f8⟩, ⟨r9, f9⟩, y0, y1, y2, y3, y4, y5, y6, y7, y8, y9⟩ := resC10 (x0 := .int .i64 x.kind) (x1 := .int .i64 x.frm) (x2 := .int .i64 x.dst) (x3 := .int .i64 x.term) (x4 := .int .i64 x.index) (x5 := .int .i64 x.iterm) (x6 := .int .i64 x.commit) (x7 := .bool x.yes) (x8 := .slice Ae me ce) (x9 := .string x.data) k1
 have B2 : Hid (Below w.heap.size w _) := belowC10 B1.out (Nat.le_refl _) (.int .i64 x.kind) (.int .i64 x.frm) (.int .i64 x.dst) (.int .i64 x.term) (.int .i64 x.index) (.int .i64 x.iterm) (.int .i64 x.commit) (.bool x.yes) (.slice Ae me ce) (.string x.data)
 have OE := Hid.mkM ((HMO.out _ _ (ownsC10 ho ZX.out (.int .i64 x.kind) (.int .i64 x.frm) (.int .i64 x.dst) (.int .i64 x.term) (.int .i64 x.index) (.int .i64 x.iterm) (.int .i64 x.commit) (.bool x.yes) (.slice Ae me ce) (.string x.data))).mono (Nat.le_of_lt ZX.out))
 clear k1 B1 ho
 go_wp2_with fail
 exact bodyPost_ret (v := .tuple #[.agg #[.int .i64 x.kind, .int .i64 x.frm, .int .i64 x.dst, .int .i64 x.term, .int .i64 x.index, .int .i64 x.iterm, .int .i64 x.commit, .bool x.yes, .slice Ae me ce, .string x.data], .bool b]) (by simp [results, go_sem, y0, y1, y2, y3, y4, y5, y6, y7, y8, y9]) rfl ⟨⟨x, _, _, HA.out, rfl, OE.out⟩, B2.out⟩
end Go.Proofs.YtimfnbnffibgpaaGreatDoor
namespace Go.Proofs.YtimfnbnffibgpaaGreatDoor
open Go.ChangeShapes Go.WideShapes Go.ChangeAt Go.RowKit Go.PlainAid
set_option linter.unusedVariables false
set_option maxHeartbeats 400000 in
theorem eqEntry (x : Ent) (w : World) : Calls Tryz.prog 58 #[vEnt x, vEnt x] w fun e w' => e = .returned (.bool true) ∧ Below w.heap.size w w' := by
 unfold vEnt
 go_enter Tryz.func58, Tryz.ntmps58
 go_wp2
 go_ret
 exact ⟨rfl, below_alloc2 _ _ _⟩
set_option maxHeartbeats 1000000 in
theorem eqEntryS (l : List Ent) (va vb : Value) (w : World) (B : Nat) (ha : Lies w B 2 va (entR l)) (hb : Lies w B 2 vb (entR l)) (hn : l.length ≤ 1048576) (hB : B ≤ w.heap.size) :
  Calls Tryz.prog 31 #[va, vb] w fun e w' => e = .returned (.bool true) ∧ Below w.heap.size w w' := by
 obtain ⟨A, cap, rfl, hl⟩ := ent_look ha
 obtain ⟨A', cap', rfl, hl'⟩ := ent_look hb
 have HL : Hid (∀ j, j < l.length → ∃ g off, A = some ⟨g, off, none⟩ ∧ g < B ∧ _) := hl
 have HL' : Hid (∀ j, j < l.length → ∃ g off, A' = some ⟨g, off, none⟩ ∧ g < B ∧ _) := hl'
 have HB : Hid (B ≤ w.heap.size) := hB
 clear hl hl' hB ha hb
 have q1 : (l.length : Int) ≤ 1048576 := by omega
 generalize hN : l.length = n at *
 go_enter Tryz.func31, Tryz.ntmps31
 go_wp2_with fail
 go_loopw [5] (fun v5 wr => ∃ k : Nat, k ≤ n ∧ v5 = .int .i64 (k : Int) ∧ Below w.heap.size w wr) (fun i _ => n - (intOf i).toNat)
 case atStart => exact ⟨0, by omega, rfl, Below.refl _ _⟩
 case round =>
  obtain ⟨k, hk, rfl, hb⟩ := hrel
  have HB1 : Hid (Below w.heap.size w wr) := hb
  clear hb
  by_cases hlt : k < n
  ·have q4 : (k : Int) < (n : Int) := by omega
   obtain ⟨g, off, rfl, hg, ha0, ha1⟩ := HL.out k hlt
   obtain ⟨g', off', rfl, hg', hb0, hb1⟩ := HL'.out k hlt
   have hgw : g < w.heap.size := Nat.lt_of_lt_of_le hg HB.out
   have hgw' : g' < w.heap.size := Nat.lt_of_lt_of_le hg' HB.out
   rw [← HB1.out.cell (p := ⟨_, _, none⟩) hgw] at ha0
   rw [← HB1.out.cell (p := ⟨_, _, none⟩) hgw'] at hb0
   rw [← HB1.out.cell (p := ⟨_, _, none⟩) hgw] at ha1
   rw [← HB1.out.cell (p := ⟨_, _, none⟩) hgw'] at hb1
   have c1 := fun wx => eqEntry (l.getD k default) wx
   unfold vEnt at c1
   generalize l.getD k default = x at *
   have hsz := HB1.out.size
   go_wp2_with fail
   go_region_with (go_at_call 58; refine (c1 _).mono ?_; rintro e w1 ⟨rfl, hb1⟩)
   all_goals go_wp2_with fail
   all_goals exact ⟨⟨k + 1, by omega, by go_num, HB1.out.trans (((Below.refl _ wr).drew.trans hb1).mono hsz)⟩, by simp [intOf]; omega⟩
  ·obtain rfl : k = n := by omega
   go_wp2_with fail
   go_ret
   exact ⟨rfl, HB1.out⟩
end Go.Proofs.YtimfnbnffibgpaaGreatDoor
namespace Go.Proofs.YtimfnbnffibgpaaGreatDoor
open Go.RowKit Go.PlainAid
def strCells (l : List ByteArray) : List Value := l.map Value.string
def Strs (w : World) (base : Nat) (v : Value) (l : List ByteArray) : Prop := w.ownsRow base 9 1 v l.length (strCells l)
theorem Strs.nil (w : World) (base : Nat) : Strs w base (.slice none 0 0) [] := World.ownsRow_nil w base 9 1
theorem Strs.empty (w : World) (base : Nat) (hb : base ≤ w.heap.size) : Strs (w.alloc (.cells #[] 9)) base (.slice (some ⟨w.heap.size, 0, none⟩) 0 0) [] :=
 World.ownsRow_lit w #[] 0 hb (by unfold maxLen; omega) rfl
theorem Strs.mono {w : World} {base base' : Nat} {v : Value} {l : List ByteArray} (h : Strs w base v l) (hb : base' ≤ base) : Strs w base' v l :=
 ⟨h.1, h.2.imp id fun ⟨g, cap, cur, e, hg, r⟩ => ⟨g, cap, cur, e, Nat.le_trans hb hg, r⟩⟩
theorem Strs.kept {w w' : World} {base : Nat} {v : Value} {l : List ByteArray} (h : Strs w base v l) (hk : ∀ g, g < w.heap.size → v.ownBlock = some g → w'.heap[g]? = w.heap[g]?) : Strs w' base v l := by
 have hl := World.ownsRow.lt h
 refine ⟨h.1, h.2.imp id ?_⟩
 rintro ⟨g, cap, cur, rfl, hg, hh, r⟩
 refine ⟨g, cap, cur, rfl, hg, ?_, r⟩
 rw [hk g (hl g rfl).2 rfl]
 exact hh
theorem Strs.on {w w' : World} {base : Nat} {v : Value} {l : List ByteArray} (h : Strs w base v l) (hb : Below w.heap.size w w') : Strs w' base v l := h.kept fun g hg _ => hb.block g hg
theorem Strs.under {w w' : World} {base B : Nat} {v : Value} {l : List ByteArray} (h : Strs w base v l) (hB : w.heap.size ≤ B) (hb : Below B w w') : Strs w' base v l := h.kept fun g hg _ => hb.block g (Nat.lt_of_lt_of_le hg hB)
theorem Strs.alloc {w : World} {base : Nat} {v : Value} {l : List ByteArray} (h : Strs w base v l) (o : Obj) : Strs (w.alloc o) base v l := World.ownsRow.alloc h o
theorem Strs.form {w : World} {base : Nat} {v : Value} {l : List ByteArray} (h : Strs w base v l) : (v = .slice none 0 0 ∧ l = []) ∨ ∃ g cap, v = .slice (some ⟨g, 0, none⟩) l.length cap ∧ base ≤ g ∧ g < w.heap.size := by
 have hl := World.ownsRow.lt h
 rcases h.2 with ⟨rfl, h0⟩ | ⟨g, cap, cur, rfl, hg, _⟩
 ·exact .inl ⟨rfl, List.eq_nil_of_length_eq_zero h0⟩
 ·exact .inr ⟨g, cap, rfl, hg, (hl g rfl).2⟩
theorem Strs.cell {w : World} {base g cap : Nat} {l : List ByteArray} (h : Strs w base (.slice (some ⟨g, 0, none⟩) l.length cap) l) (j : Nat) (hj : j < l.length) : w.cell? ⟨g, j, none⟩ = some (.string l[j]) := by
 rw [World.ownsRow.cellAt h j (by omega)]
 simp [strCells, hj]
theorem Strs.frozen {w : World} {base g cap : Nat} {l : List ByteArray} (h : Strs w base (.slice (some ⟨g, 0, none⟩) l.length cap) l) (j : Nat) : w.frozen? ⟨g, j, none⟩ = false := World.ownsRow.frozenAt h j
theorem Strs.stored {w : World} {base g cap : Nat} {l : List ByteArray} (h : Strs w base (.slice (some ⟨g, 0, none⟩) l.length cap) l) (j : Nat) (x : ByteArray) :
  Strs (w.setCell ⟨g, j, none⟩ (.string x)) base (.slice (some ⟨g, 0, none⟩) l.length cap) (l.set j x) := by
 have hs := (World.ownsRow.stored h j (.string x)).1
 unfold Strs
 rw [List.length_set, strCells, List.map_set]
 exact hs
def dg : Nat → Nat → List UInt8
 | 0, _ => []
 | f + 1, n => if n = 0 then [] else dg f (n / 10) ++ [byt (48 + n % 10)]
theorem dg_zero (f : Nat) : dg f 0 = [] := by
 cases f with
 | zero => rfl
 | succ f => rw [dg, if_pos rfl]
def mark (k : Nat) : ByteArray := txt (109 :: dg 20 k)
def marks (k : Nat) : Nat → List ByteArray
 | 0 => []
 | n + 1 => marks k n ++ [mark (k + n)]
end Go.Proofs.YtimfnbnffibgpaaGreatDoor
namespace Go.Proofs.YtimfnbnffibgpaaGreatDoor
open Go.ChangeShapes Go.WideShapes Go.ChangeAt Go.RowKit Go.PlainAid
set_option linter.unusedVariables false
set_option maxHeartbeats 400000 in
theorem markText (k : Nat) (w : World) (h1 : 1 ≤ k) (h2 : k ≤ 1000000000) :
  Calls Tryz.prog 73 #[.int .i64 (k : Int)] w fun e w' => e = .returned (.string (mark k)) ∧ Below w.heap.size w w' := by
 have q1 : (1 : Int) ≤ (k : Int) := by omega
 have q0 : decide ((k : Int) ≤ 0) = false := decide_eq_false (by omega)
 have q2 : ¬ (k : Int) ≤ 0 := by omega
 go_enter Tryz.func73, Tryz.ntmps73
 go_wp2
 go_loopw [0, 3] (fun v0 v3 wr => ∃ (m f : Nat) (out : List UInt8), v0 = .int .i64 m ∧ m ≤ 1000000000 ∧ m < 10 ^ f ∧ v3 = .string (txt out) ∧ dg f m ++ out = dg 20 k ∧ f + out.length ≤ 20 ∧ Below w.heap.size w wr) (fun i _ _ => (intOf i).toNat)
 case atStart => exact ⟨k, 20, [], rfl, h2, by omega, rfl, by simp, by simp, Below.refl _ _⟩
 case round =>
  obtain ⟨m, f, out, rfl, hm, hf, rfl, hd, hl, hb⟩ := hrel
  have HD : Hid (dg f m ++ out = dg 20 k) := hd
  have HF : Hid (m < 10 ^ f) := hf
  clear hd hf
  by_cases hp : (0 : Int) < (m : Int)
  ·obtain ⟨f', rfl⟩ : ∃ f', f = f' + 1 := by
    cases f with
    | zero => have := HF.out; simp at this; omega
    | succ f' => exact ⟨f', rfl⟩
   have e1 : (48 + (m : Int) % 10) % 256 = (((48 + m % 10) % 256 : Nat) : Int) := by omega
   have e2 : (48 + (m : Int) % 10) = (((48 + m % 10) % 256 : Nat) : Int) := by omega
   have hc : ∀ wx : World, (convert 61 9 (.slice (some ⟨wx.heap.size, 0, none⟩) 1 1)).run Tryz.prog (wx.alloc (.cells #[.int .u8 (48 + (m : Int) % 10)] 5)) = .ok (.string (txt [byt (48 + m % 10)])) (wx.alloc (.cells #[.int .u8 (48 + (m : Int) % 10)] 5)) := by
    intro wx; rw [e2]; exact run_one_byte wx 61 9 5 Tryz.underlying61 Tryz.underlying5 Tryz.underlying9 (48 + m % 10) 1
   clear e1 e2
   have hz1 : (txt [byt (48 + m % 10)]).size = 1 := rfl
   have hz2 : (txt out).size = out.length := txt_size out
   have hsum : (txt [byt (48 + m % 10)]).size + (txt out).size ≤ 9223372036854775807 := by omega
   clear hz1 hz2
   go_wp2
   go_roundw
   case rel =>
    refine ⟨m / 10, f', [byt (48 + m % 10)] ++ out, by go_num, by omega, ?_, by rw [txt_cat], ?_, by simp; omega, hb.alloc (by have := hb.size; omega) _⟩
    ·have := HF.out
     rw [Nat.pow_succ] at this
     omega
    ·have := HD.out
     rw [dg, if_neg (by omega)] at this
     rw [← this]
     simp
   case measure => simp [intOf]; omega
  ·have hm0 : m = 0 := by omega
   subst hm0
   have hz2 : (txt out).size = out.length := txt_size out
   have hz3 : (⟨#[109]⟩ : ByteArray).size = 1 := rfl
   have hsum : (⟨#[109]⟩ : ByteArray).size + (txt out).size ≤ 9223372036854775807 := by omega
   clear hz2 hz3
   go_wp2
   go_ret
   refine ⟨?_, hb⟩
   have := HD.out
   rw [dg_zero, List.nil_append] at this
   rw [this]
   rfl
end Go.Proofs.YtimfnbnffibgpaaGreatDoor
namespace Go.Proofs.YtimfnbnffibgpaaGreatDoor
open Go.ChangeShapes Go.WideShapes Go.ChangeAt Go.RowKit Go.PlainAid
set_option linter.unusedVariables false
def mkEnt (k j : Nat) : List Value := [.int .i64 (((k + 2 * j : Nat) : Int)), .string (mark (k + 2 * j + 1))]
set_option maxHeartbeats 2000000 in
theorem markEntryS (k base : Nat) (v : Value) (R : List (List Value)) (w : World) (hv : Owns w base 57 2 v R) (hl : R.length ≤ 1048576) (h1 : 1 ≤ k) (h2 : k ≤ 10000000) (hbase : base ≤ w.heap.size) :
  Calls Tryz.prog 45 #[v, .int .i64 (k : Int)] w fun e w' => e = .returned (.int .i64 ((k + 2 * R.length : Nat) : Int)) ∧ Owns w' base 57 2 v (newR (mkEnt k) R.length) ∧ Below base w w' ∧ (∀ g, g < w.heap.size → v.ownBlock ≠ some g → w'.heap[g]? = w.heap[g]?) := by
 obtain ⟨A, ca, rfl⟩ : ∃ A ca, v = .slice A R.length ca := by
  rcases hv.2.2 with ⟨rfl, h0⟩ | ⟨g, c, cur, rfl, _⟩
  ·exact ⟨none, 0, by rw [h0]⟩
  ·exact ⟨_, _, rfl⟩
 have HV : Hid (Owns w base 57 2 (.slice A R.length ca) R) := hv
 have q1 : (R.length : Int) ≤ 1048576 := by omega
 have q3 : (k : Int) ≤ 10000000 := by omega
 clear hv hl
 generalize hn : R.length = n at *
 go_enter Tryz.func45, Tryz.ntmps45
 go_wp2_with fail
 go_loopw [1, 5] (fun v1 v5 wr => ∃ j : Nat, j ≤ n ∧ v5 = .int .i64 (j : Int) ∧ v1 = .int .i64 ((k + 2 * j : Nat) : Int) ∧ Owns wr base 57 2 (.slice A n ca) (partR (mkEnt k) R j) ∧ Below base w wr ∧ (∀ g, g < w.heap.size → (Value.slice A n ca).ownBlock ≠ some g → wr.heap[g]? = w.heap[g]?)) (fun _ i _ => n - (intOf i).toNat)
 case atStart => exact ⟨0, by omega, rfl, by simp, by rw [partR_zero]; exact HV.out, Below.refl _ _, fun _ _ _ => rfl⟩
 case round =>
  obtain ⟨j, hj, rfl, rfl, hS, hB, hK⟩ := hrel
  have HS : Hid (Owns wr base 57 2 (.slice A n ca) (partR (mkEnt k) R j)) := hS
  have HB : Hid (Below base w wr) := hB
  have HK : Hid (∀ g, g < w.heap.size → (Value.slice A n ca).ownBlock ≠ some g → wr.heap[g]? = w.heap[g]?) := hK
  clear hS hB hK
  by_cases hlt : j < n
  ·have q2 : (j : Int) < (n : Int) := by omega
   obtain ⟨g, rfl, hgb⟩ : ∃ g, A = some ⟨g, 0, none⟩ ∧ base ≤ g := by
    rcases HS.out.2.2 with ⟨e, h0⟩ | ⟨g, c, cur, e, hg, _⟩
    ·rw [partR_length _ _ _ (by omega), hn] at h0; omega
    ·cases e; exact ⟨g, rfl, hg⟩
   have HG : Hid (base ≤ g) := hgb
   have hpl : (partR (mkEnt k) R j).length = n := by rw [partR_length _ _ _ (by omega), hn]
   have HN2 : Hid ((partR (mkEnt k) R j).length = n) := hpl
   have hO0 : Owns wr base 57 2 (.slice (some ⟨g, 0, none⟩) n ca) ((partR (mkEnt k) R j).set j ((partR (mkEnt k) R j)[j]'(by omega))) := by rw [set_self]; exact HS.out
   have hrl : ((partR (mkEnt k) R j)[j]'(by omega)).length = 2 := HS.out.1 _ (List.getElem_mem _)
   have HF : Hid ((partR (mkEnt k) R j).set j (mkEnt k j) = partR (mkEnt k) R (j + 1)) := partR_set _ _ _ (by omega)
   obtain ⟨y0, y1, hy⟩ : ∃ y0 y1, (partR (mkEnt k) R j)[j]'(by omega) = [y0, y1] := by
    match hh : (partR (mkEnt k) R j)[j]'(by omega), hrl with
    | [y0, y1], _ => exact ⟨y0, y1, rfl⟩
   rw [hy] at hO0
   have hmk : mkEnt k j = [.int .i64 (((k + 2 * j : Nat) : Int)), .string (mark (k + 2 * j + 1))] := rfl
   rw [hmk] at HF
   have HM : Hid (((k + 2 * (j + 1) : Nat) : Int) = ((k + 2 * j : Nat) : Int) + 2) := by unfold Hid; omega
   have q4 : ((k + 2 * j : Nat) : Int) ≤ 20000000 := by omega
   have HM1 : Hid (1 ≤ k + 2 * j) := by unfold Hid; omega
   have HM2 : Hid (k + 2 * j ≤ 20000000) := by unfold Hid; omega
   clear hmk hpl hrl hy
   generalize k + 2 * j = m at *
   generalize partR (mkEnt k) R j = P at *
   have hsz := HB.out.size
   have hgw : g < wr.heap.size := (hO0.lt g rfl).2
   obtain ⟨z0, d0⟩ := hO0.cellAt2 HN2.out hlt 0 (by omega)
   have f0 := hO0.free2 HN2.out (j * 2)
   rw [Nat.add_zero] at d0
   have p0 := (hO0).pokeAt HN2.out hlt 0 (by omega) (.int .i64 ((m : Int)))
   rw [Nat.add_zero] at p0
   have Q0 : Hid (Owns ((wr).setCell ⟨g, j * 2, none⟩ (.int .i64 ((m : Int)))) base 57 2 (.slice (some ⟨g, 0, none⟩) n ca) (P.set j [.int .i64 ((m : Int)), y1])) := p0
   have D0 : Hid (Below base w ((wr).setCell ⟨g, j * 2, none⟩ (.int .i64 ((m : Int))))) := (HB.out).setCell (show base ≤ g from HG.out) _
   have E0 : Hid (∀ b, b < w.heap.size → (Value.slice (some ⟨g, 0, none⟩) n ca).ownBlock ≠ some b → ((wr).setCell ⟨g, j * 2, none⟩ (.int .i64 ((m : Int)))).heap[b]? = w.heap[b]?) := fun b hb hne => by rw [Below.heap_setCell _ _ _ _ (show b ≠ g from fun e => hne (by rw [e]; rfl))]; exact HK.out b hb hne
   clear p0
   have hsz0 : base ≤ ((wr).setCell ⟨g, j * 2, none⟩ (.int .i64 ((m : Int)))).heap.size := Nat.le_trans hbase D0.out.size
   have hwz0 : w.heap.size ≤ ((wr).setCell ⟨g, j * 2, none⟩ (.int .i64 ((m : Int)))).heap.size := D0.out.size
   have c1 : Calls Tryz.prog 73 #[.int .i64 ((m : Int) + 1)] ((wr).setCell ⟨g, j * 2, none⟩ (.int .i64 ((m : Int)))) fun e w' => e = .returned (.string (mark (m + 1))) ∧ Below ((wr).setCell ⟨g, j * 2, none⟩ (.int .i64 ((m : Int)))).heap.size ((wr).setCell ⟨g, j * 2, none⟩ (.int .i64 ((m : Int)))) w' := by
    have h := markText (m + 1) ((wr).setCell ⟨g, j * 2, none⟩ (.int .i64 ((m : Int)))) (by have := HM1.out; omega) (by have := HM2.out; omega)
    rw [show ((m + 1 : Nat) : Int) = (m : Int) + 1 by omega] at h
    exact h
   go_wp2_with fail
   refine c1.mono ?_
   rintro e x1 ⟨rfl, hx1⟩
   have O1 : Hid (Owns x1 base 57 2 (.slice (some ⟨g, 0, none⟩) n ca) (P.set j [.int .i64 ((m : Int)), y1])) := Q0.out.on hx1
   have B1 : Hid (Below base w x1) := (D0.out).trans (hx1.mono hsz0)
   have K1 : Hid (∀ b, b < w.heap.size → (Value.slice (some ⟨g, 0, none⟩) n ca).ownBlock ≠ some b → x1.heap[b]? = w.heap[b]?) := fun b hb hne => (hx1.block b (Nat.lt_of_lt_of_le hb hwz0)).trans (E0.out b hb hne)
   have hwz : w.heap.size ≤ x1.heap.size := B1.out.size
   clear hx1 c1
   obtain ⟨z1, d1⟩ := O1.out.cellAt2 HN2.out hlt 1 (by omega)
   have f1 := O1.out.free2 HN2.out (j * 2 + 1)
   have p1 := (O1.out).pokeAt HN2.out hlt 1 (by omega) (.string (mark (m + 1)))
   have Q1 : Hid (Owns ((x1).setCell ⟨g, j * 2 + 1, none⟩ (.string (mark (m + 1)))) base 57 2 (.slice (some ⟨g, 0, none⟩) n ca) (P.set j [.int .i64 ((m : Int)), .string (mark (m + 1))])) := p1
   have D1 : Hid (Below base w ((x1).setCell ⟨g, j * 2 + 1, none⟩ (.string (mark (m + 1))))) := (B1.out).setCell (show base ≤ g from HG.out) _
   have E1 : Hid (∀ b, b < w.heap.size → (Value.slice (some ⟨g, 0, none⟩) n ca).ownBlock ≠ some b → ((x1).setCell ⟨g, j * 2 + 1, none⟩ (.string (mark (m + 1)))).heap[b]? = w.heap[b]?) := fun b hb hne => by rw [Below.heap_setCell _ _ _ _ (show b ≠ g from fun e => hne (by rw [e]; rfl))]; exact K1.out b hb hne
   clear p1
   go_wp2_with fail
   go_roundw
   case rel => exact ⟨j + 1, by omega, by go_num, by rw [HM.out]; go_num, by rw [← HF.out]; exact Q1.out, D1.out, E1.out⟩
   case measure => simp [intOf]; omega
  ·obtain rfl : j = n := by omega
   go_wp2_with fail
   go_ret
   refine ⟨rfl, ?_, HB.out, HK.out⟩
   have := HS.out
   rw [← hn, partR_all] at this
   rw [← hn]
   exact this
end Go.Proofs.YtimfnbnffibgpaaGreatDoor
namespace Go.Proofs.YtimfnbnffibgpaaGreatDoor
open Go.ChangeShapes Go.WideShapes Go.ChangeAt Go.RowKit Go.PlainAid
set_option linter.unusedVariables false
theorem mkEnt_look {w : World} {B k n : Nat} {v : Value} (h : Lies w B 2 v (newR (mkEnt k) n)) : ∃ A cap, v = .slice A n cap ∧ ∀ j, j < n → ∃ g off, A = some ⟨g, off, none⟩ ∧ g < B ∧ w.cell? ⟨g, off + j * 2, none⟩ = some (.int .i64 (((k + 2 * j : Nat) : Int))) ∧ w.cell? ⟨g, off + j * 2 + 1, none⟩ = some (.string (mark (k + 2 * j + 1))) := by
 obtain ⟨A, cap, e, h⟩ := h.look
 rw [newR_length] at e
 refine ⟨A, cap, e, fun j hj => ?_⟩
 obtain ⟨g, off, e, hg, hc⟩ := h j (by rw [newR_length]; exact hj)
 have hr : (newR (mkEnt k) n)[j]'(by rw [newR_length]; exact hj) = mkEnt k j := by simp [newR]
 rw [hr] at hc
 refine ⟨g, off, e, hg, ?_, ?_⟩
 ·have := hc 0 _ (by omega) rfl; simpa [Nat.add_assoc] using this
 ·have := hc 1 _ (by omega) rfl; simpa [Nat.add_assoc] using this
set_option maxHeartbeats 2000000 in
theorem heldEntryS (k n : Nat) (v : Value) (w : World) (B : Nat) (hv : Lies w B 2 v (newR (mkEnt k) n)) (hl : n ≤ 1048576) (h1 : 1 ≤ k) (h2 : k ≤ 10000000) (hB : B ≤ w.heap.size) :
  Calls Tryz.prog 46 #[v, .int .i64 (k : Int)] w fun e w' => e = .returned (.int .i64 ((k + 2 * n : Nat) : Int)) ∧ Below w.heap.size w w' := by
 obtain ⟨A, ca, rfl, hl'⟩ := mkEnt_look hv
 have HL : Hid (∀ j, j < n → ∃ g off, A = some ⟨g, off, none⟩ ∧ g < B ∧ _) := hl'
 have HB : Hid (B ≤ w.heap.size) := hB
 have q1 : (n : Int) ≤ 1048576 := by omega
 have q3 : (k : Int) ≤ 10000000 := by omega
 clear hv hl hl' hB
 go_enter Tryz.func46, Tryz.ntmps46
 go_wp2_with fail
 go_loopw [1, 5] (fun v1 v5 wr => ∃ j : Nat, j ≤ n ∧ v5 = .int .i64 (j : Int) ∧ v1 = .int .i64 ((k + 2 * j : Nat) : Int) ∧ Below w.heap.size w wr) (fun _ i _ => n - (intOf i).toNat)
 case atStart => exact ⟨0, by omega, rfl, by simp, Below.refl _ _⟩
 case round =>
  obtain ⟨j, hj, rfl, rfl, hb⟩ := hrel
  have HB1 : Hid (Below w.heap.size w wr) := hb
  clear hb
  by_cases hlt : j < n
  ·have q2 : (j : Int) < (n : Int) := by omega
   obtain ⟨g, off, rfl, hg, d0, d1⟩ := HL.out j hlt
   have hgw : g < w.heap.size := Nat.lt_of_lt_of_le hg HB.out
   rw [← HB1.out.cell (p := ⟨_, _, none⟩) hgw] at d0
   rw [← HB1.out.cell (p := ⟨_, _, none⟩) hgw] at d1
   have HM : Hid (((k + 2 * (j + 1) : Nat) : Int) = ((k + 2 * j : Nat) : Int) + 2) := by unfold Hid; omega
   have q4 : ((k + 2 * j : Nat) : Int) ≤ 20000000 := by omega
   have HM1 : Hid (1 ≤ k + 2 * j) := by unfold Hid; omega
   have HM2 : Hid (k + 2 * j ≤ 20000000) := by unfold Hid; omega
   generalize k + 2 * j = m at *
   have hsz := HB1.out.size
   have hgl : Hid (g < wr.heap.size) := Nat.lt_of_lt_of_le hgw hsz
   have c1 : ∀ wx : World, Calls Tryz.prog 73 #[.int .i64 ((m : Int) + 1)] wx fun e w' => e = .returned (.string (mark (m + 1))) ∧ Below wx.heap.size wx w' := fun wx => by
    have h := markText (m + 1) wx (by have := HM1.out; omega) (by have := HM2.out; omega)
    rw [show ((m + 1 : Nat) : Int) = (m : Int) + 1 by omega] at h
    exact h
   clear hgw HL
   go_wp2_with fail
   (go_region_with (go_at_call 73; refine (c1 _).mono ?_; rintro e x0 ⟨rfl, hx0⟩; have a1 := (hx0.cell (p := ⟨g, off + j * 2 + 1, none⟩) hgl.out).trans d1; have hg0 : Hid (g < x0.heap.size) := Nat.lt_of_lt_of_le hgl.out hx0.size))
   all_goals go_wp2_with fail
   all_goals exact ⟨⟨j + 1, by omega, by go_num, by rw [HM.out]; go_num, (HB1.out).trans (((Below.refl _ wr).drew.trans hx0).mono hsz)⟩, by simp [intOf]; omega⟩
  ·obtain rfl : j = n := by omega
   go_wp2_with fail
   go_ret
   exact ⟨rfl, HB1.out⟩
end Go.Proofs.YtimfnbnffibgpaaGreatDoor
