/- KdSyn KdCrash TxCuD LawFnSafe -/
import Derived.Test.YtgjilgecklhglaaGreatRows
import Derived.Test.YtgjilgecklhglaaGreatQz12
import Derived.Test.YtgjilgecklhglaaGreatQz13
import Derived.Test.YtgjilgecklhglaaGreatQz10
import Derived.Lib.OwnKind
import Derived.Deep.Cut
import Derived.Deep.CutRange
import Derived.Deep.CutBlock
import Derived.WalkKit
import Derived.ProofKit
import Derived.OpenShut
import Derived.Below
import Derived.WalkSmall
import Derived.Handy
import Derived.Deep.RegionHeld3
import Derived.Test.YtgjilgecklhglaaGreatQz11
import Derived.Test.YtgjilgecklhglaaGreatQz5
import Derived.Test.YtgjilgecklhglaaGreatQz7
import Derived.Test.YtgjilgecklhglaaGreatQt0
import Derived.Test.YtgjilgecklhglaaGreatQt1
import Derived.Test.YtgjilgecklhglaaGreatQt2
import Derived.Test.YtgjilgecklhglaaGreatQt3
import Derived.Test.YtgjilgecklhglaaGreatQt4
import Derived.Test.YtgjilgecklhglaaGreatQt5
import Derived.Test.YtgjilgecklhglaaGreatQt6
import Derived.Test.YtgjilgecklhglaaGreatQt7
import Derived.Test.YtgjilgecklhglaaGreatQt8
import Derived.Test.YtgjilgecklhglaaGreatQt9
import Derived.Test.YtgjilgecklhglaaGreatQt10
import Derived.Test.YtgjilgecklhglaaGreatQt11
import Derived.Test.YtgjilgecklhglaaGreatQt12
import Derived.Test.YtgjilgecklhglaaGreatQt13
import Derived.Test.YtgjilgecklhglaaGreatQt14
import Derived.Test.YtgjilgecklhglaaGreatQt15
namespace Go.Proofs.YtgjilgecklhglaaGreat
open Go.ChangeShapes Go.WideShapes Go.ChangeAt Go.RowKit Go.PlainAid
set_option linter.unusedVariables false
set_option maxRecDepth 20000 in
set_option maxHeartbeats 4000000 in
theorem synced_any (w : World) (ao : Option Addr) (len cap : Nat) (cs : Nat → Nat) (hl : len ≤ 1048576) (h : CodeIs w w.heap.size ao len cs) :
  Calls Tryz.prog 7 #[.slice ao len cap] w fun e w' => ∃ (d : Dsk) (v : Value) (nm dt : ByteArray) (b : Bool), e = .returned (.tuple #[v, .string nm, .string dt, .bool b]) ∧ DiskO w' w.heap.size v d ∧ (b = true → Kept d nm dt ⟨#[]⟩ ∧ bytesOf d.nods ≤ 200000 ∧ nm.size ≤ 13) ∧ Below w.heap.size w w' := by
 have HC : Hid (CodeIs w w.heap.size ao len cs) := h
 clear h
 obtain ⟨X0, hX0⟩ : ∃ X0, X0 = w.alloc (.cells #[.int .i64 0, .int .i64 0, .slice none 0 0, .slice none 0 0, .slice none 0 0] 28) := ⟨_, rfl⟩
 have B0 : Hid (Below w.heap.size w X0) := by unfold Hid; rw [hX0]; exact (Below.refl _ w).alloc (Nat.le_refl _) _
 have K0 : Hid (Blk X0 w.heap.size #[.int .i64 0, .int .i64 0, .slice none 0 0, .slice none 0 0, .slice none 0 0] 28) := by unfold Hid; rw [hX0]; exact Blk.new w _ _
 have C0 := Hid.mkD (HC.out.on B0.out)
 go_enter Tryz.func7, Tryz.ntmps7
 go_wp2_with fail
 rw [← hX0]
 clear hX0
 refine (drawSync X0 ao len cap cs hl C0.out).mono ?_
 rintro e w1 ⟨d, v, nm, rfl, hO, hsm, hnm, hb⟩
 have HSM := Hid.mkD hsm
 have HNX := Hid.mkD hnm
 have HNM : Hid (nm.size ≤ maxLen) := by unfold Hid maxLen; omega
 obtain ⟨v1, v2, v3, rfl, h1, h2, h3⟩ := hO
 obtain ⟨xa1, xan1, xac1, rfl⟩ := h1.shape
 obtain ⟨xa2, xan2, xac2, rfl⟩ := h2.shape
 obtain ⟨xa3, xan3, xac3, rfl⟩ := h3.shape
 have KR1 : Hid (Blk w1 w.heap.size #[.int .i64 0, .int .i64 0, .slice none 0 0, .slice none 0 0, .slice none 0 0] 28) := K0.out.on hb K0.out.lt
 have S1 : Hid (DkX X0 w1.heap.size (w1.alloc (.cells #[.int .i64 d.room, .int .i64 d.next, .slice xa1 xan1 xac1, .slice xa2 xan2 xac2, .slice xa3 xan3 xac3] 28)) d xa1 xan1 xac1 xa2 xan2 xac2 xa3 xan3 xac3) := DkX.new ⟨_, _, _, rfl, h1, h2, h3⟩ (Nat.le_refl _) hb
 have KR2 : Hid (Blk (w1.alloc (.cells #[.int .i64 d.room, .int .i64 d.next, .slice xa1 xan1 xac1, .slice xa2 xan2 xac2, .slice xa3 xan3 xac3] 28)) w.heap.size #[.int .i64 0, .int .i64 0, .slice none 0 0, .slice none 0 0, .slice none 0 0] 28) := KR1.out.alloc _
 have GN : Hid (w.heap.size ≠ w1.heap.size) := by have := KR1.out.lt; unfold Hid; omega
 have GG := Hid.mkD (Nat.le_of_lt KR1.out.lt)
 clear hb h1 h2 h3 hsm hnm KR1
 obtain ⟨e0, e1, e2, e3, e4⟩ := cellsC5 S1.out.box
 go_wp2_with fail
 generalize w1.alloc (.cells #[.int .i64 d.room, .int .i64 d.next, .slice xa1 xan1 xac1, .slice xa2 xan2 xac2, .slice xa3 xan3 xac3] 28) = w2 at *
 generalize w1.heap.size = gg at *
 refine (specSyncV d (.agg #[.int .i64 d.room, .int .i64 d.next, .slice xa1 xan1 xac1, .slice xa2 xan2 xac2, .slice xa3 xan3 xac3]) nm w2 w2.heap.size S1.out.v HSM.out.fits HSM.out.wt (Nat.le_refl _) HNM.out).mono ?_
 rintro e w3 ⟨x, rfl, hO, hb⟩
 have HM1 : Hid (MidZ (syncR d nm).1) := sync_midz HSM.out nm
 have HT := Hid.mkD (fun hc => two_kept HSM.out (nm := nm) hc)
 obtain ⟨d1, hd1⟩ : ∃ d1, d1 = (syncR d nm).1 := ⟨_, rfl⟩
 obtain ⟨c1, hc1⟩ : ∃ c1, c1 = (syncR d nm).2 := ⟨_, rfl⟩
 rw [← hd1] at hO HM1 HT
 rw [← hc1] at HT
 rw [← hc1]
 clear hd1 hc1
 obtain ⟨v1, v2, v3, rfl, h1, h2, h3⟩ := hO
 obtain ⟨xb1, xbn1, xbc1, rfl⟩ := h1.shape
 obtain ⟨xb2, xbn2, xbc2, rfl⟩ := h2.shape
 obtain ⟨xb3, xbn3, xbc3, rfl⟩ := h3.shape
 have S2 := Hid.mkD (S1.out.below hb)
 have KR3 : Hid (Blk w3 w.heap.size #[.int .i64 0, .int .i64 0, .slice none 0 0, .slice none 0 0, .slice none 0 0] 28) := KR2.out.on hb KR2.out.lt
 have S3 : Hid (DkX X0 gg (((((w3.setCell ⟨gg, 0, none⟩ (.int .i64 d1.room)).setCell ⟨gg, 1, none⟩ (.int .i64 d1.next)).setCell ⟨gg, 2, none⟩ (.slice xb1 xbn1 xbc1)).setCell ⟨gg, 3, none⟩ (.slice xb2 xbn2 xbc2)).setCell ⟨gg, 4, none⟩ (.slice xb3 xbn3 xbc3)) d1 xb1 xbn1 xbc1 xb2 xbn2 xbc2 xb3 xbn3 xbc3) := S2.out.swap S1.out.b.size h1 h2 h3
 have KR4 : Hid (Blk (((((w3.setCell ⟨gg, 0, none⟩ (.int .i64 d1.room)).setCell ⟨gg, 1, none⟩ (.int .i64 d1.next)).setCell ⟨gg, 2, none⟩ (.slice xb1 xbn1 xbc1)).setCell ⟨gg, 3, none⟩ (.slice xb2 xbn2 xbc2)).setCell ⟨gg, 4, none⟩ (.slice xb3 xbn3 xbc3)) w.heap.size #[.int .i64 0, .int .i64 0, .slice none 0 0, .slice none 0 0, .slice none 0 0] 28) := blkO5 KR3.out GN.out _ _ _ _ _
 obtain ⟨⟨r0, f0⟩, ⟨r1, f1⟩, ⟨r2, f2⟩, ⟨r3, f3⟩, ⟨r4, f4⟩, y0, y1, y2, y3, y4⟩ := resC5 (x0 := .int .i64 d1.room) (x1 := .int .i64 d1.next) (x2 := .slice xb1 xbn1 xbc1) (x3 := .slice xb2 xbn2 xbc2) (x4 := .slice xb3 xbn3 xbc3) S2.out.box
 clear h1 h2 h3 hb S1 S2 KR2 KR3 e0 e1 e2 e3 e4 y0 y1 y2 y3 y4
 obtain ⟨e0, e1, e2, e3, e4⟩ := cellsC5 S3.out.box
 go_wp2_with fail
 clear r0 r1 r2 r3 r4 f0 f1 f2 f3 f4 e0 e1 e2 e3 e4
 generalize (((((w3.setCell ⟨gg, 0, none⟩ (.int .i64 d1.room)).setCell ⟨gg, 1, none⟩ (.int .i64 d1.next)).setCell ⟨gg, 2, none⟩ (.slice xb1 xbn1 xbc1)).setCell ⟨gg, 3, none⟩ (.slice xb2 xbn2 xbc2)).setCell ⟨gg, 4, none⟩ (.slice xb3 xbn3 xbc3)) = w4 at *
 refine (specSyncDirV d1 (.agg #[.int .i64 d1.room, .int .i64 d1.next, .slice xb1 xbn1 xbc1, .slice xb2 xbn2 xbc2, .slice xb3 xbn3 xbc3]) w4 w4.heap.size S3.out.v HM1.out.fits.1 HM1.out.fits.2.2 (Nat.le_refl _)).mono ?_
 rintro e w5 ⟨x, rfl, hO, hb⟩
 have HM2 : Hid (MidZ (syncDirR d1).1) := syncDir_midz HM1.out
 obtain ⟨d2, hd2⟩ : ∃ d2, d2 = (syncDirR d1).1 := ⟨_, rfl⟩
 obtain ⟨c2, hc2⟩ : ∃ c2, c2 = (syncDirR d1).2 := ⟨_, rfl⟩
 rw [← hd2] at hO HM2 HT
 rw [← hc2] at HT
 rw [← hc2]
 clear hd2 hc2
 obtain ⟨v1, v2, v3, rfl, h1, h2, h3⟩ := hO
 obtain ⟨xc1, xcn1, xcc1, rfl⟩ := h1.shape
 obtain ⟨xc2, xcn2, xcc2, rfl⟩ := h2.shape
 obtain ⟨xc3, xcn3, xcc3, rfl⟩ := h3.shape
 have S4 := Hid.mkD (S3.out.below hb)
 have KR5 : Hid (Blk w5 w.heap.size #[.int .i64 0, .int .i64 0, .slice none 0 0, .slice none 0 0, .slice none 0 0] 28) := KR4.out.on hb KR4.out.lt
 have S5 : Hid (DkX X0 gg (((((w5.setCell ⟨gg, 0, none⟩ (.int .i64 d2.room)).setCell ⟨gg, 1, none⟩ (.int .i64 d2.next)).setCell ⟨gg, 2, none⟩ (.slice xc1 xcn1 xcc1)).setCell ⟨gg, 3, none⟩ (.slice xc2 xcn2 xcc2)).setCell ⟨gg, 4, none⟩ (.slice xc3 xcn3 xcc3)) d2 xc1 xcn1 xcc1 xc2 xcn2 xcc2 xc3 xcn3 xcc3) := S4.out.swap S3.out.b.size h1 h2 h3
 have KR6 : Hid (Blk (((((w5.setCell ⟨gg, 0, none⟩ (.int .i64 d2.room)).setCell ⟨gg, 1, none⟩ (.int .i64 d2.next)).setCell ⟨gg, 2, none⟩ (.slice xc1 xcn1 xcc1)).setCell ⟨gg, 3, none⟩ (.slice xc2 xcn2 xcc2)).setCell ⟨gg, 4, none⟩ (.slice xc3 xcn3 xcc3)) w.heap.size #[.int .i64 0, .int .i64 0, .slice none 0 0, .slice none 0 0, .slice none 0 0] 28) := blkO5 KR5.out GN.out _ _ _ _ _
 obtain ⟨⟨r0, f0⟩, ⟨r1, f1⟩, ⟨r2, f2⟩, ⟨r3, f3⟩, ⟨r4, f4⟩, y0, y1, y2, y3, y4⟩ := resC5 (x0 := .int .i64 d2.room) (x1 := .int .i64 d2.next) (x2 := .slice xc1 xcn1 xcc1) (x3 := .slice xc2 xcn2 xcc2) (x4 := .slice xc3 xcn3 xcc3) S4.out.box
 clear h1 h2 h3 hb S3 S4 KR4 KR5 y0 y1 y2 y3 y4 HM1
 obtain ⟨e0, e1, e2, e3, e4⟩ := cellsC5 S5.out.box
 go_wp2_with fail
 clear r0 r1 r2 r3 r4 f0 f1 f2 f3 f4 e0 e1 e2 e3 e4
 generalize (((((w5.setCell ⟨gg, 0, none⟩ (.int .i64 d2.room)).setCell ⟨gg, 1, none⟩ (.int .i64 d2.next)).setCell ⟨gg, 2, none⟩ (.slice xc1 xcn1 xcc1)).setCell ⟨gg, 3, none⟩ (.slice xc2 xcn2 xcc2)).setCell ⟨gg, 4, none⟩ (.slice xc3 xcn3 xcc3)) = w6 at *
 refine (specLoadV d2 (.agg #[.int .i64 d2.room, .int .i64 d2.next, .slice xc1 xcn1 xcc1, .slice xc2 xcn2 xcc2, .slice xc3 xcn3 xcc3]) nm w6 w6.heap.size S5.out.v HM2.out.fits.1 HM2.out.fits.2.2 (Nat.le_refl _)).mono ?_
 rintro e w7 ⟨rfl, hb⟩
 obtain ⟨dt, hdt⟩ : ∃ dt, dt = (loadR d2 nm).1 := ⟨_, rfl⟩
 obtain ⟨b, hb2⟩ : ∃ b, b = (loadR d2 nm).2 := ⟨_, rfl⟩
 rw [← hdt, ← hb2] at HT
 rw [← hdt, ← hb2]
 have S7 := Hid.mkD (S5.out.below hb)
 have KR7 : Hid (Blk w7 w.heap.size #[.int .i64 0, .int .i64 0, .slice none 0 0, .slice none 0 0, .slice none 0 0] 28) := KR6.out.on hb KR6.out.lt
 clear hb hdt hb2 S5 KR6 HM2 HSM HNM
 have O8 : Hid (DiskO (((((w7.setCell ⟨w.heap.size, 0, none⟩ (.int .i64 d2.room)).setCell ⟨w.heap.size, 1, none⟩ (.int .i64 d2.next)).setCell ⟨w.heap.size, 2, none⟩ (.slice xc1 xcn1 xcc1)).setCell ⟨w.heap.size, 3, none⟩ (.slice xc2 xcn2 xcc2)).setCell ⟨w.heap.size, 4, none⟩ (.slice xc3 xcn3 xcc3)) w.heap.size (.agg #[.int .i64 d2.room, .int .i64 d2.next, .slice xc1 xcn1 xcc1, .slice xc2 xcn2 xcc2, .slice xc3 xcn3 xcc3]) d2) := (DiskO.set5 S7.out.o K0.out.lt _ _ _ _ _).monoD B0.out.size
 have B8 : Hid (Below w.heap.size w (((((w7.setCell ⟨w.heap.size, 0, none⟩ (.int .i64 d2.room)).setCell ⟨w.heap.size, 1, none⟩ (.int .i64 d2.next)).setCell ⟨w.heap.size, 2, none⟩ (.slice xc1 xcn1 xcc1)).setCell ⟨w.heap.size, 3, none⟩ (.slice xc2 xcn2 xcc2)).setCell ⟨w.heap.size, 4, none⟩ (.slice xc3 xcn3 xcc3))) := belowC5 (B0.out.trans (S7.out.b.mono B0.out.size)) (Nat.le_refl _) _ _ _ _ _
 obtain ⟨e0, e1, e2, e3, e4⟩ := cellsC5 S7.out.box
 obtain ⟨⟨r0, f0⟩, ⟨r1, f1⟩, ⟨r2, f2⟩, ⟨r3, f3⟩, ⟨r4, f4⟩, y0, y1, y2, y3, y4⟩ := resC5 (x0 := .int .i64 d2.room) (x1 := .int .i64 d2.next) (x2 := .slice xc1 xcn1 xcc1) (x3 := .slice xc2 xcn2 xcc2) (x4 := .slice xc3 xcn3 xcc3) KR7.out
 clear S7 KR7
 by_cases hc0 : c1 = 0
 ·obtain ⟨g2, hK, g4, hB, hN⟩ := HT.out hc0
  have HK := Hid.mkD hK
  have HB2 := Hid.mkD hB
  clear hK hB hN HT
  subst hc0 g2 g4
  go_wp2_with fail
  exact bodyPost_ret (v := .tuple #[(.agg #[.int .i64 d2.room, .int .i64 d2.next, .slice xc1 xcn1 xcc1, .slice xc2 xcn2 xcc2, .slice xc3 xcn3 xcc3]), .string nm, .string dt, .bool true]) (by simp [results, go_sem, y0, y1, y2, y3, y4]) rfl ⟨d2, _, nm, dt, true, rfl, O8.out, fun _ => ⟨HK.out, HB2.out, HNX.out⟩, B8.out⟩
 ·clear HT
  have hcb : (c1 == 0) = false := by simpa using hc0
  cases b
  all_goals
   go_wp2_with fail
   exact bodyPost_ret (v := .tuple #[(.agg #[.int .i64 d2.room, .int .i64 d2.next, .slice xc1 xcn1 xcc1, .slice xc2 xcn2 xcc2, .slice xc3 xcn3 xcc3]), .string nm, .string dt, .bool false]) (by simp [results, go_sem, y0, y1, y2, y3, y4]) rfl ⟨d2, _, nm, dt, false, rfl, O8.out, fun h => (by cases h), B8.out⟩
end Go.Proofs.YtgjilgecklhglaaGreat
namespace Go.Proofs.YtgjilgecklhglaaGreat
open Go.ChangeShapes Go.WideShapes Go.ChangeAt Go.RowKit Go.PlainAid
set_option linter.unusedVariables false
end Go.Proofs.YtgjilgecklhglaaGreat
namespace Go.Proofs.YtgjilgecklhglaaGreat
open Go.ChangeShapes Go.WideShapes Go.ChangeAt Go.RowKit Go.PlainAid
set_option linter.unusedVariables false
theorem drawHex (w : World) (ao : Option Addr) (len cap : Nat) (cs : Nat → Nat) (hl : len ≤ 1048576) (h : CodeIs w w.heap.size ao len cs) :
  Calls Tryz.prog 12 #[.slice ao len cap] w fun e w' => e = .returned (.string (txt (textV len cs 40 (newP len cs)))) ∧ Below w.heap.size w w' := by
 have HC : Hid (CodeIs w w.heap.size ao len cs) := h
 clear h
 go_enter Tryz.func12, Tryz.ntmps12
 go_wp2_with fail
 refine (new_any _ ao len cap cs hl HC.out).mono ?_
 rintro e w1 ⟨rfl, hA1, hb1⟩
 go_wp2_with fail
 refine (text_any _ _ ao len cap cs _ 40 (by omega) (by omega) hA1).mono ?_
 rintro e w2 ⟨rfl, hA2, hm2⟩
 go_wp2_with fail
 go_ret
 exact ⟨rfl, hb1.trans ((hm2.mono hb1.size).below (Nat.le_refl _))⟩
end Go.Proofs.YtgjilgecklhglaaGreat
namespace Go.Proofs.YtgjilgecklhglaaGreat
open Go.ChangeShapes Go.WideShapes Go.ChangeAt Go.RowKit Go.PlainAid
set_option linter.unusedVariables false
theorem txt_short (len : Nat) (cs : Nat → Nat) : (txt (textV len cs 40 (newP len cs))).size ≤ 1000 := by
 have := textV_length len cs 40 (newP len cs) (by omega)
 have e : (txt (textV len cs 40 (newP len cs))).size = (textV len cs 40 (newP len cs)).length := by simp [txt, ByteArray.size]
 omega
theorem bareX {w wc : World} {g : Nat} {d : Dsk} {A1 : Option Addr} {n1 c1 : Nat} {A2 : Option Addr} {n2 c2 : Nat} {A3 : Option Addr} {n3 c3 : Nat} (S : DkX w g wc d A1 n1 c1 A2 n2 c2 A3 n3 c3) : DkX w g (((((wc.setCell ⟨g, 0, none⟩ (.int .i64 500)).setCell ⟨g, 1, none⟩ (.int .i64 1)).setCell ⟨g, 2, none⟩ (.slice none 0 0)).setCell ⟨g, 3, none⟩ (.slice none 0 0)).setCell ⟨g, 4, none⟩ (.slice none 0 0)) ⟨500, 1, [], [], []⟩ none 0 0 none 0 0 none 0 0 :=
 DkX.swap (d2 := ⟨500, 1, [], [], []⟩) (B1 := none) (m1 := 0) (k1 := 0) (B2 := none) (m2 := 0) (k2 := 0) (B3 := none) (m3 := 0) (k3 := 0) (C := w.heap.size) S (Nat.le_refl _) (ownsNilD _ _ _ _) (ownsNilD _ _ _ _) (ownsNilD _ _ _ _)
theorem cellsB {w wc : World} {g : Nat} (S : DkX w g wc ⟨500, 1, [], [], []⟩ none 0 0 none 0 0 none 0 0) : wc.cell? ⟨g, 0, none⟩ = some (.int .i64 500) ∧ wc.cell? ⟨g, 1, none⟩ = some (.int .i64 1) ∧ wc.cell? ⟨g, 2, none⟩ = some (.slice none 0 0) ∧ wc.cell? ⟨g, 3, none⟩ = some (.slice none 0 0) ∧ wc.cell? ⟨g, 4, none⟩ = some (.slice none 0 0) := cellsC5 S.box
theorem begins_of {a b got : ByteArray} (h1 : a.size ≤ got.size) (h2 : got.size ≤ (a ++ b).size) (h3 : got = (a ++ b).extract 0 got.size) : got.extract 0 a.size = a := by
 rw [h3, ByteArray.extract_extract]
 have e : ((a ++ b).extract (0 + 0) (min (0 + a.size) got.size)) = a := by
  rw [show min (0 + a.size) got.size = a.size by omega]
  apply ByteArray.ext
  rw [ByteArray.data_extract, ByteArray.data_append]
  show (a.data ++ b.data).extract (0 + 0) a.data.size = a.data
  simp
 exact e
theorem log_disk : MidZ (makeR ⟨500, 1, [], [], []⟩ ⟨#[108, 111, 103]⟩).1 ∧ MidZ (syncR (makeR ⟨500, 1, [], [], []⟩ ⟨#[108, 111, 103]⟩).1 ⟨#[108, 111, 103]⟩).1 ∧ Kept (syncDirR (syncR (makeR ⟨500, 1, [], [], []⟩ ⟨#[108, 111, 103]⟩).1 ⟨#[108, 111, 103]⟩).1).1 ⟨#[108, 111, 103]⟩ ⟨#[]⟩ ⟨#[]⟩ ∧ bytesOf (syncDirR (syncR (makeR ⟨500, 1, [], [], []⟩ ⟨#[108, 111, 103]⟩).1 ⟨#[108, 111, 103]⟩).1).1.nods ≤ 200000 := by
 have h0 : RS (⟨500, 1, [], [], []⟩ : Dsk) := RS.bare (by omega) (by omega)
 have h1 := h0.make ⟨#[108, 111, 103]⟩
 have hs := h1.small
 have hb := hs.b
 have hc : (syncR (makeR ⟨500, 1, [], [], []⟩ ⟨#[108, 111, 103]⟩).1 ⟨#[108, 111, 103]⟩).2 = 0 := by decide
 have hd : (loadR (syncDirR (syncR (makeR ⟨500, 1, [], [], []⟩ ⟨#[108, 111, 103]⟩).1 ⟨#[108, 111, 103]⟩).1).1 ⟨#[108, 111, 103]⟩).1 = ⟨#[]⟩ := by decide
 obtain ⟨_, hK, _, hB, _⟩ := two_kept hs hc
 rw [hd] at hK
 exact ⟨.inl ⟨h1.1, by omega⟩, sync_midz hs _, hK, hB⟩
set_option maxRecDepth 20000 in
set_option maxHeartbeats 8000000 in
theorem law_fnSafe (ao : Option Addr) (len cap : Nat) (cs : Nat → Nat) (w : World) (h : CodeIs w w.heap.size ao len cs) (hl : len ≤ 9223372036854775807) : Calls Tryz.prog 3 #[.slice ao len cap] w fun e w' => e = .returned (.bool true) ∧ Below w.heap.size w w' := by
 have HC : Hid (CodeIs w w.heap.size ao len cs) := h
 clear h
 by_cases hbig : 1048576 < len
 ·go_enter Tryz.func3, Tryz.ntmps3
  go_wp2_with fail
  refine (big_yes w ao len cap hbig hl).mono ?_
  rintro e w' ⟨rfl, rfl⟩
  go_wp2_with fail
  go_ret
  exact ⟨rfl, Below.refl _ _⟩
 have HL : Hid (len ≤ 1048576) := by unfold Hid; omega
 have q0 : (len : Int) ≤ 1048576 := by omega
 clear hbig hl
 go_enter Tryz.func3, Tryz.ntmps3
 go_wp2_with fail
 refine (big_no w ao len cap HL.out).mono ?_
 rintro e w' ⟨rfl, rfl⟩
 go_wp2_with fail
 refine (synced_any w ao len cap cs HL.out HC.out).mono ?_
 rintro e w1 ⟨d, v, nm, dt, b, rfl, hO, hgood, hb⟩
 obtain ⟨v1, v2, v3, rfl, h1, h2, h3⟩ := hO
 obtain ⟨xa1, xan1, xac1, rfl⟩ := h1.shape
 obtain ⟨xa2, xan2, xac2, rfl⟩ := h2.shape
 obtain ⟨xa3, xan3, xac3, rfl⟩ := h3.shape
 have S1 : Hid (DkX w w1.heap.size (w1.alloc (.cells #[.int .i64 d.room, .int .i64 d.next, .slice xa1 xan1 xac1, .slice xa2 xan2 xac2, .slice xa3 xan3 xac3] 28)) d xa1 xan1 xac1 xa2 xan2 xac2 xa3 xan3 xac3) := DkX.new ⟨_, _, _, rfl, h1, h2, h3⟩ (Nat.le_refl _) hb
 have HG := Hid.mkD hgood
 clear hb h1 h2 h3 hgood
 cases b
 ·clear HG
  go_wp2_with fail
  generalize w1.alloc (.cells #[.int .i64 d.room, .int .i64 d.next, .slice xa1 xan1 xac1, .slice xa2 xan2 xac2, .slice xa3 xan3 xac3] 28) = w2 at *
  generalize w1.heap.size = gg at *
  refine (spec_new_yes 500 w2 (by omega) (by omega)).mono ?_
  rintro e w3 ⟨rfl, hb⟩
  simp only [bare]
  have S2 := Hid.mkD (S1.out.below hb)
  have S3 : Hid (DkX w gg (((((w3.setCell ⟨gg, 0, none⟩ (.int .i64 500)).setCell ⟨gg, 1, none⟩ (.int .i64 1)).setCell ⟨gg, 2, none⟩ (.slice none 0 0)).setCell ⟨gg, 3, none⟩ (.slice none 0 0)).setCell ⟨gg, 4, none⟩ (.slice none 0 0)) ⟨500, 1, [], [], []⟩ none 0 0 none 0 0 none 0 0) := bareX S2.out
  obtain ⟨⟨r0, f0⟩, ⟨r1, f1⟩, ⟨r2, f2⟩, ⟨r3, f3⟩, ⟨r4, f4⟩, y0, y1, y2, y3, y4⟩ := resC5 (x0 := .int .i64 500) (x1 := .int .i64 1) (x2 := .slice none 0 0) (x3 := .slice none 0 0) (x4 := .slice none 0 0) S2.out.box
  clear hb S1 S2
  obtain ⟨e0, e1, e2, e3, e4⟩ := cellsB S3.out
  go_wp2_with fail
  clear r0 r1 r2 r3 r4 f0 f1 f2 f3 f4 y0 y1 y2 y3 y4 e0 e1 e2 e3 e4
  generalize (((((w3.setCell ⟨gg, 0, none⟩ (.int .i64 500)).setCell ⟨gg, 1, none⟩ (.int .i64 1)).setCell ⟨gg, 2, none⟩ (.slice none 0 0)).setCell ⟨gg, 3, none⟩ (.slice none 0 0)).setCell ⟨gg, 4, none⟩ (.slice none 0 0)) = w4 at *
  have HM := Hid.mkD ((RS.bare (r := 500) (by omega) (by omega)).1.mid (Nat.zero_le _))
  refine (specMakeV ⟨500, 1, [], [], []⟩ (.agg #[.int .i64 500, .int .i64 1, .slice none 0 0, .slice none 0 0, .slice none 0 0]) ⟨#[108, 111, 103]⟩ w4 w4.heap.size S3.out.v HM.out.1 HM.out.2.2 (Nat.le_refl _) (by unfold maxLen; decide)).mono ?_
  rintro e w5 ⟨x, rfl, hO, hb⟩
  obtain ⟨z1, z2, z3, z4⟩ := log_disk
  obtain ⟨d1, hd1⟩ : ∃ d1, d1 = (makeR ⟨500, 1, [], [], []⟩ ⟨#[108, 111, 103]⟩).1 := ⟨_, rfl⟩
  obtain ⟨c1, hc1⟩ : ∃ c1, c1 = (makeR ⟨500, 1, [], [], []⟩ ⟨#[108, 111, 103]⟩).2 := ⟨_, rfl⟩
  rw [← hd1] at hO z1 z2 z3 z4
  rw [← hc1]
  clear hd1 hc1 HM
  obtain ⟨v1, v2, v3, rfl, h1, h2, h3⟩ := hO
  obtain ⟨xb1, xbn1, xbc1, rfl⟩ := h1.shape
  obtain ⟨xb2, xbn2, xbc2, rfl⟩ := h2.shape
  obtain ⟨xb3, xbn3, xbc3, rfl⟩ := h3.shape
  have S4 := Hid.mkD (S3.out.below hb)
  have S5 : Hid (DkX w gg (((((w5.setCell ⟨gg, 0, none⟩ (.int .i64 d1.room)).setCell ⟨gg, 1, none⟩ (.int .i64 d1.next)).setCell ⟨gg, 2, none⟩ (.slice xb1 xbn1 xbc1)).setCell ⟨gg, 3, none⟩ (.slice xb2 xbn2 xbc2)).setCell ⟨gg, 4, none⟩ (.slice xb3 xbn3 xbc3)) d1 xb1 xbn1 xbc1 xb2 xbn2 xbc2 xb3 xbn3 xbc3) := S4.out.swap S3.out.b.size h1 h2 h3
  have HZ1 := Hid.mkD z1
  have HZ2 := Hid.mkD z2
  have HZ3 := Hid.mkD z3
  have HZ4 := Hid.mkD z4
  obtain ⟨⟨r0, f0⟩, ⟨r1, f1⟩, ⟨r2, f2⟩, ⟨r3, f3⟩, ⟨r4, f4⟩, y0, y1, y2, y3, y4⟩ := resC5 (x0 := .int .i64 d1.room) (x1 := .int .i64 d1.next) (x2 := .slice xb1 xbn1 xbc1) (x3 := .slice xb2 xbn2 xbc2) (x4 := .slice xb3 xbn3 xbc3) S4.out.box
  clear h1 h2 h3 hb S3 S4 y0 y1 y2 y3 y4 z1 z2 z3 z4
  obtain ⟨e0, e1, e2, e3, e4⟩ := cellsC5 S5.out.box
  go_wp2_with fail
  clear r0 r1 r2 r3 r4 f0 f1 f2 f3 f4 e0 e1 e2 e3 e4
  generalize (((((w5.setCell ⟨gg, 0, none⟩ (.int .i64 d1.room)).setCell ⟨gg, 1, none⟩ (.int .i64 d1.next)).setCell ⟨gg, 2, none⟩ (.slice xb1 xbn1 xbc1)).setCell ⟨gg, 3, none⟩ (.slice xb2 xbn2 xbc2)).setCell ⟨gg, 4, none⟩ (.slice xb3 xbn3 xbc3)) = w6 at *
  refine (specSyncV d1 (.agg #[.int .i64 d1.room, .int .i64 d1.next, .slice xb1 xbn1 xbc1, .slice xb2 xbn2 xbc2, .slice xb3 xbn3 xbc3]) ⟨#[108, 111, 103]⟩ w6 w6.heap.size S5.out.v HZ1.out.fits.1 HZ1.out.fits.2.2 (Nat.le_refl _) (by unfold maxLen; decide)).mono ?_
  rintro e w7 ⟨x, rfl, hO, hb⟩
  obtain ⟨d2, hd2⟩ : ∃ d2, d2 = (syncR d1 ⟨#[108, 111, 103]⟩).1 := ⟨_, rfl⟩
  obtain ⟨c2, hc2⟩ : ∃ c2, c2 = (syncR d1 ⟨#[108, 111, 103]⟩).2 := ⟨_, rfl⟩
  rw [← hd2] at hO HZ2 HZ3 HZ4
  rw [← hc2]
  clear hd2 hc2
  obtain ⟨v1, v2, v3, rfl, h1, h2, h3⟩ := hO
  obtain ⟨xc1, xcn1, xcc1, rfl⟩ := h1.shape
  obtain ⟨xc2, xcn2, xcc2, rfl⟩ := h2.shape
  obtain ⟨xc3, xcn3, xcc3, rfl⟩ := h3.shape
  have S6 := Hid.mkD (S5.out.below hb)
  have S7 : Hid (DkX w gg (((((w7.setCell ⟨gg, 0, none⟩ (.int .i64 d2.room)).setCell ⟨gg, 1, none⟩ (.int .i64 d2.next)).setCell ⟨gg, 2, none⟩ (.slice xc1 xcn1 xcc1)).setCell ⟨gg, 3, none⟩ (.slice xc2 xcn2 xcc2)).setCell ⟨gg, 4, none⟩ (.slice xc3 xcn3 xcc3)) d2 xc1 xcn1 xcc1 xc2 xcn2 xcc2 xc3 xcn3 xcc3) := S6.out.swap S5.out.b.size h1 h2 h3
  obtain ⟨⟨r0, f0⟩, ⟨r1, f1⟩, ⟨r2, f2⟩, ⟨r3, f3⟩, ⟨r4, f4⟩, y0, y1, y2, y3, y4⟩ := resC5 (x0 := .int .i64 d2.room) (x1 := .int .i64 d2.next) (x2 := .slice xc1 xcn1 xcc1) (x3 := .slice xc2 xcn2 xcc2) (x4 := .slice xc3 xcn3 xcc3) S6.out.box
  clear h1 h2 h3 hb S5 S6 y0 y1 y2 y3 y4
  obtain ⟨e0, e1, e2, e3, e4⟩ := cellsC5 S7.out.box
  go_wp2_with fail
  clear r0 r1 r2 r3 r4 f0 f1 f2 f3 f4 e0 e1 e2 e3 e4
  generalize (((((w7.setCell ⟨gg, 0, none⟩ (.int .i64 d2.room)).setCell ⟨gg, 1, none⟩ (.int .i64 d2.next)).setCell ⟨gg, 2, none⟩ (.slice xc1 xcn1 xcc1)).setCell ⟨gg, 3, none⟩ (.slice xc2 xcn2 xcc2)).setCell ⟨gg, 4, none⟩ (.slice xc3 xcn3 xcc3)) = w8 at *
  refine (specSyncDirV d2 (.agg #[.int .i64 d2.room, .int .i64 d2.next, .slice xc1 xcn1 xcc1, .slice xc2 xcn2 xcc2, .slice xc3 xcn3 xcc3]) w8 w8.heap.size S7.out.v HZ2.out.fits.1 HZ2.out.fits.2.2 (Nat.le_refl _)).mono ?_
  rintro e w9 ⟨x, rfl, hO, hb⟩
  obtain ⟨d9, hd9⟩ : ∃ d9, d9 = (syncDirR d2).1 := ⟨_, rfl⟩
  obtain ⟨c9, hc9⟩ : ∃ c9, c9 = (syncDirR d2).2 := ⟨_, rfl⟩
  rw [← hd9] at hO HZ3 HZ4
  rw [← hc9]
  clear hd9 hc9
  obtain ⟨v1, v2, v3, rfl, h1, h2, h3⟩ := hO
  obtain ⟨xj1, xjn1, xjc1, rfl⟩ := h1.shape
  obtain ⟨xj2, xjn2, xjc2, rfl⟩ := h2.shape
  obtain ⟨xj3, xjn3, xjc3, rfl⟩ := h3.shape
  have S8 := Hid.mkD (S7.out.below hb)
  have SA : Hid (DkX w gg (((((w9.setCell ⟨gg, 0, none⟩ (.int .i64 d9.room)).setCell ⟨gg, 1, none⟩ (.int .i64 d9.next)).setCell ⟨gg, 2, none⟩ (.slice xj1 xjn1 xjc1)).setCell ⟨gg, 3, none⟩ (.slice xj2 xjn2 xjc2)).setCell ⟨gg, 4, none⟩ (.slice xj3 xjn3 xjc3)) d9 xj1 xjn1 xjc1 xj2 xjn2 xjc2 xj3 xjn3 xjc3) := S8.out.swap S7.out.b.size h1 h2 h3
  have HK := Hid.mkD HZ3.out
  have HB := Hid.mkD HZ4.out
  have HN : Hid ((⟨#[108, 111, 103]⟩ : ByteArray).size ≤ 13) := by unfold Hid; decide
  obtain ⟨⟨r0, f0⟩, ⟨r1, f1⟩, ⟨r2, f2⟩, ⟨r3, f3⟩, ⟨r4, f4⟩, y0, y1, y2, y3, y4⟩ := resC5 (x0 := .int .i64 d9.room) (x1 := .int .i64 d9.next) (x2 := .slice xj1 xjn1 xjc1) (x3 := .slice xj2 xjn2 xjc2) (x4 := .slice xj3 xjn3 xjc3) S8.out.box
  clear h1 h2 h3 hb S7 S8 y0 y1 y2 y3 y4 HZ1 HZ2 HZ3 HZ4
  go_wp2_with fail
  clear r0 r1 r2 r3 r4 f0 f1 f2 f3 f4
  generalize (((((w9.setCell ⟨gg, 0, none⟩ (.int .i64 d9.room)).setCell ⟨gg, 1, none⟩ (.int .i64 d9.next)).setCell ⟨gg, 2, none⟩ (.slice xj1 xjn1 xjc1)).setCell ⟨gg, 3, none⟩ (.slice xj2 xjn2 xjc2)).setCell ⟨gg, 4, none⟩ (.slice xj3 xjn3 xjc3)) = wA at *
  refine (drawHex wA ao len cap cs HL.out (HC.out.on SA.out.b)).mono ?_
  rintro e wB ⟨rfl, hb⟩
  have HMT : Hid ((txt (textV len cs 40 (newP len cs))).size ≤ 1000) := txt_short len cs
  generalize txt (textV len cs 40 (newP len cs)) = mt at *
  have SB := Hid.mkD (SA.out.below hb)
  clear hb SA
  obtain ⟨e0, e1, e2, e3, e4⟩ := cellsC5 SB.out.box
  go_wp2_with fail
  have HMM : Hid (mt.size ≤ maxLen) := by have := HMT.out; unfold Hid maxLen; omega
  have HNM : Hid ((⟨#[108, 111, 103]⟩ : ByteArray).size ≤ maxLen) := by have := HN.out; unfold Hid maxLen; omega
  have HM := Hid.mkD (HK.out.rd.mid (Nat.le_trans HB.out (by omega)))
  refine (implAddV d9 (.agg #[.int .i64 d9.room, .int .i64 d9.next, .slice xj1 xjn1 xjc1, .slice xj2 xjn2 xjc2, .slice xj3 xjn3 xjc3]) ⟨#[108, 111, 103]⟩ mt wB wB.heap.size SB.out.v HM.out.1 HM.out.2.1 HM.out.2.2 (Nat.le_refl _) HNM.out HMM.out).mono ?_
  rintro e wC ⟨x, rfl, hO, hb⟩
  clear e0 e1 e2 e3 e4 HM
  have ea : addR d9 ⟨#[108, 111, 103]⟩ mt = (addD d9 ⟨#[108, 111, 103]⟩ mt, addC d9 ⟨#[108, 111, 103]⟩ mt) := by unfold addR; rw [if_pos (RD.iff.2 HK.out.rd)]
  have HK1 : Hid (Kept (addR d9 ⟨#[108, 111, 103]⟩ mt).1 ⟨#[108, 111, 103]⟩ ⟨#[]⟩ (if (addR d9 ⟨#[108, 111, 103]⟩ mt).2 = 0 then mt else ⟨#[]⟩)) := by unfold Hid; rw [ea]; exact HK.out.add mt
  have HB1 : Hid (bytesOf (addR d9 ⟨#[108, 111, 103]⟩ mt).1.nods ≤ 250000) := by have := add_bytes d9 ⟨#[108, 111, 103]⟩ mt; have := HB.out; have := HMT.out; unfold Hid; rw [ea]; show bytesOf (addD d9 ⟨#[108, 111, 103]⟩ mt).nods ≤ _; omega
  clear ea
  obtain ⟨d1, hd1⟩ : ∃ d1, d1 = (addR d9 ⟨#[108, 111, 103]⟩ mt).1 := ⟨_, rfl⟩
  obtain ⟨c1, hc1⟩ : ∃ c1, c1 = (addR d9 ⟨#[108, 111, 103]⟩ mt).2 := ⟨_, rfl⟩
  rw [← hd1] at hO HK1 HB1
  rw [← hc1] at HK1
  rw [← hc1]
  clear hd1 hc1 HK HB
  obtain ⟨v1, v2, v3, rfl, h1, h2, h3⟩ := hO
  obtain ⟨xb1, xbn1, xbc1, rfl⟩ := h1.shape
  obtain ⟨xb2, xbn2, xbc2, rfl⟩ := h2.shape
  obtain ⟨xb3, xbn3, xbc3, rfl⟩ := h3.shape
  have SC : Hid (DkX w wC.heap.size (wC.alloc (.cells #[.int .i64 d1.room, .int .i64 d1.next, .slice xb1 xbn1 xbc1, .slice xb2 xbn2 xbc2, .slice xb3 xbn3 xbc3] 28)) d1 xb1 xbn1 xbc1 xb2 xbn2 xbc2 xb3 xbn3 xbc3) := DkX.new ⟨_, _, _, rfl, h1, h2, h3⟩ SB.out.b.size (SB.out.b.trans (hb.mono SB.out.b.size))
  clear hb h1 h2 h3 SB
  by_cases hc0 : c1 = 0
  ·subst hc0
   have HK2 : Hid (Kept d1 ⟨#[108, 111, 103]⟩ ⟨#[]⟩ mt) := by have := HK1.out; rw [if_pos rfl] at this; exact this
   obtain ⟨e0, e1, e2, e3, e4⟩ := cellsC5 SC.out.box
   go_wp2_with fail
   generalize wC.alloc (.cells #[.int .i64 d1.room, .int .i64 d1.next, .slice xb1 xbn1 xbc1, .slice xb2 xbn2 xbc2, .slice xb3 xbn3 xbc3] 28) = wD at *
   generalize wC.heap.size = gx at *
   clear e0 e1 e2 e3 e4 HK1
   have HM := Hid.mkD (HK2.out.rd.mid (Nat.le_trans HB1.out (by omega)))
   refine (implMakeV d1 (.agg #[.int .i64 d1.room, .int .i64 d1.next, .slice xb1 xbn1 xbc1, .slice xb2 xbn2 xbc2, .slice xb3 xbn3 xbc3]) ⟨#[108, 97, 116, 101, 114]⟩ wD wD.heap.size SC.out.v HM.out.1 HM.out.2.1 HM.out.2.2 (Nat.le_refl _) (by unfold maxLen; decide)).mono ?_
   rintro e wE ⟨x, rfl, hO, hb⟩
   have ea : makeR d1 ⟨#[108, 97, 116, 101, 114]⟩ = (makeD d1 ⟨#[108, 97, 116, 101, 114]⟩, makeC d1 ⟨#[108, 97, 116, 101, 114]⟩) := by unfold makeR; rw [if_pos (RD.iff.2 HK2.out.rd)]
   have HR3 : Hid (RD (makeR d1 ⟨#[108, 97, 116, 101, 114]⟩).1) := by unfold Hid; rw [ea]; exact HK2.out.rd.make _
   have HB3 : Hid (bytesOf (makeR d1 ⟨#[108, 97, 116, 101, 114]⟩).1.nods ≤ 250000) := by have := make_bytes d1 ⟨#[108, 97, 116, 101, 114]⟩; have := HB1.out; unfold Hid; rw [ea]; show bytesOf (makeD d1 ⟨#[108, 97, 116, 101, 114]⟩).nods ≤ _; omega
   have HCR : Hid (∀ kp l, ∃ got, loadR (crashD (makeR d1 ⟨#[108, 97, 116, 101, 114]⟩).1 kp l) ⟨#[108, 111, 103]⟩ = (got, true) ∧ (⟨#[]⟩ : ByteArray).size ≤ got.size ∧ got.size ≤ ((⟨#[]⟩ : ByteArray) ++ mt).size ∧ got = ((⟨#[]⟩ : ByteArray) ++ mt).extract 0 got.size) := by unfold Hid; rw [ea]; exact fun kp l => HK2.out.crash _ kp l
   have HDS : Hid (((⟨#[]⟩ : ByteArray) ++ mt).size ≤ 250000) := by have := HK2.out.data_size; have := HB1.out; unfold Hid; rw [ByteArray.size_append]; omega
   clear ea
   obtain ⟨d2, hd2⟩ : ∃ d2, d2 = (makeR d1 ⟨#[108, 97, 116, 101, 114]⟩).1 := ⟨_, rfl⟩
   obtain ⟨c2, hc2⟩ : ∃ c2, c2 = (makeR d1 ⟨#[108, 97, 116, 101, 114]⟩).2 := ⟨_, rfl⟩
   rw [← hd2] at hO HR3 HB3 HCR
   rw [← hc2]
   clear hd2 hc2 HM HK2 HB1
   obtain ⟨v1, v2, v3, rfl, h1, h2, h3⟩ := hO
   obtain ⟨xc1, xcn1, xcc1, rfl⟩ := h1.shape
   obtain ⟨xc2, xcn2, xcc2, rfl⟩ := h2.shape
   obtain ⟨xc3, xcn3, xcc3, rfl⟩ := h3.shape
   have SE := Hid.mkD (SC.out.below hb)
   have SF : Hid (DkX w gx (((((wE.setCell ⟨gx, 0, none⟩ (.int .i64 d2.room)).setCell ⟨gx, 1, none⟩ (.int .i64 d2.next)).setCell ⟨gx, 2, none⟩ (.slice xc1 xcn1 xcc1)).setCell ⟨gx, 3, none⟩ (.slice xc2 xcn2 xcc2)).setCell ⟨gx, 4, none⟩ (.slice xc3 xcn3 xcc3)) d2 xc1 xcn1 xcc1 xc2 xcn2 xcc2 xc3 xcn3 xcc3) := SE.out.swap SC.out.b.size h1 h2 h3
   obtain ⟨⟨r0, f0⟩, ⟨r1, f1⟩, ⟨r2, f2⟩, ⟨r3, f3⟩, ⟨r4, f4⟩, y0, y1, y2, y3, y4⟩ := resC5 (x0 := .int .i64 d2.room) (x1 := .int .i64 d2.next) (x2 := .slice xc1 xcn1 xcc1) (x3 := .slice xc2 xcn2 xcc2) (x4 := .slice xc3 xcn3 xcc3) SE.out.box
   clear h1 h2 h3 hb SC SE y0 y1 y2 y3 y4
   go_wp2_with fail
   clear r0 r1 r2 r3 r4 f0 f1 f2 f3 f4
   generalize (((((wE.setCell ⟨gx, 0, none⟩ (.int .i64 d2.room)).setCell ⟨gx, 1, none⟩ (.int .i64 d2.next)).setCell ⟨gx, 2, none⟩ (.slice xc1 xcn1 xcc1)).setCell ⟨gx, 3, none⟩ (.slice xc2 xcn2 xcc2)).setCell ⟨gx, 4, none⟩ (.slice xc3 xcn3 xcc3)) = wF at *
   refine (drawCrash wF ao len cap cs HL.out (HC.out.on SF.out.b)).mono ?_
   rintro e wG ⟨d3, v, kp, l, u, rfl, hO, hsm, hnu, hll, hb⟩
   obtain ⟨v1, v2, v3, rfl, h1, h2, h3⟩ := hO
   obtain ⟨xe1, xen1, xec1, rfl⟩ := h1.shape
   obtain ⟨xe2, xen2, xec2, rfl⟩ := h2.shape
   obtain ⟨xe3, xen3, xec3, rfl⟩ := h3.shape
   obtain ⟨wH, hwH⟩ : ∃ wH, wH = wG.alloc (.cells #[.int .i64 d3.room, .int .i64 d3.next, .slice xe1 xen1 xec1, .slice xe2 xen2 xec2, .slice xe3 xen3 xec3] 28) := ⟨_, rfl⟩
   have hal : Below wG.heap.size wG wH := by rw [hwH]; exact (Below.refl _ _).alloc (Nat.le_refl _) _
   have SH := Hid.mkD (SF.out.below (hb.trans (hal.mono hb.size)))
   have NU : Hid (NumsV wH wH.heap.size u l) := (hnu.on hal).mono hal.size
   have HLL : Hid (l.length ≤ 1048576) := by unfold Hid; omega
   clear hal hb h1 h2 h3 hsm hnu hll SF
   obtain ⟨e0, e1, e2, e3, e4⟩ := cellsC5 SH.out.box
   rw [hwH] at e0 e1 e2 e3 e4
   go_wp2_with fail
   rw [← hwH]
   clear e0 e1 e2 e3 e4 hwH
   have HM := Hid.mkD (HR3.out.mid (Nat.le_trans HB3.out (by omega)))
   refine (implCrashV d2 (.agg #[.int .i64 d2.room, .int .i64 d2.next, .slice xc1 xcn1 xcc1, .slice xc2 xcn2 xcc2, .slice xc3 xcn3 xcc3]) kp l u wH wH.heap.size SH.out.v NU.out HLL.out HM.out.1 HM.out.2.1 HM.out.2.2 (Nat.le_refl _)).mono ?_
   rintro e wI ⟨v, rfl, hO, hb⟩
   rw [crashR_yes (RD.iff.2 HR3.out)] at hO
   have hR4 := HR3.out.crash kp l
   have hB4 : bytesOf (crashD d2 kp l).nods ≤ 300000 := by have := HR3.out.crash_bytes kp l; have := HB3.out; omega
   obtain ⟨got, g1, g2, g3, g4⟩ := HCR.out kp l
   generalize crashD d2 kp l = d4 at *
   have HM4 := Hid.mkD (hR4.mid hB4)
   have HX4 : Hid (diskOk d4 = true) := RD.iff.2 hR4
   have HLD := Hid.mkD g1
   have HG2 := Hid.mkD g2
   have HG3 := Hid.mkD g3
   have HG4 := Hid.mkD g4
   clear g1 g2 g3 g4 hR4 hB4 HCR HM HR3 HB3
   obtain ⟨v1, v2, v3, rfl, h1, h2, h3⟩ := hO
   obtain ⟨xg1, xgn1, xgc1, rfl⟩ := h1.shape
   obtain ⟨xg2, xgn2, xgc2, rfl⟩ := h2.shape
   obtain ⟨xg3, xgn3, xgc3, rfl⟩ := h3.shape
   have SI : Hid (DkX w wI.heap.size (wI.alloc (.cells #[.int .i64 d4.room, .int .i64 d4.next, .slice xg1 xgn1 xgc1, .slice xg2 xgn2 xgc2, .slice xg3 xgn3 xgc3] 28)) d4 xg1 xgn1 xgc1 xg2 xgn2 xgc2 xg3 xgn3 xgc3) := DkX.new ⟨_, _, _, rfl, h1, h2, h3⟩ SH.out.b.size (SH.out.b.trans (hb.mono SH.out.b.size))
   clear hb h1 h2 h3 SH NU HLL
   obtain ⟨e0, e1, e2, e3, e4⟩ := cellsC5 SI.out.box
   go_wp2_with fail
   generalize wI.alloc (.cells #[.int .i64 d4.room, .int .i64 d4.next, .slice xg1 xgn1 xgc1, .slice xg2 xgn2 xgc2, .slice xg3 xgn3 xgc3] 28) = wJ at *
   generalize wI.heap.size = gy at *
   clear e0 e1 e2 e3 e4
   refine (implLoadV d4 (.agg #[.int .i64 d4.room, .int .i64 d4.next, .slice xg1 xgn1 xgc1, .slice xg2 xgn2 xgc2, .slice xg3 xgn3 xgc3]) ⟨#[108, 111, 103]⟩ wJ wJ.heap.size SI.out.v HM4.out.1 HM4.out.2.1 HM4.out.2.2 (Nat.le_refl _) HNM.out).mono ?_
   rintro e wK ⟨rfl, hb⟩
   rw [HLD.out]
   have SK := Hid.mkD (SI.out.below hb)
   clear hb SI HLD
   dsimp only
   have qd : ((⟨#[]⟩ : ByteArray).size : Int) ≤ 250000 := by have := HG2.out; have := HG3.out; have := HDS.out; omega
   have qs : (⟨#[]⟩ : ByteArray).size + (mt : ByteArray).size ≤ 140737488351232 := by have := HDS.out; rw [ByteArray.size_append] at this; omega
   go_wp2_with fail
   refine (begins_yes ⟨#[]⟩ got wK HG2.out (begins_of HG2.out HG3.out HG4.out) (by have := HG3.out; have := HDS.out; unfold maxLen; omega)).mono ?_
   rintro e w' ⟨rfl, rfl⟩
   go_wp2_with fail
   generalize ((⟨#[]⟩ : ByteArray) ++ (mt : ByteArray)) = mo at *
   refine (begins_yes got mo w' HG3.out HG4.out.symm (by have := HDS.out; unfold maxLen; omega)).mono ?_
   rintro e w'' ⟨rfl, rfl⟩
   obtain ⟨e0, e1, e2, e3, e4⟩ := cellsC5 SK.out.box
   go_wp2_with fail
   refine (specOkV d4 (.agg #[.int .i64 d4.room, .int .i64 d4.next, .slice xg1 xgn1 xgc1, .slice xg2 xgn2 xgc2, .slice xg3 xgn3 xgc3]) w'' w''.heap.size SK.out.v HM4.out.1 HM4.out.2.2 (Nat.le_refl _)).mono ?_
   rintro e wL ⟨rfl, hb⟩
   rw [HX4.out]
   have BL : Hid (Below w.heap.size w wL) := SK.out.b.trans (hb.mono SK.out.b.size)
   clear hb SK e0 e1 e2 e3 e4
   go_wp2_with fail
   go_ret
   exact ⟨rfl, BL.out⟩
  ·have hcb : (c1 == 0) = false := by simpa using hc0
   have HK2 : Hid (Kept d1 ⟨#[108, 111, 103]⟩ ⟨#[]⟩ ⟨#[]⟩) := by have := HK1.out; rw [if_neg hc0] at this; exact this
   obtain ⟨e0, e1, e2, e3, e4⟩ := cellsC5 SC.out.box
   go_wp2_with fail
   generalize wC.alloc (.cells #[.int .i64 d1.room, .int .i64 d1.next, .slice xb1 xbn1 xbc1, .slice xb2 xbn2 xbc2, .slice xb3 xbn3 xbc3] 28) = wD at *
   generalize wC.heap.size = gx at *
   clear e0 e1 e2 e3 e4 HK1
   have HM := Hid.mkD (HK2.out.rd.mid (Nat.le_trans HB1.out (by omega)))
   refine (implMakeV d1 (.agg #[.int .i64 d1.room, .int .i64 d1.next, .slice xb1 xbn1 xbc1, .slice xb2 xbn2 xbc2, .slice xb3 xbn3 xbc3]) ⟨#[108, 97, 116, 101, 114]⟩ wD wD.heap.size SC.out.v HM.out.1 HM.out.2.1 HM.out.2.2 (Nat.le_refl _) (by unfold maxLen; decide)).mono ?_
   rintro e wE ⟨x, rfl, hO, hb⟩
   have ea : makeR d1 ⟨#[108, 97, 116, 101, 114]⟩ = (makeD d1 ⟨#[108, 97, 116, 101, 114]⟩, makeC d1 ⟨#[108, 97, 116, 101, 114]⟩) := by unfold makeR; rw [if_pos (RD.iff.2 HK2.out.rd)]
   have HR3 : Hid (RD (makeR d1 ⟨#[108, 97, 116, 101, 114]⟩).1) := by unfold Hid; rw [ea]; exact HK2.out.rd.make _
   have HB3 : Hid (bytesOf (makeR d1 ⟨#[108, 97, 116, 101, 114]⟩).1.nods ≤ 250000) := by have := make_bytes d1 ⟨#[108, 97, 116, 101, 114]⟩; have := HB1.out; unfold Hid; rw [ea]; show bytesOf (makeD d1 ⟨#[108, 97, 116, 101, 114]⟩).nods ≤ _; omega
   have HCR : Hid (∀ kp l, ∃ got, loadR (crashD (makeR d1 ⟨#[108, 97, 116, 101, 114]⟩).1 kp l) ⟨#[108, 111, 103]⟩ = (got, true) ∧ (⟨#[]⟩ : ByteArray).size ≤ got.size ∧ got.size ≤ ((⟨#[]⟩ : ByteArray) ++ ⟨#[]⟩).size ∧ got = ((⟨#[]⟩ : ByteArray) ++ ⟨#[]⟩).extract 0 got.size) := by unfold Hid; rw [ea]; exact fun kp l => HK2.out.crash _ kp l
   have HDS : Hid (((⟨#[]⟩ : ByteArray) ++ ⟨#[]⟩).size ≤ 250000) := by have := HK2.out.data_size; have := HB1.out; unfold Hid; rw [ByteArray.size_append]; omega
   clear ea
   obtain ⟨d2, hd2⟩ : ∃ d2, d2 = (makeR d1 ⟨#[108, 97, 116, 101, 114]⟩).1 := ⟨_, rfl⟩
   obtain ⟨c2, hc2⟩ : ∃ c2, c2 = (makeR d1 ⟨#[108, 97, 116, 101, 114]⟩).2 := ⟨_, rfl⟩
   rw [← hd2] at hO HR3 HB3 HCR
   rw [← hc2]
   clear hd2 hc2 HM HK2 HB1
   obtain ⟨v1, v2, v3, rfl, h1, h2, h3⟩ := hO
   obtain ⟨xc1, xcn1, xcc1, rfl⟩ := h1.shape
   obtain ⟨xc2, xcn2, xcc2, rfl⟩ := h2.shape
   obtain ⟨xc3, xcn3, xcc3, rfl⟩ := h3.shape
   have SE := Hid.mkD (SC.out.below hb)
   have SF : Hid (DkX w gx (((((wE.setCell ⟨gx, 0, none⟩ (.int .i64 d2.room)).setCell ⟨gx, 1, none⟩ (.int .i64 d2.next)).setCell ⟨gx, 2, none⟩ (.slice xc1 xcn1 xcc1)).setCell ⟨gx, 3, none⟩ (.slice xc2 xcn2 xcc2)).setCell ⟨gx, 4, none⟩ (.slice xc3 xcn3 xcc3)) d2 xc1 xcn1 xcc1 xc2 xcn2 xcc2 xc3 xcn3 xcc3) := SE.out.swap SC.out.b.size h1 h2 h3
   obtain ⟨⟨r0, f0⟩, ⟨r1, f1⟩, ⟨r2, f2⟩, ⟨r3, f3⟩, ⟨r4, f4⟩, y0, y1, y2, y3, y4⟩ := resC5 (x0 := .int .i64 d2.room) (x1 := .int .i64 d2.next) (x2 := .slice xc1 xcn1 xcc1) (x3 := .slice xc2 xcn2 xcc2) (x4 := .slice xc3 xcn3 xcc3) SE.out.box
   clear h1 h2 h3 hb SC SE y0 y1 y2 y3 y4
   go_wp2_with fail
   clear r0 r1 r2 r3 r4 f0 f1 f2 f3 f4
   generalize (((((wE.setCell ⟨gx, 0, none⟩ (.int .i64 d2.room)).setCell ⟨gx, 1, none⟩ (.int .i64 d2.next)).setCell ⟨gx, 2, none⟩ (.slice xc1 xcn1 xcc1)).setCell ⟨gx, 3, none⟩ (.slice xc2 xcn2 xcc2)).setCell ⟨gx, 4, none⟩ (.slice xc3 xcn3 xcc3)) = wF at *
   refine (drawCrash wF ao len cap cs HL.out (HC.out.on SF.out.b)).mono ?_
   rintro e wG ⟨d3, v, kp, l, u, rfl, hO, hsm, hnu, hll, hb⟩
   obtain ⟨v1, v2, v3, rfl, h1, h2, h3⟩ := hO
   obtain ⟨xe1, xen1, xec1, rfl⟩ := h1.shape
   obtain ⟨xe2, xen2, xec2, rfl⟩ := h2.shape
   obtain ⟨xe3, xen3, xec3, rfl⟩ := h3.shape
   obtain ⟨wH, hwH⟩ : ∃ wH, wH = wG.alloc (.cells #[.int .i64 d3.room, .int .i64 d3.next, .slice xe1 xen1 xec1, .slice xe2 xen2 xec2, .slice xe3 xen3 xec3] 28) := ⟨_, rfl⟩
   have hal : Below wG.heap.size wG wH := by rw [hwH]; exact (Below.refl _ _).alloc (Nat.le_refl _) _
   have SH := Hid.mkD (SF.out.below (hb.trans (hal.mono hb.size)))
   have NU : Hid (NumsV wH wH.heap.size u l) := (hnu.on hal).mono hal.size
   have HLL : Hid (l.length ≤ 1048576) := by unfold Hid; omega
   clear hal hb h1 h2 h3 hsm hnu hll SF
   obtain ⟨e0, e1, e2, e3, e4⟩ := cellsC5 SH.out.box
   rw [hwH] at e0 e1 e2 e3 e4
   go_wp2_with fail
   rw [← hwH]
   clear e0 e1 e2 e3 e4 hwH
   have HM := Hid.mkD (HR3.out.mid (Nat.le_trans HB3.out (by omega)))
   refine (implCrashV d2 (.agg #[.int .i64 d2.room, .int .i64 d2.next, .slice xc1 xcn1 xcc1, .slice xc2 xcn2 xcc2, .slice xc3 xcn3 xcc3]) kp l u wH wH.heap.size SH.out.v NU.out HLL.out HM.out.1 HM.out.2.1 HM.out.2.2 (Nat.le_refl _)).mono ?_
   rintro e wI ⟨v, rfl, hO, hb⟩
   rw [crashR_yes (RD.iff.2 HR3.out)] at hO
   have hR4 := HR3.out.crash kp l
   have hB4 : bytesOf (crashD d2 kp l).nods ≤ 300000 := by have := HR3.out.crash_bytes kp l; have := HB3.out; omega
   obtain ⟨got, g1, g2, g3, g4⟩ := HCR.out kp l
   generalize crashD d2 kp l = d4 at *
   have HM4 := Hid.mkD (hR4.mid hB4)
   have HX4 : Hid (diskOk d4 = true) := RD.iff.2 hR4
   have HLD := Hid.mkD g1
   have HG2 := Hid.mkD g2
   have HG3 := Hid.mkD g3
   have HG4 := Hid.mkD g4
   clear g1 g2 g3 g4 hR4 hB4 HCR HM HR3 HB3
   obtain ⟨v1, v2, v3, rfl, h1, h2, h3⟩ := hO
   obtain ⟨xg1, xgn1, xgc1, rfl⟩ := h1.shape
   obtain ⟨xg2, xgn2, xgc2, rfl⟩ := h2.shape
   obtain ⟨xg3, xgn3, xgc3, rfl⟩ := h3.shape
   have SI : Hid (DkX w wI.heap.size (wI.alloc (.cells #[.int .i64 d4.room, .int .i64 d4.next, .slice xg1 xgn1 xgc1, .slice xg2 xgn2 xgc2, .slice xg3 xgn3 xgc3] 28)) d4 xg1 xgn1 xgc1 xg2 xgn2 xgc2 xg3 xgn3 xgc3) := DkX.new ⟨_, _, _, rfl, h1, h2, h3⟩ SH.out.b.size (SH.out.b.trans (hb.mono SH.out.b.size))
   clear hb h1 h2 h3 SH NU HLL
   obtain ⟨e0, e1, e2, e3, e4⟩ := cellsC5 SI.out.box
   go_wp2_with fail
   generalize wI.alloc (.cells #[.int .i64 d4.room, .int .i64 d4.next, .slice xg1 xgn1 xgc1, .slice xg2 xgn2 xgc2, .slice xg3 xgn3 xgc3] 28) = wJ at *
   generalize wI.heap.size = gy at *
   clear e0 e1 e2 e3 e4
   refine (implLoadV d4 (.agg #[.int .i64 d4.room, .int .i64 d4.next, .slice xg1 xgn1 xgc1, .slice xg2 xgn2 xgc2, .slice xg3 xgn3 xgc3]) ⟨#[108, 111, 103]⟩ wJ wJ.heap.size SI.out.v HM4.out.1 HM4.out.2.1 HM4.out.2.2 (Nat.le_refl _) HNM.out).mono ?_
   rintro e wK ⟨rfl, hb⟩
   rw [HLD.out]
   have SK := Hid.mkD (SI.out.below hb)
   clear hb SI HLD
   dsimp only
   have qd : ((⟨#[]⟩ : ByteArray).size : Int) ≤ 250000 := by have := HG2.out; have := HG3.out; have := HDS.out; omega
   have qs : (⟨#[]⟩ : ByteArray).size + (⟨#[]⟩ : ByteArray).size ≤ 140737488351232 := by have := HDS.out; rw [ByteArray.size_append] at this; omega
   go_wp2_with fail
   refine (begins_yes ⟨#[]⟩ got wK HG2.out (begins_of HG2.out HG3.out HG4.out) (by have := HG3.out; have := HDS.out; unfold maxLen; omega)).mono ?_
   rintro e w' ⟨rfl, rfl⟩
   go_wp2_with fail
   generalize ((⟨#[]⟩ : ByteArray) ++ (⟨#[]⟩ : ByteArray)) = mo at *
   refine (begins_yes got mo w' HG3.out HG4.out.symm (by have := HDS.out; unfold maxLen; omega)).mono ?_
   rintro e w'' ⟨rfl, rfl⟩
   obtain ⟨e0, e1, e2, e3, e4⟩ := cellsC5 SK.out.box
   go_wp2_with fail
   refine (specOkV d4 (.agg #[.int .i64 d4.room, .int .i64 d4.next, .slice xg1 xgn1 xgc1, .slice xg2 xgn2 xgc2, .slice xg3 xgn3 xgc3]) w'' w''.heap.size SK.out.v HM4.out.1 HM4.out.2.2 (Nat.le_refl _)).mono ?_
   rintro e wL ⟨rfl, hb⟩
   rw [HX4.out]
   have BL : Hid (Below w.heap.size w wL) := SK.out.b.trans (hb.mono SK.out.b.size)
   clear hb SK e0 e1 e2 e3 e4
   go_wp2_with fail
   go_ret
   exact ⟨rfl, BL.out⟩
 ·obtain ⟨hK, hB, hN⟩ := HG.out rfl
  have HK := Hid.mkD hK
  have HB := Hid.mkD hB
  have HN := Hid.mkD hN
  clear hK hB hN HG
  go_wp2_with fail
  generalize w1.alloc (.cells #[.int .i64 d.room, .int .i64 d.next, .slice xa1 xan1 xac1, .slice xa2 xan2 xac2, .slice xa3 xan3 xac3] 28) = wA at *
  generalize w1.heap.size = gg at *
  have SA := S1
  clear S1
  refine (drawHex wA ao len cap cs HL.out (HC.out.on SA.out.b)).mono ?_
  rintro e wB ⟨rfl, hb⟩
  have HMT : Hid ((txt (textV len cs 40 (newP len cs))).size ≤ 1000) := txt_short len cs
  generalize txt (textV len cs 40 (newP len cs)) = mt at *
  have SB := Hid.mkD (SA.out.below hb)
  clear hb SA
  obtain ⟨e0, e1, e2, e3, e4⟩ := cellsC5 SB.out.box
  go_wp2_with fail
  have HMM : Hid (mt.size ≤ maxLen) := by have := HMT.out; unfold Hid maxLen; omega
  have HNM : Hid ((nm : ByteArray).size ≤ maxLen) := by have := HN.out; unfold Hid maxLen; omega
  have HM := Hid.mkD (HK.out.rd.mid (Nat.le_trans HB.out (by omega)))
  refine (implAddV d (.agg #[.int .i64 d.room, .int .i64 d.next, .slice xa1 xan1 xac1, .slice xa2 xan2 xac2, .slice xa3 xan3 xac3]) nm mt wB wB.heap.size SB.out.v HM.out.1 HM.out.2.1 HM.out.2.2 (Nat.le_refl _) HNM.out HMM.out).mono ?_
  rintro e wC ⟨x, rfl, hO, hb⟩
  clear e0 e1 e2 e3 e4 HM
  have ea : addR d nm mt = (addD d nm mt, addC d nm mt) := by unfold addR; rw [if_pos (RD.iff.2 HK.out.rd)]
  have HK1 : Hid (Kept (addR d nm mt).1 nm dt (if (addR d nm mt).2 = 0 then mt else ⟨#[]⟩)) := by unfold Hid; rw [ea]; exact HK.out.add mt
  have HB1 : Hid (bytesOf (addR d nm mt).1.nods ≤ 250000) := by have := add_bytes d nm mt; have := HB.out; have := HMT.out; unfold Hid; rw [ea]; show bytesOf (addD d nm mt).nods ≤ _; omega
  clear ea
  obtain ⟨d1, hd1⟩ : ∃ d1, d1 = (addR d nm mt).1 := ⟨_, rfl⟩
  obtain ⟨c1, hc1⟩ : ∃ c1, c1 = (addR d nm mt).2 := ⟨_, rfl⟩
  rw [← hd1] at hO HK1 HB1
  rw [← hc1] at HK1
  rw [← hc1]
  clear hd1 hc1 HK HB
  obtain ⟨v1, v2, v3, rfl, h1, h2, h3⟩ := hO
  obtain ⟨xb1, xbn1, xbc1, rfl⟩ := h1.shape
  obtain ⟨xb2, xbn2, xbc2, rfl⟩ := h2.shape
  obtain ⟨xb3, xbn3, xbc3, rfl⟩ := h3.shape
  have SC : Hid (DkX w wC.heap.size (wC.alloc (.cells #[.int .i64 d1.room, .int .i64 d1.next, .slice xb1 xbn1 xbc1, .slice xb2 xbn2 xbc2, .slice xb3 xbn3 xbc3] 28)) d1 xb1 xbn1 xbc1 xb2 xbn2 xbc2 xb3 xbn3 xbc3) := DkX.new ⟨_, _, _, rfl, h1, h2, h3⟩ SB.out.b.size (SB.out.b.trans (hb.mono SB.out.b.size))
  clear hb h1 h2 h3 SB
  by_cases hc0 : c1 = 0
  ·subst hc0
   have HK2 : Hid (Kept d1 nm dt mt) := by have := HK1.out; rw [if_pos rfl] at this; exact this
   obtain ⟨e0, e1, e2, e3, e4⟩ := cellsC5 SC.out.box
   go_wp2_with fail
   generalize wC.alloc (.cells #[.int .i64 d1.room, .int .i64 d1.next, .slice xb1 xbn1 xbc1, .slice xb2 xbn2 xbc2, .slice xb3 xbn3 xbc3] 28) = wD at *
   generalize wC.heap.size = gx at *
   clear e0 e1 e2 e3 e4 HK1
   have HM := Hid.mkD (HK2.out.rd.mid (Nat.le_trans HB1.out (by omega)))
   refine (implMakeV d1 (.agg #[.int .i64 d1.room, .int .i64 d1.next, .slice xb1 xbn1 xbc1, .slice xb2 xbn2 xbc2, .slice xb3 xbn3 xbc3]) ⟨#[108, 97, 116, 101, 114]⟩ wD wD.heap.size SC.out.v HM.out.1 HM.out.2.1 HM.out.2.2 (Nat.le_refl _) (by unfold maxLen; decide)).mono ?_
   rintro e wE ⟨x, rfl, hO, hb⟩
   have ea : makeR d1 ⟨#[108, 97, 116, 101, 114]⟩ = (makeD d1 ⟨#[108, 97, 116, 101, 114]⟩, makeC d1 ⟨#[108, 97, 116, 101, 114]⟩) := by unfold makeR; rw [if_pos (RD.iff.2 HK2.out.rd)]
   have HR3 : Hid (RD (makeR d1 ⟨#[108, 97, 116, 101, 114]⟩).1) := by unfold Hid; rw [ea]; exact HK2.out.rd.make _
   have HB3 : Hid (bytesOf (makeR d1 ⟨#[108, 97, 116, 101, 114]⟩).1.nods ≤ 250000) := by have := make_bytes d1 ⟨#[108, 97, 116, 101, 114]⟩; have := HB1.out; unfold Hid; rw [ea]; show bytesOf (makeD d1 ⟨#[108, 97, 116, 101, 114]⟩).nods ≤ _; omega
   have HCR : Hid (∀ kp l, ∃ got, loadR (crashD (makeR d1 ⟨#[108, 97, 116, 101, 114]⟩).1 kp l) nm = (got, true) ∧ (dt : ByteArray).size ≤ got.size ∧ got.size ≤ ((dt : ByteArray) ++ mt).size ∧ got = ((dt : ByteArray) ++ mt).extract 0 got.size) := by unfold Hid; rw [ea]; exact fun kp l => HK2.out.crash _ kp l
   have HDS : Hid (((dt : ByteArray) ++ mt).size ≤ 250000) := by have := HK2.out.data_size; have := HB1.out; unfold Hid; rw [ByteArray.size_append]; omega
   clear ea
   obtain ⟨d2, hd2⟩ : ∃ d2, d2 = (makeR d1 ⟨#[108, 97, 116, 101, 114]⟩).1 := ⟨_, rfl⟩
   obtain ⟨c2, hc2⟩ : ∃ c2, c2 = (makeR d1 ⟨#[108, 97, 116, 101, 114]⟩).2 := ⟨_, rfl⟩
   rw [← hd2] at hO HR3 HB3 HCR
   rw [← hc2]
   clear hd2 hc2 HM HK2 HB1
   obtain ⟨v1, v2, v3, rfl, h1, h2, h3⟩ := hO
   obtain ⟨xc1, xcn1, xcc1, rfl⟩ := h1.shape
   obtain ⟨xc2, xcn2, xcc2, rfl⟩ := h2.shape
   obtain ⟨xc3, xcn3, xcc3, rfl⟩ := h3.shape
   have SE := Hid.mkD (SC.out.below hb)
   have SF : Hid (DkX w gx (((((wE.setCell ⟨gx, 0, none⟩ (.int .i64 d2.room)).setCell ⟨gx, 1, none⟩ (.int .i64 d2.next)).setCell ⟨gx, 2, none⟩ (.slice xc1 xcn1 xcc1)).setCell ⟨gx, 3, none⟩ (.slice xc2 xcn2 xcc2)).setCell ⟨gx, 4, none⟩ (.slice xc3 xcn3 xcc3)) d2 xc1 xcn1 xcc1 xc2 xcn2 xcc2 xc3 xcn3 xcc3) := SE.out.swap SC.out.b.size h1 h2 h3
   obtain ⟨⟨r0, f0⟩, ⟨r1, f1⟩, ⟨r2, f2⟩, ⟨r3, f3⟩, ⟨r4, f4⟩, y0, y1, y2, y3, y4⟩ := resC5 (x0 := .int .i64 d2.room) (x1 := .int .i64 d2.next) (x2 := .slice xc1 xcn1 xcc1) (x3 := .slice xc2 xcn2 xcc2) (x4 := .slice xc3 xcn3 xcc3) SE.out.box
   clear h1 h2 h3 hb SC SE y0 y1 y2 y3 y4
   go_wp2_with fail
   clear r0 r1 r2 r3 r4 f0 f1 f2 f3 f4
   generalize (((((wE.setCell ⟨gx, 0, none⟩ (.int .i64 d2.room)).setCell ⟨gx, 1, none⟩ (.int .i64 d2.next)).setCell ⟨gx, 2, none⟩ (.slice xc1 xcn1 xcc1)).setCell ⟨gx, 3, none⟩ (.slice xc2 xcn2 xcc2)).setCell ⟨gx, 4, none⟩ (.slice xc3 xcn3 xcc3)) = wF at *
   refine (drawCrash wF ao len cap cs HL.out (HC.out.on SF.out.b)).mono ?_
   rintro e wG ⟨d3, v, kp, l, u, rfl, hO, hsm, hnu, hll, hb⟩
   obtain ⟨v1, v2, v3, rfl, h1, h2, h3⟩ := hO
   obtain ⟨xe1, xen1, xec1, rfl⟩ := h1.shape
   obtain ⟨xe2, xen2, xec2, rfl⟩ := h2.shape
   obtain ⟨xe3, xen3, xec3, rfl⟩ := h3.shape
   obtain ⟨wH, hwH⟩ : ∃ wH, wH = wG.alloc (.cells #[.int .i64 d3.room, .int .i64 d3.next, .slice xe1 xen1 xec1, .slice xe2 xen2 xec2, .slice xe3 xen3 xec3] 28) := ⟨_, rfl⟩
   have hal : Below wG.heap.size wG wH := by rw [hwH]; exact (Below.refl _ _).alloc (Nat.le_refl _) _
   have SH := Hid.mkD (SF.out.below (hb.trans (hal.mono hb.size)))
   have NU : Hid (NumsV wH wH.heap.size u l) := (hnu.on hal).mono hal.size
   have HLL : Hid (l.length ≤ 1048576) := by unfold Hid; omega
   clear hal hb h1 h2 h3 hsm hnu hll SF
   obtain ⟨e0, e1, e2, e3, e4⟩ := cellsC5 SH.out.box
   rw [hwH] at e0 e1 e2 e3 e4
   go_wp2_with fail
   rw [← hwH]
   clear e0 e1 e2 e3 e4 hwH
   have HM := Hid.mkD (HR3.out.mid (Nat.le_trans HB3.out (by omega)))
   refine (implCrashV d2 (.agg #[.int .i64 d2.room, .int .i64 d2.next, .slice xc1 xcn1 xcc1, .slice xc2 xcn2 xcc2, .slice xc3 xcn3 xcc3]) kp l u wH wH.heap.size SH.out.v NU.out HLL.out HM.out.1 HM.out.2.1 HM.out.2.2 (Nat.le_refl _)).mono ?_
   rintro e wI ⟨v, rfl, hO, hb⟩
   rw [crashR_yes (RD.iff.2 HR3.out)] at hO
   have hR4 := HR3.out.crash kp l
   have hB4 : bytesOf (crashD d2 kp l).nods ≤ 300000 := by have := HR3.out.crash_bytes kp l; have := HB3.out; omega
   obtain ⟨got, g1, g2, g3, g4⟩ := HCR.out kp l
   generalize crashD d2 kp l = d4 at *
   have HM4 := Hid.mkD (hR4.mid hB4)
   have HX4 : Hid (diskOk d4 = true) := RD.iff.2 hR4
   have HLD := Hid.mkD g1
   have HG2 := Hid.mkD g2
   have HG3 := Hid.mkD g3
   have HG4 := Hid.mkD g4
   clear g1 g2 g3 g4 hR4 hB4 HCR HM HR3 HB3
   obtain ⟨v1, v2, v3, rfl, h1, h2, h3⟩ := hO
   obtain ⟨xg1, xgn1, xgc1, rfl⟩ := h1.shape
   obtain ⟨xg2, xgn2, xgc2, rfl⟩ := h2.shape
   obtain ⟨xg3, xgn3, xgc3, rfl⟩ := h3.shape
   have SI : Hid (DkX w wI.heap.size (wI.alloc (.cells #[.int .i64 d4.room, .int .i64 d4.next, .slice xg1 xgn1 xgc1, .slice xg2 xgn2 xgc2, .slice xg3 xgn3 xgc3] 28)) d4 xg1 xgn1 xgc1 xg2 xgn2 xgc2 xg3 xgn3 xgc3) := DkX.new ⟨_, _, _, rfl, h1, h2, h3⟩ SH.out.b.size (SH.out.b.trans (hb.mono SH.out.b.size))
   clear hb h1 h2 h3 SH NU HLL
   obtain ⟨e0, e1, e2, e3, e4⟩ := cellsC5 SI.out.box
   go_wp2_with fail
   generalize wI.alloc (.cells #[.int .i64 d4.room, .int .i64 d4.next, .slice xg1 xgn1 xgc1, .slice xg2 xgn2 xgc2, .slice xg3 xgn3 xgc3] 28) = wJ at *
   generalize wI.heap.size = gy at *
   clear e0 e1 e2 e3 e4
   refine (implLoadV d4 (.agg #[.int .i64 d4.room, .int .i64 d4.next, .slice xg1 xgn1 xgc1, .slice xg2 xgn2 xgc2, .slice xg3 xgn3 xgc3]) nm wJ wJ.heap.size SI.out.v HM4.out.1 HM4.out.2.1 HM4.out.2.2 (Nat.le_refl _) HNM.out).mono ?_
   rintro e wK ⟨rfl, hb⟩
   rw [HLD.out]
   have SK := Hid.mkD (SI.out.below hb)
   clear hb SI HLD
   dsimp only
   have qd : ((dt : ByteArray).size : Int) ≤ 250000 := by have := HG2.out; have := HG3.out; have := HDS.out; omega
   have qs : (dt : ByteArray).size + (mt : ByteArray).size ≤ 140737488351232 := by have := HDS.out; rw [ByteArray.size_append] at this; omega
   go_wp2_with fail
   refine (begins_yes dt got wK HG2.out (begins_of HG2.out HG3.out HG4.out) (by have := HG3.out; have := HDS.out; unfold maxLen; omega)).mono ?_
   rintro e w' ⟨rfl, rfl⟩
   go_wp2_with fail
   generalize ((dt : ByteArray) ++ (mt : ByteArray)) = mo at *
   refine (begins_yes got mo w' HG3.out HG4.out.symm (by have := HDS.out; unfold maxLen; omega)).mono ?_
   rintro e w'' ⟨rfl, rfl⟩
   obtain ⟨e0, e1, e2, e3, e4⟩ := cellsC5 SK.out.box
   go_wp2_with fail
   refine (specOkV d4 (.agg #[.int .i64 d4.room, .int .i64 d4.next, .slice xg1 xgn1 xgc1, .slice xg2 xgn2 xgc2, .slice xg3 xgn3 xgc3]) w'' w''.heap.size SK.out.v HM4.out.1 HM4.out.2.2 (Nat.le_refl _)).mono ?_
   rintro e wL ⟨rfl, hb⟩
   rw [HX4.out]
   have BL : Hid (Below w.heap.size w wL) := SK.out.b.trans (hb.mono SK.out.b.size)
   clear hb SK e0 e1 e2 e3 e4
   go_wp2_with fail
   go_ret
   exact ⟨rfl, BL.out⟩
  ·have hcb : (c1 == 0) = false := by simpa using hc0
   have HK2 : Hid (Kept d1 nm dt ⟨#[]⟩) := by have := HK1.out; rw [if_neg hc0] at this; exact this
   obtain ⟨e0, e1, e2, e3, e4⟩ := cellsC5 SC.out.box
   go_wp2_with fail
   generalize wC.alloc (.cells #[.int .i64 d1.room, .int .i64 d1.next, .slice xb1 xbn1 xbc1, .slice xb2 xbn2 xbc2, .slice xb3 xbn3 xbc3] 28) = wD at *
   generalize wC.heap.size = gx at *
   clear e0 e1 e2 e3 e4 HK1
   have HM := Hid.mkD (HK2.out.rd.mid (Nat.le_trans HB1.out (by omega)))
   refine (implMakeV d1 (.agg #[.int .i64 d1.room, .int .i64 d1.next, .slice xb1 xbn1 xbc1, .slice xb2 xbn2 xbc2, .slice xb3 xbn3 xbc3]) ⟨#[108, 97, 116, 101, 114]⟩ wD wD.heap.size SC.out.v HM.out.1 HM.out.2.1 HM.out.2.2 (Nat.le_refl _) (by unfold maxLen; decide)).mono ?_
   rintro e wE ⟨x, rfl, hO, hb⟩
   have ea : makeR d1 ⟨#[108, 97, 116, 101, 114]⟩ = (makeD d1 ⟨#[108, 97, 116, 101, 114]⟩, makeC d1 ⟨#[108, 97, 116, 101, 114]⟩) := by unfold makeR; rw [if_pos (RD.iff.2 HK2.out.rd)]
   have HR3 : Hid (RD (makeR d1 ⟨#[108, 97, 116, 101, 114]⟩).1) := by unfold Hid; rw [ea]; exact HK2.out.rd.make _
   have HB3 : Hid (bytesOf (makeR d1 ⟨#[108, 97, 116, 101, 114]⟩).1.nods ≤ 250000) := by have := make_bytes d1 ⟨#[108, 97, 116, 101, 114]⟩; have := HB1.out; unfold Hid; rw [ea]; show bytesOf (makeD d1 ⟨#[108, 97, 116, 101, 114]⟩).nods ≤ _; omega
   have HCR : Hid (∀ kp l, ∃ got, loadR (crashD (makeR d1 ⟨#[108, 97, 116, 101, 114]⟩).1 kp l) nm = (got, true) ∧ (dt : ByteArray).size ≤ got.size ∧ got.size ≤ ((dt : ByteArray) ++ ⟨#[]⟩).size ∧ got = ((dt : ByteArray) ++ ⟨#[]⟩).extract 0 got.size) := by unfold Hid; rw [ea]; exact fun kp l => HK2.out.crash _ kp l
   have HDS : Hid (((dt : ByteArray) ++ ⟨#[]⟩).size ≤ 250000) := by have := HK2.out.data_size; have := HB1.out; unfold Hid; rw [ByteArray.size_append]; omega
   clear ea
   obtain ⟨d2, hd2⟩ : ∃ d2, d2 = (makeR d1 ⟨#[108, 97, 116, 101, 114]⟩).1 := ⟨_, rfl⟩
   obtain ⟨c2, hc2⟩ : ∃ c2, c2 = (makeR d1 ⟨#[108, 97, 116, 101, 114]⟩).2 := ⟨_, rfl⟩
   rw [← hd2] at hO HR3 HB3 HCR
   rw [← hc2]
   clear hd2 hc2 HM HK2 HB1
   obtain ⟨v1, v2, v3, rfl, h1, h2, h3⟩ := hO
   obtain ⟨xc1, xcn1, xcc1, rfl⟩ := h1.shape
   obtain ⟨xc2, xcn2, xcc2, rfl⟩ := h2.shape
   obtain ⟨xc3, xcn3, xcc3, rfl⟩ := h3.shape
   have SE := Hid.mkD (SC.out.below hb)
   have SF : Hid (DkX w gx (((((wE.setCell ⟨gx, 0, none⟩ (.int .i64 d2.room)).setCell ⟨gx, 1, none⟩ (.int .i64 d2.next)).setCell ⟨gx, 2, none⟩ (.slice xc1 xcn1 xcc1)).setCell ⟨gx, 3, none⟩ (.slice xc2 xcn2 xcc2)).setCell ⟨gx, 4, none⟩ (.slice xc3 xcn3 xcc3)) d2 xc1 xcn1 xcc1 xc2 xcn2 xcc2 xc3 xcn3 xcc3) := SE.out.swap SC.out.b.size h1 h2 h3
   obtain ⟨⟨r0, f0⟩, ⟨r1, f1⟩, ⟨r2, f2⟩, ⟨r3, f3⟩, ⟨r4, f4⟩, y0, y1, y2, y3, y4⟩ := resC5 (x0 := .int .i64 d2.room) (x1 := .int .i64 d2.next) (x2 := .slice xc1 xcn1 xcc1) (x3 := .slice xc2 xcn2 xcc2) (x4 := .slice xc3 xcn3 xcc3) SE.out.box
   clear h1 h2 h3 hb SC SE y0 y1 y2 y3 y4
   go_wp2_with fail
   clear r0 r1 r2 r3 r4 f0 f1 f2 f3 f4
   generalize (((((wE.setCell ⟨gx, 0, none⟩ (.int .i64 d2.room)).setCell ⟨gx, 1, none⟩ (.int .i64 d2.next)).setCell ⟨gx, 2, none⟩ (.slice xc1 xcn1 xcc1)).setCell ⟨gx, 3, none⟩ (.slice xc2 xcn2 xcc2)).setCell ⟨gx, 4, none⟩ (.slice xc3 xcn3 xcc3)) = wF at *
   refine (drawCrash wF ao len cap cs HL.out (HC.out.on SF.out.b)).mono ?_
   rintro e wG ⟨d3, v, kp, l, u, rfl, hO, hsm, hnu, hll, hb⟩
   obtain ⟨v1, v2, v3, rfl, h1, h2, h3⟩ := hO
   obtain ⟨xe1, xen1, xec1, rfl⟩ := h1.shape
   obtain ⟨xe2, xen2, xec2, rfl⟩ := h2.shape
   obtain ⟨xe3, xen3, xec3, rfl⟩ := h3.shape
   obtain ⟨wH, hwH⟩ : ∃ wH, wH = wG.alloc (.cells #[.int .i64 d3.room, .int .i64 d3.next, .slice xe1 xen1 xec1, .slice xe2 xen2 xec2, .slice xe3 xen3 xec3] 28) := ⟨_, rfl⟩
   have hal : Below wG.heap.size wG wH := by rw [hwH]; exact (Below.refl _ _).alloc (Nat.le_refl _) _
   have SH := Hid.mkD (SF.out.below (hb.trans (hal.mono hb.size)))
   have NU : Hid (NumsV wH wH.heap.size u l) := (hnu.on hal).mono hal.size
   have HLL : Hid (l.length ≤ 1048576) := by unfold Hid; omega
   clear hal hb h1 h2 h3 hsm hnu hll SF
   obtain ⟨e0, e1, e2, e3, e4⟩ := cellsC5 SH.out.box
   rw [hwH] at e0 e1 e2 e3 e4
   go_wp2_with fail
   rw [← hwH]
   clear e0 e1 e2 e3 e4 hwH
   have HM := Hid.mkD (HR3.out.mid (Nat.le_trans HB3.out (by omega)))
   refine (implCrashV d2 (.agg #[.int .i64 d2.room, .int .i64 d2.next, .slice xc1 xcn1 xcc1, .slice xc2 xcn2 xcc2, .slice xc3 xcn3 xcc3]) kp l u wH wH.heap.size SH.out.v NU.out HLL.out HM.out.1 HM.out.2.1 HM.out.2.2 (Nat.le_refl _)).mono ?_
   rintro e wI ⟨v, rfl, hO, hb⟩
   rw [crashR_yes (RD.iff.2 HR3.out)] at hO
   have hR4 := HR3.out.crash kp l
   have hB4 : bytesOf (crashD d2 kp l).nods ≤ 300000 := by have := HR3.out.crash_bytes kp l; have := HB3.out; omega
   obtain ⟨got, g1, g2, g3, g4⟩ := HCR.out kp l
   generalize crashD d2 kp l = d4 at *
   have HM4 := Hid.mkD (hR4.mid hB4)
   have HX4 : Hid (diskOk d4 = true) := RD.iff.2 hR4
   have HLD := Hid.mkD g1
   have HG2 := Hid.mkD g2
   have HG3 := Hid.mkD g3
   have HG4 := Hid.mkD g4
   clear g1 g2 g3 g4 hR4 hB4 HCR HM HR3 HB3
   obtain ⟨v1, v2, v3, rfl, h1, h2, h3⟩ := hO
   obtain ⟨xg1, xgn1, xgc1, rfl⟩ := h1.shape
   obtain ⟨xg2, xgn2, xgc2, rfl⟩ := h2.shape
   obtain ⟨xg3, xgn3, xgc3, rfl⟩ := h3.shape
   have SI : Hid (DkX w wI.heap.size (wI.alloc (.cells #[.int .i64 d4.room, .int .i64 d4.next, .slice xg1 xgn1 xgc1, .slice xg2 xgn2 xgc2, .slice xg3 xgn3 xgc3] 28)) d4 xg1 xgn1 xgc1 xg2 xgn2 xgc2 xg3 xgn3 xgc3) := DkX.new ⟨_, _, _, rfl, h1, h2, h3⟩ SH.out.b.size (SH.out.b.trans (hb.mono SH.out.b.size))
   clear hb h1 h2 h3 SH NU HLL
   obtain ⟨e0, e1, e2, e3, e4⟩ := cellsC5 SI.out.box
   go_wp2_with fail
   generalize wI.alloc (.cells #[.int .i64 d4.room, .int .i64 d4.next, .slice xg1 xgn1 xgc1, .slice xg2 xgn2 xgc2, .slice xg3 xgn3 xgc3] 28) = wJ at *
   generalize wI.heap.size = gy at *
   clear e0 e1 e2 e3 e4
   refine (implLoadV d4 (.agg #[.int .i64 d4.room, .int .i64 d4.next, .slice xg1 xgn1 xgc1, .slice xg2 xgn2 xgc2, .slice xg3 xgn3 xgc3]) nm wJ wJ.heap.size SI.out.v HM4.out.1 HM4.out.2.1 HM4.out.2.2 (Nat.le_refl _) HNM.out).mono ?_
   rintro e wK ⟨rfl, hb⟩
   rw [HLD.out]
   have SK := Hid.mkD (SI.out.below hb)
   clear hb SI HLD
   dsimp only
   have qd : ((dt : ByteArray).size : Int) ≤ 250000 := by have := HG2.out; have := HG3.out; have := HDS.out; omega
   have qs : (dt : ByteArray).size + (⟨#[]⟩ : ByteArray).size ≤ 140737488351232 := by have := HDS.out; rw [ByteArray.size_append] at this; omega
   go_wp2_with fail
   refine (begins_yes dt got wK HG2.out (begins_of HG2.out HG3.out HG4.out) (by have := HG3.out; have := HDS.out; unfold maxLen; omega)).mono ?_
   rintro e w' ⟨rfl, rfl⟩
   go_wp2_with fail
   generalize ((dt : ByteArray) ++ (⟨#[]⟩ : ByteArray)) = mo at *
   refine (begins_yes got mo w' HG3.out HG4.out.symm (by have := HDS.out; unfold maxLen; omega)).mono ?_
   rintro e w'' ⟨rfl, rfl⟩
   obtain ⟨e0, e1, e2, e3, e4⟩ := cellsC5 SK.out.box
   go_wp2_with fail
   refine (specOkV d4 (.agg #[.int .i64 d4.room, .int .i64 d4.next, .slice xg1 xgn1 xgc1, .slice xg2 xgn2 xgc2, .slice xg3 xgn3 xgc3]) w'' w''.heap.size SK.out.v HM4.out.1 HM4.out.2.2 (Nat.le_refl _)).mono ?_
   rintro e wL ⟨rfl, hb⟩
   rw [HX4.out]
   have BL : Hid (Below w.heap.size w wL) := SK.out.b.trans (hb.mono SK.out.b.size)
   clear hb SK e0 e1 e2 e3 e4
   go_wp2_with fail
   go_ret
   exact ⟨rfl, BL.out⟩
end Go.Proofs.YtgjilgecklhglaaGreat
