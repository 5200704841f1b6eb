/- LawFnNames -/
import Derived.Test.YtgjilgecklhglaaGreatRows
import Derived.Test.YtgjilgecklhglaaGreatQn11
import Derived.Test.YtgjilgecklhglaaGreatQn10
import Derived.Test.YtgjilgecklhglaaGreatQn9
import Derived.Test.YtgjilgecklhglaaGreatQn5
import Derived.Deep.RegionHeld3
import Derived.Lib.OwnKind
import Derived.Deep.Cut
import Derived.Deep.CutRange
import Derived.Deep.CutBlock
import Derived.WalkKit
import Derived.ProofKit
import Derived.OpenShut
import Derived.Below
import Derived.WalkSmall
import Derived.Handy
import Derived.Test.YtgjilgecklhglaaGreatQt0
import Derived.Test.YtgjilgecklhglaaGreatQt1
import Derived.Test.YtgjilgecklhglaaGreatQt2
import Derived.Test.YtgjilgecklhglaaGreatQt3
import Derived.Test.YtgjilgecklhglaaGreatQt4
import Derived.Test.YtgjilgecklhglaaGreatQt5
import Derived.Test.YtgjilgecklhglaaGreatQt6
import Derived.Test.YtgjilgecklhglaaGreatQt7
import Derived.Test.YtgjilgecklhglaaGreatQt8
import Derived.Test.YtgjilgecklhglaaGreatQt9
import Derived.Test.YtgjilgecklhglaaGreatQt10
import Derived.Test.YtgjilgecklhglaaGreatQt11
import Derived.Test.YtgjilgecklhglaaGreatQt12
import Derived.Test.YtgjilgecklhglaaGreatQt13
import Derived.Test.YtgjilgecklhglaaGreatQt14
import Derived.Test.YtgjilgecklhglaaGreatQt15
open List (setIfInBounds_toArray set_cons_zero set_cons_succ)
namespace Go.Proofs.YtgjilgecklhglaaGreat
open Go.ChangeShapes Go.WideShapes Go.ChangeAt Go.RowKit Go.PlainAid
set_option linter.unusedVariables false
set_option maxRecDepth 20000 in
set_option maxHeartbeats 8000000 in
theorem law_fnNames (ao : Option Addr) (len cap : Nat) (cs : Nat → Nat) (w : World) (h : CodeIs w w.heap.size ao len cs) (hl : len ≤ 9223372036854775807) : Calls Tryz.prog 4 #[.slice ao len cap] w fun e w' => e = .returned (.bool true) ∧ Below w.heap.size w w' := by
 have HC : Hid (CodeIs w w.heap.size ao len cs) := h
 clear h
 by_cases hbig : 1048576 < len
 ·go_enter Tryz.func4, Tryz.ntmps4
  go_wp2_with fail
  refine (big_yes w ao len cap hbig hl).mono ?_
  rintro e w' ⟨rfl, rfl⟩
  go_wp2_with fail
  go_ret
  exact ⟨rfl, Below.refl _ _⟩
 have HL : Hid (len ≤ 1048576) := by unfold Hid; omega
 have q0 : (len : Int) ≤ 1048576 := by omega
 clear hbig hl
 go_enter Tryz.func4, Tryz.ntmps4
 go_wp2_with fail
 refine (big_no w ao len cap HL.out).mono ?_
 rintro e w' ⟨rfl, rfl⟩
 go_wp2_with fail
 refine (drawCrash w ao len cap cs HL.out HC.out).mono ?_
 rintro e w1 ⟨d, v, kp, l, u, rfl, hO, hsm, hnu, hll, hb⟩
 have HSM := Hid.mkD hsm
 have HLL : Hid (l.length ≤ 1048576) := by unfold Hid; omega
 obtain ⟨v1, v2, v3, rfl, h1, h2, h3⟩ := hO
 obtain ⟨xa1, xan1, xac1, rfl⟩ := h1.shape
 obtain ⟨xa2, xan2, xac2, rfl⟩ := h2.shape
 obtain ⟨xa3, xan3, xac3, rfl⟩ := h3.shape
 obtain ⟨z1, -⟩ := h1.lies.room
 obtain ⟨z2, -⟩ := h2.lies.room
 obtain ⟨z3, -⟩ := h3.lies.room
 rw [nodR_length] at z1
 rw [lnkR_length] at z2
 rw [movR_length] at z3
 subst z1 z2 z3
 have hal : Below w1.heap.size w1 (w1.alloc (.cells #[.int .i64 d.room, .int .i64 d.next, .slice xa1 d.nods.length xac1, .slice xa2 d.dir.length xac2, .slice xa3 d.movs.length xac3] 28)) := (Below.refl _ _).alloc (Nat.le_refl _) _
 have SD2 : Hid (DkX w w1.heap.size (w1.alloc (.cells #[.int .i64 d.room, .int .i64 d.next, .slice xa1 d.nods.length xac1, .slice xa2 d.dir.length xac2, .slice xa3 d.movs.length xac3] 28)) d xa1 d.nods.length xac1 xa2 d.dir.length xac2 xa3 d.movs.length xac3) := DkX.new ⟨_, _, _, rfl, h1, h2, h3⟩ (Nat.le_refl _) hb
 have NU2 : Hid (NumsV (w1.alloc (.cells #[.int .i64 d.room, .int .i64 d.next, .slice xa1 d.nods.length xac1, .slice xa2 d.dir.length xac2, .slice xa3 d.movs.length xac3] 28)) (w1.alloc (.cells #[.int .i64 d.room, .int .i64 d.next, .slice xa1 d.nods.length xac1, .slice xa2 d.dir.length xac2, .slice xa3 d.movs.length xac3] 28)).heap.size u l) := (hnu.on hal).mono hal.size
 clear h1 h2 h3 hsm hnu hll hb hal
 obtain ⟨e0, e1, e2, e3, e4⟩ := cellsC5 SD2.out.box
 go_wp2_with fail
 generalize w1.alloc (.cells #[.int .i64 d.room, .int .i64 d.next, .slice xa1 d.nods.length xac1, .slice xa2 d.dir.length xac2, .slice xa3 d.movs.length xac3] 28) = w2 at *
 generalize w1.heap.size = gd at *
 clear e0 e1 e2 e3 e4
 refine (implCrashV d (.agg #[.int .i64 d.room, .int .i64 d.next, .slice xa1 d.nods.length xac1, .slice xa2 d.dir.length xac2, .slice xa3 d.movs.length xac3]) kp l u w2 w2.heap.size SD2.out.v NU2.out HLL.out HSM.out.fits HSM.out.ints HSM.out.wt (Nat.le_refl _)).mono ?_
 rintro e w3 ⟨v, rfl, hO, hb⟩
 obtain ⟨dx, hdx⟩ : ∃ dx, dx = crashR d kp l := ⟨_, rfl⟩
 rw [← hdx] at hO
 have HDX := Hid.mkD hdx
 obtain ⟨v1, v2, v3, rfl, h1, h2, h3⟩ := hO
 obtain ⟨xb1, xbn1, xbc1, rfl⟩ := h1.shape
 obtain ⟨xb2, xbn2, xbc2, rfl⟩ := h2.shape
 obtain ⟨xb3, xbn3, xbc3, rfl⟩ := h3.shape
 have hal : Below w3.heap.size w3 (w3.alloc (.cells #[.int .i64 dx.room, .int .i64 dx.next, .slice xb1 xbn1 xbc1, .slice xb2 xbn2 xbc2, .slice xb3 xbn3 xbc3] 28)) := (Below.refl _ _).alloc (Nat.le_refl _) _
 have SX4 : Hid (DkX w w3.heap.size (w3.alloc (.cells #[.int .i64 dx.room, .int .i64 dx.next, .slice xb1 xbn1 xbc1, .slice xb2 xbn2 xbc2, .slice xb3 xbn3 xbc3] 28)) dx xb1 xbn1 xbc1 xb2 xbn2 xbc2 xb3 xbn3 xbc3) := DkX.new ⟨_, _, _, rfl, h1, h2, h3⟩ SD2.out.b.size (SD2.out.b.trans (hb.mono SD2.out.b.size))
 have SD4 := Hid.mkD (SD2.out.below (hb.trans (hal.mono hb.size)))
 have GDX : Hid (gd < w3.heap.size) := Nat.lt_of_lt_of_le SD2.out.box.lt hb.size
 clear h1 h2 h3 hb hal hdx NU2 SD2
 obtain ⟨e0, e1, e2, e3, e4⟩ := cellsC5 SD4.out.box
 go_wp2_with fail
 generalize w3.alloc (.cells #[.int .i64 dx.room, .int .i64 dx.next, .slice xb1 xbn1 xbc1, .slice xb2 xbn2 xbc2, .slice xb3 xbn3 xbc3] 28) = w4 at *
 generalize w3.heap.size = gx at *
 clear e0 e1 e2 e3 e4
 refine (specOkV d (.agg #[.int .i64 d.room, .int .i64 d.next, .slice xa1 d.nods.length xac1, .slice xa2 d.dir.length xac2, .slice xa3 d.movs.length xac3]) w4 w4.heap.size SD4.out.v HSM.out.fits HSM.out.wt (Nat.le_refl _)).mono ?_
 rintro e w5 ⟨rfl, hb⟩
 have SD5 := Hid.mkD (SD4.out.below hb)
 have SX5 := Hid.mkD (SX4.out.below hb)
 clear hb SD4 SX4
 cases hok : diskOk d
 ·have hx := HDX.out
  unfold crashR at hx
  rw [if_neg (by rw [hok]; decide)] at hx
  have HZ : Hid (diskOk dx = false) := by unfold Hid; rw [hx]; exact zero_not
  have HF : Hid (Fits dx ∧ IntsOk dx ∧ wtD dx ≤ 1048576) := by unfold Hid; rw [hx]; exact zero_fits
  clear hx hok HDX
  obtain ⟨e0, e1, e2, e3, e4⟩ := cellsC5 SX5.out.box
  go_wp2_with fail
  refine (implOkV dx (.agg #[.int .i64 dx.room, .int .i64 dx.next, .slice xb1 xbn1 xbc1, .slice xb2 xbn2 xbc2, .slice xb3 xbn3 xbc3]) w5 w5.heap.size SX5.out.v HF.out.1 HF.out.2.1 HF.out.2.2 (Nat.le_refl _)).mono ?_
  rintro e w6 ⟨rfl, hb⟩
  rw [HZ.out]
  have B6 : Hid (Below w.heap.size w w6) := SX5.out.b.trans (hb.mono SX5.out.b.size)
  clear hb e0 e1 e2 e3 e4
  go_wp2_with fail
  go_ret
  exact ⟨rfl, B6.out⟩
 ·have HR : Hid (RD d) := RD.iff.1 hok
  have HX : Hid (dx = crashD d kp l) := by unfold Hid; rw [HDX.out, crashR_yes hok]
  have HSZ := Hid.mkD HR.out.sz
  clear HDX hok
  have qn : (d.nods.length : Int) ≤ 10 := by have := HSZ.out.n; omega
  have ql : (d.dir.length : Int) ≤ 10 := by have := HSZ.out.l; omega
  have qm : (d.movs.length : Int) ≤ 20 := by have := HSZ.out.m; omega
  go_upto_if 42 with fail
  go_cut [7] from 22 to 197 (fun s7 wc => s7 = .int .i64 (max kp 0) ∧ w5 = wc)
  case first =>
   by_cases hk0 : kp < 0
   ·have e : max kp 0 = 0 := by omega
    go_wp2_with fail
    go_meet
    exact ⟨by rw [e], rfl⟩
   ·have e : max kp 0 = kp := by omega
    go_wp2_with fail
    go_meet
    exact ⟨by rw [e], rfl⟩
  case rest =>
   obtain ⟨rfl, rfl⟩ := hcut
   obtain ⟨m0, hm0⟩ : ∃ m0 : Nat, max kp 0 = (m0 : Int) := ⟨(max kp 0).toNat, by omega⟩
   have HM0 : Hid (kp.toNat = m0) := by unfold Hid; omega
   rw [hm0]
   clear hm0
   obtain ⟨e0, e1, e2, e3, e4⟩ := cellsC5 SD5.out.box
   go_upto_if 47 with fail
   go_cut [7] from 22 to 197 (fun s7 wc => s7 = .int .i64 ((min m0 d.movs.length : Nat) : Int) ∧ w5 = wc)
   case first =>
    by_cases hk0 : d.movs.length < m0
    ·have e : min m0 d.movs.length = d.movs.length := by omega
     have hk1 : (d.movs.length : Int) < (m0 : Int) := by omega
     go_wp2_with fail
     go_meet
     exact ⟨by rw [e], rfl⟩
    ·have e : min m0 d.movs.length = m0 := by omega
     have hk1 : (m0 : Int) ≤ (d.movs.length : Int) := by omega
     go_wp2_with fail
     go_meet
     exact ⟨by rw [e], rfl⟩
   case rest =>
    obtain ⟨rfl, rfl⟩ := hcut
    obtain ⟨nn, hnn⟩ : ∃ nn, nn = min m0 d.movs.length := ⟨_, rfl⟩
    have HNN : Hid (nn = min kp.toNat d.movs.length) := by unfold Hid; rw [HM0.out]; exact hnn
    have HNL : Hid (nn ≤ d.movs.length) := by unfold Hid; omega
    have hcap := SD5.out.o3.lies.room.2
    have qc : (nn : Int) ≤ (xac3 : Int) := by omega
    rw [← hnn]
    clear hnn hcap HM0
    have k54 := ((SD5.out.box.alloc (.cells #[.int .i64 d.room, .int .i64 d.next, .slice xa1 d.nods.length xac1, .slice xa2 d.dir.length xac2, .slice xa3 d.movs.length xac3] 28)).alloc (.cells #[] 51)).cell 4 _ rfl
    go_wp2_with (at_builtin; refine Shut.out ?_)
    unfold Shut
    have hKY := (Blk.new w5 #[.int .i64 d.room, .int .i64 d.next, .slice xa1 d.nods.length xac1, .slice xa2 d.dir.length xac2, .slice xa3 d.movs.length xac3] 28).alloc (.cells #[] 51)
    have hE := Owns.empty (w5.alloc (.cells #[.int .i64 d.room, .int .i64 d.next, .slice xa1 d.nods.length xac1, .slice xa2 d.dir.length xac2, .slice xa3 d.movs.length xac3] 28)) (w5.heap.size + 1) 51 4 (by simp)
    have hal : Below w5.heap.size w5 ((w5.alloc (.cells #[.int .i64 d.room, .int .i64 d.next, .slice xa1 d.nods.length xac1, .slice xa2 d.dir.length xac2, .slice xa3 d.movs.length xac3] 28)).alloc (.cells #[] 51)) := ((Below.refl _ _).alloc (Nat.le_refl _) _).alloc (by simp) _
    have hLs := ((SD5.out.o3.lies.first nn (by rw [movR_length]; exact HNL.out)).on hal)
    rw [show (movR d.movs).take nn = movR (d.movs.take nn) from by simp [movR]] at hLs
    rw [World.size_alloc] at hE
    have s1 : ([] : List (List Value)).length + (movR (d.movs.take nn)).length ≤ 2097152 := by rw [movR_length]; have := HSZ.out.m; simp; omega
    have s2 : w5.heap.size + 1 ≤ ((w5.alloc (.cells #[.int .i64 d.room, .int .i64 d.next, .slice xa1 d.nods.length xac1, .slice xa2 d.dir.length xac2, .slice xa3 d.movs.length xac3] 28)).alloc (.cells #[] 51)).heap.size := by simp
    refine wpList_append_all (w := (w5.alloc (.cells #[.int .i64 d.room, .int .i64 d.next, .slice xa1 d.nods.length xac1, .slice xa2 d.dir.length xac2, .slice xa3 d.movs.length xac3] 28)).alloc (.cells #[] 51)) rfl (.tmp 52) (.tmp 56) 26 51 (.agg #[.int .i64 0, .string ⟨#[]⟩, .string ⟨#[]⟩, .int .i64 0]) 4 48 rfl Tryz.underlying26 Tryz.infoMov rfl (by omega) (w5.heap.size + 1) (.slice (some ⟨w5.heap.size + 1, 0, none⟩) 0 0) (.slice xa3 nn xac3) [] (movR (d.movs.take nn)) w5.heap.size rfl hE hLs (mov_one _) rfl s1 (by omega) s2 ?_
    intro um w6 hO hb1 hk _
    rw [List.nil_append] at hO
    obtain ⟨ma, mn, mc, rfl⟩ := hO.shape
    obtain ⟨zm, -⟩ := hO.lies.room
    rw [movR_length, List.length_take, Nat.min_eq_left HNL.out] at zm
    have zm2 := zm.symm
    clear zm
    subst zm2
    have hKY6 := hKY.on hb1 (Nat.lt_succ_self _)
    have r4 := hKY6.cell 4 _ rfl
    have f4 := hKY6.free 4
    have hb6 : Below w5.heap.size w5 w6 := hal.trans (hb1.mono (Nat.le_succ _))
    have hb7 : Below w5.heap.size w5 (w6.setCell ⟨w5.heap.size, 4, none⟩ (.slice ma nn mc)) := hb6.setCell (Nat.le_refl _) _
    have hb8 : Below w5.heap.size w5 ((w6.setCell ⟨w5.heap.size, 4, none⟩ (.slice ma nn mc)).alloc (.cells #[] 47)) := hb7.alloc hb7.size _
    have hsz : (w6.setCell ⟨w5.heap.size, 4, none⟩ (.slice ma nn mc)).heap.size = w6.heap.size := by simp
    have hE2 := Owns.empty (w6.setCell ⟨w5.heap.size, 4, none⟩ (.slice ma nn mc)) w.heap.size 47 3 (Nat.le_trans SD5.out.b.size hb7.size)
    rw [hsz] at hE2
    have SD9 := Hid.mkD (SD5.out.below hb8)
    have SX9 := Hid.mkD (SX5.out.below hb8)
    have KY9 := Hid.mkD ((hKY6.set 4 (.slice ma nn mc)).alloc (.cells #[] 47))
    have OM9 := Hid.mkD ((hO.other (hO.notBlk hKY6 (by decide)) 4 (.slice ma nn mc)).alloc (.cells #[] 47))
    have OI9 := Hid.mkD hE2
    have GY : Hid (w.heap.size ≤ w5.heap.size) := SD5.out.b.size
    have GDY : Hid (gd < w5.heap.size) := SD5.out.box.lt
    have GXY : Hid (gx < w5.heap.size) := SX5.out.box.lt
    clear hKY hE hal hLs s1 s2 hO hb1 hk hKY6 hb6 hb7 hb8 hE2 SD5 SX5 k54 e0 e1 e2 e3 e4
    go_wp2_with fail
    clear hsz r4 f4
    generalize (w6.setCell ⟨w5.heap.size, 4, none⟩ (.slice ma nn mc)).alloc (.cells #[] 47) = w9 at *
    generalize w6.heap.size = g0 at *
    generalize w5.heap.size = gy at *
    obtain ⟨_, _, eq1, hA1⟩ := nod_look SD9.out.o1.lies
    cases eq1
    obtain ⟨_, _, eq2, hA2⟩ := lnk_look SD9.out.o2.lies
    cases eq2
    obtain ⟨_, _, eq3, hA3⟩ := mov_look SD9.out.o3.lies
    cases eq3
    have HA1 := Hid.mkD hA1
    have HA2 := Hid.mkD hA2
    have HA3 := Hid.mkD hA3
    clear hA1 hA2 hA3
    go_loopw [9, 10] (fun u9 i10 wr => ∃ (k : Nat) (A : Option Addr) (m c : Nat), k ≤ d.nods.length ∧ i10 = .int .i64 (k : Int) ∧ u9 = .slice A m c ∧ Owns wr w.heap.size 47 3 (.slice A m c) (nodR ((d.nods.take k).filter (keepQ d nn))) ∧ Below w9.heap.size w9 wr) (fun _ i _ => d.nods.length - (intOf i).toNat)
    case atStart => exact ⟨0, _, _, _, Nat.zero_le _, rfl, rfl, OI9.out, Below.refl _ _⟩
    case round =>
     rename World => wo
     obtain ⟨k, A, m, c, hk, rfl, rfl, hO, hw⟩ := hrel
     have HO := Hid.mkD hO
     have HW := Hid.mkD hw
     clear hO hw
     by_cases hlt : k < d.nods.length
     ·have qk : (k : Int) < (d.nods.length : Int) := by omega
      obtain ⟨g, off, rfl, hg, u0, u1, u2⟩ := HA1.out k hlt
      obtain ⟨x, hx⟩ : ∃ x, x = d.nods.getD k default := ⟨_, rfl⟩
      rw [← hx] at u0 u1 u2
      have HXK := Hid.mkD hx
      clear hx
      have HG := Hid.mkD hg
      have KYr := Hid.mkD (KY9.out.on HW.out KY9.out.lt)
      have KDr := Hid.mkD (SD9.out.box.on HW.out SD9.out.box.lt)
      obtain ⟨e0, e1, e2, e3, e4⟩ := cellsC5 KYr.out
      have e52 := KDr.out.cell 2 _ rfl
      go_upto_region 19 with fail
      have KZ := Hid.mkD (Blk.new wo #[.int .i64 d.room, .int .i64 d.next, .slice (some ⟨g, off, none⟩) d.nods.length xac1, .slice xa2 d.dir.length xac2, .slice ma nn mc] 28)
      have ZZ : Hid (Below wo.heap.size wo (wo.alloc (.cells #[.int .i64 d.room, .int .i64 d.next, .slice (some ⟨g, off, none⟩) d.nods.length xac1, .slice xa2 d.dir.length xac2, .slice ma nn mc] 28))) := (Below.refl _ _).alloc (Nat.le_refl _) _
      have HS : Hid (∀ w', Below w9.heap.size w9 w' → w'.cell? ⟨gd, 2, none⟩ = some (.slice (some ⟨g, off, none⟩) d.nods.length xac1) ∧ w'.cell? ⟨g, off + k * 3, none⟩ = some (.int .i64 x.id) ∧ w'.cell? ⟨g, off + k * 3 + 1, none⟩ = some (.string x.data) ∧ w'.cell? ⟨g, off + k * 3 + 2, none⟩ = some (.int .i64 x.sure)) := by
       unfold Hid
       intro w' h
       exact ⟨(h.cell (p := ⟨gd, 2, none⟩) SD9.out.box.lt).trans (SD9.out.box.cell 2 _ rfl), (h.cell (p := ⟨g, off + k * 3, none⟩) hg).trans u0, (h.cell (p := ⟨g, off + k * 3 + 1, none⟩) hg).trans u1, (h.cell (p := ⟨g, off + k * 3 + 2, none⟩) hg).trans u2⟩
      have HU0 : Hid (∀ w', Below w9.heap.size w9 w' → w'.cell? ⟨g, off + k * 3, none⟩ = some (.int .i64 x.id)) := fun w' h => (h.cell (p := ⟨g, off + k * 3, none⟩) hg).trans u0
      clear e0 e1 e2 e3 e4 e52 u0 u1 u2 hg KYr KDr
      generalize wo.alloc (.cells #[.int .i64 d.room, .int .i64 d.next, .slice (some ⟨g, off, none⟩) d.nods.length xac1, .slice xa2 d.dir.length xac2, .slice ma nn mc] 28) = wz at *
      have HLn : Hid (([] : List (List Value)).length + (nodR ((d.nods.take k).filter (keepQ d nn))).length ≤ 2097152) := by unfold Hid; rw [nodR_length]; have := List.length_filter_le (keepQ d nn) (d.nods.take k); have := List.length_take_le k d.nods; simp; omega
      have HLm : Hid ((nodR ((d.nods.take k).filter (keepQ d nn))).length + [[Value.int .i64 x.id, Value.string x.data, Value.int .i64 x.sure]].length ≤ 2097152) := by unfold Hid; rw [nodR_length]; have := List.length_filter_le (keepQ d nn) (d.nods.take k); have := List.length_take_le k d.nods; simp; omega
      have HON : Hid (∀ r ∈ [[Value.int .i64 x.id, Value.string x.data, Value.int .i64 x.sure]], ∀ y ∈ r, y.oneCell' = true) := by
       intro r hr y hy
       rw [List.mem_singleton.1 hr] at hy
       simp at hy
       rcases hy with rfl | rfl | rfl <;> rfl
      go_cut [] from 60 to 139 (fun wc => ∃ (A2 : Option Addr) (m2 c2 : Nat), Below wo.heap.size wo wc ∧ Blk wc wo.heap.size #[.int .i64 d.room, .int .i64 d.next, .slice A2 m2 c2, .slice xa2 d.dir.length xac2, .slice ma nn mc] 28 ∧ Owns wc wo.heap.size 47 3 (.slice A2 m2 c2) (nodR (((d.nods.take k).filter (keepQ d nn)) ++ [x])))
      case first =>
       refine wp_region_until (fun w' => w'.cell? ⟨gd, 2, none⟩ = some (.slice (some ⟨g, off, none⟩) d.nods.length xac1) ∧ w'.cell? ⟨g, off + k * 3, none⟩ = some (.int .i64 x.id) ∧ w'.cell? ⟨g, off + k * 3 + 1, none⟩ = some (.string x.data) ∧ w'.cell? ⟨g, off + k * 3 + 2, none⟩ = some (.int .i64 x.sure)) (fun i => i == 11) 12 (by rfl) (by kernel_rfl) ?_
       have Z0 := Hid.mkD (ZZ.out.drew)
       have KZ0 : Hid (Blk wz.drew wo.heap.size #[.int .i64 d.room, .int .i64 d.next, .slice (some ⟨g, off, none⟩) d.nods.length xac1, .slice xa2 d.dir.length xac2, .slice ma nn mc] 28) := KZ.out.on (Below.refl _ wz).drew KZ.out.lt
       generalize wz.drew = Y0 at *
       clear KZ ZZ
       refine pF 1 ?_
       refine pF 3 ?_
       refine tF 4 (HS.out _ (HW.out.trans (Z0.out.mono HW.out.size))) ?_
       refine pF 5 ?_
       refine pF 6 ?_
       refine tF 7 (HS.out _ (HW.out.trans (Z0.out.mono HW.out.size))) ?_
       refine until_two 0 8 (by rfl) (by rfl) (by kernel_rfl) (fun K hK => ?_) (fun K hK => ?_)
       ·go_simp
        have ob := Hid.mkD (Owns.empty Y0 wo.heap.size 47 3 Z0.out.size)
        have bz : Below Y0.heap.size Y0 (Y0.alloc (.cells #[] 47)) := (Below.refl _ _).alloc (Nat.le_refl _) _
        have Z1 := Hid.mkD (Z0.out.trans (bz.mono Z0.out.size))
        have KZ1 := Hid.mkD (KZ0.out.on bz KZ0.out.lt)
        generalize Y0.alloc (.cells #[] 47) = Y1 at *
        have OE1 := ob
        generalize Y0.heap.size = ge at *
        clear ob bz Z0 KZ0
        refine hK.out _ _ (fun _ _ => HS.out _ (HW.out.trans (Z1.out.mono HW.out.size))) ?_
        clear hK K
        try simp only [Act.put, zQ1, zQ2, zQ3]
        refine until_two 2 8 (by rfl) (by rfl) (by kernel_rfl) (fun K hK => ?_) (fun K hK => ?_)
        ·obtain ⟨Ap, mp, cp, Y2, hr, hOp, hbp, hkp⟩ := run_append_all (P := Tryz.prog) Y1 24 24 47 (.agg #[.int .i64 0, .string ⟨#[]⟩, .int .i64 0]) 3 32 Tryz.underlying24 Tryz.infoNod rfl (by omega) wo.heap.size _ _ [] (nodR ((d.nods.take k).filter (keepQ d nn))) Y1.heap.size OE1.out ((HO.out.on Z1.out).lies) (nod_one _) HLn.out (by omega) Z1.out.size
         rw [List.nil_append] at hOp
         refine step_append_run (by rfl) (.tmp 68) (.tmp 69) 24 (by rfl) _ _ _ _ (by rfl) (by rfl) hr ?_
         have Z2 := Hid.mkD (Z1.out.trans hbp)
         have KZ2 : Hid (Blk Y2 wo.heap.size #[.int .i64 d.room, .int .i64 d.next, .slice (some ⟨g, off, none⟩) d.nods.length xac1, .slice xa2 d.dir.length xac2, .slice ma nn mc] 28) := (hkp _ KZ1.out.lt (OE1.out.notBlk KZ1.out (by decide))).trans KZ1.out
         have OP2 := Hid.mkD hOp
         clear hr hOp hbp hkp Z1 KZ1 OE1
         refine hK.out _ _ (fun _ _ => HS.out _ (HW.out.trans (Z2.out.mono HW.out.size))) ?_
         clear hK K
         try simp only [Act.put, zQ1, zQ2, zQ3]
         refine uNe 8 (fun K hK => ?_)
         go_simp
         have kn := Hid.mkD (Blk.new Y2 #[Value.int .i64 x.id, Value.string x.data, Value.int .i64 x.sure] 47)
         have bz : Below Y2.heap.size Y2 (Y2.alloc (.cells #[Value.int .i64 x.id, Value.string x.data, Value.int .i64 x.sure] 47)) := (Below.refl _ _).alloc (Nat.le_refl _) _
         have Z3 := Hid.mkD (Z2.out.trans (bz.mono Z2.out.size))
         have KZ3 := Hid.mkD (KZ2.out.on bz KZ2.out.lt)
         have OP3 := Hid.mkD (OP2.out.on bz)
         generalize Y2.alloc (.cells #[Value.int .i64 x.id, Value.string x.data, Value.int .i64 x.sure] 47) = Y3 at *
         have KN3 := kn
         generalize Y2.heap.size = gn at *
         clear kn bz Z2 KZ2 OP2
         refine hK.out _ _ (fun _ _ => HS.out _ (HW.out.trans (Z3.out.mono HW.out.size))) ?_
         clear hK K
         try simp only [Act.put, zQ1, zQ2, zQ3]
         refine uNe 9 (fun K hK => ?_)
         obtain ⟨Aq, mq, cq, Yf, hr, hOp, hbp, hkp⟩ := run_append_all (P := Tryz.prog) Y3 24 24 47 (.agg #[.int .i64 0, .string ⟨#[]⟩, .int .i64 0]) 3 32 Tryz.underlying24 Tryz.infoNod rfl (by omega) wo.heap.size _ _ (nodR ((d.nods.take k).filter (keepQ d nn))) [[Value.int .i64 x.id, Value.string x.data, Value.int .i64 x.sure]] Y3.heap.size OP3.out (lies_one KN3.out KN3.out.lt) HON.out HLm.out (by omega) Z3.out.size
         refine step_append_run (by rfl) (.tmp 70) (.tmp 76) 24 (by rfl) _ _ _ _ (by rfl) (by rfl) hr ?_
         have Zf := Hid.mkD (Z3.out.trans hbp)
         have KZf : Hid (Blk Yf wo.heap.size #[.int .i64 d.room, .int .i64 d.next, .slice (some ⟨g, off, none⟩) d.nods.length xac1, .slice xa2 d.dir.length xac2, .slice ma nn mc] 28) := (hkp _ KZ3.out.lt (OP3.out.notBlk KZ3.out (by decide))).trans KZ3.out
         have OF : Hid (Owns Yf wo.heap.size 47 3 (.slice Aq mq cq) (nodR (((d.nods.take k).filter (keepQ d nn)) ++ [x]))) := by unfold Hid; rw [show nodR (((d.nods.take k).filter (keepQ d nn)) ++ [x]) = nodR ((d.nods.take k).filter (keepQ d nn)) ++ [[Value.int .i64 x.id, Value.string x.data, Value.int .i64 x.sure]] from by simp [nodR]; rfl]; exact hOp
         clear hr hOp hbp hkp Z3 KZ3 KN3 OP3
         refine hK.out _ _ (fun _ _ => HS.out _ (HW.out.trans (Zf.out.mono HW.out.size))) ?_
         clear hK K
         try simp only [Act.put, zQ1, zQ2, zQ3]
         refine pF 10 ?_
         have mc2 := KZf.out.cell 2 _ rfl
         have mf2 := KZf.out.free 2
         refine uNe 11 (fun K hK => ?_)
         go_simp
         refine hK.out _ _ (fun h => by cases h) ?_
         clear hK K mc2 mf2
         try simp only [Act.put, zQ1, zQ2, zQ3]
         refine until_done (by kernel_rfl) ?_ _
         go_wp2_with fail
         go_meet
         exact ⟨Aq, mq, cq, Zf.out.setCell (Nat.le_refl _) _, KZf.out.set 2 _, OF.out.other (OF.out.notBlk KZf.out (by decide)) 2 _⟩
        ·go_simp
         have kn := Hid.mkD (Blk.new Y1 #[Value.int .i64 x.id, Value.string x.data, Value.int .i64 x.sure] 47)
         have bz : Below Y1.heap.size Y1 (Y1.alloc (.cells #[Value.int .i64 x.id, Value.string x.data, Value.int .i64 x.sure] 47)) := (Below.refl _ _).alloc (Nat.le_refl _) _
         have Z2 := Hid.mkD (Z1.out.trans (bz.mono Z1.out.size))
         have KZ2 := Hid.mkD (KZ1.out.on bz KZ1.out.lt)
         have OE2 := Hid.mkD (OE1.out.on bz)
         have NE : Hid (ge ≠ Y1.heap.size) := by have := (OE1.out.lt ge rfl).2; unfold Hid; omega
         generalize Y1.alloc (.cells #[Value.int .i64 x.id, Value.string x.data, Value.int .i64 x.sure] 47) = Y2 at *
         have KN2 := kn
         generalize Y1.heap.size = gn at *
         clear kn bz Z1 KZ1 OE1
         refine hK.out _ _ (fun _ _ => HS.out _ (HW.out.trans (Z2.out.mono HW.out.size))) ?_
         clear hK K
         try simp only [Act.put, zQ1, zQ2, zQ3]
         refine uNe 2 (fun K hK => ?_)
         obtain ⟨Ap, mp, cp, Y3, hr, hOp, hbp, hkp⟩ := run_append_all (P := Tryz.prog) Y2 24 24 47 (.agg #[.int .i64 0, .string ⟨#[]⟩, .int .i64 0]) 3 32 Tryz.underlying24 Tryz.infoNod rfl (by omega) wo.heap.size _ _ [] (nodR ((d.nods.take k).filter (keepQ d nn))) Y2.heap.size OE2.out ((HO.out.on Z2.out).lies) (nod_one _) HLn.out (by omega) Z2.out.size
         rw [List.nil_append] at hOp
         refine step_append_run (by rfl) (.tmp 68) (.tmp 69) 24 (by rfl) _ _ _ _ (by rfl) (by rfl) hr ?_
         have Z3 := Hid.mkD (Z2.out.trans hbp)
         have KZ3 : Hid (Blk Y3 wo.heap.size #[.int .i64 d.room, .int .i64 d.next, .slice (some ⟨g, off, none⟩) d.nods.length xac1, .slice xa2 d.dir.length xac2, .slice ma nn mc] 28) := (hkp _ KZ2.out.lt (OE2.out.notBlk KZ2.out (by decide))).trans KZ2.out
         have OP3 := Hid.mkD hOp
         have KN3 : Hid (Blk Y3 gn #[Value.int .i64 x.id, Value.string x.data, Value.int .i64 x.sure] 47) := (hkp _ KN2.out.lt (by intro e; exact NE.out (Option.some.inj e))).trans KN2.out
         clear hr hOp hbp hkp Z2 KZ2 OE2 KN2
         refine hK.out _ _ (fun _ _ => HS.out _ (HW.out.trans (Z3.out.mono HW.out.size))) ?_
         clear hK K
         try simp only [Act.put, zQ1, zQ2, zQ3]
         refine uNe 9 (fun K hK => ?_)
         obtain ⟨Aq, mq, cq, Yf, hr, hOp, hbp, hkp⟩ := run_append_all (P := Tryz.prog) Y3 24 24 47 (.agg #[.int .i64 0, .string ⟨#[]⟩, .int .i64 0]) 3 32 Tryz.underlying24 Tryz.infoNod rfl (by omega) wo.heap.size _ _ (nodR ((d.nods.take k).filter (keepQ d nn))) [[Value.int .i64 x.id, Value.string x.data, Value.int .i64 x.sure]] Y3.heap.size OP3.out (lies_one KN3.out KN3.out.lt) HON.out HLm.out (by omega) Z3.out.size
         refine step_append_run (by rfl) (.tmp 70) (.tmp 76) 24 (by rfl) _ _ _ _ (by rfl) (by rfl) hr ?_
         have Zf := Hid.mkD (Z3.out.trans hbp)
         have KZf : Hid (Blk Yf wo.heap.size #[.int .i64 d.room, .int .i64 d.next, .slice (some ⟨g, off, none⟩) d.nods.length xac1, .slice xa2 d.dir.length xac2, .slice ma nn mc] 28) := (hkp _ KZ3.out.lt (OP3.out.notBlk KZ3.out (by decide))).trans KZ3.out
         have OF : Hid (Owns Yf wo.heap.size 47 3 (.slice Aq mq cq) (nodR (((d.nods.take k).filter (keepQ d nn)) ++ [x]))) := by unfold Hid; rw [show nodR (((d.nods.take k).filter (keepQ d nn)) ++ [x]) = nodR ((d.nods.take k).filter (keepQ d nn)) ++ [[Value.int .i64 x.id, Value.string x.data, Value.int .i64 x.sure]] from by simp [nodR]; rfl]; exact hOp
         clear hr hOp hbp hkp Z3 KZ3 KN3 OP3
         refine hK.out _ _ (fun _ _ => HS.out _ (HW.out.trans (Zf.out.mono HW.out.size))) ?_
         clear hK K
         try simp only [Act.put, zQ1, zQ2, zQ3]
         refine pF 10 ?_
         have mc2 := KZf.out.cell 2 _ rfl
         have mf2 := KZf.out.free 2
         refine uNe 11 (fun K hK => ?_)
         go_simp
         refine hK.out _ _ (fun h => by cases h) ?_
         clear hK K mc2 mf2
         try simp only [Act.put, zQ1, zQ2, zQ3]
         refine until_done (by kernel_rfl) ?_ _
         go_wp2_with fail
         go_meet
         exact ⟨Aq, mq, cq, Zf.out.setCell (Nat.le_refl _) _, KZf.out.set 2 _, OF.out.other (OF.out.notBlk KZf.out (by decide)) 2 _⟩
       ·go_simp
        have kn := Hid.mkD (Blk.new Y0 #[Value.int .i64 x.id, Value.string x.data, Value.int .i64 x.sure] 47)
        have bz : Below Y0.heap.size Y0 (Y0.alloc (.cells #[Value.int .i64 x.id, Value.string x.data, Value.int .i64 x.sure] 47)) := (Below.refl _ _).alloc (Nat.le_refl _) _
        have Z1 := Hid.mkD (Z0.out.trans (bz.mono Z0.out.size))
        have KZ1 := Hid.mkD (KZ0.out.on bz KZ0.out.lt)
        generalize Y0.alloc (.cells #[Value.int .i64 x.id, Value.string x.data, Value.int .i64 x.sure] 47) = Y1 at *
        have KN1 := kn
        generalize Y0.heap.size = gn at *
        clear kn bz Z0 KZ0
        refine hK.out _ _ (fun _ _ => HS.out _ (HW.out.trans (Z1.out.mono HW.out.size))) ?_
        clear hK K
        try simp only [Act.put, zQ1, zQ2, zQ3]
        refine uNe 0 (fun K hK => ?_)
        go_simp
        have ob := Hid.mkD (Owns.empty Y1 wo.heap.size 47 3 Z1.out.size)
        have bz : Below Y1.heap.size Y1 (Y1.alloc (.cells #[] 47)) := (Below.refl _ _).alloc (Nat.le_refl _) _
        have Z2 := Hid.mkD (Z1.out.trans (bz.mono Z1.out.size))
        have KZ2 := Hid.mkD (KZ1.out.on bz KZ1.out.lt)
        have KN2 := Hid.mkD (KN1.out.on bz KN1.out.lt)
        have NE := Hid.mkD (Nat.ne_of_gt KN1.out.lt)
        generalize Y1.alloc (.cells #[] 47) = Y2 at *
        have OE2 := ob
        generalize Y1.heap.size = ge at *
        clear ob bz Z1 KZ1 KN1
        refine hK.out _ _ (fun _ _ => HS.out _ (HW.out.trans (Z2.out.mono HW.out.size))) ?_
        clear hK K
        try simp only [Act.put, zQ1, zQ2, zQ3]
        refine uNe 2 (fun K hK => ?_)
        obtain ⟨Ap, mp, cp, Y3, hr, hOp, hbp, hkp⟩ := run_append_all (P := Tryz.prog) Y2 24 24 47 (.agg #[.int .i64 0, .string ⟨#[]⟩, .int .i64 0]) 3 32 Tryz.underlying24 Tryz.infoNod rfl (by omega) wo.heap.size _ _ [] (nodR ((d.nods.take k).filter (keepQ d nn))) Y2.heap.size OE2.out ((HO.out.on Z2.out).lies) (nod_one _) HLn.out (by omega) Z2.out.size
        rw [List.nil_append] at hOp
        refine step_append_run (by rfl) (.tmp 68) (.tmp 69) 24 (by rfl) _ _ _ _ (by rfl) (by rfl) hr ?_
        have Z3 := Hid.mkD (Z2.out.trans hbp)
        have KZ3 : Hid (Blk Y3 wo.heap.size #[.int .i64 d.room, .int .i64 d.next, .slice (some ⟨g, off, none⟩) d.nods.length xac1, .slice xa2 d.dir.length xac2, .slice ma nn mc] 28) := (hkp _ KZ2.out.lt (OE2.out.notBlk KZ2.out (by decide))).trans KZ2.out
        have OP3 := Hid.mkD hOp
        have KN3 : Hid (Blk Y3 gn #[Value.int .i64 x.id, Value.string x.data, Value.int .i64 x.sure] 47) := (hkp _ KN2.out.lt (by intro e; exact NE.out (Option.some.inj e))).trans KN2.out
        clear hr hOp hbp hkp Z2 KZ2 OE2 KN2
        refine hK.out _ _ (fun _ _ => HS.out _ (HW.out.trans (Z3.out.mono HW.out.size))) ?_
        clear hK K
        try simp only [Act.put, zQ1, zQ2, zQ3]
        refine uNe 9 (fun K hK => ?_)
        obtain ⟨Aq, mq, cq, Yf, hr, hOp, hbp, hkp⟩ := run_append_all (P := Tryz.prog) Y3 24 24 47 (.agg #[.int .i64 0, .string ⟨#[]⟩, .int .i64 0]) 3 32 Tryz.underlying24 Tryz.infoNod rfl (by omega) wo.heap.size _ _ (nodR ((d.nods.take k).filter (keepQ d nn))) [[Value.int .i64 x.id, Value.string x.data, Value.int .i64 x.sure]] Y3.heap.size OP3.out (lies_one KN3.out KN3.out.lt) HON.out HLm.out (by omega) Z3.out.size
        refine step_append_run (by rfl) (.tmp 70) (.tmp 76) 24 (by rfl) _ _ _ _ (by rfl) (by rfl) hr ?_
        have Zf := Hid.mkD (Z3.out.trans hbp)
        have KZf : Hid (Blk Yf wo.heap.size #[.int .i64 d.room, .int .i64 d.next, .slice (some ⟨g, off, none⟩) d.nods.length xac1, .slice xa2 d.dir.length xac2, .slice ma nn mc] 28) := (hkp _ KZ3.out.lt (OP3.out.notBlk KZ3.out (by decide))).trans KZ3.out
        have OF : Hid (Owns Yf wo.heap.size 47 3 (.slice Aq mq cq) (nodR (((d.nods.take k).filter (keepQ d nn)) ++ [x]))) := by unfold Hid; rw [show nodR (((d.nods.take k).filter (keepQ d nn)) ++ [x]) = nodR ((d.nods.take k).filter (keepQ d nn)) ++ [[Value.int .i64 x.id, Value.string x.data, Value.int .i64 x.sure]] from by simp [nodR]; rfl]; exact hOp
        clear hr hOp hbp hkp Z3 KZ3 KN3 OP3
        refine hK.out _ _ (fun _ _ => HS.out _ (HW.out.trans (Zf.out.mono HW.out.size))) ?_
        clear hK K
        try simp only [Act.put, zQ1, zQ2, zQ3]
        refine pF 10 ?_
        have mc2 := KZf.out.cell 2 _ rfl
        have mf2 := KZf.out.free 2
        refine uNe 11 (fun K hK => ?_)
        go_simp
        refine hK.out _ _ (fun h => by cases h) ?_
        clear hK K mc2 mf2
        try simp only [Act.put, zQ1, zQ2, zQ3]
        refine until_done (by kernel_rfl) ?_ _
        go_wp2_with fail
        go_meet
        exact ⟨Aq, mq, cq, Zf.out.setCell (Nat.le_refl _) _, KZf.out.set 2 _, OF.out.other (OF.out.notBlk KZf.out (by decide)) 2 _⟩
      case rest =>
       obtain ⟨A2, m2, c2, hz2, hkz, ho2⟩ := hcut
       have Z1 := Hid.mkD hz2
       have KZ1 := Hid.mkD hkz
       have OZ1 := Hid.mkD ho2
       clear hz2 hkz ho2 HS KZ ZZ
       have e2 := KZ1.out.cell 2 _ rfl
       go_wp2_with (at_builtin; refine Shut.out ?_)
       unfold Shut
       have hal : Below wc.heap.size wc (wc.alloc (.cells #[] 47)) := (Below.refl _ _).alloc (Nat.le_refl _) _
       have s1 : (nodR (((d.nods.take k).filter (keepQ d nn)) ++ [x])).length + ([] : List (List Value)).length ≤ 2097152 := by have := HLm.out; rw [nodR_length] at this ⊢; simp at this ⊢; omega
       refine wpList_append_all (w := wc.alloc (.cells #[] 47)) rfl (.tmp 80) (.tmp 81) 24 47 (.agg #[.int .i64 0, .string ⟨#[]⟩, .int .i64 0]) 3 32 rfl Tryz.underlying24 Tryz.infoNod rfl (by omega) wo.heap.size (.slice A2 m2 c2) (.slice (some ⟨wc.heap.size, 0, none⟩) 0 0) (nodR (((d.nods.take k).filter (keepQ d nn)) ++ [x])) [] 0 rfl (OZ1.out.on hal) lies_none (by intro r hr; cases hr) rfl s1 (by omega) (Nat.le_trans Z1.out.size hal.size) ?_
       intro u3 w4 hO hb1 hk2 _
       rw [List.append_nil] at hO
       obtain ⟨A3, m3, c3, rfl⟩ := hO.shape
       have KZ2 : Hid (Blk w4 wo.heap.size #[.int .i64 d.room, .int .i64 d.next, .slice A2 m2 c2, .slice xa2 d.dir.length xac2, .slice ma nn mc] 28) := (hk2 _ (Nat.lt_of_lt_of_le KZ1.out.lt hal.size) ((OZ1.out.on hal).notBlk (KZ1.out.on hal KZ1.out.lt) (by decide))).trans (KZ1.out.on hal KZ1.out.lt)
       have Z2 := Hid.mkD ((Z1.out.trans (hal.mono Z1.out.size)).trans hb1)
       have r2 := KZ2.out.cell 2 _ rfl
       have f2 := KZ2.out.free 2
       have Z3 := Hid.mkD (Z2.out.setCell (Nat.le_refl _) (p := ⟨wo.heap.size, 2, none⟩) (.slice A3 m3 c3))
       have KZ3 := Hid.mkD (KZ2.out.set 2 (.slice A3 m3 c3))
       have OZ3 := Hid.mkD (hO.other (hO.notBlk KZ2.out (by decide)) 2 (.slice A3 m3 c3))
       clear hO hb1 hk2 s1 hal KZ1 Z1 OZ1 KZ2 Z2 e2
       go_wp2_with fail
       clear r2 f2
       generalize w4.setCell ⟨wo.heap.size, 2, none⟩ (.slice A3 m3 c3) = wv at *
       have BV := Hid.mkD (HW.out.trans (Z3.out.mono HW.out.size))
       go_loopw [12, 13] (fun b12 i13 wq => ∃ j : Nat, j ≤ d.dir.length ∧ i13 = .int .i64 (j : Int) ∧ b12 = .bool (linked (d.dir.take j) x.id) ∧ Below wv.heap.size wv wq) (fun _ i _ => d.dir.length - (intOf i).toNat)
       case atStart => exact ⟨0, Nat.zero_le _, rfl, rfl, Below.refl _ _⟩
       case round =>
        rename World => wq
        obtain ⟨j, hj, rfl, rfl, hq⟩ := hrel
        have HQ := Hid.mkD hq
        have VQ := Hid.mkD (BV.out.trans (HQ.out.mono BV.out.size))
        clear hq
        have e53 := (VQ.out.cell (p := ⟨gd, 3, none⟩) SD9.out.box.lt).trans (SD9.out.box.cell 3 _ rfl)
        by_cases hjl : j < d.dir.length
        ·have qj : (j : Int) < (d.dir.length : Int) := by omega
         obtain ⟨g2, off2, rfl, hg2, t0, t1⟩ := HA2.out j hjl
         have HLK := Hid.mkD (linked_takeD d.dir x.id j hjl)
         have hu := HU0.out
         generalize x.id = xi at *
         generalize (d.dir.getD j default).id = yi at *
         have VD := VQ.out.drew
         have y1 := VD.cell (p := ⟨gd, 3, none⟩) SD9.out.box.lt
         have z1 := SD9.out.box.cell 3 _ rfl
         have c1 := y1.trans z1
         have y2 := VD.cell (p := ⟨gd, 2, none⟩) SD9.out.box.lt
         have z2 := SD9.out.box.cell 2 _ rfl
         have c2 := y2.trans z2
         have y3 := VD.cell (p := ⟨g2, off2 + j * 2 + 1, none⟩) hg2
         have c3 := y3.trans t1
         have c4 := hu _ VD
         have HS2 : Hid (wq.drew.cell? ⟨gd, 3, none⟩ = some (.slice (some ⟨g2, off2, none⟩) d.dir.length xac2) ∧ wq.drew.cell? ⟨gd, 2, none⟩ = some (.slice (some ⟨g, off, none⟩) d.nods.length xac1) ∧ wq.drew.cell? ⟨g2, off2 + j * 2 + 1, none⟩ = some (.int .i64 yi) ∧ wq.drew.cell? ⟨g, off + k * 3, none⟩ = some (.int .i64 xi)) := ⟨c1, c2, c3, c4⟩
         clear c1 c2 c3 c4 VD y1 y2 y3 z1 z2
         clear t0 t1 hg2 hu
         cases hb : linked (d.dir.take j) xi
         ·go_wp2_with fail
          refine wp_region_until (fun w' => w'.cell? ⟨gd, 3, none⟩ = some (.slice (some ⟨g2, off2, none⟩) d.dir.length xac2) ∧ w'.cell? ⟨gd, 2, none⟩ = some (.slice (some ⟨g, off, none⟩) d.nods.length xac1) ∧ w'.cell? ⟨g2, off2 + j * 2 + 1, none⟩ = some (.int .i64 yi) ∧ w'.cell? ⟨g, off + k * 3, none⟩ = some (.int .i64 xi)) (fun _ => false) 17 (by rfl) (by kernel_rfl) ?_
          refine pF 0 ?_
          refine pF 1 ?_
          refine pF 2 ?_
          refine tF 3 HS2.out ?_
          refine pF 4 ?_
          refine pF 5 ?_
          refine pF 6 ?_
          refine tF 7 HS2.out ?_
          refine pF 8 ?_
          refine tF 9 HS2.out ?_
          refine pF 10 ?_
          refine pF 11 ?_
          refine pF 12 ?_
          refine tF 13 HS2.out ?_
          refine pF 14 ?_
          refine pF 15 ?_
          refine pF 16 ?_
          refine until_done (by kernel_rfl) ?_ _
          go_wp2_with fail
          go_roundw
          case rel => exact ⟨j + 1, by omega, by go_num, by rw [HLK.out, hb]; rfl, HQ.out.drew⟩
          case measure => simp [intOf]; omega
         ·go_wp2_with fail
          refine wp_region_until (fun w' => w'.cell? ⟨gd, 3, none⟩ = some (.slice (some ⟨g2, off2, none⟩) d.dir.length xac2) ∧ w'.cell? ⟨gd, 2, none⟩ = some (.slice (some ⟨g, off, none⟩) d.nods.length xac1) ∧ w'.cell? ⟨g2, off2 + j * 2 + 1, none⟩ = some (.int .i64 yi) ∧ w'.cell? ⟨g, off + k * 3, none⟩ = some (.int .i64 xi)) (fun _ => false) 17 (by rfl) (by kernel_rfl) ?_
          refine pF 0 ?_
          refine pF 1 ?_
          refine sF 2 ?_
          refine sF 3 ?_
          refine sF 4 ?_
          refine sF 5 ?_
          refine sF 6 ?_
          refine sF 7 ?_
          refine sF 8 ?_
          refine sF 9 ?_
          refine sF 10 ?_
          refine sF 11 ?_
          refine sF 12 ?_
          refine sF 13 ?_
          refine sF 14 ?_
          refine pF 15 ?_
          refine pF 16 ?_
          refine until_done (by kernel_rfl) ?_ _
          go_wp2_with fail
          go_roundw
          case rel => exact ⟨j + 1, by omega, by go_num, by rw [HLK.out, hb]; rfl, HQ.out.drew⟩
          case measure => simp [intOf]; omega
        ·obtain rfl : j = d.dir.length := by omega
         simp only [List.take_length]
         go_wp2_with fail
         go_loopw [12, 14] (fun b12 i14 wt => ∃ i : Nat, i ≤ nn ∧ i14 = .int .i64 (i : Int) ∧ b12 = .bool (linked d.dir x.id || made (d.movs.take i) x.id) ∧ Below wq.heap.size wq wt) (fun _ i _ => nn - (intOf i).toNat)
         case atStart => exact ⟨0, Nat.zero_le _, rfl, by simp [made], Below.refl _ _⟩
         case round =>
          rename World => wt
          obtain ⟨i, hi, rfl, rfl, hq⟩ := hrel
          have HT := Hid.mkD hq
          have VT := Hid.mkD (VQ.out.trans (HT.out.mono VQ.out.size))
          clear hq
          by_cases hil : i < nn
          ·have qi : (i : Int) < (nn : Int) := by omega
           have qi2 : (i : Int) < (d.movs.length : Int) := by have := HNL.out; omega
           obtain ⟨g3, off3, rfl, hg3, t0, t1, t2, t3⟩ := HA3.out i (by have := HNL.out; omega)
           have HLK := Hid.mkD (made_takeD d.movs x.id i (by have := HNL.out; omega))
           have hu := HU0.out
           generalize x.id = xi at *
           generalize (d.movs.getD i default).id = yi at *
           generalize (d.movs.getD i default).kind = yk at *
           have VD := VT.out.drew
           have y1 := VD.cell (p := ⟨gd, 4, none⟩) SD9.out.box.lt
           have z1 := SD9.out.box.cell 4 _ rfl
           have c1 := y1.trans z1
           have y2 := VD.cell (p := ⟨gd, 2, none⟩) SD9.out.box.lt
           have z2 := SD9.out.box.cell 2 _ rfl
           have c2 := y2.trans z2
           have y3 := VD.cell (p := ⟨g3, off3 + i * 4, none⟩) hg3
           have c3 := y3.trans t0
           have y4 := VD.cell (p := ⟨g3, off3 + i * 4 + 3, none⟩) hg3
           have c4 := y4.trans t3
           have c5 := hu _ VD
           have HS3 : Hid (wt.drew.cell? ⟨gd, 4, none⟩ = some (.slice (some ⟨g3, off3, none⟩) d.movs.length xac3) ∧ wt.drew.cell? ⟨gd, 2, none⟩ = some (.slice (some ⟨g, off, none⟩) d.nods.length xac1) ∧ wt.drew.cell? ⟨g3, off3 + i * 4, none⟩ = some (.int .i64 yk) ∧ wt.drew.cell? ⟨g3, off3 + i * 4 + 3, none⟩ = some (.int .i64 yi) ∧ wt.drew.cell? ⟨g, off + k * 3, none⟩ = some (.int .i64 xi)) := ⟨c1, c2, c3, c4, c5⟩
           clear c1 c2 c3 c4 c5 VD y1 y2 y3 y4 z1 z2 t0 t1 t2 t3 hg3 hu
           cases hb : (linked d.dir xi || made (d.movs.take i) xi)
           ·by_cases hk1 : yk = 1
            ·subst hk1
             go_wp2_with fail
             refine wp_region_until (fun w' => w'.cell? ⟨gd, 4, none⟩ = some (.slice (some ⟨g3, off3, none⟩) d.movs.length xac3) ∧ w'.cell? ⟨gd, 2, none⟩ = some (.slice (some ⟨g, off, none⟩) d.nods.length xac1) ∧ w'.cell? ⟨g3, off3 + i * 4, none⟩ = some (.int .i64 1) ∧ w'.cell? ⟨g3, off3 + i * 4 + 3, none⟩ = some (.int .i64 yi) ∧ w'.cell? ⟨g, off + k * 3, none⟩ = some (.int .i64 xi)) (fun _ => false) 26 (by rfl) (by kernel_rfl) ?_
             refine pF 0 ?_
             refine pF 1 ?_
             refine pF 2 ?_
             refine tF 3 HS3.out ?_
             refine pF 4 ?_
             refine pF 5 ?_
             refine pF 6 ?_
             refine tF 7 HS3.out ?_
             refine pF 8 ?_
             refine pF 9 ?_
             refine pF 10 ?_
             refine tF 11 HS3.out ?_
             refine pF 12 ?_
             refine pF 13 ?_
             refine pF 14 ?_
             refine tF 15 HS3.out ?_
             refine pF 16 ?_
             refine tF 17 HS3.out ?_
             refine pF 18 ?_
             refine pF 19 ?_
             refine pF 20 ?_
             refine tF 21 HS3.out ?_
             refine pF 22 ?_
             refine pF 23 ?_
             refine pF 24 ?_
             refine pF 25 ?_
             refine until_done (by kernel_rfl) ?_ _
             go_wp2_with fail
             go_roundw
             case rel => exact ⟨i + 1, by omega, by go_num, by rw [HLK.out, ← Bool.or_assoc, hb]; simp, HT.out.drew⟩
             case measure => simp [intOf]; omega
            ·have hkb : (yk == 1) = false := by simpa using hk1
             go_wp2_with fail
             refine wp_region_until (fun w' => w'.cell? ⟨gd, 4, none⟩ = some (.slice (some ⟨g3, off3, none⟩) d.movs.length xac3) ∧ w'.cell? ⟨gd, 2, none⟩ = some (.slice (some ⟨g, off, none⟩) d.nods.length xac1) ∧ w'.cell? ⟨g3, off3 + i * 4, none⟩ = some (.int .i64 yk) ∧ w'.cell? ⟨g3, off3 + i * 4 + 3, none⟩ = some (.int .i64 yi) ∧ w'.cell? ⟨g, off + k * 3, none⟩ = some (.int .i64 xi)) (fun _ => false) 26 (by rfl) (by kernel_rfl) ?_
             refine pF 0 ?_
             refine pF 1 ?_
             refine pF 2 ?_
             refine tF 3 HS3.out ?_
             refine pF 4 ?_
             refine pF 5 ?_
             refine pF 6 ?_
             refine tF 7 HS3.out ?_
             refine pF 8 ?_
             refine pF 9 ?_
             refine sF 10 ?_
             refine sF 11 ?_
             refine sF 12 ?_
             refine sF 13 ?_
             refine sF 14 ?_
             refine sF 15 ?_
             refine sF 16 ?_
             refine sF 17 ?_
             refine sF 18 ?_
             refine sF 19 ?_
             refine sF 20 ?_
             refine sF 21 ?_
             refine sF 22 ?_
             refine pF 23 ?_
             refine pF 24 ?_
             refine pF 25 ?_
             refine until_done (by kernel_rfl) ?_ _
             go_wp2_with fail
             go_roundw
             case rel => exact ⟨i + 1, by omega, by go_num, by rw [HLK.out, ← Bool.or_assoc, hb, hkb]; simp, HT.out.drew⟩
             case measure => simp [intOf]; omega
           ·go_wp2_with fail
            refine wp_region_until (fun w' => w'.cell? ⟨gd, 4, none⟩ = some (.slice (some ⟨g3, off3, none⟩) d.movs.length xac3) ∧ w'.cell? ⟨gd, 2, none⟩ = some (.slice (some ⟨g, off, none⟩) d.nods.length xac1) ∧ w'.cell? ⟨g3, off3 + i * 4, none⟩ = some (.int .i64 yk) ∧ w'.cell? ⟨g3, off3 + i * 4 + 3, none⟩ = some (.int .i64 yi) ∧ w'.cell? ⟨g, off + k * 3, none⟩ = some (.int .i64 xi)) (fun _ => false) 26 (by rfl) (by kernel_rfl) ?_
            refine pF 0 ?_
            refine pF 1 ?_
            refine sF 2 ?_
            refine sF 3 ?_
            refine sF 4 ?_
            refine sF 5 ?_
            refine sF 6 ?_
            refine sF 7 ?_
            refine sF 8 ?_
            refine sF 9 ?_
            refine sF 10 ?_
            refine sF 11 ?_
            refine sF 12 ?_
            refine sF 13 ?_
            refine sF 14 ?_
            refine sF 15 ?_
            refine sF 16 ?_
            refine sF 17 ?_
            refine sF 18 ?_
            refine sF 19 ?_
            refine sF 20 ?_
            refine sF 21 ?_
            refine sF 22 ?_
            refine sF 23 ?_
            refine pF 24 ?_
            refine pF 25 ?_
            refine until_done (by kernel_rfl) ?_ _
            go_wp2_with fail
            go_roundw
            case rel => exact ⟨i + 1, by omega, by go_num, by rw [HLK.out, ← Bool.or_assoc, hb]; simp, HT.out.drew⟩
            case measure => simp [intOf]; omega
          ·obtain rfl : i = nn := by omega
           have BVT := Hid.mkD (HQ.out.trans (HT.out.mono HQ.out.size))
           have HFS := Hid.mkD (filter_snocD d i k hlt)
           rw [← HXK.out] at HFS
           cases hkq : keepQ d i x
           ·have hkv : (linked d.dir x.id || made (d.movs.take i) x.id) = false := hkq
            rw [hkv]
            rw [hkq] at HFS
            have OF : Hid (Owns wt w.heap.size 47 3 (.slice A m c) (nodR ((d.nods.take (k + 1)).filter (keepQ d i)))) := by unfold Hid; rw [HFS.out]; simp only [Bool.false_eq_true, if_false, List.append_nil]; exact (HO.out.on Z3.out).on BVT.out
            clear hkv hkq HFS
            go_wp2_with fail
            go_roundw
            case rel => exact ⟨k + 1, A, m, c, by omega, by go_num, rfl, OF.out, VT.out⟩
            case measure => simp [intOf]; omega
           ·have hkv : (linked d.dir x.id || made (d.movs.take i) x.id) = true := hkq
            rw [hkv]
            rw [hkq] at HFS
            have OF : Hid (Owns wt w.heap.size 47 3 (.slice A3 m3 c3) (nodR ((d.nods.take (k + 1)).filter (keepQ d i)))) := by unfold Hid; rw [HFS.out]; exact (OZ3.out.mono (Nat.le_trans SD9.out.b.size HW.out.size)).on BVT.out
            have e2 := (KZ3.out.on BVT.out KZ3.out.lt).cell 2 _ rfl
            clear hkv hkq HFS
            go_wp2_with fail
            go_roundw
            case rel => exact ⟨k + 1, A3, m3, c3, by omega, by go_num, rfl, OF.out, VT.out⟩
            case measure => simp [intOf]; omega
     ·obtain rfl : k = d.nods.length := by omega
      rw [List.take_length] at HO
      have KYr := Hid.mkD (KY9.out.on HW.out KY9.out.lt)
      have e52 := (SD9.out.box.on HW.out SD9.out.box.lt).cell 2 _ rfl
      have r2 := KYr.out.cell 2 _ rfl
      have f2 := KYr.out.free 2
      have GNE : Hid (gx ≠ gy) := Nat.ne_of_lt GXY.out
      have SDr := Hid.mkD (SD9.out.below HW.out)
      have OMr : Hid (Owns wo w.heap.size 51 4 (.slice ma nn mc) (movR (d.movs.take nn))) := (OM9.out.mono (by have := GY.out; omega)).on HW.out
      have SX10 : Hid (DkX w gx (wo.setCell ⟨gy, 2, none⟩ (.slice A m c)) dx xb1 xbn1 xbc1 xb2 xbn2 xbc2 xb3 xbn3 xbc3) := (SX9.out.below HW.out).poke KYr.out GNE.out GY.out 2 _
      have SY10 : Hid (DkX w gy (wo.setCell ⟨gy, 2, none⟩ (.slice A m c)) (yD d nn) A m c xa2 d.dir.length xac2 ma nn mc) := ⟨KYr.out.set 2 _, HO.out.other (HO.out.notBlk KYr.out (by decide)) 2 _, SDr.out.o2.other (SDr.out.o2.notBlk KYr.out (by decide)) 2 _, OMr.out.other (OMr.out.notBlk KYr.out (by decide)) 2 _, SDr.out.b.setCell GY.out _, GY.out⟩
      have HRX : Hid (RD dx) := by unfold Hid; rw [HX.out]; exact HR.out.crash kp l
      have HBX : Hid (bytesOf dx.nods ≤ 300000) := by unfold Hid; rw [HX.out]; have := HR.out.crash_bytes kp l; have := HSM.out.b; omega
      have HMX := Hid.mkD (HRX.out.mid HBX.out)
      have HBY : Hid (bytesOf (yD d nn).nods ≤ 300000) := by unfold Hid; have := firsts_bytes d nn; have := HSM.out.b; omega
      have HMY := Hid.mkD ((HR.out.firsts nn).mid HBY.out)
      have HLX : Hid (listR dx = namesL d kp) := by unfold Hid; rw [HX.out]; exact list_crash HR.out kp l
      have HLY : Hid (listR (yD d nn) = namesL d kp) := list_firsts HR.out kp nn HNN.out
      have HLB : Hid (∀ s ∈ namesL d kp, ∃ p q, loadR dx s = (p, true) ∧ loadR (yD d nn) s = (q, true) ∧ p.size ≤ q.size ∧ q.extract 0 p.size = p ∧ q.size ≤ bytesOf d.nods) := by unfold Hid; rw [HX.out]; exact fun s hs => load_back HR.out kp l nn HNN.out hs
      have HNF := Hid.mkD (names_few HR.out kp l)
      have HSB : Hid (bytesOf d.nods ≤ 200000) := HSM.out.b
      obtain ⟨e0, e1, e2, e3, e4⟩ := cellsC5 SX10.out.box
      go_wp2_with fail
      clear e52 r2 f2 e0 e1 e2 e3 e4 KYr SDr KY9 SX9 OM9 OMr HO
      generalize wo.setCell ⟨gy, 2, none⟩ (.slice A m c) = wp at *
      refine (implListV dx (.agg #[.int .i64 dx.room, .int .i64 dx.next, .slice xb1 xbn1 xbc1, .slice xb2 xbn2 xbc2, .slice xb3 xbn3 xbc3]) wp wp.heap.size SX10.out.v HMX.out.1 HMX.out.2.1 HMX.out.2.2 (Nat.le_refl _)).mono ?_
      rintro e wq ⟨ux, rfl, hS1, hb⟩
      rw [HLX.out] at hS1
      have SX11 := Hid.mkD (SX10.out.below hb)
      have SY11 := Hid.mkD (SY10.out.below hb)
      have HS1 := Hid.mkD hS1
      clear hb hS1 SX10 SY10
      have e0 : wq.cell? ⟨gy, 0, none⟩ = some (.int .i64 d.room) := SY11.out.box.cell 0 _ rfl
      have e1 : wq.cell? ⟨gy, 1, none⟩ = some (.int .i64 d.next) := SY11.out.box.cell 1 _ rfl
      have e2 := SY11.out.box.cell 2 _ rfl
      have e3 := SY11.out.box.cell 3 _ rfl
      have e4 := SY11.out.box.cell 4 _ rfl
      go_wp2_with fail
      clear e0 e1 e2 e3 e4
      refine (specListV (yD d nn) (.agg #[.int .i64 d.room, .int .i64 d.next, .slice A m c, .slice xa2 d.dir.length xac2, .slice ma nn mc]) wq wq.heap.size SY11.out.v HMY.out.1 HMY.out.2.2 (Nat.le_refl _)).mono ?_
      rintro e wl ⟨uy, rfl, hS2, hb⟩
      rw [HLY.out] at hS2
      have SX12 := Hid.mkD (SX11.out.below hb)
      have SY12 := Hid.mkD (SY11.out.below hb)
      obtain ⟨sa, sca, rfl, ha⟩ := strs_look (HS1.out.on hb)
      obtain ⟨sb, scb, rfl, hb2⟩ := strs_look hS2
      have HA := Hid.mkD ha
      have HB := Hid.mkD hb2
      clear ha hb2 hb hS2 HS1 SX11 SY11 HLX HLY
      generalize namesL d kp = NL at *
      have qN : (NL.length : Int) ≤ 10 := by have := HNF.out.1; omega
      have nb : (NL.length != NL.length) = false := by simp
      go_wp2_with fail
      go_loopw [17] (fun i17 wq => ∃ i : Nat, i ≤ NL.length ∧ i17 = .int .i64 (i : Int) ∧ Below wl.heap.size wl wq) (fun i _ => NL.length - (intOf i).toNat)
      case atStart => exact ⟨0, Nat.zero_le _, rfl, Below.refl _ _⟩
      case round =>
       rename World => wq
       obtain ⟨i, hi, rfl, hq⟩ := hrel
       have HQ := Hid.mkD hq
       clear hq
       by_cases hil : i < NL.length
       ·have qi : (i : Int) < (NL.length : Int) := by omega
        obtain ⟨ga, rfl, hga, ca⟩ := HA.out i hil
        obtain ⟨gb, rfl, hgb, cb⟩ := HB.out i hil
        obtain ⟨p, q, l1, l2, l3, l4, l5⟩ := HLB.out _ (List.getElem_mem hil)
        have l6 := HNF.out.2 _ (List.getElem_mem hil)
        generalize NL[i] = s at *
        have HL1 := Hid.mkD l1
        have HL2 := Hid.mkD l2
        have HL3 := Hid.mkD l3
        have HL4 := Hid.mkD l4
        have HL5 : Hid (q.size ≤ maxLen) := by have := HSB.out; unfold Hid maxLen; omega
        have HNS : Hid (s.size ≤ maxLen) := by unfold Hid maxLen; omega
        have HXS : Hid (∀ w', Below wl.heap.size wl w' → w'.cell? ⟨gx, 0, none⟩ = some (.int .i64 dx.room) ∧ w'.cell? ⟨gx, 1, none⟩ = some (.int .i64 dx.next) ∧ w'.cell? ⟨gx, 2, none⟩ = some (.slice xb1 xbn1 xbc1) ∧ w'.cell? ⟨gx, 3, none⟩ = some (.slice xb2 xbn2 xbc2) ∧ w'.cell? ⟨gx, 4, none⟩ = some (.slice xb3 xbn3 xbc3) ∧ w'.cell? ⟨ga, i, none⟩ = some (.string s)) := by
         unfold Hid
         intro w' h
         refine ⟨?_, ?_, ?_, ?_, ?_, ?_⟩
         ·have y := h.cell (p := ⟨gx, 0, none⟩) SX12.out.box.lt; have z := SX12.out.box.cell 0 _ rfl; exact y.trans z
         ·have y := h.cell (p := ⟨gx, 1, none⟩) SX12.out.box.lt; have z := SX12.out.box.cell 1 _ rfl; exact y.trans z
         ·have y := h.cell (p := ⟨gx, 2, none⟩) SX12.out.box.lt; have z := SX12.out.box.cell 2 _ rfl; exact y.trans z
         ·have y := h.cell (p := ⟨gx, 3, none⟩) SX12.out.box.lt; have z := SX12.out.box.cell 3 _ rfl; exact y.trans z
         ·have y := h.cell (p := ⟨gx, 4, none⟩) SX12.out.box.lt; have z := SX12.out.box.cell 4 _ rfl; exact y.trans z
         ·exact (h.cell (p := ⟨ga, i, none⟩) hga).trans ca
        have HYS : Hid (∀ w', Below wl.heap.size wl w' → w'.cell? ⟨gy, 0, none⟩ = some (.int .i64 d.room) ∧ w'.cell? ⟨gy, 1, none⟩ = some (.int .i64 d.next) ∧ w'.cell? ⟨gy, 2, none⟩ = some (.slice A m c) ∧ w'.cell? ⟨gy, 3, none⟩ = some (.slice xa2 d.dir.length xac2) ∧ w'.cell? ⟨gy, 4, none⟩ = some (.slice ma nn mc) ∧ w'.cell? ⟨gb, i, none⟩ = some (.string s)) := by
         unfold Hid
         intro w' h
         refine ⟨?_, ?_, ?_, ?_, ?_, ?_⟩
         ·have y := h.cell (p := ⟨gy, 0, none⟩) SY12.out.box.lt; have z := SY12.out.box.cell 0 _ rfl; exact y.trans z
         ·have y := h.cell (p := ⟨gy, 1, none⟩) SY12.out.box.lt; have z := SY12.out.box.cell 1 _ rfl; exact y.trans z
         ·have y := h.cell (p := ⟨gy, 2, none⟩) SY12.out.box.lt; have z := SY12.out.box.cell 2 _ rfl; exact y.trans z
         ·have y := h.cell (p := ⟨gy, 3, none⟩) SY12.out.box.lt; have z := SY12.out.box.cell 3 _ rfl; exact y.trans z
         ·have y := h.cell (p := ⟨gy, 4, none⟩) SY12.out.box.lt; have z := SY12.out.box.cell 4 _ rfl; exact y.trans z
         ·exact (h.cell (p := ⟨gb, i, none⟩) hgb).trans cb
        have HSS : Hid (∀ w', Below wl.heap.size wl w' → w'.cell? ⟨ga, i, none⟩ = some (.string s) ∧ w'.cell? ⟨gb, i, none⟩ = some (.string s)) := fun w' h => ⟨(h.cell (p := ⟨ga, i, none⟩) hga).trans ca, (h.cell (p := ⟨gb, i, none⟩) hgb).trans cb⟩
        clear l1 l2 l3 l4 l5 l6 hga hgb ca cb
        go_wp2_with fail
        refine wp_region_until (fun w' => w'.cell? ⟨gx, 0, none⟩ = some (.int .i64 dx.room) ∧ w'.cell? ⟨gx, 1, none⟩ = some (.int .i64 dx.next) ∧ w'.cell? ⟨gx, 2, none⟩ = some (.slice xb1 xbn1 xbc1) ∧ w'.cell? ⟨gx, 3, none⟩ = some (.slice xb2 xbn2 xbc2) ∧ w'.cell? ⟨gx, 4, none⟩ = some (.slice xb3 xbn3 xbc3) ∧ w'.cell? ⟨ga, i, none⟩ = some (.string s)) (fun _ => false) 11 (by rfl) (by kernel_rfl) ?_
        have V0 := Hid.mkD HQ.out.drew
        generalize wq.drew = Y0 at *
        refine tF 0 (HXS.out _ V0.out) ?_
        refine pF 1 ?_
        refine pF 2 ?_
        refine pF 3 ?_
        refine tF 4 (HXS.out _ V0.out) ?_
        refine uNe 5 (fun K hK => ?_)
        go_simp
        refine (implLoadV dx (.agg #[.int .i64 dx.room, .int .i64 dx.next, .slice xb1 xbn1 xbc1, .slice xb2 xbn2 xbc2, .slice xb3 xbn3 xbc3]) s Y0 Y0.heap.size (SX12.out.below V0.out).v HMX.out.1 HMX.out.2.1 HMX.out.2.2 (Nat.le_refl _) HNS.out).mono ?_
        rintro e Y1 ⟨rfl, hb⟩
        rw [HL1.out]
        have V1 := Hid.mkD (V0.out.trans (hb.mono V0.out.size))
        clear hb
        refine hK.out _ _ (fun _ _ => HXS.out _ V1.out) ?_
        clear hK K V0
        refine pF 6 ?_
        refine pF 7 ?_
        refine pF 8 ?_
        refine pF 9 ?_
        refine pF 10 ?_
        refine until_done (by kernel_rfl) ?_ _
        go_wp2_with fail
        refine wp_region_until (fun w' => w'.cell? ⟨gy, 0, none⟩ = some (.int .i64 d.room) ∧ w'.cell? ⟨gy, 1, none⟩ = some (.int .i64 d.next) ∧ w'.cell? ⟨gy, 2, none⟩ = some (.slice A m c) ∧ w'.cell? ⟨gy, 3, none⟩ = some (.slice xa2 d.dir.length xac2) ∧ w'.cell? ⟨gy, 4, none⟩ = some (.slice ma nn mc) ∧ w'.cell? ⟨gb, i, none⟩ = some (.string s)) (fun _ => false) 11 (by rfl) (by kernel_rfl) ?_
        have V2 := Hid.mkD V1.out.drew
        generalize Y1.drew = Y2 at *
        refine tF 0 (HYS.out _ V2.out) ?_
        refine pF 1 ?_
        refine pF 2 ?_
        refine pF 3 ?_
        refine tF 4 (HYS.out _ V2.out) ?_
        refine uNe 5 (fun K hK => ?_)
        go_simp
        refine (specLoadV (yD d nn) (.agg #[.int .i64 d.room, .int .i64 d.next, .slice A m c, .slice xa2 d.dir.length xac2, .slice ma nn mc]) s Y2 Y2.heap.size (SY12.out.below V2.out).v HMY.out.1 HMY.out.2.2 (Nat.le_refl _)).mono ?_
        rintro e Y3 ⟨rfl, hb⟩
        rw [HL2.out]
        have V3 := Hid.mkD (V2.out.trans (hb.mono V2.out.size))
        clear hb
        refine hK.out _ _ (fun _ _ => HYS.out _ V3.out) ?_
        clear hK K V2
        refine pF 6 ?_
        refine pF 7 ?_
        refine pF 8 ?_
        refine pF 9 ?_
        refine pF 10 ?_
        refine until_done (by kernel_rfl) ?_ _
        go_wp2_with fail
        refine wp_region_until (fun w' => w'.cell? ⟨ga, i, none⟩ = some (.string s) ∧ w'.cell? ⟨gb, i, none⟩ = some (.string s)) (fun _ => false) 23 (by rfl) (by kernel_rfl) ?_
        have V4 := Hid.mkD V3.out.drew
        generalize Y3.drew = Y4 at *
        refine pF 0 ?_
        refine pF 1 ?_
        refine pF 2 ?_
        refine tF 3 (HSS.out _ V4.out) ?_
        refine pF 4 ?_
        refine pF 5 ?_
        refine pF 6 ?_
        refine tF 7 (HSS.out _ V4.out) ?_
        refine pF 8 ?_
        refine pF 9 ?_
        refine pF 10 ?_
        refine pF 11 ?_
        refine pF 12 ?_
        refine pF 13 ?_
        refine pF 14 ?_
        refine pF 15 ?_
        refine pF 16 ?_
        refine pF 17 ?_
        refine pF 18 ?_
        refine pF 19 ?_
        refine uNe 20 (fun K hK => ?_)
        go_simp
        refine (begins_yes p q Y4 HL3.out HL4.out HL5.out).mono ?_
        rintro e w'' ⟨rfl, rfl⟩
        refine hK.out _ _ (fun _ h => h) ?_
        clear hK K
        try simp only [Act.put, zQ1, zQ2, zQ3]
        refine pF 21 ?_
        refine pF 22 ?_
        refine until_done (by kernel_rfl) ?_ _
        go_wp2_with fail
        go_roundw
        case rel => exact ⟨i + 1, by omega, by go_num, V4.out⟩
        case measure => simp [intOf]; omega
       ·obtain rfl : i = NL.length := by omega
        have BF : Hid (Below w.heap.size w wq) := SX12.out.b.trans (HQ.out.mono SX12.out.b.size)
        go_wp2_with fail
        go_ret
        exact ⟨rfl, BF.out⟩
end Go.Proofs.YtgjilgecklhglaaGreat
