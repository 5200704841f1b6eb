/-
  The walk of FnFile.
-/
import Derived.Test.YthgiekeiljflaaaDoorGF
import Derived.Test.YthgiekeiljflaaaDoorFlDrawT
import Derived.Test.YthgiekeiljflaaaDoorSrSame
import Derived.Test.YthgiekeiljflaaaDoorSrOkS
import Derived.Test.YthgiekeiljflaaaDoorFlSpanI
import Derived.Test.YthgiekeiljflaaaDoorFlFindI
import Derived.WalkKit
import Derived.ProofKit
import Derived.OpenShut
import Derived.Below
import Derived.WalkSmall
import Derived.BigQuiet
import Derived.Deep.QuietTactic
import Derived.Deep.RegionWith
import Derived.Handy
namespace Go.Proofs.YthgiekeiljflaaaDoor
open Go.ChangeShapes Go.WideShapes Go.ChangeAt Go.RowKit Go.PlainAid
set_option linter.unusedVariables false

theorem conv_one (kn g cap : Nat) (w : World) (h : w.cell? ⟨g, 0, none⟩ = some (.int .u8 (kn : Int))) (hk : kn < 256) : (convert 22 9 (.slice (some ⟨g, 0, none⟩) 1 cap)).run Tryd.prog w = .ok (.string (txt [byt kn])) w := by
  refine run_convert_bytes_back (P := Tryd.prog) w 22 9 5 ⟨g, 0, none⟩ cap [byt kn] Tryd.underlying22 Tryd.underlying5 Tryd.underlying9 ?_
  intro j hj
  obtain rfl : j = 0 := by simp at hj; omega
  show w.cell? ⟨g, 0, none⟩ = _
  rw [h]
  have : (byt kn).toNat = kn := by rw [byt_toNat]; omega
  simp [this]
set_option maxRecDepth 10000 in
set_option maxHeartbeats 8000000 in
theorem law_fnFile (ao : Option Addr) (len cap : Nat) (cs : Nat → Nat) (w : World) (h : CodeIs w w.heap.size ao len cs) (hl : len ≤ 9223372036854775807) (ht : SumTab w) (a0 a1 a2 : Addr) (he : Errs w a0 a1 a2) : Calls Tryd.prog 3 #[.slice ao len cap] w fun e w' => e = .returned (.bool true) ∧ Below w.heap.size w w' := by
  have ST : Hid (SumTab w) := ht
  have ER : Hid (Errs w a0 a1 a2) := he
  have HC : Hid (CodeIs w w.heap.size ao len cs) := h
  clear ht he h
  by_cases hbig : 1048576 < len
  · go_enter Tryd.func3, Tryd.ntmps3
    go_wp2_with fail
    refine (big_yes w ao len cap hbig hl).mono ?_
    rintro e w' ⟨rfl, rfl⟩
    go_wp2_with fail
    go_ret
    exact ⟨rfl, Below.refl _ _⟩
  have HL : Hid (len ≤ 1048576) := by unfold Hid; omega
  have q0 : (len : Int) ≤ 1048576 := by omega
  clear hbig hl
  go_enter Tryd.func3, Tryd.ntmps3
  go_wp2_with fail
  refine (big_no w ao len cap HL.out).mono ?_
  rintro e w' ⟨rfl, rfl⟩
  go_wp2_with fail
  refine (drawFileText w ao len cap cs HL.out HC.out).mono ?_
  rintro e w1 ⟨⟨v3, l, rfl, hV, hll, hld⟩, hb⟩
  obtain ⟨A3, c3, rfl, hlk⟩ := hV.look
  have B1 : Hid (Below w.heap.size w w1) := hb
  have V1 : Hid (SerV w1 w1.heap.size (.slice A3 l.length c3) l) := hV
  have HSh : Hid (SShort l) := ⟨by omega, fun x hx => by have := (hld x hx).1; omega⟩
  have HKy : Hid (∀ x ∈ l, x.key.size ≤ maxLen) := fun x hx => by have := (hld x hx).2.1; unfold maxLen; omega
  have HKo : Hid (∀ j, j < l.length → (sAt l j).key ≠ otherB) := fun j hj => (hld _ (getD_mem l j hj)).2.2
  have q1 : (l.length : Int) ≤ 6 := by omega
  have HLK : Hid (∀ j, j < l.length → ∃ g off v, A3 = some ⟨g, off, none⟩ ∧ g < w1.heap.size ∧ w1.cell? ⟨g, off + j * 2, none⟩ = some (.string (sAt l j).key) ∧ w1.cell? ⟨g, off + j * 2 + 1, none⟩ = some v ∧ Lies w1 w1.heap.size 2 v (ptR (sAt l j).pts)) := hlk
  clear hV hll hld hb hlk
  have hsz := fileT_size l
  go_wp2_with fail
  refine (implFileText l (.slice A3 l.length c3) w1 w1.heap.size V1.out HSh.out HKy.out (Nat.le_refl _) (ST.out.on B1.out)).mono ?_
  rintro e w2 ⟨rfl, hb⟩
  have B2 : Hid (Below w.heap.size w w2) := B1.out.trans (hb.mono B1.out.size)
  have C2 : Hid (Below w1.heap.size w1 w2) := hb
  have HZ : Hid ((fileT l).size ≤ 1048576) := by unfold Hid; omega
  have HSz : Hid ((fileT l).size ≤ 5004) := hsz
  clear hb hsz
  go_wp2_with fail
  refine (implReadFile (fileT l) w2 HZ.out (ST.out.on B2.out) a0 a1 a2 (ER.out.on B2.out)).mono ?_
  rintro e w3 ⟨⟨u5, L5, ok5, hR, rfl, hO⟩, hb⟩
  have B3 : Hid (Below w.heap.size w w3) := B2.out.trans (hb.mono B2.out.size)
  have C3 : Hid (Below w1.heap.size w1 w3) := C2.out.trans (hb.mono C2.out.size)
  have O3 : Hid (SerO w3 w2.heap.size u5 L5) := hO
  have R3 : Hid (RfAns (fileT l) (L5.map Prod.fst) ok5) := hR
  clear hb hO hR
  have cOk := specSeriesOk l (.slice A3 l.length c3) w3 w1.heap.size (V1.out.on C3.out) HSh.out HKy.out C3.out.size
  by_cases hg : 1 ≤ l.length ∧ SOk l
  · have HG : Hid (GoodF (fileT l) l) := ⟨hg.1, hg.2, rfl⟩
    obtain ⟨eL, rfl⟩ := R3.out.one (.inl ⟨rfl, HG.out⟩)
    rw [decide_eq_true hg.2] at cOk
    have V5 : Hid (SerV w3 w3.heap.size u5 l) := ⟨L5, eL, O3.out.lies⟩
    have q2 : (0 : Int) < (l.length : Int) := by omega
    have q2n : 0 < l.length := by omega
    have q2d : decide (0 < l.length) = true := decide_eq_true q2n
    clear eL hg O3 R3
    go_wp2_with fail
    refine cOk.mono ?_
    rintro e w4 ⟨rfl, hLi⟩
    have hb := hLi.below
    have B4 : Hid (Below w.heap.size w w4) := B3.out.trans (hb.mono B3.out.size)
    have C4 : Hid (Below w1.heap.size w1 w4) := C3.out.trans (hb.mono C3.out.size)
    have E4 : Hid (Below w3.heap.size w3 w4) := hb
    clear hb hLi cOk
    go_wp2_with fail
    refine (implFileSpan (fileT l) w4 HZ.out (ST.out.on B4.out) a0 a1 a2 (ER.out.on B4.out)).mono ?_
    rintro e w5 ⟨⟨xa, xb, ok, rfl, hS⟩, hb⟩
    obtain ⟨rfl, rfl, rfl⟩ := hS.one (.inl ⟨rfl, l, HG.out, rfl, rfl⟩)
    have B5 : Hid (Below w.heap.size w w5) := B4.out.trans (hb.mono B4.out.size)
    have C5 : Hid (Below w1.heap.size w1 w5) := C4.out.trans (hb.mono C4.out.size)
    have E5 : Hid (Below w3.heap.size w3 w5) := E4.out.trans (hb.mono E4.out.size)
    clear hb hS
    have HLo : Hid (∀ j, j < l.length → loT l l.length ≤ fT l j ∧ lT l j ≤ hiT l l.length) := fun j hj => loT_min j _ hj
    have HTm : Hid (∀ j, j < l.length → (1 ≤ (sAt l j).pts.length ∧ (sAt l j).pts.length ≤ 60) ∧ tAt (sAt l j).pts 0 = (fT l j : Int) ∧ tAt (sAt l j).pts ((sAt l j).pts.length - 1) = (lT l j : Int) ∧ fT l j ≤ 1099511627776 ∧ lT l j ≤ 1099511627776) := fun j hj => by
      have h1 := (HG.out.2.1.2 j hj).2
      have h2 := HG.out.2.1.times j hj
      refine ⟨⟨h1.1, h1.2.1⟩, ?_, ?_, ?_, ?_⟩
      · unfold fT; omega
      · unfold lT; omega
      · unfold fT; omega
      · unfold lT; omega
    have HFd : Hid (∀ j, j < l.length → FfAns (fileT l) (sAt l j).key (sAt l j).pts true) := fun j hj => HG.out.found j hj
    have HOt : Hid (FfAns (fileT l) otherB [] false) := .inr ⟨rfl, rfl, fun m hm j hj => by
      obtain rfl := hm.one HG.out
      exact HKo.out j hj⟩
    have HTu : Hid (∀ k z, k < (fileT l).size → z < 256 → z ≠ bn (fileT l) k → ∀ m, ¬ GoodF (turnT (fileT l) k z) m) := fun k z hk hz hne => HG.out.turn k z hk hz hne
    have HS4 : Hid (4 ≤ (fileT l).size) := HG.out.sum.1
    have hbLE := loT_le HG.out.2.1 HG.out.1 l.length (Nat.le_refl _)
    clear HG HKo
    generalize hss : fileT l = s at *
    clear hss
    generalize loT l l.length = lo at *
    generalize hiT l l.length = hi at *
    generalize hn : l.length = n at *
    have HN : Hid (l.length = n) := hn
    clear hn
    go_wp2_with fail
    go_loopw [10] (fun v10 wr => ∃ k : Nat, k ≤ n ∧ v10 = .int .i64 (k : Int) ∧ Below w5.heap.size w5 wr) (fun i _ => n - (intOf i).toNat)
    case atStart => exact ⟨0, by omega, rfl, Below.refl _ _⟩
    case round =>
      obtain ⟨k, hk, rfl, hb⟩ := hrel
      have BR : Hid (Below w.heap.size w wr) := B5.out.trans (hb.mono B5.out.size)
      have CR : Hid (Below w1.heap.size w1 wr) := C5.out.trans (hb.mono C5.out.size)
      have ERr : Hid (Below w3.heap.size w3 wr) := E5.out.trans (hb.mono E5.out.size)
      have DR : Hid (Below w5.heap.size w5 wr) := hb
      clear hb
      by_cases hlt : k < n
      · have q4 : (k : Int) < (n : Int) := by omega
        obtain ⟨g, off, us, rfl, hg, e1, e2, hu⟩ := HLK.out k hlt
        have f1 := (CR.out.cell (p := ⟨g, off + k * 2, none⟩) hg).trans e1
        have HE2 : Hid (w1.cell? ⟨g, off + k * 2 + 1, none⟩ = some us) := e2
        have HU : Hid (Lies w1 w1.heap.size 2 us (ptR (sAt l k).pts)) := hu
        have HGg : Hid (g < w1.heap.size) := hg
        have hfd := HFd.out k hlt
        have hlo := HLo.out k hlt
        obtain ⟨⟨p1, p2⟩, t1, t2, t3, t4⟩ := HTm.out k hlt
        have HFk : Hid (FfAns s (sAt l k).key (sAt l k).pts true) := hfd
        have cF := implFileFind s (sAt l k).key wr HZ.out (ST.out.on BR.out) a0 a1 a2 (ER.out.on BR.out)
        clear hu e1 e2 hg hfd
        generalize (sAt l k).key = xk at *
        go_wp2_with fail
        refine cF.mono ?_
        rintro e Y ⟨⟨v11, lf, okf, rfl, hF, hO⟩, hb⟩
        obtain ⟨rfl, rfl⟩ := hF.one HFk.out
        have BY : Hid (Below w.heap.size w Y) := BR.out.trans (hb.mono BR.out.size)
        have CY : Hid (Below w1.heap.size w1 Y) := CR.out.trans (hb.mono CR.out.size)
        have DY : Hid (Below w5.heap.size w5 Y) := DR.out.trans (hb.mono DR.out.size)
        have OY : Hid (Owns Y wr.heap.size 39 2 v11 (ptR (sAt l k).pts)) := hO
        have g2 := (CY.out.cell (p := ⟨g, off + k * 2 + 1, none⟩) HGg.out).trans HE2.out
        have cS := samePoints (sAt l k).pts v11 us Y Y.heap.size hO.lies ((HU.out.on CY.out).mono CY.out.size) (by omega)
        obtain ⟨A7, c7, rfl, hpl⟩ := pt_look hO.lies
        obtain ⟨gp, offp, rfl, _, hf0, _⟩ := hpl 0 (by omega)
        obtain ⟨gp', offp', e', _, hf1, _⟩ := hpl ((sAt l k).pts.length - 1) (by omega)
        cases e'
        rw [show offp + 0 * 2 = offp by omega] at hf0
        change Y.cell? ⟨gp, offp, none⟩ = some (.int .i64 (tAt (sAt l k).pts 0)) at hf0
        change Y.cell? ⟨gp, offp + ((sAt l k).pts.length - 1) * 2, none⟩ = some (.int .i64 (tAt (sAt l k).pts ((sAt l k).pts.length - 1))) at hf1
        rw [t1] at hf0
        rw [t2] at hf1
        have HF0 : Hid (Y.cell? ⟨gp, offp, none⟩ = some (.int .i64 (fT l k : Int))) := hf0
        have HF1 : Hid (Y.cell? ⟨gp, offp + ((sAt l k).pts.length - 1) * 2, none⟩ = some (.int .i64 (lT l k : Int))) := hf1
        obtain ⟨A8, c8, rfl, _⟩ := pt_look HU.out
        clear hO hb hF cF hpl t1 t2 hf0 hf1 f1
        generalize (sAt l k).pts.length = pn at *
        go_wp2_with fail
        refine cS.mono ?_
        rintro e Y2 ⟨rfl, hLi⟩
        have k0 : Y2.cell? ⟨gp, offp, none⟩ = some (.int .i64 (fT l k : Int)) := (cell?_heap hLi.1 _).trans HF0.out
        have k1 : Y2.cell? ⟨gp, offp + (pn - 1) * 2, none⟩ = some (.int .i64 (lT l k : Int)) := (cell?_heap hLi.1 _).trans HF1.out
        have DY2 : Hid (Below w5.heap.size w5 Y2) := DY.out.trans (hLi.below.mono DY.out.size)
        clear hLi cS g2
        generalize fT l k = ff at *
        generalize lT l k = la at *
        have d1 : decide ((ff : Int) < (lo : Int)) = false := decide_eq_false (by omega)
        have d2 : decide ((hi : Int) < (la : Int)) = false := decide_eq_false (by omega)
        have d3 : ¬ (ff : Int) < (lo : Int) := by omega
        have d4 : ¬ (hi : Int) < (la : Int) := by omega
        have r1 : (pn : Int) ≤ 60 := by omega
        have r2 : (1 : Int) ≤ (pn : Int) := by omega
        have r3 : ((pn : Int) - 1).toNat = pn - 1 := by omega
        have r5 : (0 : Int) < (pn : Int) := by omega
        have r6 : 0 < pn := by omega
        have r7 : pn - 1 < pn := by omega
        have r8 : (pn : Int) - 1 < (pn : Int) := by omega
        go_wp2_with fail
        go_roundw
        case rel => exact ⟨k + 1, by omega, by go_num, DY2.out⟩
        case measure => simp [intOf]; omega
      · obtain rfl : k = n := by omega
        have cF := implFileFind s otherB wr HZ.out (ST.out.on BR.out) a0 a1 a2 (ER.out.on BR.out)
        unfold otherB at cF
        go_wp2_with fail
        refine cF.mono ?_
        rintro e Y ⟨⟨v13, lf, okf, rfl, hF, _⟩, hb⟩
        obtain ⟨rfl, rfl⟩ := hF.one HOt.out
        have BY : Hid (Below w.heap.size w Y) := BR.out.trans (hb.mono BR.out.size)
        have CY : Hid (Below w1.heap.size w1 Y) := CR.out.trans (hb.mono CR.out.size)
        have EY : Hid (Below w3.heap.size w3 Y) := ERr.out.trans (hb.mono ERr.out.size)
        clear hb hF cF
        have hCY := HC.out.on BY.out
        have x0 := at_any Y ao len cap cs 0 HL.out (by omega) hCY
        have x1 := at_any Y ao len cap cs 1 HL.out (by omega) hCY
        have x2 := fun wx (hx : CodeIs wx wx.heap.size ao len cs) => at_any wx ao len cap cs 2 HL.out (by omega) hx
        have y0 := atV_lt hCY 0
        have y1 := atV_lt hCY 1
        have y2 := atV_lt hCY 2
        generalize atV len cs 0 = b0 at *
        generalize atV len cs 1 = b1 at *
        generalize atV len cs 2 = b2 at *
        clear hCY
        go_wp2_with fail
        refine x0.mono ?_
        rintro e w' ⟨rfl, rfl⟩
        go_wp2_with fail
        refine x1.mono ?_
        rintro e w' ⟨rfl, rfl⟩
        have s4 := HS4.out
        have sz5 := HSz.out
        have hkl : (b0 * 256 + b1) % s.size < s.size := Nat.mod_lt _ (by omega)
        have em1 : ((b0 : Int) * 256 + (b1 : Int)).tmod (s.size : Int) = (((b0 * 256 + b1) % s.size : Nat) : Int) := by
          rw [Int.tmod_eq_emod_of_nonneg (by omega)]
          push_cast
          rfl
        have em2 : ((b0 : Int) * 256 + (b1 : Int)) % (s.size : Int) = (((b0 * 256 + b1) % s.size : Nat) : Int) := by
          push_cast
          rfl
        have sne : (s.size : Int) ≠ 0 := by omega
        have sn0 : ¬ (s.size : Int) = 0 := sne
        have sn1 : s.size ≠ 0 := by omega
        have sqz : (s.size : Int) ≤ 5004 := by omega
        have bq0 : (b0 : Int) < 256 := by omega
        have bq1 : (b1 : Int) < 256 := by omega
        have HHk : Hid ((b0 * 256 + b1) % s.size < s.size) := hkl
        generalize hkd : (b0 * 256 + b1) % s.size = kt at *
        clear hkd
        go_wp2_with fail
        have hbt := get_bn s
        have xk := bn_lt s kt
        have hxor := xor_i64 (bn s kt) (1 + b2 % 255) (by omega) (by omega)
        have hz256 : bn s kt ^^^ (1 + b2 % 255) < 256 := Nat.xor_lt_two_pow (n := 8) xk (by omega)
        have hzne : bn s kt ^^^ (1 + b2 % 255) ≠ bn s kt := xor_ne _ _ (by omega)
        have er1 : (b2 : Int).tmod 255 = ((b2 % 255 : Nat) : Int) := by
          rw [Int.tmod_eq_emod_of_nonneg (by omega)]
          push_cast
          rfl
        have er2 : (b2 : Int) % 255 = ((b2 % 255 : Nat) : Int) := by
          push_cast
          rfl
        have er3 : (1 : Int) + ((b2 % 255 : Nat) : Int) = ((1 + b2 % 255 : Nat) : Int) := by omega
        have er4 : IntKind.i64.wrap ((1 : Int) + ((b2 % 255 : Nat) : Int)) = ((1 + b2 % 255 : Nat) : Int) := by rw [IntKind.wrap_i64]; omega
        have HTk : Hid (∀ m, ¬ GoodF (turnT s kt (bn s kt ^^^ (1 + b2 % 255))) m) := HTu.out kt _ HHk.out hz256 hzne
        generalize b2 % 255 = b3 at *
        have ew : IntKind.u8.wrap ((bn s kt ^^^ (1 + b3) : Nat) : Int) = ((bn s kt ^^^ (1 + b3) : Nat) : Int) := by rw [IntKind.wrap_u8']; omega
        generalize hzz : bn s kt ^^^ (1 + b3) = z at *
        generalize hyy : 1 + b3 = y at *
        clear hzz hzne er3 em1 em2 hyy
        have HTT : Hid (turnT s kt z = s.extract 0 kt ++ txt [byt z] ++ s.extract (kt + 1) s.size) := rfl
        have ew2 : IntKind.i64.wrap (bn s kt : Int) = (bn s kt : Int) := by rw [IntKind.wrap_i64]; omega
        have ks1 : (kt : Int) < (s.size : Int) := by have := HHk.out; omega
        have ks2 : (kt : Int) + 1 ≤ (s.size : Int) := by omega
        have ks3 : ((kt : Int) + 1).toNat = kt + 1 := by omega
        have ks4 : IntKind.i64.wrap ((kt : Int) + 1) = (kt : Int) + 1 := by rw [IntKind.wrap_i64]; omega
        have ks5 : (kt : Int) ≤ (s.size : Int) := by omega
        have ks6 : (0 : Int) ≤ (kt : Int) + 1 := by omega
        have zA : (s.extract 0 kt).size = kt := by rw [ByteArray.size_extract]; omega
        have zB : (s.extract (kt + 1) s.size).size = s.size - (kt + 1) := by rw [ByteArray.size_extract]; omega
        have zC : (txt [byt z]).size = 1 := rfl
        generalize hta : s.extract 0 kt = ta at *
        generalize htb : s.extract (kt + 1) s.size = tb at *
        generalize htz : txt [byt z] = tz at *
        have n1 : ¬ 9223372036854775807 < ta.size + tz.size := by omega
        have n2 : ¬ 9223372036854775807 < ta.size + tz.size + tb.size := by omega
        have BYd : Hid (Below w.heap.size w Y.drew) := BY.out.drew
        have x3 := x2 Y.drew (HC.out.on BYd.out)
        clear zA zB zC x2 HTu
        refine wp_region_until (fun _ => True) (fun _ => false) 22 (by rfl) (by kernel_rfl) ?_
        refine until_pure 0 (v := ?_) (by rfl) (by kernel_rfl) (by exact fun _ _ _ h => h) (by rfl) ?_ ?_
        rotate_left
        · intro w
          go_simp
          try with_reducible rfl
        try simp only [Act.put, List.setIfInBounds_toArray, List.set_cons_zero, List.set_cons_succ]
        refine until_pure 1 (v := ?_) (by rfl) (by kernel_rfl) (by exact fun _ _ _ h => h) (by rfl) ?_ ?_
        rotate_left
        · intro w
          go_simp
          try with_reducible rfl
        try simp only [Act.put, List.setIfInBounds_toArray, List.set_cons_zero, List.set_cons_succ]
        refine until_pure 2 (v := ?_) (by rfl) (by kernel_rfl) (by exact fun _ _ _ h => h) (by rfl) ?_ ?_
        rotate_left
        · intro w
          go_simp
          try with_reducible rfl
        try simp only [Act.put, List.setIfInBounds_toArray, List.set_cons_zero, List.set_cons_succ]
        refine until_pure 3 (v := ?_) (by rfl) (by kernel_rfl) (by exact fun _ _ _ h => h) (by rfl) ?_ ?_
        rotate_left
        · intro w
          go_simp
          try with_reducible rfl
        try simp only [Act.put, List.setIfInBounds_toArray, List.set_cons_zero, List.set_cons_succ]
        refine until_pure 4 (v := ?_) (by rfl) (by kernel_rfl) (by exact fun _ _ _ h => h) (by rfl) ?_ ?_
        rotate_left
        · intro w
          go_simp
          try with_reducible rfl
        try simp only [Act.put, List.setIfInBounds_toArray, List.set_cons_zero, List.set_cons_succ]
        refine until_pure 5 (v := ?_) (by rfl) (by kernel_rfl) (by exact fun _ _ _ h => h) (by rfl) ?_ ?_
        rotate_left
        · intro w
          go_simp
          try with_reducible rfl
        try simp only [Act.put, List.setIfInBounds_toArray, List.set_cons_zero, List.set_cons_succ]
        refine until_pure 6 (v := .int .i64 (bn s kt : Int)) (by rfl) (by kernel_rfl) (by exact fun _ _ _ h => h) (by rfl) ?_ ?_
        · intro w
          go_simp
          try rw [ew2]
        try simp only [Act.put, List.setIfInBounds_toArray, List.set_cons_zero, List.set_cons_succ]
        refine until_pure 7 (v := ?_) (by rfl) (by kernel_rfl) (by exact fun _ _ _ h => h) (by rfl) ?_ ?_
        rotate_left
        · intro w
          go_simp
          try with_reducible rfl
        try simp only [Act.put, List.setIfInBounds_toArray, List.set_cons_zero, List.set_cons_succ]
        refine until_pure 16 (v := ?_) (by rfl) (by kernel_rfl) (by exact fun _ _ _ h => h) (by rfl) ?_ ?_
        rotate_left
        · intro w
          go_simp
          try with_reducible rfl
        try simp only [Act.put, List.setIfInBounds_toArray, List.set_cons_zero, List.set_cons_succ]
        refine until_pure 17 (v := ?_) (by rfl) (by kernel_rfl) (by exact fun _ _ _ h => h) (by rfl) ?_ ?_
        rotate_left
        · intro w
          go_simp
          try with_reducible rfl
        try simp only [Act.put, List.setIfInBounds_toArray, List.set_cons_zero, List.set_cons_succ]
        refine until_pure 18 (v := .int .i64 ((kt : Int) + 1)) (by rfl) (by kernel_rfl) (by exact fun _ _ _ h => h) (by rfl) ?_ ?_
        · intro w
          go_simp
          try rw [ks4]
        try simp only [Act.put, List.setIfInBounds_toArray, List.set_cons_zero, List.set_cons_succ]
        refine until_pure 19 (v := ?_) (by rfl) (by kernel_rfl) (by exact fun _ _ _ h => h) (by rfl) ?_ ?_
        rotate_left
        · intro w
          go_simp
          try with_reducible rfl
        try simp only [Act.put, List.setIfInBounds_toArray, List.set_cons_zero, List.set_cons_succ]
        refine until_one 8 (by rfl) (by kernel_rfl) (fun K hK => ?_)
        go_simp
        refine x3.mono ?_
        rintro e w' ⟨rfl, rfl⟩
        go_wp2_with fail
        refine hK.out _ _ (fun _ _ => trivial) ?_
        clear hK K
        try simp only [Act.put, List.setIfInBounds_toArray, List.set_cons_zero, List.set_cons_succ]
        refine until_pure 9 (v := ?_) (by rfl) (by kernel_rfl) (by exact fun _ _ _ h => h) (by rfl) ?_ ?_
        rotate_left
        · intro w
          go_simp
          try with_reducible rfl
        try simp only [Act.put, List.setIfInBounds_toArray, List.set_cons_zero, List.set_cons_succ]
        refine until_pure 10 (v := .int .i64 (y : Int)) (by rfl) (by kernel_rfl) (by exact fun _ _ _ h => h) (by rfl) ?_ ?_
        · intro w
          go_simp
          try rw [er4]
        try simp only [Act.put, List.setIfInBounds_toArray, List.set_cons_zero, List.set_cons_succ]
        refine until_pure 11 (v := .int .i64 (z : Int)) (by rfl) (by kernel_rfl) (by exact fun _ _ _ h => h) (by rfl) ?_ ?_
        · intro w
          go_simp
          try rw [hxor]
        try simp only [Act.put, List.setIfInBounds_toArray, List.set_cons_zero, List.set_cons_succ]
        refine until_pure 12 (v := .int .u8 (z : Int)) (by rfl) (by kernel_rfl) (by exact fun _ _ _ h => h) (by rfl) ?_ ?_
        · intro w
          go_simp
          try rw [ew]
        try simp only [Act.put, List.setIfInBounds_toArray, List.set_cons_zero, List.set_cons_succ]
        refine until_one 13 (by rfl) (by kernel_rfl) (fun K hK => ?_)
        go_simp
        refine hK.out _ _ (fun _ _ => trivial) ?_
        clear hK K
        try simp only [Act.put, List.setIfInBounds_toArray, List.set_cons_zero, List.set_cons_succ]
        refine until_one 14 (by rfl) (by kernel_rfl) (fun K hK => ?_)
        have hcv := conv_one z Y.heap.size 1 (Y.drew.alloc (.cells #[.int .u8 (z : Int)] 5)) ((Blk.new Y.drew #[.int .u8 (z : Int)] 5).cell 0 _ rfl) hz256
        have hcv2 := conv_one z Y.heap.size 1 (Y.alloc (.cells #[.int .u8 (z : Int)] 5)).drew ((Blk.new Y #[.int .u8 (z : Int)] 5).cell 0 _ rfl) hz256
        rw [htz] at hcv hcv2
        go_simp
        refine hK.out _ _ (fun _ _ => trivial) ?_
        clear hK K hcv hcv2 hta htb htz
        try simp only [Act.put, List.setIfInBounds_toArray, List.set_cons_zero, List.set_cons_succ]
        refine until_pure 15 (v := ?_) (by rfl) (by kernel_rfl) (by exact fun _ _ _ h => h) (by rfl) ?_ ?_
        rotate_left
        · intro w
          go_simp
          try with_reducible rfl
        try simp only [Act.put, List.setIfInBounds_toArray, List.set_cons_zero, List.set_cons_succ]
        refine until_pure 20 (v := ?_) (by rfl) (by kernel_rfl) (by exact fun _ _ _ h => h) (by rfl) ?_ ?_
        rotate_left
        · intro w
          go_simp
          try with_reducible rfl
        try simp only [Act.put, List.setIfInBounds_toArray, List.set_cons_zero, List.set_cons_succ]
        refine until_pure 21 (v := ?_) (by rfl) (by kernel_rfl) (by exact fun _ _ _ h => h) (by rfl) ?_ ?_
        rotate_left
        · intro w
          go_simp
          try with_reducible rfl
        try simp only [Act.put, List.setIfInBounds_toArray, List.set_cons_zero, List.set_cons_succ]
        refine until_done (by kernel_rfl) ?_ _
        have cT := fun wx (hB : Below w.heap.size w wx) => implReadFile (turnT s kt z) wx (by rw [(turn_facts s kt z HHk.out hz256).1]; exact HZ.out) (ST.out.on hB) a0 a1 a2 (ER.out.on hB)
        rw [HTT.out] at cT
        have BYe : Hid (∀ cs, Below w.heap.size w (Y.alloc (.cells cs 5)).drew) := fun cs => (BY.out.alloc BY.out.size _).drew
        have CYe : Hid (∀ cs, Below w1.heap.size w1 (Y.alloc (.cells cs 5)).drew) := fun cs => (CY.out.alloc CY.out.size _).drew
        have EYe : Hid (∀ cs, Below w3.heap.size w3 (Y.alloc (.cells cs 5)).drew) := fun cs => (EY.out.alloc EY.out.size _).drew
        go_wp2_with fail
        refine (cT _ (BYe.out _)).mono ?_
        rintro e Y2 ⟨⟨v17, L7, ok7, hR7, rfl, _⟩, hb⟩
        have hok7 : ok7 = false := by
          rcases hR7 with ⟨_, h⟩ | ⟨h, _⟩
          · rw [← HTT.out] at h
            exact absurd h (HTk.out _)
          · exact h
        subst hok7
        have BZ : Hid (Below w.heap.size w Y2) := (BYe.out _).trans (hb.mono (BYe.out _).size)
        have CZ : Hid (Below w1.heap.size w1 Y2) := (CYe.out _).trans (hb.mono (CYe.out _).size)
        have EZ : Hid (Below w3.heap.size w3 Y2) := (EYe.out _).trans (hb.mono (EYe.out _).size)
        clear hb hR7 cT
        have cS := sameSeries l u5 (.slice A3 k c3) Y2 Y2.heap.size ((V5.out.on EZ.out).mono EZ.out.size) ((V1.out.on CZ.out).mono CZ.out.size) HSh.out
        go_wp2_with fail
        refine cS.mono ?_
        rintro e Y3 ⟨rfl, hLi⟩
        have BF : Hid (Below w.heap.size w Y3) := BZ.out.trans (hLi.below.mono BZ.out.size)
        clear hLi cS
        go_wp2_with fail
        go_ret
        exact ⟨rfl, BF.out⟩
  · have hE : fileT l = ⟨#[]⟩ := fileT_no hg
    rw [hE] at R3 HZ HSz
    obtain ⟨eL, rfl⟩ := R3.out.one (m := []) (y := false) (.inr ⟨rfl, rfl, fun m hm => GoodF.empty hm⟩)
    rw [hE]
    by_cases hok : SOk l
    · rw [decide_eq_true hok] at cOk
      have h0 : l.length = 0 := by
        rcases Nat.eq_zero_or_pos l.length with h | h
        · exact h
        · exact absurd ⟨h, hok⟩ hg
      rw [h0] at cOk ⊢
      clear hg hok h0 eL R3 O3 hE
      go_wp2_with fail
      refine cOk.mono ?_
      rintro e w4 ⟨rfl, hLi⟩
      have B4 : Hid (Below w.heap.size w w4) := B3.out.trans (hLi.below.mono B3.out.size)
      clear hLi cOk
      go_wp2_with fail
      go_ret
      exact ⟨rfl, B4.out⟩
    · rw [decide_eq_false hok] at cOk
      clear hg hok eL R3 O3 hE
      go_wp2_with fail
      refine cOk.mono ?_
      rintro e w4 ⟨rfl, hLi⟩
      have B4 : Hid (Below w.heap.size w w4) := B3.out.trans (hLi.below.mono B3.out.size)
      clear hLi cOk
      go_wp2_with fail
      go_ret
      exact ⟨rfl, B4.out⟩
end Go.Proofs.YthgiekeiljflaaaDoor
