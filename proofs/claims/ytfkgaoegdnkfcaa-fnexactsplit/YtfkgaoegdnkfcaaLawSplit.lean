/-
  The walk of FnExactSplit.
-/
import Derived.Test.YtfkgaoegdnkfcaaRows
import Derived.Test.YtfkgaoegdnkfcaaBuSplI
import Derived.Test.YtfkgaoegdnkfcaaPrMk
import Derived.Test.YtfkgaoegdnkfcaaPtArg
namespace Go.Proofs.Ytfkgaoegdnkfcaa
open Go.ChangeShapes Go.WideShapes Go.ChangeAt Go.RowKit Go.PlainAid
set_option linter.unusedVariables false

theorem PrtO.keep {w w' : World} {base : Nat} {v : Value} {L : List (Prt × Value)} (h : PrtO w base v L) (hk : ∀ g, base ≤ g → g < w.heap.size → w'.heap[g]? = w.heap[g]?) : PrtO w' base v L :=
  ⟨h.1.kept fun g hg hv => hk g (h.1.lt g hv).1 hg, fun p hp => (h.2.1 p hp).kept fun g hg hv => hk g ((h.2.1 p hp).lt g hv).1 hg, h.2.2⟩
theorem short_len {L : List (Prt × Value)} {l : List Prt} (h : L.map Prod.fst = l) (hs : PShort l) : L.length ≤ 60 ∧ ∀ q ∈ L, q.1.pts.length ≤ 60 := by
  subst h
  exact ⟨by simpa using hs.1, fun q hq => hs.2 q.1 (List.mem_map_of_mem hq)⟩
theorem PrtO.same {w : World} {base : Nat} {v : Value} {L : List (Prt × Value)} {l : List Prt} (h : PrtO w base v L) (e : L.map Prod.fst = l) : PrtV w w.heap.size v l := by
  rw [← e]
  exact h.view

set_option maxHeartbeats 2000000 in
theorem law_fnExactSplit (l : List Pnt) (v : Value) (w : World) (hl1 : Lies w w.heap.size 2 v (ptR l)) (hl2 : l.length ≤ maxLen) : Calls Try.prog 6 #[v] w fun e w' => e = .returned (.bool true) ∧ Below w.heap.size w w' := by
  have HSh : Hid (PShort (splX l)) := splX_short l
  have HVl : Hid (Lies w w.heap.size 2 v (ptR l)) := hl1
  have cz0 := szPointS l v 1048576 w w.heap.size hl1 hl2 (by omega) (by omega)
  clear hl1 hl2
  go_enter Try.func6, Try.ntmps6
  go_wp2_with fail
  refine cz0.mono ?_
  rintro e w' ⟨⟨r0, rfl, HR0⟩, rfl⟩
  rcases HR0.out with rfl | ⟨hp0, hq0⟩
  · go_wp2_with fail
    go_ret
    exact ⟨rfl, Below.refl _ _⟩
  have dq0 : decide (r0 < 0) = false := decide_eq_false (by omega)
  have HQ0 : Hid (l.length ≤ 1048576) := by unfold Hid; omega
  clear cz0 HR0 hq0
  have cTl := fun wx hx hb => toPointS l v wx w.heap.size hx HQ0.out hb
  go_wp2_with fail
  refine (cTl w HVl.out (Nat.le_refl _)).mono ?_
  rintro e w1 ⟨u1, rfl, hO, hb⟩
  have B1 : Hid (Below w.heap.size w w1) := hb
  have Ou11 : Hid (Owns w1 w.heap.size 33 2 u1 (ptR l)) := hO
  clear hb hO
  go_wp2_with fail
  refine (specSplit l u1 w1 w1.heap.size Ou11.out.lies HQ0.out (Nat.le_refl _)).mono ?_
  rintro e w2 ⟨us, Ls, rfl, hm, hO, hb⟩
  have B2 : Hid (Below w.heap.size w w2) := B1.out.trans (hb.mono B1.out.size)
  have Ms : Hid (Ls.map Prod.fst = splX l) := hm
  have Ps : Hid (PrtO w2 w1.heap.size us Ls) := hO
  clear hb hO hm Ou11
  go_wp2_with fail
  refine (cTl w2 (HVl.out.on B2.out) B2.out.size).mono ?_
  rintro e w3 ⟨x0, rfl, hO, hb⟩
  have B3 : Hid (Below w.heap.size w w3) := B2.out.trans (hb.mono B2.out.size)
  have C3 : Hid (Below w2.heap.size w2 w3) := hb
  have Ox3 : Hid (Owns w3 w2.heap.size 33 2 x0 (ptR l)) := hO
  clear hb hO
  go_wp2_with fail
  refine (implSplit l x0 w3 w3.heap.size Ox3.out.lies HQ0.out (Nat.le_refl _)).mono ?_
  rintro e w4 ⟨ug, Lg, rfl, hm, hO, hb⟩
  have B4 : Hid (Below w.heap.size w w4) := B3.out.trans (hb.mono B3.out.size)
  have C4 : Hid (Below w2.heap.size w2 w4) := C3.out.trans (hb.mono C3.out.size)
  have D4 : Hid (Below w3.heap.size w3 w4) := hb
  have Mg : Hid (Lg.map Prod.fst = splX l) := hm
  have Pg4 : Hid (PrtO w4 w3.heap.size ug Lg) := hO
  clear hb hO hm
  go_wp2_with fail
  refine (eqPartS (splX l) ug us w4 w4.heap.size (Pg4.out.same Mg.out) ((Ps.out.on C4.out).same Ms.out) HSh.out (Nat.le_refl _)).mono ?_
  rintro e w5 ⟨rfl, hb⟩
  have B5 : Hid (Below w.heap.size w w5) := B4.out.trans (hb.mono B4.out.size)
  have C5 : Hid (Below w2.heap.size w2 w5) := C4.out.trans (hb.mono C4.out.size)
  have D5 : Hid (Below w3.heap.size w3 w5) := D4.out.trans (hb.mono D4.out.size)
  have Pg5 : Hid (PrtO w5 w3.heap.size ug Lg) := Pg4.out.on hb
  clear hb Pg4
  go_wp2_with fail
  refine (cTl w5 (HVl.out.on B5.out) B5.out.size).mono ?_
  rintro e w6 ⟨u3, rfl, hO, hb⟩
  have B6 : Hid (Below w.heap.size w w6) := B5.out.trans (hb.mono B5.out.size)
  have C6 : Hid (Below w2.heap.size w2 w6) := C5.out.trans (hb.mono C5.out.size)
  have D6 : Hid (Below w3.heap.size w3 w6) := D5.out.trans (hb.mono D5.out.size)
  have Pg6 : Hid (PrtO w6 w3.heap.size ug Lg) := Pg5.out.on hb
  have Ou6 : Hid (Owns w6 w5.heap.size 33 2 u3 (ptR l)) := hO
  clear hb hO Pg5
  go_wp2_with fail
  refine (eqPointS l x0 u3 w6 w6.heap.size (Ox3.out.on D6.out).lies Ou6.out.lies HQ0.out (Nat.le_refl _)).mono ?_
  rintro e w7 ⟨rfl, hb⟩
  have B7 : Hid (Below w.heap.size w w7) := B6.out.trans (hb.mono B6.out.size)
  have C7 : Hid (Below w2.heap.size w2 w7) := C6.out.trans (hb.mono C6.out.size)
  have D7 : Hid (w3.heap.size ≤ w7.heap.size) := Nat.le_trans D6.out.size hb.size
  have Pg7 : Hid (PrtO w7 w3.heap.size ug Lg) := Pg6.out.on hb
  have Ox7 : Hid (Owns w7 w2.heap.size 33 2 x0 (ptR l)) := (Ox3.out.on D6.out).on hb
  have Gx : Hid (∀ g, x0.ownBlock = some g → g < w3.heap.size) := fun g hg => (Ox3.out.lt g hg).2
  clear hb Pg6 Ou6
  have cM := markPointS 1 w2.heap.size x0 (ptR l) w7 Ox7.out (by rw [ptR_length]; have := HQ0.out; omega) (by omega)
  rw [ptR_length] at cM
  go_wp2_with fail
  refine cM.mono ?_
  rintro e w8 ⟨rfl, -, hb, hk⟩
  have B8 : Hid (Below w.heap.size w w8) := B7.out.trans (hb.mono B2.out.size)
  have C8 : Hid (Below w2.heap.size w2 w8) := C7.out.trans hb
  have D8 : Hid (w3.heap.size ≤ w8.heap.size) := Nat.le_trans D7.out hb.size
  have Pg8 : Hid (PrtO w8 w3.heap.size ug Lg) := Pg7.out.keep fun g hg _ => hk g (fun e => by have := Gx.out g e; omega)
  clear hb hk cM Pg7 Ox7
  have dk : decide (((1 + 2 * l.length : Nat) : Int) < 0) = false := decide_eq_false (by omega)
  generalize ((1 + 2 * l.length : Nat) : Int) = kk at *
  go_wp2_with fail
  refine (eqPartS (splX l) ug us w8 w8.heap.size (Pg8.out.same Mg.out) ((Ps.out.on C8.out).same Ms.out) HSh.out (Nat.le_refl _)).mono ?_
  rintro e w9 ⟨rfl, hb⟩
  have B9 : Hid (Below w.heap.size w w9) := B8.out.trans (hb.mono B8.out.size)
  have C9 : Hid (Below w2.heap.size w2 w9) := C8.out.trans (hb.mono C8.out.size)
  have D9 : Hid (w3.heap.size ≤ w9.heap.size) := Nat.le_trans D8.out hb.size
  have Pg9 : Hid (PrtO w9 w3.heap.size ug Lg) := Pg8.out.on hb
  clear hb Pg8
  have hsl := short_len Mg.out HSh.out
  have cM := markPartS 1 w3.heap.size ug Lg w9 Pg9.out hsl.1 hsl.2 (by omega) (by omega) D9.out
  have HLg : Hid (Lg.length ≤ 60 ∧ ∀ q ∈ Lg, q.1.pts.length ≤ 60) := hsl
  have hka := kAt_le (k := 1) hsl.2 Lg.length (Nat.le_refl _)
  have hka2 : kAt 1 Lg Lg.length ≤ 9000 := by have := hsl.1; omega
  have cH := fun wx hx => heldPartS 1 w3.heap.size ug Lg wx hx hsl.1 hsl.2 (by omega) (by omega)
  clear hsl hka
  generalize kAt 1 Lg Lg.length = mk at *
  have q8 : decide ((mk : Int) < 0) = false := decide_eq_false (by omega)
  go_wp2_with fail
  refine cM.mono ?_
  rintro e wa ⟨rfl, hP, hb⟩
  have Ba : Hid (Below w.heap.size w wa) := B9.out.trans (hb.mono B3.out.size)
  have Ca : Hid (Below w2.heap.size w2 wa) := C9.out.trans (hb.mono C3.out.size)
  have Pa : Hid (PMk wa w3.heap.size 1 ug Lg) := hP
  clear hb hP cM Pg9
  go_wp2_with fail
  refine (cH wa Pa.out).mono ?_
  rintro e wb ⟨rfl, hb⟩
  have Bb : Hid (Below w.heap.size w wb) := Ba.out.trans (hb.mono Ba.out.size)
  have Cb : Hid (Below w2.heap.size w2 wb) := Ca.out.trans (hb.mono Ca.out.size)
  have Pb : Hid (PMk wb w3.heap.size 1 ug Lg) := Pa.out.on hb
  clear hb Pa
  go_wp2_with fail
  refine (cTl wb (HVl.out.on Bb.out) Bb.out.size).mono ?_
  rintro e wc ⟨u4, rfl, hO, hb⟩
  have Bc : Hid (Below w.heap.size w wc) := Bb.out.trans (hb.mono Bb.out.size)
  have Cc : Hid (Below w2.heap.size w2 wc) := Cb.out.trans (hb.mono Cb.out.size)
  have Pc : Hid (PMk wc w3.heap.size 1 ug Lg) := Pb.out.on hb
  have Ou4 : Hid (Owns wc wb.heap.size 33 2 u4 (ptR l)) := hO
  clear hb hO Pb
  go_wp2_with fail
  refine (implSplit l u4 wc wc.heap.size Ou4.out.lies HQ0.out (Nat.le_refl _)).mono ?_
  rintro e wd ⟨uh, Lh, rfl, hm, hO, hb⟩
  have Bd : Hid (Below w.heap.size w wd) := Bc.out.trans (hb.mono Bc.out.size)
  have Cd : Hid (Below w2.heap.size w2 wd) := Cc.out.trans (hb.mono Cc.out.size)
  have Pd : Hid (PMk wd w3.heap.size 1 ug Lg) := Pc.out.on hb
  have Mh : Hid (Lh.map Prod.fst = splX l) := hm
  have Ph : Hid (PrtO wd wc.heap.size uh Lh) := hO
  clear hb hO hm Pc Ou4
  go_wp2_with fail
  refine (eqPartS (splX l) uh us wd wd.heap.size (Ph.out.same Mh.out) ((Ps.out.on Cd.out).same Ms.out) HSh.out (Nat.le_refl _)).mono ?_
  rintro e we ⟨rfl, hb⟩
  have Be : Hid (Below w.heap.size w we) := Bd.out.trans (hb.mono Bd.out.size)
  have Pe : Hid (PMk we w3.heap.size 1 ug Lg) := Pd.out.on hb
  clear hb Pd
  go_wp2_with fail
  refine (cH we Pe.out).mono ?_
  rintro e wf ⟨rfl, hb⟩
  have Bf : Hid (Below w.heap.size w wf) := Be.out.trans (hb.mono Be.out.size)
  clear hb
  go_wp2_with fail
  go_ret
  exact ⟨rfl, Bf.out⟩
end Go.Proofs.Ytfkgaoegdnkfcaa
