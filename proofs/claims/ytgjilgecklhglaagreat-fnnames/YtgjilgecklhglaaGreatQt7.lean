/- DkAdd ImSync -/
import Derived.Test.YtgjilgecklhglaaGreatQt5
import Derived.Test.YtgjilgecklhglaaGreatRows
import Derived.Test.YtgjilgecklhglaaGreatQt6
import Derived.Test.YtgjilgecklhglaaGreatQt4
open List (setIfInBounds_toArray set_cons_zero set_cons_succ)
namespace Go.Proofs.YtgjilgecklhglaaGreat
open Go.ChangeShapes Go.WideShapes Go.ChangeAt Go.RowKit Go.PlainAid
set_option linter.unusedVariables false
def addC (d : Dsk) (name more : ByteArray) : Int := if named d name = 0 then (if d.room - (bytesOf d.nods : Int) < (more.size : Int) then 4 else 0) else named d name
def addD (d : Dsk) (name more : ByteArray) : Dsk :=
 if addC d name more = 0 then match find d name with
  | none => d
  | some j => ⟨d.room, d.next, d.nods.set j ⟨(d.nods.getD j default).id, (d.nods.getD j default).data ++ more, (d.nods.getD j default).sure⟩, d.dir, d.movs⟩
 else d
theorem addC_no {d : Dsk} {name more : ByteArray} (h : named d name ≠ 0) : addC d name more = named d name := by unfold addC; rw [if_neg h]
theorem addC_full {d : Dsk} {name more : ByteArray} (h : named d name = 0) (hf : d.room - (bytesOf d.nods : Int) < (more.size : Int)) : addC d name more = 4 := by unfold addC; rw [if_pos h, if_pos hf]
theorem addC_ok {d : Dsk} {name more : ByteArray} (h : named d name = 0) (hf : ¬ d.room - (bytesOf d.nods : Int) < (more.size : Int)) : addC d name more = 0 := by unfold addC; rw [if_pos h, if_neg hf]
theorem addD_no {d : Dsk} {name more : ByteArray} (h : addC d name more ≠ 0) : addD d name more = d := by unfold addD; rw [if_neg h]
theorem addD_ok {d : Dsk} {name more : ByteArray} {j : Nat} (h : addC d name more = 0) (hf : find d name = some j) : addD d name more = ⟨d.room, d.next, d.nods.set j ⟨(d.nods.getD j default).id, (d.nods.getD j default).data ++ more, (d.nods.getD j default).sure⟩, d.dir, d.movs⟩ := by unfold addD; rw [if_pos h, hf]
set_option maxHeartbeats 1000000 in
theorem addDataV (w : World) (base p : Nat) (d : Dsk) (bi bd bw : Nat) (gs : List Nat) (u : Value) (name more : ByteArray) (h : OpenD w base p d bi bd bw gs u) (hd : Whole d) (hw : wtD d ≤ 1048576) (hs : name.size ≤ maxLen) (hs' : more.size ≤ maxLen) (hB : base ≤ w.heap.size) :
  Calls Tryz.prog 40 #[.pointer (some ⟨p, 0, none⟩), .string name, .string more] w fun e w' => e = .returned (.int .i64 (addC d name more)) ∧ Tellable w' p (addD d name more) ∧ Below base w w' := by
 have cF := findI w base p d bi bd bw gs u name h hd hs
 have hR := (sizeOk_iff d).1 hd.size
 have hby := bytes_wt d.nods
 have cS := spareV d.room d.next _ _ _ p bi d.nods gs w h.blk h.it h.held (whole_rising hd) hR.r0 hR.r1 (by unfold wtD at hw; omega)
 have HO : Hid (OpenD w base p d bi bd bw gs u) := h
 have HD : Hid (Whole d) := hd
 have HW : Hid (wtD d ≤ 1048576) := hw
 have HB : Hid (base ≤ w.heap.size) := hB
 have HT : Hid (Tellable w p d) := h.tell hd hw
 have q0 : (0 : Int) ≤ d.room := hR.r0
 have q1 : d.room ≤ 1048576 := hR.r1
 have q2 : (more.size : Int) ≤ 9223372036854775807 := by unfold maxLen at hs'; omega
 clear h hd hs hs' hB hR hby hw
 go_enter Tryz.func40, Tryz.ntmps40
 go_wp2_with fail
 refine cF.mono ?_
 rintro e w1 ⟨rfl, hF⟩
 clear cF
 rcases hF with ⟨hn, rfl⟩ | ⟨hn, hf, rfl⟩ | ⟨hn, j, hf, hj, rfl⟩
 ·have hc : addC d name more = 1 := by rw [addC_no (by rw [named_bad hn]; omega), named_bad hn]
  have HR : Hid (addC d name more = 1 ∧ addD d name more = d) := ⟨hc, addD_no (by rw [hc]; omega)⟩
  clear hn cS hc
  go_wp2_with fail
  go_ret
  exact ⟨by rw [HR.out.1]; rfl, by rw [HR.out.2]; exact HT.out, Below.refl _ _⟩
 ·have hc : addC d name more = 2 := by rw [addC_no (by rw [named_none hn hf]; omega), named_none hn hf]
  have HR : Hid (addC d name more = 2 ∧ addD d name more = d) := ⟨hc, addD_no (by rw [hc]; omega)⟩
  clear hn hf cS hc
  go_wp2_with fail
  go_ret
  exact ⟨by rw [HR.out.1]; rfl, by rw [HR.out.2]; exact HT.out, Below.refl _ _⟩
 ·generalize hgj : gs.getD j 0 = gj at *
  go_wp2_with fail
  refine cS.mono ?_
  rintro e w2 ⟨rfl, hb2⟩
  have HB2 : Hid (Below w.heap.size w w2) := hb2
  clear cS hb2
  by_cases hfull : d.room - (bytesOf d.nods : Int) < (more.size : Int)
  ·have hc : addC d name more = 4 := addC_full (named_some hn hf) hfull
   have HR : Hid (addC d name more = 4 ∧ addD d name more = d) := ⟨hc, addD_no (by rw [hc]; omega)⟩
   have t1 : decide (d.room - (bytesOf d.nods : Int) < (more.size : Int)) = true := decide_eq_true hfull
   clear hc hn hf hj hfull
   generalize d.room - (bytesOf d.nods : Int) = left at *
   go_wp2_with fail
   go_ret
   exact ⟨by rw [HR.out.1]; rfl, by rw [HR.out.2]; exact tell_on HT.out HB2.out, HB2.out.mono HB.out⟩
  ·have hc : addC d name more = 0 := addC_ok (named_some hn hf) hfull
   have HR : Hid (addC d name more = 0 ∧ addD d name more = ⟨d.room, d.next, d.nods.set j ⟨(d.nods.getD j default).id, (d.nods.getD j default).data ++ more, (d.nods.getD j default).sure⟩, d.dir, d.movs⟩) := ⟨hc, addD_ok hc hf⟩
   have t1 : decide (d.room - (bytesOf d.nods : Int) < (more.size : Int)) = false := decide_eq_false hfull
   have HJ : Hid (j < d.nods.length) := hj
   have HO2 : Hid (OpenD w2 base p d bi bd bw gs u) := HO.out.on HB2.out
   have hds := wt_data _ (getD_mem d.nods j hj)
   have HDS : Hid ((d.nods.getD j default).data.size + more.size ≤ 281474976710656) := by
    have := HW.out
    unfold wtD at this
    unfold Hid
    omega
   have BK : Hid (Blk w2 gj #[.int .i64 (d.nods.getD j default).id, .string (d.nods.getD j default).data, .int .i64 (d.nods.getD j default).sure] 47) := by rw [← hgj]; exact HO2.out.held.blk j hj
   have x1 := BK.out.cell 1 _ rfl
   have z1 := BK.out.free 1
   have qs : ((d.nods.getD j default).data.size : Int) + (more.size : Int) ≤ 281474976710656 := by have := HDS.out; omega
   clear hn hf hj hds hfull hc
   generalize hxd : (d.nods.getD j default).data = xd at *
   generalize hxi : (d.nods.getD j default).id = xi at *
   generalize hxs : (d.nods.getD j default).sure = xs at *
   generalize d.room - (bytesOf d.nods : Int) = left at *
   go_wp2_with fail
   go_ret
   have hjg : j < gs.length := by rw [HO.out.held.len]; exact HJ.out
   have hm := HO.out.gl _ (gs_mem hjg)
   rw [hgj] at hm
   refine ⟨by rw [HR.out.1]; rfl, ?_, (HB2.out.mono HB.out).setCell hm.1 _⟩
   rw [HR.out.2]
   exact HO2.out.put HD.out HW.out j HJ.out ⟨xi, xd ++ more, xs⟩ hxi.symm (by show (xd ++ more).size ≤ _; rw [ByteArray.size_append]; exact HDS.out) (by rw [hgj]; exact (But.refl (fun i => i = gj) w2).setCell (p := ⟨gj, 1, none⟩) (fun _ => rfl) _) (by rw [hgj]; exact BK.out.set 1 _)
def addR (d : Dsk) (name : ByteArray) (more : ByteArray) : Dsk × Int := if diskOk d = true then (addD d name more, addC d name more) else (zeroD, 1)
theorem addR_yes {d : Dsk} {name more : ByteArray} (h : diskOk d = true) : addR d name more = (addD d name more, addC d name more) := by unfold addR; rw [if_pos h]
theorem addR_no {d : Dsk} {name more : ByteArray} (h : diskOk d = false) : addR d name more = (zeroD, 1) := by unfold addR; rw [if_neg (by rw [h]; simp)]
theorem nodR_set (ns : List Nod) (j : Nat) (y : Nod) : nodR (ns.set j y) = (nodR ns).set j (nodC y) := by
 unfold nodR
 rw [List.map_set]
theorem Owns.nodAt {w : World} {base g cap : Nat} {ns : List Nod} {j : Nat} (h : Owns w base 47 3 (.slice (some ⟨g, 0, none⟩) ns.length cap) (nodR ns)) (hj : j < ns.length) : Owns w base 47 3 (.slice (some ⟨g, 0, none⟩) ns.length cap) ((nodR ns).set j (nodC (ns.getD j default))) := by
 rw [← nodR_set, ← getD_at ns j hj, List.set_getElem_self]
 exact h
theorem Owns.pokeSure {w : World} {base g cap : Nat} {ns : List Nod} {j : Nat} (h : Owns w base 47 3 (.slice (some ⟨g, 0, none⟩) ns.length cap) (nodR ns)) (hj : j < ns.length) (s : Int) : Owns (w.setCell ⟨g, j * 3 + 2, none⟩ (.int .i64 s)) base 47 3 (.slice (some ⟨g, 0, none⟩) ns.length cap) (nodR (ns.set j ⟨(ns.getD j default).id, (ns.getD j default).data, s⟩)) := by
 rw [nodR_set]
 exact (h.nodAt hj).pokeAt (nodR_length ns) hj 2 (by omega) (.int .i64 s)
theorem own_at {w : World} {base : Nat} {A : Option Addr} {m cap : Nat} {ns : List Nod} (h : Owns w base 47 3 (.slice A m cap) (nodR ns)) (hj : 0 < ns.length) : m = ns.length ∧ ∃ g, A = some ⟨g, 0, none⟩ ∧ base ≤ g := by
 rcases h.2.2 with ⟨e, h0⟩ | ⟨g, c, cur, e, hg, _⟩
 ·rw [nodR_length] at h0
  omega
 ·cases e
  rw [nodR_length]
  exact ⟨rfl, g, rfl, hg⟩
theorem find_lt {d : Dsk} {name : ByteArray} {k : Nat} (h : find d name = some k) : k < d.nods.length := by
 unfold find at h
 rcases e : linkAt (now d) name with _ | i
 ·rw [e] at h; cases h
 ·rw [e] at h; exact (nodAt_at h).1
theorem Owns.pokeData {w : World} {base g cap : Nat} {ns : List Nod} {j : Nat} (h : Owns w base 47 3 (.slice (some ⟨g, 0, none⟩) ns.length cap) (nodR ns)) (hj : j < ns.length) (s : ByteArray) : Owns (w.setCell ⟨g, j * 3 + 1, none⟩ (.string s)) base 47 3 (.slice (some ⟨g, 0, none⟩) ns.length cap) (nodR (ns.set j ⟨(ns.getD j default).id, s, (ns.getD j default).sure⟩)) := by
 rw [nodR_set]
 exact (h.nodAt hj).pokeAt (nodR_length ns) hj 1 (by omega) (.string s)
theorem until_skip {P : Program} {Q : Exit → Act → World → Prop} {md : Region.Mode} {S : World → Prop} {T : Nat → Bool} {l : List Oper} (i : Nat) {oi : Oper} {rest : List Oper} {fuel : Nat} {listed : Array Bool} {a : Act} {w : World} (hd : l.drop i = oi :: rest) (hB : pureB md l.toArray listed i = true)
  (hQ : ∀ c a w, Q (.panic c) (a.put oi.dst undef) w → Q (.panic c) a w) (hw : Region.wanted oi (yielded l.toArray a.tmps) = false)
  (h : wpUntil P md l.toArray Q S T fuel (listed.setIfInBounds i true) (a.put oi.dst undef) w) : wpUntil P md l.toArray Q S T (fuel + 1) listed a w := by
 unfold pureB at hB
 simp only [Bool.and_eq_true] at hB
 obtain ⟨⟨hs, hf⟩, hr⟩ := hB
 exact wpUntil_pure (drop_at hd) (Region.noSelect_spec hs) hQ fuel listed a w (Region.free_spec (drop_at hd) hf) (by simpa using hr) (.inr ⟨hw, rfl⟩) h
set_option maxRecDepth 20000 in
set_option maxHeartbeats 8000000 in
theorem specAddV (d : Dsk) (v : Value) (name more : ByteArray) (w : World) (B : Nat) (hv : DiskV w B v d) (hf : Fits d) (hw : wtD d ≤ 1048576) (hB : B ≤ w.heap.size) (hs : name.size ≤ maxLen) (hs' : more.size ≤ maxLen) :
  Calls Tryz.prog 68 #[v, .string name, .string more] w fun e w' => ∃ x, e = .returned (.tuple #[x, .int .i64 (addR d name more).2]) ∧ DiskO w' w.heap.size x (addR d name more).1 ∧ Below w.heap.size w w' := by
 have HV : Hid (DiskV w B v d) := hv
 have HF : Hid (Fits d) := hf
 have HB : Hid (B ≤ w.heap.size) := hB
 have HW : Hid (wtD d ≤ 1048576) := hw
 have HS : Hid (name.size ≤ maxLen) := hs
 have qm : (more.size : Int) ≤ 9223372036854775807 := by unfold maxLen at hs'; omega
 obtain ⟨v1, v2, v3, rfl, h1, h2, h3⟩ := hv
 clear h1 h2 h3 hf hB hw hs hs'
 go_enter Tryz.func68, Tryz.ntmps68
 go_wp2_with fail
 have hb0 := below_alloc2' w (.cells #[.int .i64 d.room, .int .i64 d.next, v1, v2, v3] 28) (.cells #[.int .i64 0, .int .i64 0, .slice none 0 0, .slice none 0 0, .slice none 0 0] 28)
 have bA := (Blk.new w #[.int .i64 d.room, .int .i64 d.next, v1, v2, v3] 28).alloc (.cells #[.int .i64 0, .int .i64 0, .slice none 0 0, .slice none 0 0, .slice none 0 0] 28)
 have bR := Blk.new (w.alloc (.cells #[.int .i64 d.room, .int .i64 d.next, v1, v2, v3] 28)) #[.int .i64 0, .int .i64 0, .slice none 0 0, .slice none 0 0, .slice none 0 0] 28
 simp only [World.size_alloc] at bR
 generalize (w.alloc (.cells #[.int .i64 d.room, .int .i64 d.next, v1, v2, v3] 28)).alloc (.cells #[.int .i64 0, .int .i64 0, .slice none 0 0, .slice none 0 0, .slice none 0 0] 28) = W at *
 have B0 : Hid (Below w.heap.size w W) := hb0
 have K0 : Hid (Blk W w.heap.size #[.int .i64 d.room, .int .i64 d.next, v1, v2, v3] 28) := bA
 have R0 : Hid (Blk W (w.heap.size + 1) #[.int .i64 0, .int .i64 0, .slice none 0 0, .slice none 0 0, .slice none 0 0] 28) := bR
 clear hb0 bA bR
 refine (specOkV d _ W B (HV.out.on (B0.out.mono HB.out)) HF.out HW.out (Nat.le_trans HB.out B0.out.size)).mono ?_
 rintro e w0 ⟨rfl, hb1⟩
 have B0' : Hid (Below w.heap.size w w0) := B0.out.trans (hb1.mono B0.out.size)
 have K0' : Hid (Blk w0 w.heap.size #[.int .i64 d.room, .int .i64 d.next, v1, v2, v3] 28) := K0.out.on hb1 K0.out.lt
 have R0' : Hid (Blk w0 (w.heap.size + 1) #[.int .i64 0, .int .i64 0, .slice none 0 0, .slice none 0 0, .slice none 0 0] 28) := R0.out.on hb1 R0.out.lt
 clear hb1 K0 R0
 have hg : w.heap.size ≤ w.heap.size + 1 := by omega
 cases hok : diskOk d with
 | false =>
  have hRR : addR d name more = (zeroD, 1) := addR_no hok
  clear hok
  have g0 := R0'.out.cell 0 _ rfl
  have f0 := R0'.out.free 0
  have g1 := R0'.out.cell 1 _ rfl
  have f1 := R0'.out.free 1
  have g2 := R0'.out.cell 2 _ rfl
  have f2 := R0'.out.free 2
  have g3 := R0'.out.cell 3 _ rfl
  have f3 := R0'.out.free 3
  have g4 := R0'.out.cell 4 _ rfl
  have f4 := R0'.out.free 4
  go_wp2_with fail
  have hB := B0'.out
  have FB := (((((hB.setCell hg (.int .i64 0) (p := ⟨_, 0, none⟩)).setCell hg (.int .i64 0) (p := ⟨_, 1, none⟩)).setCell hg (.slice none 0 0) (p := ⟨_, 2, none⟩)).setCell hg (.slice none 0 0) (p := ⟨_, 3, none⟩)).setCell hg (.slice none 0 0) (p := ⟨_, 4, none⟩))
  have hF := (((((R0'.out.set 0 (.int .i64 0)).set 1 (.int .i64 0)).set 2 (.slice none 0 0)).set 3 (.slice none 0 0)).set 4 (.slice none 0 0))
  clear g0 f0 g1 f1 g2 f2 g3 f3 g4 f4
  generalize (((((w0.setCell ⟨w.heap.size + 1, 0, none⟩ (.int .i64 0)).setCell ⟨w.heap.size + 1, 1, none⟩ (.int .i64 0)).setCell ⟨w.heap.size + 1, 2, none⟩ (.slice none 0 0)).setCell ⟨w.heap.size + 1, 3, none⟩ (.slice none 0 0)).setCell ⟨w.heap.size + 1, 4, none⟩ (.slice none 0 0)) = WF at *
  have hG : Blk WF (w.heap.size + 1) #[.int .i64 0, .int .i64 0, .slice none 0 0, .slice none 0 0, .slice none 0 0] 28 := hF
  have l0 := hG.cell 0 (.int .i64 0) rfl
  have l1 := hG.cell 1 (.int .i64 0) rfl
  have l2 := hG.cell 2 (.slice none 0 0) rfl
  have l3 := hG.cell 3 (.slice none 0 0) rfl
  have l4 := hG.cell 4 (.slice none 0 0) rfl
  exact bodyPost_ret (v := .tuple #[.agg #[.int .i64 0, .int .i64 0, .slice none 0 0, .slice none 0 0, .slice none 0 0], .int .i64 1]) (by simp [results, go_sem, l0, l1, l2, l3, l4]) rfl (by rw [hRR]; exact ⟨_, rfl, ⟨_, _, _, rfl, Owns.nil _ _ _ _, Owns.nil _ _ _ _, Owns.nil _ _ _ _⟩, FB⟩)
 | true =>
  have hR := (sizeOk_iff d).1 ((whole_iff d).1 hok).size
  have HSZ : Hid (d.dir.length + d.movs.length ≤ 1048575 ∧ d.nods.length ≤ 10 ∧ d.dir.length ≤ 1048576 ∧ d.movs.length ≤ 1048576) := by
   have := hR.l; have := hR.m; have := hR.n
   unfold Hid
   omega
  have hby := bytes_wt d.nods
  have HBY : Hid (bytesOf d.nods ≤ 4194304) := by
   have := HW.out
   unfold wtD at this
   unfold Hid
   omega
  have q0 : (0 : Int) ≤ d.room := hR.r0
  have q9 : d.room ≤ 1048576 := hR.r1
  have qb : (bytesOf d.nods : Int) ≤ 4194304 := by have := HBY.out; omega
  have HRR : Hid (addR d name more = (addD d name more, addC d name more)) := addR_yes hok
  have cN := namedV d (.agg #[.int .i64 d.room, .int .i64 d.next, v1, v2, v3]) name w0 B (HV.out.on (B0'.out.mono HB.out)) HF.out (by have := HS.out; unfold maxLen at this; omega) HSZ.out.1 (by have := HSZ.out; omega) (Nat.le_trans HB.out B0'.out.size)
  have y0 := K0'.out.cell 0 _ rfl
  have y1 := K0'.out.cell 1 _ rfl
  have y2 := K0'.out.cell 2 _ rfl
  have y3 := K0'.out.cell 3 _ rfl
  have y4 := K0'.out.cell 4 _ rfl
  clear hR hok hby
  go_wp2_with fail
  refine cN.mono ?_
  rintro e w1 ⟨rfl, hb2⟩
  have B1 : Hid (Below w.heap.size w w1) := B0'.out.trans (hb2.mono B0'.out.size)
  have K1 : Hid (Blk w1 w.heap.size #[.int .i64 d.room, .int .i64 d.next, v1, v2, v3] 28) := K0'.out.on hb2 K0'.out.lt
  have R1 : Hid (Blk w1 (w.heap.size + 1) #[.int .i64 0, .int .i64 0, .slice none 0 0, .slice none 0 0, .slice none 0 0] 28) := R0'.out.on hb2 R0'.out.lt
  clear cN hb2 y0 y1 y2 y3 y4 K0' R0'
  by_cases hnc : named d name = 0
  ·obtain ⟨hno, j, hfd⟩ : nameOk name = true ∧ ∃ j, find d name = some j := by
    cases hn : nameOk name with
    | false => rw [named_bad hn] at hnc; omega
    | true =>
     rcases hfd : find d name with _ | j
     ·rw [named_none hn hfd] at hnc; omega
     ·exact ⟨rfl, j, rfl⟩
   by_cases hfull : d.room - (bytesOf d.nods : Int) < (more.size : Int)
   ·have hc := addC_full hnc hfull
    have hRR : addR d name more = (d, 4) := by rw [HRR.out, hc, addD_no (by rw [hc]; omega)]
    have t1 : decide (d.room - (bytesOf d.nods : Int) < (more.size : Int)) = true := decide_eq_true hfull
    rw [hnc]
    have hwr : IntKind.i64.wrap (d.room - (bytesOf d.nods : Int)) = d.room - (bytesOf d.nods : Int) := by rw [IntKind.wrap_i64]; omega
    clear hc hnc hfull hno hfd HRR
    go_wp2_with fail
    have S0 : Hid (w1.drew.cell? ⟨w.heap.size, 0, none⟩ = some (.int .i64 d.room) ∧ w1.drew.cell? ⟨w.heap.size, 1, none⟩ = some (.int .i64 d.next) ∧ w1.drew.cell? ⟨w.heap.size, 2, none⟩ = some v1 ∧ w1.drew.cell? ⟨w.heap.size, 3, none⟩ = some v2 ∧ w1.drew.cell? ⟨w.heap.size, 4, none⟩ = some v3) := ⟨K1.out.cell 0 _ rfl, K1.out.cell 1 _ rfl, K1.out.cell 2 _ rfl, K1.out.cell 3 _ rfl, K1.out.cell 4 _ rfl⟩
    refine wp_region_until (fun w' => w'.cell? ⟨w.heap.size, 0, none⟩ = some (.int .i64 d.room) ∧ w'.cell? ⟨w.heap.size, 1, none⟩ = some (.int .i64 d.next) ∧ w'.cell? ⟨w.heap.size, 2, none⟩ = some v1 ∧ w'.cell? ⟨w.heap.size, 3, none⟩ = some v2 ∧ w'.cell? ⟨w.heap.size, 4, none⟩ = some v3) (fun i => false) 12 (by rfl) (by kernel_rfl) ?_
    refine until_take 0 (v := ?vafull0) (by rfl) (by kernel_rfl) (by exact fun _ _ _ h => h) (by rfl) ?hyafull0 S0.out ?rafull0
    case hyafull0 =>
     intro w hSw
     try dsimp only at hSw
     go_simp
     try with_reducible rfl
    try simp only [Act.put, zQ1, zQ2, zQ3]
    refine until_take 1 (v := ?vafull1) (by rfl) (by kernel_rfl) (by exact fun _ _ _ h => h) (by rfl) ?hyafull1 S0.out ?rafull1
    case hyafull1 =>
     intro w hSw
     try dsimp only at hSw
     go_simp
     try with_reducible rfl
    try simp only [Act.put, zQ1, zQ2, zQ3]
    refine until_take 2 (v := ?vafull2) (by rfl) (by kernel_rfl) (by exact fun _ _ _ h => h) (by rfl) ?hyafull2 S0.out ?rafull2
    case hyafull2 =>
     intro w hSw
     try dsimp only at hSw
     go_simp
     try with_reducible rfl
    try simp only [Act.put, zQ1, zQ2, zQ3]
    refine until_take 3 (v := ?vafull3) (by rfl) (by kernel_rfl) (by exact fun _ _ _ h => h) (by rfl) ?hyafull3 S0.out ?rafull3
    case hyafull3 =>
     intro w hSw
     try dsimp only at hSw
     go_simp
     try with_reducible rfl
    try simp only [Act.put, zQ1, zQ2, zQ3]
    refine until_take 4 (v := ?vafull4) (by rfl) (by kernel_rfl) (by exact fun _ _ _ h => h) (by rfl) ?hyafull4 S0.out ?rafull4
    case hyafull4 =>
     intro w hSw
     try dsimp only at hSw
     go_simp
     try with_reducible rfl
    try simp only [Act.put, zQ1, zQ2, zQ3]
    refine until_take 5 (v := ?vafull5) (by rfl) (by kernel_rfl) (by exact fun _ _ _ h => h) (by rfl) ?hyafull5 S0.out ?rafull5
    case hyafull5 =>
     intro w hSw
     try dsimp only at hSw
     go_simp
     try with_reducible rfl
    try simp only [Act.put, zQ1, zQ2, zQ3]
    refine until_take 6 (v := ?vafull6) (by rfl) (by kernel_rfl) (by exact fun _ _ _ h => h) (by rfl) ?hyafull6 S0.out ?rafull6
    case hyafull6 =>
     intro w hSw
     try dsimp only at hSw
     go_simp
     try with_reducible rfl
    try simp only [Act.put, zQ1, zQ2, zQ3]
    refine until_take 7 (v := ?vafull7) (by rfl) (by kernel_rfl) (by exact fun _ _ _ h => h) (by rfl) ?hyafull7 S0.out ?rafull7
    case hyafull7 =>
     intro w hSw
     try dsimp only at hSw
     go_simp
     try with_reducible rfl
    try simp only [Act.put, zQ1, zQ2, zQ3]
    refine uNe 8 (fun K hK => ?_)
    go_simp
    refine (bytesV d (.agg #[.int .i64 d.room, .int .i64 d.next, v1, v2, v3]) w1.drew B (HV.out.on (B1.out.drew.mono HB.out)) (by have := HSZ.out; omega) HBY.out (Nat.le_trans HB.out B1.out.size)).mono ?_
    rintro e w2 ⟨rfl, hb2⟩
    have hb21 : Below w1.heap.size w1 w2 := (Below.refl _ w1).drew.trans hb2
    have B2 : Hid (Below w.heap.size w w2) := B1.out.trans (hb21.mono B1.out.size)
    have K2 : Hid (Blk w2 w.heap.size #[.int .i64 d.room, .int .i64 d.next, v1, v2, v3] 28) := K1.out.on hb21 K1.out.lt
    have R2 : Hid (Blk w2 (w.heap.size + 1) #[.int .i64 0, .int .i64 0, .slice none 0 0, .slice none 0 0, .slice none 0 0] 28) := R1.out.on hb21 R1.out.lt
    clear hb2 hb21
    go_wp2_with fail
    refine hK.out _ _ (fun _ _ => ⟨K2.out.cell 0 _ rfl, K2.out.cell 1 _ rfl, K2.out.cell 2 _ rfl, K2.out.cell 3 _ rfl, K2.out.cell 4 _ rfl⟩) ?_
    clear hK K
    try simp only [Act.put, zQ1, zQ2, zQ3]
    refine until_pure 9 (v := ?vbfull9) (by rfl) (by kernel_rfl) (by exact fun _ _ _ h => h) (by rfl) ?hybfull9 ?rbfull9
    case hybfull9 =>
     intro w
     go_simp
     try with_reducible rfl
    try simp only [Act.put, zQ1, zQ2, zQ3]
    refine until_pure 10 (v := ?vbfull10) (by rfl) (by kernel_rfl) (by exact fun _ _ _ h => h) (by rfl) ?hybfull10 ?rbfull10
    case hybfull10 =>
     intro w
     go_simp
     try with_reducible rfl
    try simp only [Act.put, zQ1, zQ2, zQ3]
    refine until_pure 11 (v := ?vbfull11) (by rfl) (by kernel_rfl) (by exact fun _ _ _ h => h) (by rfl) ?hybfull11 ?rbfull11
    case hybfull11 =>
     intro w
     go_simp
     try with_reducible rfl
    try simp only [Act.put, zQ1, zQ2, zQ3]
    refine until_done (by kernel_rfl) ?_ _
    clear S0 K1 R1
    have cC := copyV d (.agg #[.int .i64 d.room, .int .i64 d.next, v1, v2, v3]) w2 B (HV.out.on (B2.out.mono HB.out)) (by have := HSZ.out; omega) HSZ.out.2.2.1 HSZ.out.2.2.2 (Nat.le_trans HB.out B2.out.size)
    have y0 := K2.out.cell 0 _ rfl
    have y1 := K2.out.cell 1 _ rfl
    have y2 := K2.out.cell 2 _ rfl
    have y3 := K2.out.cell 3 _ rfl
    have y4 := K2.out.cell 4 _ rfl
    go_wp2_with fail
    refine cC.mono ?_
    rintro e w3 ⟨x, rfl, hO3, hb3⟩
    have B3 : Hid (Below w.heap.size w w3) := B2.out.trans (hb3.mono B2.out.size)
    have K3 : Hid (Blk w3 w.heap.size #[.int .i64 d.room, .int .i64 d.next, v1, v2, v3] 28) := K2.out.on hb3 K2.out.lt
    have R3 : Hid (Blk w3 (w.heap.size + 1) #[.int .i64 0, .int .i64 0, .slice none 0 0, .slice none 0 0, .slice none 0 0] 28) := R2.out.on hb3 R2.out.lt
    obtain ⟨x1, x2, x3, rfl, o1, o2, o3⟩ := hO3
    obtain ⟨A1, m1, k1, rfl⟩ := o1.shape
    obtain ⟨A2, m2, k2, rfl⟩ := o2.shape
    obtain ⟨A3, m3, k3, rfl⟩ := o3.shape
    have hz : w.heap.size + 1 < w2.heap.size := R2.out.lt
    have hm : w.heap.size ≤ w2.heap.size := B2.out.size
    have HP1 : Hid (Owns (((((w3.setCell ⟨w.heap.size, 0, none⟩ (.int .i64 d.room)).setCell ⟨w.heap.size, 1, none⟩ (.int .i64 d.next)).setCell ⟨w.heap.size, 2, none⟩ (.slice A1 m1 k1)).setCell ⟨w.heap.size, 3, none⟩ (.slice A2 m2 k2)).setCell ⟨w.heap.size, 4, none⟩ (.slice A3 m3 k3)) w2.heap.size 47 3 (.slice A1 m1 k1) (nodR d.nods)) := (((((o1.other (o1.below (show w.heap.size < w2.heap.size by omega)) 0 (.int .i64 d.room)).other (o1.below (show w.heap.size < w2.heap.size by omega)) 1 (.int .i64 d.next)).other (o1.below (show w.heap.size < w2.heap.size by omega)) 2 (.slice A1 m1 k1)).other (o1.below (show w.heap.size < w2.heap.size by omega)) 3 (.slice A2 m2 k2)).other (o1.below (show w.heap.size < w2.heap.size by omega)) 4 (.slice A3 m3 k3))
    have HP2 : Hid (Owns (((((w3.setCell ⟨w.heap.size, 0, none⟩ (.int .i64 d.room)).setCell ⟨w.heap.size, 1, none⟩ (.int .i64 d.next)).setCell ⟨w.heap.size, 2, none⟩ (.slice A1 m1 k1)).setCell ⟨w.heap.size, 3, none⟩ (.slice A2 m2 k2)).setCell ⟨w.heap.size, 4, none⟩ (.slice A3 m3 k3)) w2.heap.size 49 2 (.slice A2 m2 k2) (lnkR d.dir)) := (((((o2.other (o2.below (show w.heap.size < w2.heap.size by omega)) 0 (.int .i64 d.room)).other (o2.below (show w.heap.size < w2.heap.size by omega)) 1 (.int .i64 d.next)).other (o2.below (show w.heap.size < w2.heap.size by omega)) 2 (.slice A1 m1 k1)).other (o2.below (show w.heap.size < w2.heap.size by omega)) 3 (.slice A2 m2 k2)).other (o2.below (show w.heap.size < w2.heap.size by omega)) 4 (.slice A3 m3 k3))
    have HP3 : Hid (Owns (((((w3.setCell ⟨w.heap.size, 0, none⟩ (.int .i64 d.room)).setCell ⟨w.heap.size, 1, none⟩ (.int .i64 d.next)).setCell ⟨w.heap.size, 2, none⟩ (.slice A1 m1 k1)).setCell ⟨w.heap.size, 3, none⟩ (.slice A2 m2 k2)).setCell ⟨w.heap.size, 4, none⟩ (.slice A3 m3 k3)) w2.heap.size 51 4 (.slice A3 m3 k3) (movR d.movs)) := (((((o3.other (o3.below (show w.heap.size < w2.heap.size by omega)) 0 (.int .i64 d.room)).other (o3.below (show w.heap.size < w2.heap.size by omega)) 1 (.int .i64 d.next)).other (o3.below (show w.heap.size < w2.heap.size by omega)) 2 (.slice A1 m1 k1)).other (o3.below (show w.heap.size < w2.heap.size by omega)) 3 (.slice A2 m2 k2)).other (o3.below (show w.heap.size < w2.heap.size by omega)) 4 (.slice A3 m3 k3))
    have HPB : Hid (Below w.heap.size w (((((w3.setCell ⟨w.heap.size, 0, none⟩ (.int .i64 d.room)).setCell ⟨w.heap.size, 1, none⟩ (.int .i64 d.next)).setCell ⟨w.heap.size, 2, none⟩ (.slice A1 m1 k1)).setCell ⟨w.heap.size, 3, none⟩ (.slice A2 m2 k2)).setCell ⟨w.heap.size, 4, none⟩ (.slice A3 m3 k3))) := (((((B3.out.setCell (Nat.le_refl _) (.int .i64 d.room) (p := ⟨_, 0, none⟩)).setCell (Nat.le_refl _) (.int .i64 d.next) (p := ⟨_, 1, none⟩)).setCell (Nat.le_refl _) (.slice A1 m1 k1) (p := ⟨_, 2, none⟩)).setCell (Nat.le_refl _) (.slice A2 m2 k2) (p := ⟨_, 3, none⟩)).setCell (Nat.le_refl _) (.slice A3 m3 k3) (p := ⟨_, 4, none⟩))
    have HPK : Hid (Blk (((((w3.setCell ⟨w.heap.size, 0, none⟩ (.int .i64 d.room)).setCell ⟨w.heap.size, 1, none⟩ (.int .i64 d.next)).setCell ⟨w.heap.size, 2, none⟩ (.slice A1 m1 k1)).setCell ⟨w.heap.size, 3, none⟩ (.slice A2 m2 k2)).setCell ⟨w.heap.size, 4, none⟩ (.slice A3 m3 k3)) w.heap.size #[.int .i64 d.room, .int .i64 d.next, .slice A1 m1 k1, .slice A2 m2 k2, .slice A3 m3 k3] 28) := (((((K3.out.set 0 (.int .i64 d.room)).set 1 (.int .i64 d.next)).set 2 (.slice A1 m1 k1)).set 3 (.slice A2 m2 k2)).set 4 (.slice A3 m3 k3))
    have HPR : Hid (Blk (((((w3.setCell ⟨w.heap.size, 0, none⟩ (.int .i64 d.room)).setCell ⟨w.heap.size, 1, none⟩ (.int .i64 d.next)).setCell ⟨w.heap.size, 2, none⟩ (.slice A1 m1 k1)).setCell ⟨w.heap.size, 3, none⟩ (.slice A2 m2 k2)).setCell ⟨w.heap.size, 4, none⟩ (.slice A3 m3 k3)) (w.heap.size + 1) #[.int .i64 0, .int .i64 0, .slice none 0 0, .slice none 0 0, .slice none 0 0] 28) := (((((R3.out.other (show w.heap.size + 1 ≠ w.heap.size by omega) 0 (.int .i64 d.room)).other (show w.heap.size + 1 ≠ w.heap.size by omega) 1 (.int .i64 d.next)).other (show w.heap.size + 1 ≠ w.heap.size by omega) 2 (.slice A1 m1 k1)).other (show w.heap.size + 1 ≠ w.heap.size by omega) 3 (.slice A2 m2 k2)).other (show w.heap.size + 1 ≠ w.heap.size by omega) 4 (.slice A3 m3 k3))
    clear cC hb3 y0 y1 y2 y3 y4 K2 R2 o1 o2 o3 R3
    have e0 := K3.out.cell 0 _ rfl
    have t0 := K3.out.free 0
    have e1 := K3.out.cell 1 _ rfl
    have t1 := K3.out.free 1
    have e2 := K3.out.cell 2 _ rfl
    have t2 := K3.out.free 2
    have e3 := K3.out.cell 3 _ rfl
    have t3 := K3.out.free 3
    have e4 := K3.out.cell 4 _ rfl
    have t4 := K3.out.free 4
    have r0 := HPK.out.cell 0 _ rfl
    have r1 := HPK.out.cell 1 _ rfl
    have r2 := HPK.out.cell 2 _ rfl
    have r3 := HPK.out.cell 3 _ rfl
    have r4 := HPK.out.cell 4 _ rfl
    have g0 := HPR.out.cell 0 _ rfl
    have f0 := HPR.out.free 0
    have g1 := HPR.out.cell 1 _ rfl
    have f1 := HPR.out.free 1
    have g2 := HPR.out.cell 2 _ rfl
    have f2 := HPR.out.free 2
    have g3 := HPR.out.cell 3 _ rfl
    have f3 := HPR.out.free 3
    have g4 := HPR.out.cell 4 _ rfl
    have f4 := HPR.out.free 4
    go_wp2_with fail
    have hB := HPB.out
    clear r0 e0 t0 r1 e1 t1 r2 e2 t2 r3 e3 t3 r4 e4 t4
    have FB := (((((hB.setCell hg (.int .i64 d.room) (p := ⟨_, 0, none⟩)).setCell hg (.int .i64 d.next) (p := ⟨_, 1, none⟩)).setCell hg (.slice A1 m1 k1) (p := ⟨_, 2, none⟩)).setCell hg (.slice A2 m2 k2) (p := ⟨_, 3, none⟩)).setCell hg (.slice A3 m3 k3) (p := ⟨_, 4, none⟩))
    have hF := (((((HPR.out.set 0 (.int .i64 d.room)).set 1 (.int .i64 d.next)).set 2 (.slice A1 m1 k1)).set 3 (.slice A2 m2 k2)).set 4 (.slice A3 m3 k3))
    have mm0 := HP1.out.notBlk HPR.out (by decide)
    have F0 := (((((HP1.out.other mm0 0 (.int .i64 d.room)).other mm0 1 (.int .i64 d.next)).other mm0 2 (.slice A1 m1 k1)).other mm0 3 (.slice A2 m2 k2)).other mm0 4 (.slice A3 m3 k3))
    have mm1 := HP2.out.notBlk HPR.out (by decide)
    have F1 := (((((HP2.out.other mm1 0 (.int .i64 d.room)).other mm1 1 (.int .i64 d.next)).other mm1 2 (.slice A1 m1 k1)).other mm1 3 (.slice A2 m2 k2)).other mm1 4 (.slice A3 m3 k3))
    have mm2 := HP3.out.notBlk HPR.out (by decide)
    have F2 := (((((HP3.out.other mm2 0 (.int .i64 d.room)).other mm2 1 (.int .i64 d.next)).other mm2 2 (.slice A1 m1 k1)).other mm2 3 (.slice A2 m2 k2)).other mm2 4 (.slice A3 m3 k3))
    clear g0 f0 g1 f1 g2 f2 g3 f3 g4 f4
    generalize ((((((((((w3.setCell ⟨w.heap.size, 0, none⟩ (.int .i64 d.room)).setCell ⟨w.heap.size, 1, none⟩ (.int .i64 d.next)).setCell ⟨w.heap.size, 2, none⟩ (.slice A1 m1 k1)).setCell ⟨w.heap.size, 3, none⟩ (.slice A2 m2 k2)).setCell ⟨w.heap.size, 4, none⟩ (.slice A3 m3 k3)).setCell ⟨w.heap.size + 1, 0, none⟩ (.int .i64 d.room)).setCell ⟨w.heap.size + 1, 1, none⟩ (.int .i64 d.next)).setCell ⟨w.heap.size + 1, 2, none⟩ (.slice A1 m1 k1)).setCell ⟨w.heap.size + 1, 3, none⟩ (.slice A2 m2 k2)).setCell ⟨w.heap.size + 1, 4, none⟩ (.slice A3 m3 k3)) = WF at *
    have hG : Blk WF (w.heap.size + 1) #[.int .i64 d.room, .int .i64 d.next, .slice A1 m1 k1, .slice A2 m2 k2, .slice A3 m3 k3] 28 := hF
    have l0 := hG.cell 0 (.int .i64 d.room) rfl
    have l1 := hG.cell 1 (.int .i64 d.next) rfl
    have l2 := hG.cell 2 (.slice A1 m1 k1) rfl
    have l3 := hG.cell 3 (.slice A2 m2 k2) rfl
    have l4 := hG.cell 4 (.slice A3 m3 k3) rfl
    exact bodyPost_ret (v := .tuple #[.agg #[.int .i64 d.room, .int .i64 d.next, .slice A1 m1 k1, .slice A2 m2 k2, .slice A3 m3 k3], .int .i64 4]) (by simp [results, go_sem, l0, l1, l2, l3, l4]) rfl (by rw [hRR]; exact ⟨_, rfl, ⟨_, _, _, rfl, F0.mono hm, F1.mono hm, F2.mono hm⟩, FB⟩)
   ·have hc := addC_ok hnc hfull
    have hRR : addR d name more = (⟨d.room, d.next, d.nods.set j ⟨(d.nods.getD j default).id, (d.nods.getD j default).data ++ more, (d.nods.getD j default).sure⟩, d.dir, d.movs⟩, 0) := by rw [HRR.out, hc, addD_ok hc hfd]
    have t1 : decide (d.room - (bytesOf d.nods : Int) < (more.size : Int)) = false := decide_eq_false hfull
    have HJ : Hid (j < d.nods.length) := find_lt hfd
    have HFD : Hid (find d name = some j) := hfd
    have hds := wt_data _ (getD_mem d.nods j (find_lt hfd))
    have qs : ((d.nods.getD j default).data.size : Int) + (more.size : Int) ≤ 281474976710656 := by
     have := HW.out
     unfold wtD at this
     omega
    rw [hnc]
    have hwr : IntKind.i64.wrap (d.room - (bytesOf d.nods : Int)) = d.room - (bytesOf d.nods : Int) := by rw [IntKind.wrap_i64]; omega
    have hRRh : Hid (addR d name more = (⟨d.room, d.next, d.nods.set j ⟨(d.nods.getD j default).id, (d.nods.getD j default).data ++ more, (d.nods.getD j default).sure⟩, d.dir, d.movs⟩, 0)) := hRR
    have HQS : Hid (((d.nods.getD j default).data.size : Int) + (more.size : Int) ≤ 281474976710656) := qs
    clear hc hnc hfull hno hfd HRR hds hRR qs
    go_wp2_with fail
    have S0 : Hid (w1.drew.cell? ⟨w.heap.size, 0, none⟩ = some (.int .i64 d.room) ∧ w1.drew.cell? ⟨w.heap.size, 1, none⟩ = some (.int .i64 d.next) ∧ w1.drew.cell? ⟨w.heap.size, 2, none⟩ = some v1 ∧ w1.drew.cell? ⟨w.heap.size, 3, none⟩ = some v2 ∧ w1.drew.cell? ⟨w.heap.size, 4, none⟩ = some v3) := ⟨K1.out.cell 0 _ rfl, K1.out.cell 1 _ rfl, K1.out.cell 2 _ rfl, K1.out.cell 3 _ rfl, K1.out.cell 4 _ rfl⟩
    refine wp_region_until (fun w' => w'.cell? ⟨w.heap.size, 0, none⟩ = some (.int .i64 d.room) ∧ w'.cell? ⟨w.heap.size, 1, none⟩ = some (.int .i64 d.next) ∧ w'.cell? ⟨w.heap.size, 2, none⟩ = some v1 ∧ w'.cell? ⟨w.heap.size, 3, none⟩ = some v2 ∧ w'.cell? ⟨w.heap.size, 4, none⟩ = some v3) (fun i => false) 12 (by rfl) (by kernel_rfl) ?_
    refine until_take 0 (v := ?vaok0) (by rfl) (by kernel_rfl) (by exact fun _ _ _ h => h) (by rfl) ?hyaok0 S0.out ?raok0
    case hyaok0 =>
     intro w hSw
     try dsimp only at hSw
     go_simp
     try with_reducible rfl
    try simp only [Act.put, zQ1, zQ2, zQ3]
    refine until_take 1 (v := ?vaok1) (by rfl) (by kernel_rfl) (by exact fun _ _ _ h => h) (by rfl) ?hyaok1 S0.out ?raok1
    case hyaok1 =>
     intro w hSw
     try dsimp only at hSw
     go_simp
     try with_reducible rfl
    try simp only [Act.put, zQ1, zQ2, zQ3]
    refine until_take 2 (v := ?vaok2) (by rfl) (by kernel_rfl) (by exact fun _ _ _ h => h) (by rfl) ?hyaok2 S0.out ?raok2
    case hyaok2 =>
     intro w hSw
     try dsimp only at hSw
     go_simp
     try with_reducible rfl
    try simp only [Act.put, zQ1, zQ2, zQ3]
    refine until_take 3 (v := ?vaok3) (by rfl) (by kernel_rfl) (by exact fun _ _ _ h => h) (by rfl) ?hyaok3 S0.out ?raok3
    case hyaok3 =>
     intro w hSw
     try dsimp only at hSw
     go_simp
     try with_reducible rfl
    try simp only [Act.put, zQ1, zQ2, zQ3]
    refine until_take 4 (v := ?vaok4) (by rfl) (by kernel_rfl) (by exact fun _ _ _ h => h) (by rfl) ?hyaok4 S0.out ?raok4
    case hyaok4 =>
     intro w hSw
     try dsimp only at hSw
     go_simp
     try with_reducible rfl
    try simp only [Act.put, zQ1, zQ2, zQ3]
    refine until_take 5 (v := ?vaok5) (by rfl) (by kernel_rfl) (by exact fun _ _ _ h => h) (by rfl) ?hyaok5 S0.out ?raok5
    case hyaok5 =>
     intro w hSw
     try dsimp only at hSw
     go_simp
     try with_reducible rfl
    try simp only [Act.put, zQ1, zQ2, zQ3]
    refine until_take 6 (v := ?vaok6) (by rfl) (by kernel_rfl) (by exact fun _ _ _ h => h) (by rfl) ?hyaok6 S0.out ?raok6
    case hyaok6 =>
     intro w hSw
     try dsimp only at hSw
     go_simp
     try with_reducible rfl
    try simp only [Act.put, zQ1, zQ2, zQ3]
    refine until_take 7 (v := ?vaok7) (by rfl) (by kernel_rfl) (by exact fun _ _ _ h => h) (by rfl) ?hyaok7 S0.out ?raok7
    case hyaok7 =>
     intro w hSw
     try dsimp only at hSw
     go_simp
     try with_reducible rfl
    try simp only [Act.put, zQ1, zQ2, zQ3]
    refine uNe 8 (fun K hK => ?_)
    go_simp
    refine (bytesV d (.agg #[.int .i64 d.room, .int .i64 d.next, v1, v2, v3]) w1.drew B (HV.out.on (B1.out.drew.mono HB.out)) (by have := HSZ.out; omega) HBY.out (Nat.le_trans HB.out B1.out.size)).mono ?_
    rintro e w2 ⟨rfl, hb2⟩
    have hb21 : Below w1.heap.size w1 w2 := (Below.refl _ w1).drew.trans hb2
    have B2 : Hid (Below w.heap.size w w2) := B1.out.trans (hb21.mono B1.out.size)
    have K2 : Hid (Blk w2 w.heap.size #[.int .i64 d.room, .int .i64 d.next, v1, v2, v3] 28) := K1.out.on hb21 K1.out.lt
    have R2 : Hid (Blk w2 (w.heap.size + 1) #[.int .i64 0, .int .i64 0, .slice none 0 0, .slice none 0 0, .slice none 0 0] 28) := R1.out.on hb21 R1.out.lt
    clear hb2 hb21
    go_wp2_with fail
    refine hK.out _ _ (fun _ _ => ⟨K2.out.cell 0 _ rfl, K2.out.cell 1 _ rfl, K2.out.cell 2 _ rfl, K2.out.cell 3 _ rfl, K2.out.cell 4 _ rfl⟩) ?_
    clear hK K
    try simp only [Act.put, zQ1, zQ2, zQ3]
    refine until_pure 9 (v := ?vbok9) (by rfl) (by kernel_rfl) (by exact fun _ _ _ h => h) (by rfl) ?hybok9 ?rbok9
    case hybok9 =>
     intro w
     go_simp
     try with_reducible rfl
    try simp only [Act.put, zQ1, zQ2, zQ3]
    refine until_pure 10 (v := ?vbok10) (by rfl) (by kernel_rfl) (by exact fun _ _ _ h => h) (by rfl) ?hybok10 ?rbok10
    case hybok10 =>
     intro w
     go_simp
     try with_reducible rfl
    try simp only [Act.put, zQ1, zQ2, zQ3]
    refine until_pure 11 (v := ?vbok11) (by rfl) (by kernel_rfl) (by exact fun _ _ _ h => h) (by rfl) ?hybok11 ?rbok11
    case hybok11 =>
     intro w
     go_simp
     try with_reducible rfl
    try simp only [Act.put, zQ1, zQ2, zQ3]
    refine until_done (by kernel_rfl) ?_ _
    clear S0 K1 R1
    have cC := copyV d (.agg #[.int .i64 d.room, .int .i64 d.next, v1, v2, v3]) w2 B (HV.out.on (B2.out.mono HB.out)) (by have := HSZ.out; omega) HSZ.out.2.2.1 HSZ.out.2.2.2 (Nat.le_trans HB.out B2.out.size)
    have y0 := K2.out.cell 0 _ rfl
    have y1 := K2.out.cell 1 _ rfl
    have y2 := K2.out.cell 2 _ rfl
    have y3 := K2.out.cell 3 _ rfl
    have y4 := K2.out.cell 4 _ rfl
    go_wp2_with fail
    refine cC.mono ?_
    rintro e w3 ⟨x, rfl, hO3, hb3⟩
    have B3 : Hid (Below w.heap.size w w3) := B2.out.trans (hb3.mono B2.out.size)
    have K3 : Hid (Blk w3 w.heap.size #[.int .i64 d.room, .int .i64 d.next, v1, v2, v3] 28) := K2.out.on hb3 K2.out.lt
    have R3 : Hid (Blk w3 (w.heap.size + 1) #[.int .i64 0, .int .i64 0, .slice none 0 0, .slice none 0 0, .slice none 0 0] 28) := R2.out.on hb3 R2.out.lt
    obtain ⟨x1, x2, x3, rfl, o1, o2, o3⟩ := hO3
    obtain ⟨A1, m1, k1, rfl⟩ := o1.shape
    obtain ⟨A2, m2, k2, rfl⟩ := o2.shape
    obtain ⟨A3, m3, k3, rfl⟩ := o3.shape
    have hz : w.heap.size + 1 < w2.heap.size := R2.out.lt
    have hm : w.heap.size ≤ w2.heap.size := B2.out.size
    have HP1 : Hid (Owns (((((w3.setCell ⟨w.heap.size, 0, none⟩ (.int .i64 d.room)).setCell ⟨w.heap.size, 1, none⟩ (.int .i64 d.next)).setCell ⟨w.heap.size, 2, none⟩ (.slice A1 m1 k1)).setCell ⟨w.heap.size, 3, none⟩ (.slice A2 m2 k2)).setCell ⟨w.heap.size, 4, none⟩ (.slice A3 m3 k3)) w2.heap.size 47 3 (.slice A1 m1 k1) (nodR d.nods)) := (((((o1.other (o1.below (show w.heap.size < w2.heap.size by omega)) 0 (.int .i64 d.room)).other (o1.below (show w.heap.size < w2.heap.size by omega)) 1 (.int .i64 d.next)).other (o1.below (show w.heap.size < w2.heap.size by omega)) 2 (.slice A1 m1 k1)).other (o1.below (show w.heap.size < w2.heap.size by omega)) 3 (.slice A2 m2 k2)).other (o1.below (show w.heap.size < w2.heap.size by omega)) 4 (.slice A3 m3 k3))
    have HP2 : Hid (Owns (((((w3.setCell ⟨w.heap.size, 0, none⟩ (.int .i64 d.room)).setCell ⟨w.heap.size, 1, none⟩ (.int .i64 d.next)).setCell ⟨w.heap.size, 2, none⟩ (.slice A1 m1 k1)).setCell ⟨w.heap.size, 3, none⟩ (.slice A2 m2 k2)).setCell ⟨w.heap.size, 4, none⟩ (.slice A3 m3 k3)) w2.heap.size 49 2 (.slice A2 m2 k2) (lnkR d.dir)) := (((((o2.other (o2.below (show w.heap.size < w2.heap.size by omega)) 0 (.int .i64 d.room)).other (o2.below (show w.heap.size < w2.heap.size by omega)) 1 (.int .i64 d.next)).other (o2.below (show w.heap.size < w2.heap.size by omega)) 2 (.slice A1 m1 k1)).other (o2.below (show w.heap.size < w2.heap.size by omega)) 3 (.slice A2 m2 k2)).other (o2.below (show w.heap.size < w2.heap.size by omega)) 4 (.slice A3 m3 k3))
    have HP3 : Hid (Owns (((((w3.setCell ⟨w.heap.size, 0, none⟩ (.int .i64 d.room)).setCell ⟨w.heap.size, 1, none⟩ (.int .i64 d.next)).setCell ⟨w.heap.size, 2, none⟩ (.slice A1 m1 k1)).setCell ⟨w.heap.size, 3, none⟩ (.slice A2 m2 k2)).setCell ⟨w.heap.size, 4, none⟩ (.slice A3 m3 k3)) w2.heap.size 51 4 (.slice A3 m3 k3) (movR d.movs)) := (((((o3.other (o3.below (show w.heap.size < w2.heap.size by omega)) 0 (.int .i64 d.room)).other (o3.below (show w.heap.size < w2.heap.size by omega)) 1 (.int .i64 d.next)).other (o3.below (show w.heap.size < w2.heap.size by omega)) 2 (.slice A1 m1 k1)).other (o3.below (show w.heap.size < w2.heap.size by omega)) 3 (.slice A2 m2 k2)).other (o3.below (show w.heap.size < w2.heap.size by omega)) 4 (.slice A3 m3 k3))
    have HPB : Hid (Below w.heap.size w (((((w3.setCell ⟨w.heap.size, 0, none⟩ (.int .i64 d.room)).setCell ⟨w.heap.size, 1, none⟩ (.int .i64 d.next)).setCell ⟨w.heap.size, 2, none⟩ (.slice A1 m1 k1)).setCell ⟨w.heap.size, 3, none⟩ (.slice A2 m2 k2)).setCell ⟨w.heap.size, 4, none⟩ (.slice A3 m3 k3))) := (((((B3.out.setCell (Nat.le_refl _) (.int .i64 d.room) (p := ⟨_, 0, none⟩)).setCell (Nat.le_refl _) (.int .i64 d.next) (p := ⟨_, 1, none⟩)).setCell (Nat.le_refl _) (.slice A1 m1 k1) (p := ⟨_, 2, none⟩)).setCell (Nat.le_refl _) (.slice A2 m2 k2) (p := ⟨_, 3, none⟩)).setCell (Nat.le_refl _) (.slice A3 m3 k3) (p := ⟨_, 4, none⟩))
    have HPK : Hid (Blk (((((w3.setCell ⟨w.heap.size, 0, none⟩ (.int .i64 d.room)).setCell ⟨w.heap.size, 1, none⟩ (.int .i64 d.next)).setCell ⟨w.heap.size, 2, none⟩ (.slice A1 m1 k1)).setCell ⟨w.heap.size, 3, none⟩ (.slice A2 m2 k2)).setCell ⟨w.heap.size, 4, none⟩ (.slice A3 m3 k3)) w.heap.size #[.int .i64 d.room, .int .i64 d.next, .slice A1 m1 k1, .slice A2 m2 k2, .slice A3 m3 k3] 28) := (((((K3.out.set 0 (.int .i64 d.room)).set 1 (.int .i64 d.next)).set 2 (.slice A1 m1 k1)).set 3 (.slice A2 m2 k2)).set 4 (.slice A3 m3 k3))
    have HPR : Hid (Blk (((((w3.setCell ⟨w.heap.size, 0, none⟩ (.int .i64 d.room)).setCell ⟨w.heap.size, 1, none⟩ (.int .i64 d.next)).setCell ⟨w.heap.size, 2, none⟩ (.slice A1 m1 k1)).setCell ⟨w.heap.size, 3, none⟩ (.slice A2 m2 k2)).setCell ⟨w.heap.size, 4, none⟩ (.slice A3 m3 k3)) (w.heap.size + 1) #[.int .i64 0, .int .i64 0, .slice none 0 0, .slice none 0 0, .slice none 0 0] 28) := (((((R3.out.other (show w.heap.size + 1 ≠ w.heap.size by omega) 0 (.int .i64 d.room)).other (show w.heap.size + 1 ≠ w.heap.size by omega) 1 (.int .i64 d.next)).other (show w.heap.size + 1 ≠ w.heap.size by omega) 2 (.slice A1 m1 k1)).other (show w.heap.size + 1 ≠ w.heap.size by omega) 3 (.slice A2 m2 k2)).other (show w.heap.size + 1 ≠ w.heap.size by omega) 4 (.slice A3 m3 k3))
    clear cC hb3 y0 y1 y2 y3 y4 K2 R2 o1 o2 o3 R3
    have e0 := K3.out.cell 0 _ rfl
    have t0 := K3.out.free 0
    have e1 := K3.out.cell 1 _ rfl
    have t1 := K3.out.free 1
    have e2 := K3.out.cell 2 _ rfl
    have t2 := K3.out.free 2
    have e3 := K3.out.cell 3 _ rfl
    have t3 := K3.out.free 3
    have e4 := K3.out.cell 4 _ rfl
    have t4 := K3.out.free 4
    go_wp2_with fail
    clear e0 t0 e1 t1 e2 t2 e3 t3 e4 t4
    generalize (((((w3.setCell ⟨w.heap.size, 0, none⟩ (.int .i64 d.room)).setCell ⟨w.heap.size, 1, none⟩ (.int .i64 d.next)).setCell ⟨w.heap.size, 2, none⟩ (.slice A1 m1 k1)).setCell ⟨w.heap.size, 3, none⟩ (.slice A2 m2 k2)).setCell ⟨w.heap.size, 4, none⟩ (.slice A3 m3 k3)) = Y at *
    have hDV : DiskV Y Y.heap.size (.agg #[.int .i64 d.room, .int .i64 d.next, .slice A1 m1 k1, .slice A2 m2 k2, .slice A3 m3 k3]) d := ⟨_, _, _, rfl, HP1.out.lies, HP2.out.lies, HP3.out.lies⟩
    refine (findV d (.agg #[.int .i64 d.room, .int .i64 d.next, .slice A1 m1 k1, .slice A2 m2 k2, .slice A3 m3 k3]) name Y Y.heap.size hDV HF.out HSZ.out.1 (by have := HSZ.out; omega) (Nat.le_refl _)).mono ?_
    rintro e w5 ⟨rfl, hb5⟩
    rw [HFD.out]
    have ei : idxV (some j) = (j : Int) := rfl
    rw [ei]
    obtain ⟨rfl, g, rfl, hgl⟩ := own_at HP1.out (by have := HJ.out; omega)
    have Q1 : Hid (Owns w5 w2.heap.size 47 3 (.slice (some ⟨g, 0, none⟩) d.nods.length k1) (nodR d.nods)) := HP1.out.on hb5
    have Q2 : Hid (Owns w5 w2.heap.size 49 2 (.slice A2 m2 k2) (lnkR d.dir)) := HP2.out.on hb5
    have Q3 : Hid (Owns w5 w2.heap.size 51 4 (.slice A3 m3 k3) (movR d.movs)) := HP3.out.on hb5
    have QB : Hid (Below w.heap.size w w5) := HPB.out.trans (hb5.mono HPB.out.size)
    have QK : Hid (Blk w5 w.heap.size #[.int .i64 d.room, .int .i64 d.next, .slice (some ⟨g, 0, none⟩) d.nods.length k1, .slice A2 m2 k2, .slice A3 m3 k3] 28) := HPK.out.on hb5 HPK.out.lt
    have QR : Hid (Blk w5 (w.heap.size + 1) #[.int .i64 0, .int .i64 0, .slice none 0 0, .slice none 0 0, .slice none 0 0] 28) := HPR.out.on hb5 HPR.out.lt
    have HG : Hid (w2.heap.size ≤ g) := hgl
    have q1 : (d.nods.length : Int) ≤ 10 := by have := HSZ.out; omega
    have q4 : (j : Int) < (d.nods.length : Int) := by have := HJ.out; omega
    have q5 : (0 : Int) ≤ (j : Int) := by omega
    have cD : w5.cell? ⟨g, j * 3 + 1, none⟩ = some (.string (d.nods.getD j default).data) := (by obtain ⟨A, cp, e, hl⟩ := nod_look Q1.out.lies; obtain ⟨g2, off, e2, _, _, h1, _⟩ := hl j HJ.out; cases e; cases e2; simpa using h1)
    have fS := (Q1.out.nodAt HJ.out).free2 (nodR_length _) (j * 3 + 1)
    have PK := Q1.out.pokeData HJ.out ((d.nods.getD j default).data ++ more)
    have P1 : Hid (Owns (w5.setCell ⟨g, j * 3 + 1, none⟩ (.string ((d.nods.getD j default).data ++ more))) w2.heap.size 47 3 (.slice (some ⟨g, 0, none⟩) d.nods.length k1) (nodR (d.nods.set j ⟨(d.nods.getD j default).id, (d.nods.getD j default).data ++ more, (d.nods.getD j default).sure⟩))) := PK
    have x2 := QK.out.cell 2 _ rfl
    clear HP1 HP2 HP3 HPB HPK HPR hb5 hDV hgl PK
    have qs := HQS.out
    generalize hxd : (d.nods.getD j default).data = xd at *
    generalize hxs : (d.nods.getD j default).sure = xs at *
    generalize hNN : d.nods.length = N at *
    have hcat : ¬ 9223372036854775807 < xd.size + more.size := by omega
    go_wp2_with fail
    have S0 : Hid (w5.drew.cell? ⟨w.heap.size, 2, none⟩ = some (.slice (some ⟨g, 0, none⟩) N k1) ∧ w5.drew.cell? ⟨g, j * 3 + 1, none⟩ = some (.string xd)) := ⟨x2, cD⟩
    refine wp_region_until (fun w' => w'.cell? ⟨w.heap.size, 2, none⟩ = some (.slice (some ⟨g, 0, none⟩) N k1) ∧ w'.cell? ⟨g, j * 3 + 1, none⟩ = some (.string xd)) (fun i => i == 13) 14 (by rfl) (by kernel_rfl) ?_
    refine until_take 0 (v := ?vkok0) (by rfl) (by kernel_rfl) (by exact fun _ _ _ h => h) (by rfl) ?hykok0 S0.out ?rkok0
    case hykok0 =>
     intro w hSw
     try dsimp only at hSw
     go_simp
     try with_reducible rfl
    try simp only [Act.put, zQ1, zQ2, zQ3]
    refine until_take 1 (v := ?vkok1) (by rfl) (by kernel_rfl) (by exact fun _ _ _ h => h) (by rfl) ?hykok1 S0.out ?rkok1
    case hykok1 =>
     intro w hSw
     try dsimp only at hSw
     go_simp
     try with_reducible rfl
    try simp only [Act.put, zQ1, zQ2, zQ3]
    refine until_take 2 (v := ?vkok2) (by rfl) (by kernel_rfl) (by exact fun _ _ _ h => h) (by rfl) ?hykok2 S0.out ?rkok2
    case hykok2 =>
     intro w hSw
     try dsimp only at hSw
     go_simp
     try with_reducible rfl
    try simp only [Act.put, zQ1, zQ2, zQ3]
    refine until_take 3 (v := ?vkok3) (by rfl) (by kernel_rfl) (by exact fun _ _ _ h => h) (by rfl) ?hykok3 S0.out ?rkok3
    case hykok3 =>
     intro w hSw
     try dsimp only at hSw
     go_simp
     try with_reducible rfl
    try simp only [Act.put, zQ1, zQ2, zQ3]
    refine until_take 4 (v := ?vkok4) (by rfl) (by kernel_rfl) (by exact fun _ _ _ h => h) (by rfl) ?hykok4 S0.out ?rkok4
    case hykok4 =>
     intro w hSw
     try dsimp only at hSw
     go_simp
     try with_reducible rfl
    try simp only [Act.put, zQ1, zQ2, zQ3]
    refine until_take 5 (v := ?vkok5) (by rfl) (by kernel_rfl) (by exact fun _ _ _ h => h) (by rfl) ?hykok5 S0.out ?rkok5
    case hykok5 =>
     intro w hSw
     try dsimp only at hSw
     go_simp
     try with_reducible rfl
    try simp only [Act.put, zQ1, zQ2, zQ3]
    refine until_take 6 (v := ?vkok6) (by rfl) (by kernel_rfl) (by exact fun _ _ _ h => h) (by rfl) ?hykok6 S0.out ?rkok6
    case hykok6 =>
     intro w hSw
     try dsimp only at hSw
     go_simp
     try with_reducible rfl
    try simp only [Act.put, zQ1, zQ2, zQ3]
    refine until_take 7 (v := ?vkok7) (by rfl) (by kernel_rfl) (by exact fun _ _ _ h => h) (by rfl) ?hykok7 S0.out ?rkok7
    case hykok7 =>
     intro w hSw
     try dsimp only at hSw
     go_simp
     try with_reducible rfl
    try simp only [Act.put, zQ1, zQ2, zQ3]
    refine until_take 8 (v := ?vkok8) (by rfl) (by kernel_rfl) (by exact fun _ _ _ h => h) (by rfl) ?hykok8 S0.out ?rkok8
    case hykok8 =>
     intro w hSw
     try dsimp only at hSw
     go_simp
     try with_reducible rfl
    try simp only [Act.put, zQ1, zQ2, zQ3]
    refine until_take 9 (v := ?vkok9) (by rfl) (by kernel_rfl) (by exact fun _ _ _ h => h) (by rfl) ?hykok9 S0.out ?rkok9
    case hykok9 =>
     intro w hSw
     try dsimp only at hSw
     go_simp
     try with_reducible rfl
    try simp only [Act.put, zQ1, zQ2, zQ3]
    refine until_take 10 (v := ?vkok10) (by rfl) (by kernel_rfl) (by exact fun _ _ _ h => h) (by rfl) ?hykok10 S0.out ?rkok10
    case hykok10 =>
     intro w hSw
     try dsimp only at hSw
     go_simp
     try with_reducible rfl
    try simp only [Act.put, zQ1, zQ2, zQ3]
    refine until_take 11 (v := ?vkok11) (by rfl) (by kernel_rfl) (by exact fun _ _ _ h => h) (by rfl) ?hykok11 S0.out ?rkok11
    case hykok11 =>
     intro w hSw
     try dsimp only at hSw
     go_simp
     try with_reducible rfl
    try simp only [Act.put, zQ1, zQ2, zQ3]
    refine until_take 12 (v := ?vkok12) (by rfl) (by kernel_rfl) (by exact fun _ _ _ h => h) (by rfl) ?hykok12 S0.out ?rkok12
    case hykok12 =>
     intro w hSw
     try dsimp only at hSw
     go_simp
     try with_reducible rfl
    try simp only [Act.put, zQ1, zQ2, zQ3]
    refine uNe 13 (fun K hK => ?_)
    go_simp
    refine hK.out _ _ (fun h => by cases h) ?_
    clear hK K
    refine until_done (by kernel_rfl) ?_ _
    have hgw : w.heap.size + 1 < g := Nat.lt_of_lt_of_le hz HG.out
    have zK : Blk (w5.setCell ⟨g, j * 3 + 1, none⟩ (.string (xd ++ more))).drew w.heap.size #[.int .i64 d.room, .int .i64 d.next, .slice (some ⟨g, 0, none⟩) N k1, .slice A2 m2 k2, .slice A3 m3 k3] 28 := QK.out.other (by omega) _ _
    have zR : Blk (w5.setCell ⟨g, j * 3 + 1, none⟩ (.string (xd ++ more))).drew (w.heap.size + 1) #[.int .i64 0, .int .i64 0, .slice none 0 0, .slice none 0 0, .slice none 0 0] 28 := QR.out.other (by omega) _ _
    have z1 := P1.out.kept (w' := (w5.setCell ⟨g, j * 3 + 1, none⟩ (.string (xd ++ more))).drew) fun _ _ _ => rfl
    have z2 := (Q2.out.other (Q1.out.apart Q2.out (by decide) g rfl) (j * 3 + 1) (.string (xd ++ more))).kept (w' := (w5.setCell ⟨g, j * 3 + 1, none⟩ (.string (xd ++ more))).drew) fun _ _ _ => rfl
    have z3 := (Q3.out.other (Q1.out.apart Q3.out (by decide) g rfl) (j * 3 + 1) (.string (xd ++ more))).kept (w' := (w5.setCell ⟨g, j * 3 + 1, none⟩ (.string (xd ++ more))).drew) fun _ _ _ => rfl
    have zB : Below w.heap.size w (w5.setCell ⟨g, j * 3 + 1, none⟩ (.string (xd ++ more))).drew := (QB.out.setCell (p := ⟨g, j * 3 + 1, none⟩) (show w.heap.size ≤ g by omega) _).drew
    clear cD fS x2 S0 Q1 Q2 Q3 QB QK QR P1
    generalize (w5.setCell ⟨g, j * 3 + 1, none⟩ (.string (xd ++ more))).drew = Z at *
    have ZK : Hid (Blk Z w.heap.size #[.int .i64 d.room, .int .i64 d.next, .slice (some ⟨g, 0, none⟩) N k1, .slice A2 m2 k2, .slice A3 m3 k3] 28) := zK
    have ZR : Hid (Blk Z (w.heap.size + 1) #[.int .i64 0, .int .i64 0, .slice none 0 0, .slice none 0 0, .slice none 0 0] 28) := zR
    have Z1 : Hid (Owns Z w2.heap.size 47 3 (.slice (some ⟨g, 0, none⟩) N k1) _) := z1
    have Z2 : Hid (Owns Z w2.heap.size 49 2 (.slice A2 m2 k2) (lnkR d.dir)) := z2
    have Z3 : Hid (Owns Z w2.heap.size 51 4 (.slice A3 m3 k3) (movR d.movs)) := z3
    have ZB : Hid (Below w.heap.size w Z) := zB
    clear zK zR z1 z2 z3 zB
    have r0 := ZK.out.cell 0 _ rfl
    have r1 := ZK.out.cell 1 _ rfl
    have r2 := ZK.out.cell 2 _ rfl
    have r3 := ZK.out.cell 3 _ rfl
    have r4 := ZK.out.cell 4 _ rfl
    have g0 := ZR.out.cell 0 _ rfl
    have f0 := ZR.out.free 0
    have g1 := ZR.out.cell 1 _ rfl
    have f1 := ZR.out.free 1
    have g2 := ZR.out.cell 2 _ rfl
    have f2 := ZR.out.free 2
    have g3 := ZR.out.cell 3 _ rfl
    have f3 := ZR.out.free 3
    have g4 := ZR.out.cell 4 _ rfl
    have f4 := ZR.out.free 4
    go_wp2_with fail
    have hB := ZB.out
    clear r0 r1 r2 r3 r4
    have FB := (((((hB.setCell hg (.int .i64 d.room) (p := ⟨_, 0, none⟩)).setCell hg (.int .i64 d.next) (p := ⟨_, 1, none⟩)).setCell hg (.slice (some ⟨g, 0, none⟩) N k1) (p := ⟨_, 2, none⟩)).setCell hg (.slice A2 m2 k2) (p := ⟨_, 3, none⟩)).setCell hg (.slice A3 m3 k3) (p := ⟨_, 4, none⟩))
    have hF := (((((ZR.out.set 0 (.int .i64 d.room)).set 1 (.int .i64 d.next)).set 2 (.slice (some ⟨g, 0, none⟩) N k1)).set 3 (.slice A2 m2 k2)).set 4 (.slice A3 m3 k3))
    have mm0 := Z1.out.notBlk ZR.out (by decide)
    have F0 := (((((Z1.out.other mm0 0 (.int .i64 d.room)).other mm0 1 (.int .i64 d.next)).other mm0 2 (.slice (some ⟨g, 0, none⟩) N k1)).other mm0 3 (.slice A2 m2 k2)).other mm0 4 (.slice A3 m3 k3))
    have mm1 := Z2.out.notBlk ZR.out (by decide)
    have F1 := (((((Z2.out.other mm1 0 (.int .i64 d.room)).other mm1 1 (.int .i64 d.next)).other mm1 2 (.slice (some ⟨g, 0, none⟩) N k1)).other mm1 3 (.slice A2 m2 k2)).other mm1 4 (.slice A3 m3 k3))
    have mm2 := Z3.out.notBlk ZR.out (by decide)
    have F2 := (((((Z3.out.other mm2 0 (.int .i64 d.room)).other mm2 1 (.int .i64 d.next)).other mm2 2 (.slice (some ⟨g, 0, none⟩) N k1)).other mm2 3 (.slice A2 m2 k2)).other mm2 4 (.slice A3 m3 k3))
    clear g0 f0 g1 f1 g2 f2 g3 f3 g4 f4
    generalize (((((Z.setCell ⟨w.heap.size + 1, 0, none⟩ (.int .i64 d.room)).setCell ⟨w.heap.size + 1, 1, none⟩ (.int .i64 d.next)).setCell ⟨w.heap.size + 1, 2, none⟩ (.slice (some ⟨g, 0, none⟩) N k1)).setCell ⟨w.heap.size + 1, 3, none⟩ (.slice A2 m2 k2)).setCell ⟨w.heap.size + 1, 4, none⟩ (.slice A3 m3 k3)) = WF at *
    have hG : Blk WF (w.heap.size + 1) #[.int .i64 d.room, .int .i64 d.next, .slice (some ⟨g, 0, none⟩) N k1, .slice A2 m2 k2, .slice A3 m3 k3] 28 := hF
    have l0 := hG.cell 0 (.int .i64 d.room) rfl
    have l1 := hG.cell 1 (.int .i64 d.next) rfl
    have l2 := hG.cell 2 (.slice (some ⟨g, 0, none⟩) N k1) rfl
    have l3 := hG.cell 3 (.slice A2 m2 k2) rfl
    have l4 := hG.cell 4 (.slice A3 m3 k3) rfl
    exact bodyPost_ret (v := .tuple #[.agg #[.int .i64 d.room, .int .i64 d.next, .slice (some ⟨g, 0, none⟩) N k1, .slice A2 m2 k2, .slice A3 m3 k3], .int .i64 0]) (by simp [results, go_sem, l0, l1, l2, l3, l4]) rfl (by rw [hRRh.out]; exact ⟨_, rfl, ⟨_, _, _, rfl, F0.mono hm, F1.mono hm, F2.mono hm⟩, FB⟩)
  ·have hc : addC d name more = named d name := addC_no hnc
   have hRR : addR d name more = (d, named d name) := by rw [HRR.out, addD_no (by rw [hc]; exact hnc), hc]
   have t1 : (named d name == 0) = false := by simpa using hnc
   clear hc hnc HRR
   generalize named d name = nc at *
   go_wp2_with fail
   have S0 : Hid (w1.drew.cell? ⟨w.heap.size, 0, none⟩ = some (.int .i64 d.room) ∧ w1.drew.cell? ⟨w.heap.size, 1, none⟩ = some (.int .i64 d.next) ∧ w1.drew.cell? ⟨w.heap.size, 2, none⟩ = some v1 ∧ w1.drew.cell? ⟨w.heap.size, 3, none⟩ = some v2 ∧ w1.drew.cell? ⟨w.heap.size, 4, none⟩ = some v3) := ⟨K1.out.cell 0 _ rfl, K1.out.cell 1 _ rfl, K1.out.cell 2 _ rfl, K1.out.cell 3 _ rfl, K1.out.cell 4 _ rfl⟩
   refine wp_region_until (fun w' => w'.cell? ⟨w.heap.size, 0, none⟩ = some (.int .i64 d.room) ∧ w'.cell? ⟨w.heap.size, 1, none⟩ = some (.int .i64 d.next) ∧ w'.cell? ⟨w.heap.size, 2, none⟩ = some v1 ∧ w'.cell? ⟨w.heap.size, 3, none⟩ = some v2 ∧ w'.cell? ⟨w.heap.size, 4, none⟩ = some v3) (fun i => false) 12 (by rfl) (by kernel_rfl) ?_
   refine until_pure 0 (v := ?vano0) (by rfl) (by kernel_rfl) (by exact fun _ _ _ h => h) (by rfl) ?hyano0 ?rano0
   case hyano0 =>
    intro w
    go_simp
    try with_reducible rfl
   try simp only [Act.put, zQ1, zQ2, zQ3]
   refine until_pure 1 (v := ?vano1) (by rfl) (by kernel_rfl) (by exact fun _ _ _ h => h) (by rfl) ?hyano1 ?rano1
   case hyano1 =>
    intro w
    go_simp
    try with_reducible rfl
   try simp only [Act.put, zQ1, zQ2, zQ3]
   refine until_pure 2 (v := ?vano2) (by rfl) (by kernel_rfl) (by exact fun _ _ _ h => h) (by rfl) ?hyano2 ?rano2
   case hyano2 =>
    intro w
    go_simp
    try with_reducible rfl
   try simp only [Act.put, zQ1, zQ2, zQ3]
   refine until_skip 3 (by rfl) (by kernel_rfl) (by exact fun _ _ _ h => h) (by rfl) ?rsno3
   try simp only [Act.put, zQ1, zQ2, zQ3]
   refine until_skip 4 (by rfl) (by kernel_rfl) (by exact fun _ _ _ h => h) (by rfl) ?rsno4
   try simp only [Act.put, zQ1, zQ2, zQ3]
   refine until_skip 5 (by rfl) (by kernel_rfl) (by exact fun _ _ _ h => h) (by rfl) ?rsno5
   try simp only [Act.put, zQ1, zQ2, zQ3]
   refine until_skip 6 (by rfl) (by kernel_rfl) (by exact fun _ _ _ h => h) (by rfl) ?rsno6
   try simp only [Act.put, zQ1, zQ2, zQ3]
   refine until_skip 7 (by rfl) (by kernel_rfl) (by exact fun _ _ _ h => h) (by rfl) ?rsno7
   try simp only [Act.put, zQ1, zQ2, zQ3]
   refine until_skip 8 (by rfl) (by kernel_rfl) (by exact fun _ _ _ h => h) (by rfl) ?rsno8
   try simp only [Act.put, zQ1, zQ2, zQ3]
   refine until_skip 9 (by rfl) (by kernel_rfl) (by exact fun _ _ _ h => h) (by rfl) ?rsno9
   try simp only [Act.put, zQ1, zQ2, zQ3]
   refine until_skip 10 (by rfl) (by kernel_rfl) (by exact fun _ _ _ h => h) (by rfl) ?rsno10
   try simp only [Act.put, zQ1, zQ2, zQ3]
   refine until_pure 11 (v := ?vano11) (by rfl) (by kernel_rfl) (by exact fun _ _ _ h => h) (by rfl) ?hyano11 ?rano11
   case hyano11 =>
    intro w
    go_simp
    try with_reducible rfl
   try simp only [Act.put, zQ1, zQ2, zQ3]
   refine until_done (by kernel_rfl) ?_ _
   have B2 : Hid (Below w.heap.size w w1.drew) := B1.out.drew
   have K2 : Hid (Blk w1.drew w.heap.size #[.int .i64 d.room, .int .i64 d.next, v1, v2, v3] 28) := K1.out
   have R2 : Hid (Blk w1.drew (w.heap.size + 1) #[.int .i64 0, .int .i64 0, .slice none 0 0, .slice none 0 0, .slice none 0 0] 28) := R1.out
   generalize w1.drew = w2 at *
   clear S0 K1 R1
   have cC := copyV d (.agg #[.int .i64 d.room, .int .i64 d.next, v1, v2, v3]) w2 B (HV.out.on (B2.out.mono HB.out)) (by have := HSZ.out; omega) HSZ.out.2.2.1 HSZ.out.2.2.2 (Nat.le_trans HB.out B2.out.size)
   have y0 := K2.out.cell 0 _ rfl
   have y1 := K2.out.cell 1 _ rfl
   have y2 := K2.out.cell 2 _ rfl
   have y3 := K2.out.cell 3 _ rfl
   have y4 := K2.out.cell 4 _ rfl
   go_wp2_with fail
   refine cC.mono ?_
   rintro e w3 ⟨x, rfl, hO3, hb3⟩
   have B3 : Hid (Below w.heap.size w w3) := B2.out.trans (hb3.mono B2.out.size)
   have K3 : Hid (Blk w3 w.heap.size #[.int .i64 d.room, .int .i64 d.next, v1, v2, v3] 28) := K2.out.on hb3 K2.out.lt
   have R3 : Hid (Blk w3 (w.heap.size + 1) #[.int .i64 0, .int .i64 0, .slice none 0 0, .slice none 0 0, .slice none 0 0] 28) := R2.out.on hb3 R2.out.lt
   obtain ⟨x1, x2, x3, rfl, o1, o2, o3⟩ := hO3
   obtain ⟨A1, m1, k1, rfl⟩ := o1.shape
   obtain ⟨A2, m2, k2, rfl⟩ := o2.shape
   obtain ⟨A3, m3, k3, rfl⟩ := o3.shape
   have hz : w.heap.size + 1 < w2.heap.size := R2.out.lt
   have hm : w.heap.size ≤ w2.heap.size := B2.out.size
   have HP1 : Hid (Owns (((((w3.setCell ⟨w.heap.size, 0, none⟩ (.int .i64 d.room)).setCell ⟨w.heap.size, 1, none⟩ (.int .i64 d.next)).setCell ⟨w.heap.size, 2, none⟩ (.slice A1 m1 k1)).setCell ⟨w.heap.size, 3, none⟩ (.slice A2 m2 k2)).setCell ⟨w.heap.size, 4, none⟩ (.slice A3 m3 k3)) w2.heap.size 47 3 (.slice A1 m1 k1) (nodR d.nods)) := (((((o1.other (o1.below (show w.heap.size < w2.heap.size by omega)) 0 (.int .i64 d.room)).other (o1.below (show w.heap.size < w2.heap.size by omega)) 1 (.int .i64 d.next)).other (o1.below (show w.heap.size < w2.heap.size by omega)) 2 (.slice A1 m1 k1)).other (o1.below (show w.heap.size < w2.heap.size by omega)) 3 (.slice A2 m2 k2)).other (o1.below (show w.heap.size < w2.heap.size by omega)) 4 (.slice A3 m3 k3))
   have HP2 : Hid (Owns (((((w3.setCell ⟨w.heap.size, 0, none⟩ (.int .i64 d.room)).setCell ⟨w.heap.size, 1, none⟩ (.int .i64 d.next)).setCell ⟨w.heap.size, 2, none⟩ (.slice A1 m1 k1)).setCell ⟨w.heap.size, 3, none⟩ (.slice A2 m2 k2)).setCell ⟨w.heap.size, 4, none⟩ (.slice A3 m3 k3)) w2.heap.size 49 2 (.slice A2 m2 k2) (lnkR d.dir)) := (((((o2.other (o2.below (show w.heap.size < w2.heap.size by omega)) 0 (.int .i64 d.room)).other (o2.below (show w.heap.size < w2.heap.size by omega)) 1 (.int .i64 d.next)).other (o2.below (show w.heap.size < w2.heap.size by omega)) 2 (.slice A1 m1 k1)).other (o2.below (show w.heap.size < w2.heap.size by omega)) 3 (.slice A2 m2 k2)).other (o2.below (show w.heap.size < w2.heap.size by omega)) 4 (.slice A3 m3 k3))
   have HP3 : Hid (Owns (((((w3.setCell ⟨w.heap.size, 0, none⟩ (.int .i64 d.room)).setCell ⟨w.heap.size, 1, none⟩ (.int .i64 d.next)).setCell ⟨w.heap.size, 2, none⟩ (.slice A1 m1 k1)).setCell ⟨w.heap.size, 3, none⟩ (.slice A2 m2 k2)).setCell ⟨w.heap.size, 4, none⟩ (.slice A3 m3 k3)) w2.heap.size 51 4 (.slice A3 m3 k3) (movR d.movs)) := (((((o3.other (o3.below (show w.heap.size < w2.heap.size by omega)) 0 (.int .i64 d.room)).other (o3.below (show w.heap.size < w2.heap.size by omega)) 1 (.int .i64 d.next)).other (o3.below (show w.heap.size < w2.heap.size by omega)) 2 (.slice A1 m1 k1)).other (o3.below (show w.heap.size < w2.heap.size by omega)) 3 (.slice A2 m2 k2)).other (o3.below (show w.heap.size < w2.heap.size by omega)) 4 (.slice A3 m3 k3))
   have HPB : Hid (Below w.heap.size w (((((w3.setCell ⟨w.heap.size, 0, none⟩ (.int .i64 d.room)).setCell ⟨w.heap.size, 1, none⟩ (.int .i64 d.next)).setCell ⟨w.heap.size, 2, none⟩ (.slice A1 m1 k1)).setCell ⟨w.heap.size, 3, none⟩ (.slice A2 m2 k2)).setCell ⟨w.heap.size, 4, none⟩ (.slice A3 m3 k3))) := (((((B3.out.setCell (Nat.le_refl _) (.int .i64 d.room) (p := ⟨_, 0, none⟩)).setCell (Nat.le_refl _) (.int .i64 d.next) (p := ⟨_, 1, none⟩)).setCell (Nat.le_refl _) (.slice A1 m1 k1) (p := ⟨_, 2, none⟩)).setCell (Nat.le_refl _) (.slice A2 m2 k2) (p := ⟨_, 3, none⟩)).setCell (Nat.le_refl _) (.slice A3 m3 k3) (p := ⟨_, 4, none⟩))
   have HPK : Hid (Blk (((((w3.setCell ⟨w.heap.size, 0, none⟩ (.int .i64 d.room)).setCell ⟨w.heap.size, 1, none⟩ (.int .i64 d.next)).setCell ⟨w.heap.size, 2, none⟩ (.slice A1 m1 k1)).setCell ⟨w.heap.size, 3, none⟩ (.slice A2 m2 k2)).setCell ⟨w.heap.size, 4, none⟩ (.slice A3 m3 k3)) w.heap.size #[.int .i64 d.room, .int .i64 d.next, .slice A1 m1 k1, .slice A2 m2 k2, .slice A3 m3 k3] 28) := (((((K3.out.set 0 (.int .i64 d.room)).set 1 (.int .i64 d.next)).set 2 (.slice A1 m1 k1)).set 3 (.slice A2 m2 k2)).set 4 (.slice A3 m3 k3))
   have HPR : Hid (Blk (((((w3.setCell ⟨w.heap.size, 0, none⟩ (.int .i64 d.room)).setCell ⟨w.heap.size, 1, none⟩ (.int .i64 d.next)).setCell ⟨w.heap.size, 2, none⟩ (.slice A1 m1 k1)).setCell ⟨w.heap.size, 3, none⟩ (.slice A2 m2 k2)).setCell ⟨w.heap.size, 4, none⟩ (.slice A3 m3 k3)) (w.heap.size + 1) #[.int .i64 0, .int .i64 0, .slice none 0 0, .slice none 0 0, .slice none 0 0] 28) := (((((R3.out.other (show w.heap.size + 1 ≠ w.heap.size by omega) 0 (.int .i64 d.room)).other (show w.heap.size + 1 ≠ w.heap.size by omega) 1 (.int .i64 d.next)).other (show w.heap.size + 1 ≠ w.heap.size by omega) 2 (.slice A1 m1 k1)).other (show w.heap.size + 1 ≠ w.heap.size by omega) 3 (.slice A2 m2 k2)).other (show w.heap.size + 1 ≠ w.heap.size by omega) 4 (.slice A3 m3 k3))
   clear cC hb3 y0 y1 y2 y3 y4 K2 R2 o1 o2 o3 R3
   have e0 := K3.out.cell 0 _ rfl
   have t0 := K3.out.free 0
   have e1 := K3.out.cell 1 _ rfl
   have t1 := K3.out.free 1
   have e2 := K3.out.cell 2 _ rfl
   have t2 := K3.out.free 2
   have e3 := K3.out.cell 3 _ rfl
   have t3 := K3.out.free 3
   have e4 := K3.out.cell 4 _ rfl
   have t4 := K3.out.free 4
   have r0 := HPK.out.cell 0 _ rfl
   have r1 := HPK.out.cell 1 _ rfl
   have r2 := HPK.out.cell 2 _ rfl
   have r3 := HPK.out.cell 3 _ rfl
   have r4 := HPK.out.cell 4 _ rfl
   have g0 := HPR.out.cell 0 _ rfl
   have f0 := HPR.out.free 0
   have g1 := HPR.out.cell 1 _ rfl
   have f1 := HPR.out.free 1
   have g2 := HPR.out.cell 2 _ rfl
   have f2 := HPR.out.free 2
   have g3 := HPR.out.cell 3 _ rfl
   have f3 := HPR.out.free 3
   have g4 := HPR.out.cell 4 _ rfl
   have f4 := HPR.out.free 4
   go_wp2_with fail
   have hB := HPB.out
   clear r0 e0 t0 r1 e1 t1 r2 e2 t2 r3 e3 t3 r4 e4 t4
   have FB := (((((hB.setCell hg (.int .i64 d.room) (p := ⟨_, 0, none⟩)).setCell hg (.int .i64 d.next) (p := ⟨_, 1, none⟩)).setCell hg (.slice A1 m1 k1) (p := ⟨_, 2, none⟩)).setCell hg (.slice A2 m2 k2) (p := ⟨_, 3, none⟩)).setCell hg (.slice A3 m3 k3) (p := ⟨_, 4, none⟩))
   have hF := (((((HPR.out.set 0 (.int .i64 d.room)).set 1 (.int .i64 d.next)).set 2 (.slice A1 m1 k1)).set 3 (.slice A2 m2 k2)).set 4 (.slice A3 m3 k3))
   have mm0 := HP1.out.notBlk HPR.out (by decide)
   have F0 := (((((HP1.out.other mm0 0 (.int .i64 d.room)).other mm0 1 (.int .i64 d.next)).other mm0 2 (.slice A1 m1 k1)).other mm0 3 (.slice A2 m2 k2)).other mm0 4 (.slice A3 m3 k3))
   have mm1 := HP2.out.notBlk HPR.out (by decide)
   have F1 := (((((HP2.out.other mm1 0 (.int .i64 d.room)).other mm1 1 (.int .i64 d.next)).other mm1 2 (.slice A1 m1 k1)).other mm1 3 (.slice A2 m2 k2)).other mm1 4 (.slice A3 m3 k3))
   have mm2 := HP3.out.notBlk HPR.out (by decide)
   have F2 := (((((HP3.out.other mm2 0 (.int .i64 d.room)).other mm2 1 (.int .i64 d.next)).other mm2 2 (.slice A1 m1 k1)).other mm2 3 (.slice A2 m2 k2)).other mm2 4 (.slice A3 m3 k3))
   clear g0 f0 g1 f1 g2 f2 g3 f3 g4 f4
   generalize ((((((((((w3.setCell ⟨w.heap.size, 0, none⟩ (.int .i64 d.room)).setCell ⟨w.heap.size, 1, none⟩ (.int .i64 d.next)).setCell ⟨w.heap.size, 2, none⟩ (.slice A1 m1 k1)).setCell ⟨w.heap.size, 3, none⟩ (.slice A2 m2 k2)).setCell ⟨w.heap.size, 4, none⟩ (.slice A3 m3 k3)).setCell ⟨w.heap.size + 1, 0, none⟩ (.int .i64 d.room)).setCell ⟨w.heap.size + 1, 1, none⟩ (.int .i64 d.next)).setCell ⟨w.heap.size + 1, 2, none⟩ (.slice A1 m1 k1)).setCell ⟨w.heap.size + 1, 3, none⟩ (.slice A2 m2 k2)).setCell ⟨w.heap.size + 1, 4, none⟩ (.slice A3 m3 k3)) = WF at *
   have hG : Blk WF (w.heap.size + 1) #[.int .i64 d.room, .int .i64 d.next, .slice A1 m1 k1, .slice A2 m2 k2, .slice A3 m3 k3] 28 := hF
   have l0 := hG.cell 0 (.int .i64 d.room) rfl
   have l1 := hG.cell 1 (.int .i64 d.next) rfl
   have l2 := hG.cell 2 (.slice A1 m1 k1) rfl
   have l3 := hG.cell 3 (.slice A2 m2 k2) rfl
   have l4 := hG.cell 4 (.slice A3 m3 k3) rfl
   exact bodyPost_ret (v := .tuple #[.agg #[.int .i64 d.room, .int .i64 d.next, .slice A1 m1 k1, .slice A2 m2 k2, .slice A3 m3 k3], .int .i64 nc]) (by simp [results, go_sem, l0, l1, l2, l3, l4]) rfl (by rw [hRR]; exact ⟨_, rfl, ⟨_, _, _, rfl, F0.mono hm, F1.mono hm, F2.mono hm⟩, FB⟩)
end Go.Proofs.YtgjilgecklhglaaGreat
namespace Go.Proofs.YtgjilgecklhglaaGreat
open Go.ChangeShapes Go.WideShapes Go.ChangeAt Go.RowKit Go.PlainAid
set_option linter.unusedVariables false
def syncR (d : Dsk) (name : ByteArray) : Dsk × Int := if diskOk d = true then (syncD d name, named d name) else (zeroD, 1)
theorem syncR_yes {d : Dsk} {name : ByteArray} (h : diskOk d = true) : syncR d name = (syncD d name, named d name) := by unfold syncR; rw [if_pos h]
theorem syncR_no {d : Dsk} {name : ByteArray} (h : diskOk d = false) : syncR d name = (zeroD, 1) := by unfold syncR; rw [if_neg (by rw [h]; simp)]
end Go.Proofs.YtgjilgecklhglaaGreat
