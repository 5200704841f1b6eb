/-
  The contracts of impl.Add and spec.Add.
-/
import Derived.Test.YtnnfnhpehacelaaGreatCA
import Derived.Test.YtnnfnhpehacelaaGreatRows
import Derived.Test.YtnnfnhpehacelaaGreatDkOkD
import Derived.Test.YtnnfnhpehacelaaGreatUntil
import Derived.Test.YtnnfnhpehacelaaGreatImChange
import Derived.Test.YtnnfnhpehacelaaGreatImFind
import Derived.Test.YtnnfnhpehacelaaGreatDkMkD
import Derived.Test.YtnnfnhpehacelaaGreatImTakeI
import Derived.Maps.Ext
import Derived.Test.YtnnfnhpehacelaaGreatImClone
import Derived.Test.YtnnfnhpehacelaaGreatImOpen
import Derived.Test.YtnnfnhpehacelaaGreatImFindA
import Derived.Maps.RangeWalk
import Derived.Carry
import Derived.Test.YtnnfnhpehacelaaGreatImTakeM
import Derived.Test.YtnnfnhpehacelaaGreatImToldO
import Derived.Test.YtnnfnhpehacelaaGreatDkRead
import Derived.Test.YtnnfnhpehacelaaGreatDkNames
import Derived.Test.YtnnfnhpehacelaaGreatDkSz
namespace Go.Proofs.YtnnfnhpehacelaaGreat
open Go.ChangeShapes Go.WideShapes Go.ChangeAt Go.RowKit Go.PlainAid
set_option linter.unusedVariables false

/-- The code of an Add. -/
def addC (d : Dsk) (name more : ByteArray) : Int := if named d name = 0 then (if d.room - (bytesOf d.nods : Int) < (more.size : Int) then 4 else 0) else named d name
/-- A disk behind an Add. -/
def addD (d : Dsk) (name more : ByteArray) : Dsk :=
  if addC d name more = 0 then match find d name with
    | none => d
    | some j => ⟨d.room, d.next, d.nods.set j ⟨(d.nods.getD j default).id, (d.nods.getD j default).data ++ more, (d.nods.getD j default).sure⟩, d.dir, d.movs⟩
  else d
theorem addC_no {d : Dsk} {name more : ByteArray} (h : named d name ≠ 0) : addC d name more = named d name := by unfold addC; rw [if_neg h]
theorem addC_full {d : Dsk} {name more : ByteArray} (h : named d name = 0) (hf : d.room - (bytesOf d.nods : Int) < (more.size : Int)) : addC d name more = 4 := by unfold addC; rw [if_pos h, if_pos hf]
theorem addC_ok {d : Dsk} {name more : ByteArray} (h : named d name = 0) (hf : ¬ d.room - (bytesOf d.nods : Int) < (more.size : Int)) : addC d name more = 0 := by unfold addC; rw [if_pos h, if_neg hf]
theorem addD_no {d : Dsk} {name more : ByteArray} (h : addC d name more ≠ 0) : addD d name more = d := by unfold addD; rw [if_neg h]
theorem addD_ok {d : Dsk} {name more : ByteArray} {j : Nat} (h : addC d name more = 0) (hf : find d name = some j) : addD d name more = ⟨d.room, d.next, d.nods.set j ⟨(d.nods.getD j default).id, (d.nods.getD j default).data ++ more, (d.nods.getD j default).sure⟩, d.dir, d.movs⟩ := by unfold addD; rw [if_pos h, hf]

set_option maxHeartbeats 1000000 in
theorem addDataV (w : World) (base p : Nat) (d : Dsk) (bi bd bw : Nat) (gs : List Nat) (u : Value) (name more : ByteArray) (h : OpenD w base p d bi bd bw gs u) (hd : Whole d) (hw : wtD d ≤ 1048576) (hs : name.size ≤ maxLen) (hs' : more.size ≤ maxLen) (hB : base ≤ w.heap.size) :
    Calls Tryz.prog 61 #[.pointer (some ⟨p, 0, none⟩), .string name, .string more] w fun e w' => e = .returned (.int .i64 (addC d name more)) ∧ Tellable w' p (addD d name more) ∧ Below base w w' := by
  have cF := findI w base p d bi bd bw gs u name h hd hs
  have hR := (sizeOk_iff d).1 hd.size
  have hby := bytes_wt d.nods
  have cS := spareV d.room d.next _ _ _ p bi d.nods gs w h.blk h.it h.held (whole_rising hd) hR.r0 hR.r1 (by unfold wtD at hw; omega)
  have HO : Hid (OpenD w base p d bi bd bw gs u) := h
  have HD : Hid (Whole d) := hd
  have HW : Hid (wtD d ≤ 1048576) := hw
  have HB : Hid (base ≤ w.heap.size) := hB
  have HT : Hid (Tellable w p d) := h.tell hd hw
  have q0 : (0 : Int) ≤ d.room := hR.r0
  have q1 : d.room ≤ 1048576 := hR.r1
  have q2 : (more.size : Int) ≤ 9223372036854775807 := by unfold maxLen at hs'; omega
  clear h hd hs hs' hB hR hby hw
  go_enter Tryz.func61, Tryz.ntmps61
  go_wp2_with fail
  refine cF.mono ?_
  rintro e w1 ⟨rfl, hF⟩
  clear cF
  rcases hF with ⟨hn, rfl⟩ | ⟨hn, hf, rfl⟩ | ⟨hn, j, hf, hj, rfl⟩
  · have hc : addC d name more = 1 := by rw [addC_no (by rw [named_bad hn]; omega), named_bad hn]
    have HR : Hid (addC d name more = 1 ∧ addD d name more = d) := ⟨hc, addD_no (by rw [hc]; omega)⟩
    clear hn cS hc
    go_wp2_with fail
    go_ret
    exact ⟨by rw [HR.out.1]; rfl, by rw [HR.out.2]; exact HT.out, Below.refl _ _⟩
  · have hc : addC d name more = 2 := by rw [addC_no (by rw [named_none hn hf]; omega), named_none hn hf]
    have HR : Hid (addC d name more = 2 ∧ addD d name more = d) := ⟨hc, addD_no (by rw [hc]; omega)⟩
    clear hn hf cS hc
    go_wp2_with fail
    go_ret
    exact ⟨by rw [HR.out.1]; rfl, by rw [HR.out.2]; exact HT.out, Below.refl _ _⟩
  · generalize hgj : gs.getD j 0 = gj at *
    go_wp2_with fail
    refine cS.mono ?_
    rintro e w2 ⟨rfl, hb2⟩
    have HB2 : Hid (Below w.heap.size w w2) := hb2
    clear cS hb2
    by_cases hfull : d.room - (bytesOf d.nods : Int) < (more.size : Int)
    · have hc : addC d name more = 4 := addC_full (named_some hn hf) hfull
      have HR : Hid (addC d name more = 4 ∧ addD d name more = d) := ⟨hc, addD_no (by rw [hc]; omega)⟩
      have t1 : decide (d.room - (bytesOf d.nods : Int) < (more.size : Int)) = true := decide_eq_true hfull
      clear hc hn hf hj hfull
      generalize d.room - (bytesOf d.nods : Int) = left at *
      go_wp2_with fail
      go_ret
      exact ⟨by rw [HR.out.1]; rfl, by rw [HR.out.2]; exact tell_on HT.out HB2.out, HB2.out.mono HB.out⟩
    · have hc : addC d name more = 0 := addC_ok (named_some hn hf) hfull
      have HR : Hid (addC d name more = 0 ∧ addD d name more = ⟨d.room, d.next, d.nods.set j ⟨(d.nods.getD j default).id, (d.nods.getD j default).data ++ more, (d.nods.getD j default).sure⟩, d.dir, d.movs⟩) := ⟨hc, addD_ok hc hf⟩
      have t1 : decide (d.room - (bytesOf d.nods : Int) < (more.size : Int)) = false := decide_eq_false hfull
      have HJ : Hid (j < d.nods.length) := hj
      have HO2 : Hid (OpenD w2 base p d bi bd bw gs u) := HO.out.on HB2.out
      have hds := wt_data _ (getD_mem d.nods j hj)
      have HDS : Hid ((d.nods.getD j default).data.size + more.size ≤ 281474976710656) := by
        have := HW.out
        unfold wtD at this
        unfold Hid
        omega
      have BK : Hid (Blk w2 gj #[.int .i64 (d.nods.getD j default).id, .string (d.nods.getD j default).data, .int .i64 (d.nods.getD j default).sure] 76) := by rw [← hgj]; exact HO2.out.held.blk j hj
      have x1 := BK.out.cell 1 _ rfl
      have z1 := BK.out.free 1
      have qs : ((d.nods.getD j default).data.size : Int) + (more.size : Int) ≤ 281474976710656 := by have := HDS.out; omega
      clear hn hf hj hds hfull hc
      generalize hxd : (d.nods.getD j default).data = xd at *
      generalize hxi : (d.nods.getD j default).id = xi at *
      generalize hxs : (d.nods.getD j default).sure = xs at *
      generalize d.room - (bytesOf d.nods : Int) = left at *
      go_wp2_with fail
      go_ret
      have hjg : j < gs.length := by rw [HO.out.held.len]; exact HJ.out
      have hm := HO.out.gl _ (gs_mem hjg)
      rw [hgj] at hm
      refine ⟨by rw [HR.out.1]; rfl, ?_, (HB2.out.mono HB.out).setCell hm.1 _⟩
      rw [HR.out.2]
      exact HO2.out.put HD.out HW.out j HJ.out ⟨xi, xd ++ more, xs⟩ hxi.symm (by show (xd ++ more).size ≤ _; rw [ByteArray.size_append]; exact HDS.out) (by rw [hgj]; exact (But.refl (fun i => i = gj) w2).setCell (p := ⟨gj, 1, none⟩) (fun _ => rfl) _) (by rw [hgj]; exact BK.out.set 1 _)


/-- What Add answers. -/
def addR (d : Dsk) (name : ByteArray) (more : ByteArray) : Dsk × Int := if diskOk d = true then (addD d name more, addC d name more) else (zeroD, 1)
theorem addR_yes {d : Dsk} {name more : ByteArray} (h : diskOk d = true) : addR d name more = (addD d name more, addC d name more) := by unfold addR; rw [if_pos h]
theorem addR_no {d : Dsk} {name more : ByteArray} (h : diskOk d = false) : addR d name more = (zeroD, 1) := by unfold addR; rw [if_neg (by rw [h]; simp)]

theorem Owns.pokeData {w : World} {base g cap : Nat} {ns : List Nod} {j : Nat} (h : Owns w base 76 3 (.slice (some ⟨g, 0, none⟩) ns.length cap) (nodR ns)) (hj : j < ns.length) (s : ByteArray) : Owns (w.setCell ⟨g, j * 3 + 1, none⟩ (.string s)) base 76 3 (.slice (some ⟨g, 0, none⟩) ns.length cap) (nodR (ns.set j ⟨(ns.getD j default).id, s, (ns.getD j default).sure⟩)) := by
  rw [nodR_set]
  exact (h.nodAt hj).pokeAt (nodR_length ns) hj 1 (by omega) (.string s)
theorem until_skip {P : Program} {Q : Exit → Act → World → Prop} {md : Region.Mode} {S : World → Prop} {T : Nat → Bool} {l : List Oper} (i : Nat) {oi : Oper} {rest : List Oper} {fuel : Nat} {listed : Array Bool} {a : Act} {w : World} (hd : l.drop i = oi :: rest) (hB : pureB md l.toArray listed i = true)
    (hQ : ∀ c a w, Q (.panic c) (a.put oi.dst undef) w → Q (.panic c) a w) (hw : Region.wanted oi (yielded l.toArray a.tmps) = false)
    (h : wpUntil P md l.toArray Q S T fuel (listed.setIfInBounds i true) (a.put oi.dst undef) w) : wpUntil P md l.toArray Q S T (fuel + 1) listed a w := by
  unfold pureB at hB
  simp only [Bool.and_eq_true] at hB
  obtain ⟨⟨hs, hf⟩, hr⟩ := hB
  exact wpUntil_pure (drop_at hd) (Region.noSelect_spec hs) hQ fuel listed a w (Region.free_spec (drop_at hd) hf) (by simpa using hr) (.inr ⟨hw, rfl⟩) h
theorem addR_len (d : Dsk) (name more : ByteArray) (hf : Fits d) : (addR d name more).1.nods.length ≤ 1000 ∧ (addR d name more).1.dir.length ≤ 1000 ∧ (addR d name more).1.movs.length ≤ 1000 := by
  cases h : diskOk d with
  | false =>
    rw [addR_no h]
    exact ⟨by show 0 ≤ 1000; omega, by show 0 ≤ 1000; omega, by show 0 ≤ 1000; omega⟩
  | true =>
    rw [addR_yes h]
    have hR := (sizeOk_iff d).1 ((whole_iff d).1 h).size
    have h1 : (addD d name more).nods.length = d.nods.length ∧ (addD d name more).dir = d.dir ∧ (addD d name more).movs = d.movs := by
      unfold addD
      split
      · split
        · exact ⟨rfl, rfl, rfl⟩
        · exact ⟨List.length_set, rfl, rfl⟩
      · exact ⟨rfl, rfl, rfl⟩
    show (addD d name more).nods.length ≤ 1000 ∧ (addD d name more).dir.length ≤ 1000 ∧ (addD d name more).movs.length ≤ 1000
    rw [h1.1, h1.2.1, h1.2.2]
    have := hR.l
    have := hR.m
    have := hR.n
    exact ⟨by omega, by omega, by omega⟩

set_option maxRecDepth 20000 in
set_option maxHeartbeats 8000000 in
theorem specAddV (d : Dsk) (v : Value) (name more : ByteArray) (w : World) (B : Nat) (hv : DiskV w B v d) (hf : Fits d) (hw : wtD d ≤ 1048576) (hB : B ≤ w.heap.size) (hs : name.size ≤ maxLen) (hs' : more.size ≤ maxLen) :
    Calls Tryz.prog 18 #[v, .string name, .string more] w fun e w' => ∃ x, e = .returned (.tuple #[x, .int .i64 (addR d name more).2]) ∧ DiskO w' w.heap.size x (addR d name more).1 ∧ Below w.heap.size w w' := by
  have HV : Hid (DiskV w B v d) := hv
  have HF : Hid (Fits d) := hf
  have HB : Hid (B ≤ w.heap.size) := hB
  have HW : Hid (wtD d ≤ 1048576) := hw
  have HS : Hid (name.size ≤ maxLen) := hs
  have qm : (more.size : Int) ≤ 9223372036854775807 := by unfold maxLen at hs'; omega
  obtain ⟨v1, v2, v3, rfl, h1, h2, h3⟩ := hv
  clear h1 h2 h3 hf hB hw hs hs'
  go_enter Tryz.func18, Tryz.ntmps18
  go_wp2_with fail
  have hb0 := below_alloc2' w (.cells #[.int .i64 d.room, .int .i64 d.next, v1, v2, v3] 35) (.cells #[.int .i64 0, .int .i64 0, .slice none 0 0, .slice none 0 0, .slice none 0 0] 35)
  have bA := (Blk.new w #[.int .i64 d.room, .int .i64 d.next, v1, v2, v3] 35).alloc (.cells #[.int .i64 0, .int .i64 0, .slice none 0 0, .slice none 0 0, .slice none 0 0] 35)
  have bR := Blk.new (w.alloc (.cells #[.int .i64 d.room, .int .i64 d.next, v1, v2, v3] 35)) #[.int .i64 0, .int .i64 0, .slice none 0 0, .slice none 0 0, .slice none 0 0] 35
  simp only [World.size_alloc] at bR
  generalize (w.alloc (.cells #[.int .i64 d.room, .int .i64 d.next, v1, v2, v3] 35)).alloc (.cells #[.int .i64 0, .int .i64 0, .slice none 0 0, .slice none 0 0, .slice none 0 0] 35) = W at *
  have B0 : Hid (Below w.heap.size w W) := hb0
  have K0 : Hid (Blk W w.heap.size #[.int .i64 d.room, .int .i64 d.next, v1, v2, v3] 35) := bA
  have R0 : Hid (Blk W (w.heap.size + 1) #[.int .i64 0, .int .i64 0, .slice none 0 0, .slice none 0 0, .slice none 0 0] 35) := bR
  clear hb0 bA bR
  refine (specOkV d _ W B (HV.out.on (B0.out.mono HB.out)) HF.out HW.out (Nat.le_trans HB.out B0.out.size)).mono ?_
  rintro e w0 ⟨rfl, hb1⟩
  have B0' : Hid (Below w.heap.size w w0) := B0.out.trans (hb1.mono B0.out.size)
  have K0' : Hid (Blk w0 w.heap.size #[.int .i64 d.room, .int .i64 d.next, v1, v2, v3] 35) := K0.out.on hb1 K0.out.lt
  have R0' : Hid (Blk w0 (w.heap.size + 1) #[.int .i64 0, .int .i64 0, .slice none 0 0, .slice none 0 0, .slice none 0 0] 35) := R0.out.on hb1 R0.out.lt
  clear hb1 K0 R0
  have hg : w.heap.size ≤ w.heap.size + 1 := by omega
  cases hok : diskOk d with
  | false =>
    have hRR : addR d name more = (zeroD, 1) := addR_no hok
    clear hok
    have g0 := R0'.out.cell 0 _ rfl
    have f0 := R0'.out.free 0
    have g1 := R0'.out.cell 1 _ rfl
    have f1 := R0'.out.free 1
    have g2 := R0'.out.cell 2 _ rfl
    have f2 := R0'.out.free 2
    have g3 := R0'.out.cell 3 _ rfl
    have f3 := R0'.out.free 3
    have g4 := R0'.out.cell 4 _ rfl
    have f4 := R0'.out.free 4
    go_wp2_with fail
    have hB := B0'.out
    have FB := (((((hB.setCell hg (.int .i64 0) (p := ⟨_, 0, none⟩)).setCell hg (.int .i64 0) (p := ⟨_, 1, none⟩)).setCell hg (.slice none 0 0) (p := ⟨_, 2, none⟩)).setCell hg (.slice none 0 0) (p := ⟨_, 3, none⟩)).setCell hg (.slice none 0 0) (p := ⟨_, 4, none⟩))
    have hF := (((((R0'.out.set 0 (.int .i64 0)).set 1 (.int .i64 0)).set 2 (.slice none 0 0)).set 3 (.slice none 0 0)).set 4 (.slice none 0 0))
    clear g0 f0 g1 f1 g2 f2 g3 f3 g4 f4
    generalize (((((w0.setCell ⟨w.heap.size + 1, 0, none⟩ (.int .i64 0)).setCell ⟨w.heap.size + 1, 1, none⟩ (.int .i64 0)).setCell ⟨w.heap.size + 1, 2, none⟩ (.slice none 0 0)).setCell ⟨w.heap.size + 1, 3, none⟩ (.slice none 0 0)).setCell ⟨w.heap.size + 1, 4, none⟩ (.slice none 0 0)) = WF at *
    have hG : Blk WF (w.heap.size + 1) #[.int .i64 0, .int .i64 0, .slice none 0 0, .slice none 0 0, .slice none 0 0] 35 := hF
    have l0 := hG.cell 0 (.int .i64 0) rfl
    have l1 := hG.cell 1 (.int .i64 0) rfl
    have l2 := hG.cell 2 (.slice none 0 0) rfl
    have l3 := hG.cell 3 (.slice none 0 0) rfl
    have l4 := hG.cell 4 (.slice none 0 0) rfl
    exact bodyPost_ret (v := .tuple #[.agg #[.int .i64 0, .int .i64 0, .slice none 0 0, .slice none 0 0, .slice none 0 0], .int .i64 1]) (by simp [results, go_sem, l0, l1, l2, l3, l4]) rfl (by rw [hRR]; exact ⟨_, rfl, ⟨_, _, _, rfl, Owns.nil _ _ _ _, Owns.nil _ _ _ _, Owns.nil _ _ _ _⟩, FB⟩)
  | true =>
    have hR := (sizeOk_iff d).1 ((whole_iff d).1 hok).size
    have HSZ : Hid (d.dir.length + d.movs.length ≤ 1048575 ∧ d.nods.length ≤ 10 ∧ d.dir.length ≤ 1048576 ∧ d.movs.length ≤ 1048576) := by
      have := hR.l; have := hR.m; have := hR.n
      unfold Hid
      omega
    have hby := bytes_wt d.nods
    have HBY : Hid (bytesOf d.nods ≤ 4194304) := by
      have := HW.out
      unfold wtD at this
      unfold Hid
      omega
    have q0 : (0 : Int) ≤ d.room := hR.r0
    have q9 : d.room ≤ 1048576 := hR.r1
    have qb : (bytesOf d.nods : Int) ≤ 4194304 := by have := HBY.out; omega
    have HRR : Hid (addR d name more = (addD d name more, addC d name more)) := addR_yes hok
    have cN := namedV d (.agg #[.int .i64 d.room, .int .i64 d.next, v1, v2, v3]) name w0 B (HV.out.on (B0'.out.mono HB.out)) HF.out (by have := HS.out; unfold maxLen at this; omega) HSZ.out.1 (by have := HSZ.out; omega) (Nat.le_trans HB.out B0'.out.size)
    have y0 := K0'.out.cell 0 _ rfl
    have y1 := K0'.out.cell 1 _ rfl
    have y2 := K0'.out.cell 2 _ rfl
    have y3 := K0'.out.cell 3 _ rfl
    have y4 := K0'.out.cell 4 _ rfl
    clear hR hok hby
    go_wp2_with fail
    refine cN.mono ?_
    rintro e w1 ⟨rfl, hb2⟩
    have B1 : Hid (Below w.heap.size w w1) := B0'.out.trans (hb2.mono B0'.out.size)
    have K1 : Hid (Blk w1 w.heap.size #[.int .i64 d.room, .int .i64 d.next, v1, v2, v3] 35) := K0'.out.on hb2 K0'.out.lt
    have R1 : Hid (Blk w1 (w.heap.size + 1) #[.int .i64 0, .int .i64 0, .slice none 0 0, .slice none 0 0, .slice none 0 0] 35) := R0'.out.on hb2 R0'.out.lt
    clear cN hb2 y0 y1 y2 y3 y4 K0' R0'
    by_cases hnc : named d name = 0
    · obtain ⟨hno, j, hfd⟩ : nameOk name = true ∧ ∃ j, find d name = some j := by
        cases hn : nameOk name with
        | false => rw [named_bad hn] at hnc; omega
        | true =>
          rcases hfd : find d name with _ | j
          · rw [named_none hn hfd] at hnc; omega
          · exact ⟨rfl, j, rfl⟩
      by_cases hfull : d.room - (bytesOf d.nods : Int) < (more.size : Int)
      · have hc := addC_full hnc hfull
        have hRR : addR d name more = (d, 4) := by rw [HRR.out, hc, addD_no (by rw [hc]; omega)]
        have t1 : decide (d.room - (bytesOf d.nods : Int) < (more.size : Int)) = true := decide_eq_true hfull
        rw [hnc]
        have hwr : IntKind.i64.wrap (d.room - (bytesOf d.nods : Int)) = d.room - (bytesOf d.nods : Int) := by rw [IntKind.wrap_i64]; omega
        clear hc hnc hfull hno hfd HRR
        go_wp2_with fail
        have S0 : Hid (w1.drew.cell? ⟨w.heap.size, 0, none⟩ = some (.int .i64 d.room) ∧ w1.drew.cell? ⟨w.heap.size, 1, none⟩ = some (.int .i64 d.next) ∧ w1.drew.cell? ⟨w.heap.size, 2, none⟩ = some v1 ∧ w1.drew.cell? ⟨w.heap.size, 3, none⟩ = some v2 ∧ w1.drew.cell? ⟨w.heap.size, 4, none⟩ = some v3) := ⟨K1.out.cell 0 _ rfl, K1.out.cell 1 _ rfl, K1.out.cell 2 _ rfl, K1.out.cell 3 _ rfl, K1.out.cell 4 _ rfl⟩
        refine wp_region_until (fun w' => w'.cell? ⟨w.heap.size, 0, none⟩ = some (.int .i64 d.room) ∧ w'.cell? ⟨w.heap.size, 1, none⟩ = some (.int .i64 d.next) ∧ w'.cell? ⟨w.heap.size, 2, none⟩ = some v1 ∧ w'.cell? ⟨w.heap.size, 3, none⟩ = some v2 ∧ w'.cell? ⟨w.heap.size, 4, none⟩ = some v3) (fun i => false) 12 (by rfl) (by kernel_rfl) ?_
        refine until_take 0 (v := ?vafull0) (by rfl) (by kernel_rfl) (by exact fun _ _ _ h => h) (by rfl) ?hyafull0 S0.out ?rafull0
        case hyafull0 =>
          intro w hSw
          try dsimp only at hSw
          go_simp
          try with_reducible rfl
        try simp only [Act.put, List.setIfInBounds_toArray, List.set_cons_zero, List.set_cons_succ]
        refine until_take 1 (v := ?vafull1) (by rfl) (by kernel_rfl) (by exact fun _ _ _ h => h) (by rfl) ?hyafull1 S0.out ?rafull1
        case hyafull1 =>
          intro w hSw
          try dsimp only at hSw
          go_simp
          try with_reducible rfl
        try simp only [Act.put, List.setIfInBounds_toArray, List.set_cons_zero, List.set_cons_succ]
        refine until_take 2 (v := ?vafull2) (by rfl) (by kernel_rfl) (by exact fun _ _ _ h => h) (by rfl) ?hyafull2 S0.out ?rafull2
        case hyafull2 =>
          intro w hSw
          try dsimp only at hSw
          go_simp
          try with_reducible rfl
        try simp only [Act.put, List.setIfInBounds_toArray, List.set_cons_zero, List.set_cons_succ]
        refine until_take 3 (v := ?vafull3) (by rfl) (by kernel_rfl) (by exact fun _ _ _ h => h) (by rfl) ?hyafull3 S0.out ?rafull3
        case hyafull3 =>
          intro w hSw
          try dsimp only at hSw
          go_simp
          try with_reducible rfl
        try simp only [Act.put, List.setIfInBounds_toArray, List.set_cons_zero, List.set_cons_succ]
        refine until_take 4 (v := ?vafull4) (by rfl) (by kernel_rfl) (by exact fun _ _ _ h => h) (by rfl) ?hyafull4 S0.out ?rafull4
        case hyafull4 =>
          intro w hSw
          try dsimp only at hSw
          go_simp
          try with_reducible rfl
        try simp only [Act.put, List.setIfInBounds_toArray, List.set_cons_zero, List.set_cons_succ]
        refine until_take 5 (v := ?vafull5) (by rfl) (by kernel_rfl) (by exact fun _ _ _ h => h) (by rfl) ?hyafull5 S0.out ?rafull5
        case hyafull5 =>
          intro w hSw
          try dsimp only at hSw
          go_simp
          try with_reducible rfl
        try simp only [Act.put, List.setIfInBounds_toArray, List.set_cons_zero, List.set_cons_succ]
        refine until_take 6 (v := ?vafull6) (by rfl) (by kernel_rfl) (by exact fun _ _ _ h => h) (by rfl) ?hyafull6 S0.out ?rafull6
        case hyafull6 =>
          intro w hSw
          try dsimp only at hSw
          go_simp
          try with_reducible rfl
        try simp only [Act.put, List.setIfInBounds_toArray, List.set_cons_zero, List.set_cons_succ]
        refine until_take 7 (v := ?vafull7) (by rfl) (by kernel_rfl) (by exact fun _ _ _ h => h) (by rfl) ?hyafull7 S0.out ?rafull7
        case hyafull7 =>
          intro w hSw
          try dsimp only at hSw
          go_simp
          try with_reducible rfl
        try simp only [Act.put, List.setIfInBounds_toArray, List.set_cons_zero, List.set_cons_succ]
        refine until_one 8 (by rfl) (by kernel_rfl) (fun K hK => ?_)
        go_simp
        refine (bytesV d (.agg #[.int .i64 d.room, .int .i64 d.next, v1, v2, v3]) w1.drew B (HV.out.on (B1.out.drew.mono HB.out)) (by have := HSZ.out; omega) HBY.out (Nat.le_trans HB.out B1.out.size)).mono ?_
        rintro e w2 ⟨rfl, hb2⟩
        have hb21 : Below w1.heap.size w1 w2 := (Below.refl _ w1).drew.trans hb2
        have B2 : Hid (Below w.heap.size w w2) := B1.out.trans (hb21.mono B1.out.size)
        have K2 : Hid (Blk w2 w.heap.size #[.int .i64 d.room, .int .i64 d.next, v1, v2, v3] 35) := K1.out.on hb21 K1.out.lt
        have R2 : Hid (Blk w2 (w.heap.size + 1) #[.int .i64 0, .int .i64 0, .slice none 0 0, .slice none 0 0, .slice none 0 0] 35) := R1.out.on hb21 R1.out.lt
        clear hb2 hb21
        go_wp2_with fail
        refine hK.out _ _ (fun _ _ => ⟨K2.out.cell 0 _ rfl, K2.out.cell 1 _ rfl, K2.out.cell 2 _ rfl, K2.out.cell 3 _ rfl, K2.out.cell 4 _ rfl⟩) ?_
        clear hK K
        try simp only [Act.put, List.setIfInBounds_toArray, List.set_cons_zero, List.set_cons_succ]
        refine until_pure 9 (v := ?vbfull9) (by rfl) (by kernel_rfl) (by exact fun _ _ _ h => h) (by rfl) ?hybfull9 ?rbfull9
        case hybfull9 =>
          intro w
          go_simp
          try with_reducible rfl
        try simp only [Act.put, List.setIfInBounds_toArray, List.set_cons_zero, List.set_cons_succ]
        refine until_pure 10 (v := ?vbfull10) (by rfl) (by kernel_rfl) (by exact fun _ _ _ h => h) (by rfl) ?hybfull10 ?rbfull10
        case hybfull10 =>
          intro w
          go_simp
          try with_reducible rfl
        try simp only [Act.put, List.setIfInBounds_toArray, List.set_cons_zero, List.set_cons_succ]
        refine until_pure 11 (v := ?vbfull11) (by rfl) (by kernel_rfl) (by exact fun _ _ _ h => h) (by rfl) ?hybfull11 ?rbfull11
        case hybfull11 =>
          intro w
          go_simp
          try with_reducible rfl
        try simp only [Act.put, List.setIfInBounds_toArray, List.set_cons_zero, List.set_cons_succ]
        refine until_done (by kernel_rfl) ?_ _
        clear S0 K1 R1
        have cC := copyV d (.agg #[.int .i64 d.room, .int .i64 d.next, v1, v2, v3]) w2 B (HV.out.on (B2.out.mono HB.out)) (by have := HSZ.out; omega) HSZ.out.2.2.1 HSZ.out.2.2.2 (Nat.le_trans HB.out B2.out.size)
        have y0 := K2.out.cell 0 _ rfl
        have y1 := K2.out.cell 1 _ rfl
        have y2 := K2.out.cell 2 _ rfl
        have y3 := K2.out.cell 3 _ rfl
        have y4 := K2.out.cell 4 _ rfl
        go_wp2_with fail
        refine cC.mono ?_
        rintro e w3 ⟨x, rfl, hO3, hb3⟩
        have B3 : Hid (Below w.heap.size w w3) := B2.out.trans (hb3.mono B2.out.size)
        have K3 : Hid (Blk w3 w.heap.size #[.int .i64 d.room, .int .i64 d.next, v1, v2, v3] 35) := K2.out.on hb3 K2.out.lt
        have R3 : Hid (Blk w3 (w.heap.size + 1) #[.int .i64 0, .int .i64 0, .slice none 0 0, .slice none 0 0, .slice none 0 0] 35) := R2.out.on hb3 R2.out.lt
        obtain ⟨x1, x2, x3, rfl, o1, o2, o3⟩ := hO3
        obtain ⟨A1, m1, k1, rfl⟩ := o1.shape
        obtain ⟨A2, m2, k2, rfl⟩ := o2.shape
        obtain ⟨A3, m3, k3, rfl⟩ := o3.shape
        have hz : w.heap.size + 1 < w2.heap.size := R2.out.lt
        have hm : w.heap.size ≤ w2.heap.size := B2.out.size
        have HP1 : Hid (Owns (((((w3.setCell ⟨w.heap.size, 0, none⟩ (.int .i64 d.room)).setCell ⟨w.heap.size, 1, none⟩ (.int .i64 d.next)).setCell ⟨w.heap.size, 2, none⟩ (.slice A1 m1 k1)).setCell ⟨w.heap.size, 3, none⟩ (.slice A2 m2 k2)).setCell ⟨w.heap.size, 4, none⟩ (.slice A3 m3 k3)) w2.heap.size 76 3 (.slice A1 m1 k1) (nodR d.nods)) := (((((o1.other (o1.below (show w.heap.size < w2.heap.size by omega)) 0 (.int .i64 d.room)).other (o1.below (show w.heap.size < w2.heap.size by omega)) 1 (.int .i64 d.next)).other (o1.below (show w.heap.size < w2.heap.size by omega)) 2 (.slice A1 m1 k1)).other (o1.below (show w.heap.size < w2.heap.size by omega)) 3 (.slice A2 m2 k2)).other (o1.below (show w.heap.size < w2.heap.size by omega)) 4 (.slice A3 m3 k3))
        have HP2 : Hid (Owns (((((w3.setCell ⟨w.heap.size, 0, none⟩ (.int .i64 d.room)).setCell ⟨w.heap.size, 1, none⟩ (.int .i64 d.next)).setCell ⟨w.heap.size, 2, none⟩ (.slice A1 m1 k1)).setCell ⟨w.heap.size, 3, none⟩ (.slice A2 m2 k2)).setCell ⟨w.heap.size, 4, none⟩ (.slice A3 m3 k3)) w2.heap.size 79 2 (.slice A2 m2 k2) (lnkR d.dir)) := (((((o2.other (o2.below (show w.heap.size < w2.heap.size by omega)) 0 (.int .i64 d.room)).other (o2.below (show w.heap.size < w2.heap.size by omega)) 1 (.int .i64 d.next)).other (o2.below (show w.heap.size < w2.heap.size by omega)) 2 (.slice A1 m1 k1)).other (o2.below (show w.heap.size < w2.heap.size by omega)) 3 (.slice A2 m2 k2)).other (o2.below (show w.heap.size < w2.heap.size by omega)) 4 (.slice A3 m3 k3))
        have HP3 : Hid (Owns (((((w3.setCell ⟨w.heap.size, 0, none⟩ (.int .i64 d.room)).setCell ⟨w.heap.size, 1, none⟩ (.int .i64 d.next)).setCell ⟨w.heap.size, 2, none⟩ (.slice A1 m1 k1)).setCell ⟨w.heap.size, 3, none⟩ (.slice A2 m2 k2)).setCell ⟨w.heap.size, 4, none⟩ (.slice A3 m3 k3)) w2.heap.size 81 4 (.slice A3 m3 k3) (movR d.movs)) := (((((o3.other (o3.below (show w.heap.size < w2.heap.size by omega)) 0 (.int .i64 d.room)).other (o3.below (show w.heap.size < w2.heap.size by omega)) 1 (.int .i64 d.next)).other (o3.below (show w.heap.size < w2.heap.size by omega)) 2 (.slice A1 m1 k1)).other (o3.below (show w.heap.size < w2.heap.size by omega)) 3 (.slice A2 m2 k2)).other (o3.below (show w.heap.size < w2.heap.size by omega)) 4 (.slice A3 m3 k3))
        have HPB : Hid (Below w.heap.size w (((((w3.setCell ⟨w.heap.size, 0, none⟩ (.int .i64 d.room)).setCell ⟨w.heap.size, 1, none⟩ (.int .i64 d.next)).setCell ⟨w.heap.size, 2, none⟩ (.slice A1 m1 k1)).setCell ⟨w.heap.size, 3, none⟩ (.slice A2 m2 k2)).setCell ⟨w.heap.size, 4, none⟩ (.slice A3 m3 k3))) := (((((B3.out.setCell (Nat.le_refl _) (.int .i64 d.room) (p := ⟨_, 0, none⟩)).setCell (Nat.le_refl _) (.int .i64 d.next) (p := ⟨_, 1, none⟩)).setCell (Nat.le_refl _) (.slice A1 m1 k1) (p := ⟨_, 2, none⟩)).setCell (Nat.le_refl _) (.slice A2 m2 k2) (p := ⟨_, 3, none⟩)).setCell (Nat.le_refl _) (.slice A3 m3 k3) (p := ⟨_, 4, none⟩))
        have HPK : Hid (Blk (((((w3.setCell ⟨w.heap.size, 0, none⟩ (.int .i64 d.room)).setCell ⟨w.heap.size, 1, none⟩ (.int .i64 d.next)).setCell ⟨w.heap.size, 2, none⟩ (.slice A1 m1 k1)).setCell ⟨w.heap.size, 3, none⟩ (.slice A2 m2 k2)).setCell ⟨w.heap.size, 4, none⟩ (.slice A3 m3 k3)) w.heap.size #[.int .i64 d.room, .int .i64 d.next, .slice A1 m1 k1, .slice A2 m2 k2, .slice A3 m3 k3] 35) := (((((K3.out.set 0 (.int .i64 d.room)).set 1 (.int .i64 d.next)).set 2 (.slice A1 m1 k1)).set 3 (.slice A2 m2 k2)).set 4 (.slice A3 m3 k3))
        have HPR : Hid (Blk (((((w3.setCell ⟨w.heap.size, 0, none⟩ (.int .i64 d.room)).setCell ⟨w.heap.size, 1, none⟩ (.int .i64 d.next)).setCell ⟨w.heap.size, 2, none⟩ (.slice A1 m1 k1)).setCell ⟨w.heap.size, 3, none⟩ (.slice A2 m2 k2)).setCell ⟨w.heap.size, 4, none⟩ (.slice A3 m3 k3)) (w.heap.size + 1) #[.int .i64 0, .int .i64 0, .slice none 0 0, .slice none 0 0, .slice none 0 0] 35) := (((((R3.out.other (show w.heap.size + 1 ≠ w.heap.size by omega) 0 (.int .i64 d.room)).other (show w.heap.size + 1 ≠ w.heap.size by omega) 1 (.int .i64 d.next)).other (show w.heap.size + 1 ≠ w.heap.size by omega) 2 (.slice A1 m1 k1)).other (show w.heap.size + 1 ≠ w.heap.size by omega) 3 (.slice A2 m2 k2)).other (show w.heap.size + 1 ≠ w.heap.size by omega) 4 (.slice A3 m3 k3))
        clear cC hb3 y0 y1 y2 y3 y4 K2 R2 o1 o2 o3 R3
        have e0 := K3.out.cell 0 _ rfl
        have t0 := K3.out.free 0
        have e1 := K3.out.cell 1 _ rfl
        have t1 := K3.out.free 1
        have e2 := K3.out.cell 2 _ rfl
        have t2 := K3.out.free 2
        have e3 := K3.out.cell 3 _ rfl
        have t3 := K3.out.free 3
        have e4 := K3.out.cell 4 _ rfl
        have t4 := K3.out.free 4
        have r0 := HPK.out.cell 0 _ rfl
        have r1 := HPK.out.cell 1 _ rfl
        have r2 := HPK.out.cell 2 _ rfl
        have r3 := HPK.out.cell 3 _ rfl
        have r4 := HPK.out.cell 4 _ rfl
        have g0 := HPR.out.cell 0 _ rfl
        have f0 := HPR.out.free 0
        have g1 := HPR.out.cell 1 _ rfl
        have f1 := HPR.out.free 1
        have g2 := HPR.out.cell 2 _ rfl
        have f2 := HPR.out.free 2
        have g3 := HPR.out.cell 3 _ rfl
        have f3 := HPR.out.free 3
        have g4 := HPR.out.cell 4 _ rfl
        have f4 := HPR.out.free 4
        go_wp2_with fail
        have hB := HPB.out
        clear r0 e0 t0 r1 e1 t1 r2 e2 t2 r3 e3 t3 r4 e4 t4
        have FB := (((((hB.setCell hg (.int .i64 d.room) (p := ⟨_, 0, none⟩)).setCell hg (.int .i64 d.next) (p := ⟨_, 1, none⟩)).setCell hg (.slice A1 m1 k1) (p := ⟨_, 2, none⟩)).setCell hg (.slice A2 m2 k2) (p := ⟨_, 3, none⟩)).setCell hg (.slice A3 m3 k3) (p := ⟨_, 4, none⟩))
        have hF := (((((HPR.out.set 0 (.int .i64 d.room)).set 1 (.int .i64 d.next)).set 2 (.slice A1 m1 k1)).set 3 (.slice A2 m2 k2)).set 4 (.slice A3 m3 k3))
        have mm0 := HP1.out.notBlk HPR.out (by decide)
        have F0 := (((((HP1.out.other mm0 0 (.int .i64 d.room)).other mm0 1 (.int .i64 d.next)).other mm0 2 (.slice A1 m1 k1)).other mm0 3 (.slice A2 m2 k2)).other mm0 4 (.slice A3 m3 k3))
        have mm1 := HP2.out.notBlk HPR.out (by decide)
        have F1 := (((((HP2.out.other mm1 0 (.int .i64 d.room)).other mm1 1 (.int .i64 d.next)).other mm1 2 (.slice A1 m1 k1)).other mm1 3 (.slice A2 m2 k2)).other mm1 4 (.slice A3 m3 k3))
        have mm2 := HP3.out.notBlk HPR.out (by decide)
        have F2 := (((((HP3.out.other mm2 0 (.int .i64 d.room)).other mm2 1 (.int .i64 d.next)).other mm2 2 (.slice A1 m1 k1)).other mm2 3 (.slice A2 m2 k2)).other mm2 4 (.slice A3 m3 k3))
        clear g0 f0 g1 f1 g2 f2 g3 f3 g4 f4
        generalize ((((((((((w3.setCell ⟨w.heap.size, 0, none⟩ (.int .i64 d.room)).setCell ⟨w.heap.size, 1, none⟩ (.int .i64 d.next)).setCell ⟨w.heap.size, 2, none⟩ (.slice A1 m1 k1)).setCell ⟨w.heap.size, 3, none⟩ (.slice A2 m2 k2)).setCell ⟨w.heap.size, 4, none⟩ (.slice A3 m3 k3)).setCell ⟨w.heap.size + 1, 0, none⟩ (.int .i64 d.room)).setCell ⟨w.heap.size + 1, 1, none⟩ (.int .i64 d.next)).setCell ⟨w.heap.size + 1, 2, none⟩ (.slice A1 m1 k1)).setCell ⟨w.heap.size + 1, 3, none⟩ (.slice A2 m2 k2)).setCell ⟨w.heap.size + 1, 4, none⟩ (.slice A3 m3 k3)) = WF at *
        have hG : Blk WF (w.heap.size + 1) #[.int .i64 d.room, .int .i64 d.next, .slice A1 m1 k1, .slice A2 m2 k2, .slice A3 m3 k3] 35 := hF
        have l0 := hG.cell 0 (.int .i64 d.room) rfl
        have l1 := hG.cell 1 (.int .i64 d.next) rfl
        have l2 := hG.cell 2 (.slice A1 m1 k1) rfl
        have l3 := hG.cell 3 (.slice A2 m2 k2) rfl
        have l4 := hG.cell 4 (.slice A3 m3 k3) rfl
        exact bodyPost_ret (v := .tuple #[.agg #[.int .i64 d.room, .int .i64 d.next, .slice A1 m1 k1, .slice A2 m2 k2, .slice A3 m3 k3], .int .i64 4]) (by simp [results, go_sem, l0, l1, l2, l3, l4]) rfl (by rw [hRR]; exact ⟨_, rfl, ⟨_, _, _, rfl, F0.mono hm, F1.mono hm, F2.mono hm⟩, FB⟩)
      · have hc := addC_ok hnc hfull
        have hRR : addR d name more = (⟨d.room, d.next, d.nods.set j ⟨(d.nods.getD j default).id, (d.nods.getD j default).data ++ more, (d.nods.getD j default).sure⟩, d.dir, d.movs⟩, 0) := by rw [HRR.out, hc, addD_ok hc hfd]
        have t1 : decide (d.room - (bytesOf d.nods : Int) < (more.size : Int)) = false := decide_eq_false hfull
        have HJ : Hid (j < d.nods.length) := find_lt hfd
        have HFD : Hid (find d name = some j) := hfd
        have hds := wt_data _ (getD_mem d.nods j (find_lt hfd))
        have qs : ((d.nods.getD j default).data.size : Int) + (more.size : Int) ≤ 281474976710656 := by
          have := HW.out
          unfold wtD at this
          omega
        rw [hnc]
        have hwr : IntKind.i64.wrap (d.room - (bytesOf d.nods : Int)) = d.room - (bytesOf d.nods : Int) := by rw [IntKind.wrap_i64]; omega
        have hRRh : Hid (addR d name more = (⟨d.room, d.next, d.nods.set j ⟨(d.nods.getD j default).id, (d.nods.getD j default).data ++ more, (d.nods.getD j default).sure⟩, d.dir, d.movs⟩, 0)) := hRR
        have HQS : Hid (((d.nods.getD j default).data.size : Int) + (more.size : Int) ≤ 281474976710656) := qs
        clear hc hnc hfull hno hfd HRR hds hRR qs
        go_wp2_with fail
        have S0 : Hid (w1.drew.cell? ⟨w.heap.size, 0, none⟩ = some (.int .i64 d.room) ∧ w1.drew.cell? ⟨w.heap.size, 1, none⟩ = some (.int .i64 d.next) ∧ w1.drew.cell? ⟨w.heap.size, 2, none⟩ = some v1 ∧ w1.drew.cell? ⟨w.heap.size, 3, none⟩ = some v2 ∧ w1.drew.cell? ⟨w.heap.size, 4, none⟩ = some v3) := ⟨K1.out.cell 0 _ rfl, K1.out.cell 1 _ rfl, K1.out.cell 2 _ rfl, K1.out.cell 3 _ rfl, K1.out.cell 4 _ rfl⟩
        refine wp_region_until (fun w' => w'.cell? ⟨w.heap.size, 0, none⟩ = some (.int .i64 d.room) ∧ w'.cell? ⟨w.heap.size, 1, none⟩ = some (.int .i64 d.next) ∧ w'.cell? ⟨w.heap.size, 2, none⟩ = some v1 ∧ w'.cell? ⟨w.heap.size, 3, none⟩ = some v2 ∧ w'.cell? ⟨w.heap.size, 4, none⟩ = some v3) (fun i => false) 12 (by rfl) (by kernel_rfl) ?_
        refine until_take 0 (v := ?vaok0) (by rfl) (by kernel_rfl) (by exact fun _ _ _ h => h) (by rfl) ?hyaok0 S0.out ?raok0
        case hyaok0 =>
          intro w hSw
          try dsimp only at hSw
          go_simp
          try with_reducible rfl
        try simp only [Act.put, List.setIfInBounds_toArray, List.set_cons_zero, List.set_cons_succ]
        refine until_take 1 (v := ?vaok1) (by rfl) (by kernel_rfl) (by exact fun _ _ _ h => h) (by rfl) ?hyaok1 S0.out ?raok1
        case hyaok1 =>
          intro w hSw
          try dsimp only at hSw
          go_simp
          try with_reducible rfl
        try simp only [Act.put, List.setIfInBounds_toArray, List.set_cons_zero, List.set_cons_succ]
        refine until_take 2 (v := ?vaok2) (by rfl) (by kernel_rfl) (by exact fun _ _ _ h => h) (by rfl) ?hyaok2 S0.out ?raok2
        case hyaok2 =>
          intro w hSw
          try dsimp only at hSw
          go_simp
          try with_reducible rfl
        try simp only [Act.put, List.setIfInBounds_toArray, List.set_cons_zero, List.set_cons_succ]
        refine until_take 3 (v := ?vaok3) (by rfl) (by kernel_rfl) (by exact fun _ _ _ h => h) (by rfl) ?hyaok3 S0.out ?raok3
        case hyaok3 =>
          intro w hSw
          try dsimp only at hSw
          go_simp
          try with_reducible rfl
        try simp only [Act.put, List.setIfInBounds_toArray, List.set_cons_zero, List.set_cons_succ]
        refine until_take 4 (v := ?vaok4) (by rfl) (by kernel_rfl) (by exact fun _ _ _ h => h) (by rfl) ?hyaok4 S0.out ?raok4
        case hyaok4 =>
          intro w hSw
          try dsimp only at hSw
          go_simp
          try with_reducible rfl
        try simp only [Act.put, List.setIfInBounds_toArray, List.set_cons_zero, List.set_cons_succ]
        refine until_take 5 (v := ?vaok5) (by rfl) (by kernel_rfl) (by exact fun _ _ _ h => h) (by rfl) ?hyaok5 S0.out ?raok5
        case hyaok5 =>
          intro w hSw
          try dsimp only at hSw
          go_simp
          try with_reducible rfl
        try simp only [Act.put, List.setIfInBounds_toArray, List.set_cons_zero, List.set_cons_succ]
        refine until_take 6 (v := ?vaok6) (by rfl) (by kernel_rfl) (by exact fun _ _ _ h => h) (by rfl) ?hyaok6 S0.out ?raok6
        case hyaok6 =>
          intro w hSw
          try dsimp only at hSw
          go_simp
          try with_reducible rfl
        try simp only [Act.put, List.setIfInBounds_toArray, List.set_cons_zero, List.set_cons_succ]
        refine until_take 7 (v := ?vaok7) (by rfl) (by kernel_rfl) (by exact fun _ _ _ h => h) (by rfl) ?hyaok7 S0.out ?raok7
        case hyaok7 =>
          intro w hSw
          try dsimp only at hSw
          go_simp
          try with_reducible rfl
        try simp only [Act.put, List.setIfInBounds_toArray, List.set_cons_zero, List.set_cons_succ]
        refine until_one 8 (by rfl) (by kernel_rfl) (fun K hK => ?_)
        go_simp
        refine (bytesV d (.agg #[.int .i64 d.room, .int .i64 d.next, v1, v2, v3]) w1.drew B (HV.out.on (B1.out.drew.mono HB.out)) (by have := HSZ.out; omega) HBY.out (Nat.le_trans HB.out B1.out.size)).mono ?_
        rintro e w2 ⟨rfl, hb2⟩
        have hb21 : Below w1.heap.size w1 w2 := (Below.refl _ w1).drew.trans hb2
        have B2 : Hid (Below w.heap.size w w2) := B1.out.trans (hb21.mono B1.out.size)
        have K2 : Hid (Blk w2 w.heap.size #[.int .i64 d.room, .int .i64 d.next, v1, v2, v3] 35) := K1.out.on hb21 K1.out.lt
        have R2 : Hid (Blk w2 (w.heap.size + 1) #[.int .i64 0, .int .i64 0, .slice none 0 0, .slice none 0 0, .slice none 0 0] 35) := R1.out.on hb21 R1.out.lt
        clear hb2 hb21
        go_wp2_with fail
        refine hK.out _ _ (fun _ _ => ⟨K2.out.cell 0 _ rfl, K2.out.cell 1 _ rfl, K2.out.cell 2 _ rfl, K2.out.cell 3 _ rfl, K2.out.cell 4 _ rfl⟩) ?_
        clear hK K
        try simp only [Act.put, List.setIfInBounds_toArray, List.set_cons_zero, List.set_cons_succ]
        refine until_pure 9 (v := ?vbok9) (by rfl) (by kernel_rfl) (by exact fun _ _ _ h => h) (by rfl) ?hybok9 ?rbok9
        case hybok9 =>
          intro w
          go_simp
          try with_reducible rfl
        try simp only [Act.put, List.setIfInBounds_toArray, List.set_cons_zero, List.set_cons_succ]
        refine until_pure 10 (v := ?vbok10) (by rfl) (by kernel_rfl) (by exact fun _ _ _ h => h) (by rfl) ?hybok10 ?rbok10
        case hybok10 =>
          intro w
          go_simp
          try with_reducible rfl
        try simp only [Act.put, List.setIfInBounds_toArray, List.set_cons_zero, List.set_cons_succ]
        refine until_pure 11 (v := ?vbok11) (by rfl) (by kernel_rfl) (by exact fun _ _ _ h => h) (by rfl) ?hybok11 ?rbok11
        case hybok11 =>
          intro w
          go_simp
          try with_reducible rfl
        try simp only [Act.put, List.setIfInBounds_toArray, List.set_cons_zero, List.set_cons_succ]
        refine until_done (by kernel_rfl) ?_ _
        clear S0 K1 R1
        have cC := copyV d (.agg #[.int .i64 d.room, .int .i64 d.next, v1, v2, v3]) w2 B (HV.out.on (B2.out.mono HB.out)) (by have := HSZ.out; omega) HSZ.out.2.2.1 HSZ.out.2.2.2 (Nat.le_trans HB.out B2.out.size)
        have y0 := K2.out.cell 0 _ rfl
        have y1 := K2.out.cell 1 _ rfl
        have y2 := K2.out.cell 2 _ rfl
        have y3 := K2.out.cell 3 _ rfl
        have y4 := K2.out.cell 4 _ rfl
        go_wp2_with fail
        refine cC.mono ?_
        rintro e w3 ⟨x, rfl, hO3, hb3⟩
        have B3 : Hid (Below w.heap.size w w3) := B2.out.trans (hb3.mono B2.out.size)
        have K3 : Hid (Blk w3 w.heap.size #[.int .i64 d.room, .int .i64 d.next, v1, v2, v3] 35) := K2.out.on hb3 K2.out.lt
        have R3 : Hid (Blk w3 (w.heap.size + 1) #[.int .i64 0, .int .i64 0, .slice none 0 0, .slice none 0 0, .slice none 0 0] 35) := R2.out.on hb3 R2.out.lt
        obtain ⟨x1, x2, x3, rfl, o1, o2, o3⟩ := hO3
        obtain ⟨A1, m1, k1, rfl⟩ := o1.shape
        obtain ⟨A2, m2, k2, rfl⟩ := o2.shape
        obtain ⟨A3, m3, k3, rfl⟩ := o3.shape
        have hz : w.heap.size + 1 < w2.heap.size := R2.out.lt
        have hm : w.heap.size ≤ w2.heap.size := B2.out.size
        have HP1 : Hid (Owns (((((w3.setCell ⟨w.heap.size, 0, none⟩ (.int .i64 d.room)).setCell ⟨w.heap.size, 1, none⟩ (.int .i64 d.next)).setCell ⟨w.heap.size, 2, none⟩ (.slice A1 m1 k1)).setCell ⟨w.heap.size, 3, none⟩ (.slice A2 m2 k2)).setCell ⟨w.heap.size, 4, none⟩ (.slice A3 m3 k3)) w2.heap.size 76 3 (.slice A1 m1 k1) (nodR d.nods)) := (((((o1.other (o1.below (show w.heap.size < w2.heap.size by omega)) 0 (.int .i64 d.room)).other (o1.below (show w.heap.size < w2.heap.size by omega)) 1 (.int .i64 d.next)).other (o1.below (show w.heap.size < w2.heap.size by omega)) 2 (.slice A1 m1 k1)).other (o1.below (show w.heap.size < w2.heap.size by omega)) 3 (.slice A2 m2 k2)).other (o1.below (show w.heap.size < w2.heap.size by omega)) 4 (.slice A3 m3 k3))
        have HP2 : Hid (Owns (((((w3.setCell ⟨w.heap.size, 0, none⟩ (.int .i64 d.room)).setCell ⟨w.heap.size, 1, none⟩ (.int .i64 d.next)).setCell ⟨w.heap.size, 2, none⟩ (.slice A1 m1 k1)).setCell ⟨w.heap.size, 3, none⟩ (.slice A2 m2 k2)).setCell ⟨w.heap.size, 4, none⟩ (.slice A3 m3 k3)) w2.heap.size 79 2 (.slice A2 m2 k2) (lnkR d.dir)) := (((((o2.other (o2.below (show w.heap.size < w2.heap.size by omega)) 0 (.int .i64 d.room)).other (o2.below (show w.heap.size < w2.heap.size by omega)) 1 (.int .i64 d.next)).other (o2.below (show w.heap.size < w2.heap.size by omega)) 2 (.slice A1 m1 k1)).other (o2.below (show w.heap.size < w2.heap.size by omega)) 3 (.slice A2 m2 k2)).other (o2.below (show w.heap.size < w2.heap.size by omega)) 4 (.slice A3 m3 k3))
        have HP3 : Hid (Owns (((((w3.setCell ⟨w.heap.size, 0, none⟩ (.int .i64 d.room)).setCell ⟨w.heap.size, 1, none⟩ (.int .i64 d.next)).setCell ⟨w.heap.size, 2, none⟩ (.slice A1 m1 k1)).setCell ⟨w.heap.size, 3, none⟩ (.slice A2 m2 k2)).setCell ⟨w.heap.size, 4, none⟩ (.slice A3 m3 k3)) w2.heap.size 81 4 (.slice A3 m3 k3) (movR d.movs)) := (((((o3.other (o3.below (show w.heap.size < w2.heap.size by omega)) 0 (.int .i64 d.room)).other (o3.below (show w.heap.size < w2.heap.size by omega)) 1 (.int .i64 d.next)).other (o3.below (show w.heap.size < w2.heap.size by omega)) 2 (.slice A1 m1 k1)).other (o3.below (show w.heap.size < w2.heap.size by omega)) 3 (.slice A2 m2 k2)).other (o3.below (show w.heap.size < w2.heap.size by omega)) 4 (.slice A3 m3 k3))
        have HPB : Hid (Below w.heap.size w (((((w3.setCell ⟨w.heap.size, 0, none⟩ (.int .i64 d.room)).setCell ⟨w.heap.size, 1, none⟩ (.int .i64 d.next)).setCell ⟨w.heap.size, 2, none⟩ (.slice A1 m1 k1)).setCell ⟨w.heap.size, 3, none⟩ (.slice A2 m2 k2)).setCell ⟨w.heap.size, 4, none⟩ (.slice A3 m3 k3))) := (((((B3.out.setCell (Nat.le_refl _) (.int .i64 d.room) (p := ⟨_, 0, none⟩)).setCell (Nat.le_refl _) (.int .i64 d.next) (p := ⟨_, 1, none⟩)).setCell (Nat.le_refl _) (.slice A1 m1 k1) (p := ⟨_, 2, none⟩)).setCell (Nat.le_refl _) (.slice A2 m2 k2) (p := ⟨_, 3, none⟩)).setCell (Nat.le_refl _) (.slice A3 m3 k3) (p := ⟨_, 4, none⟩))
        have HPK : Hid (Blk (((((w3.setCell ⟨w.heap.size, 0, none⟩ (.int .i64 d.room)).setCell ⟨w.heap.size, 1, none⟩ (.int .i64 d.next)).setCell ⟨w.heap.size, 2, none⟩ (.slice A1 m1 k1)).setCell ⟨w.heap.size, 3, none⟩ (.slice A2 m2 k2)).setCell ⟨w.heap.size, 4, none⟩ (.slice A3 m3 k3)) w.heap.size #[.int .i64 d.room, .int .i64 d.next, .slice A1 m1 k1, .slice A2 m2 k2, .slice A3 m3 k3] 35) := (((((K3.out.set 0 (.int .i64 d.room)).set 1 (.int .i64 d.next)).set 2 (.slice A1 m1 k1)).set 3 (.slice A2 m2 k2)).set 4 (.slice A3 m3 k3))
        have HPR : Hid (Blk (((((w3.setCell ⟨w.heap.size, 0, none⟩ (.int .i64 d.room)).setCell ⟨w.heap.size, 1, none⟩ (.int .i64 d.next)).setCell ⟨w.heap.size, 2, none⟩ (.slice A1 m1 k1)).setCell ⟨w.heap.size, 3, none⟩ (.slice A2 m2 k2)).setCell ⟨w.heap.size, 4, none⟩ (.slice A3 m3 k3)) (w.heap.size + 1) #[.int .i64 0, .int .i64 0, .slice none 0 0, .slice none 0 0, .slice none 0 0] 35) := (((((R3.out.other (show w.heap.size + 1 ≠ w.heap.size by omega) 0 (.int .i64 d.room)).other (show w.heap.size + 1 ≠ w.heap.size by omega) 1 (.int .i64 d.next)).other (show w.heap.size + 1 ≠ w.heap.size by omega) 2 (.slice A1 m1 k1)).other (show w.heap.size + 1 ≠ w.heap.size by omega) 3 (.slice A2 m2 k2)).other (show w.heap.size + 1 ≠ w.heap.size by omega) 4 (.slice A3 m3 k3))
        clear cC hb3 y0 y1 y2 y3 y4 K2 R2 o1 o2 o3 R3
        have e0 := K3.out.cell 0 _ rfl
        have t0 := K3.out.free 0
        have e1 := K3.out.cell 1 _ rfl
        have t1 := K3.out.free 1
        have e2 := K3.out.cell 2 _ rfl
        have t2 := K3.out.free 2
        have e3 := K3.out.cell 3 _ rfl
        have t3 := K3.out.free 3
        have e4 := K3.out.cell 4 _ rfl
        have t4 := K3.out.free 4
        go_wp2_with fail
        clear e0 t0 e1 t1 e2 t2 e3 t3 e4 t4
        generalize (((((w3.setCell ⟨w.heap.size, 0, none⟩ (.int .i64 d.room)).setCell ⟨w.heap.size, 1, none⟩ (.int .i64 d.next)).setCell ⟨w.heap.size, 2, none⟩ (.slice A1 m1 k1)).setCell ⟨w.heap.size, 3, none⟩ (.slice A2 m2 k2)).setCell ⟨w.heap.size, 4, none⟩ (.slice A3 m3 k3)) = Y at *
        have hDV : DiskV Y Y.heap.size (.agg #[.int .i64 d.room, .int .i64 d.next, .slice A1 m1 k1, .slice A2 m2 k2, .slice A3 m3 k3]) d := ⟨_, _, _, rfl, HP1.out.lies, HP2.out.lies, HP3.out.lies⟩
        refine (findV d (.agg #[.int .i64 d.room, .int .i64 d.next, .slice A1 m1 k1, .slice A2 m2 k2, .slice A3 m3 k3]) name Y Y.heap.size hDV HF.out HSZ.out.1 (by have := HSZ.out; omega) (Nat.le_refl _)).mono ?_
        rintro e w5 ⟨rfl, hb5⟩
        rw [HFD.out]
        have ei : idxV (some j) = (j : Int) := rfl
        rw [ei]
        obtain ⟨rfl, g, rfl, hgl⟩ := own_at HP1.out (by have := HJ.out; omega)
        have Q1 : Hid (Owns w5 w2.heap.size 76 3 (.slice (some ⟨g, 0, none⟩) d.nods.length k1) (nodR d.nods)) := HP1.out.on hb5
        have Q2 : Hid (Owns w5 w2.heap.size 79 2 (.slice A2 m2 k2) (lnkR d.dir)) := HP2.out.on hb5
        have Q3 : Hid (Owns w5 w2.heap.size 81 4 (.slice A3 m3 k3) (movR d.movs)) := HP3.out.on hb5
        have QB : Hid (Below w.heap.size w w5) := HPB.out.trans (hb5.mono HPB.out.size)
        have QK : Hid (Blk w5 w.heap.size #[.int .i64 d.room, .int .i64 d.next, .slice (some ⟨g, 0, none⟩) d.nods.length k1, .slice A2 m2 k2, .slice A3 m3 k3] 35) := HPK.out.on hb5 HPK.out.lt
        have QR : Hid (Blk w5 (w.heap.size + 1) #[.int .i64 0, .int .i64 0, .slice none 0 0, .slice none 0 0, .slice none 0 0] 35) := HPR.out.on hb5 HPR.out.lt
        have HG : Hid (w2.heap.size ≤ g) := hgl
        have q1 : (d.nods.length : Int) ≤ 10 := by have := HSZ.out; omega
        have q4 : (j : Int) < (d.nods.length : Int) := by have := HJ.out; omega
        have q5 : (0 : Int) ≤ (j : Int) := by omega
        have cD : w5.cell? ⟨g, j * 3 + 1, none⟩ = some (.string (d.nods.getD j default).data) := (by obtain ⟨A, cp, e, hl⟩ := nod_look Q1.out.lies; obtain ⟨g2, off, e2, _, _, h1, _⟩ := hl j HJ.out; cases e; cases e2; simpa using h1)
        have fS := (Q1.out.nodAt HJ.out).free2 (nodR_length _) (j * 3 + 1)
        have PK := Q1.out.pokeData HJ.out ((d.nods.getD j default).data ++ more)
        have P1 : Hid (Owns (w5.setCell ⟨g, j * 3 + 1, none⟩ (.string ((d.nods.getD j default).data ++ more))) w2.heap.size 76 3 (.slice (some ⟨g, 0, none⟩) d.nods.length k1) (nodR (d.nods.set j ⟨(d.nods.getD j default).id, (d.nods.getD j default).data ++ more, (d.nods.getD j default).sure⟩))) := PK
        have x2 := QK.out.cell 2 _ rfl
        clear HP1 HP2 HP3 HPB HPK HPR hb5 hDV hgl PK
        have qs := HQS.out
        generalize hxd : (d.nods.getD j default).data = xd at *
        generalize hxs : (d.nods.getD j default).sure = xs at *
        generalize hNN : d.nods.length = N at *
        have hcat : ¬ 9223372036854775807 < xd.size + more.size := by omega
        go_wp2_with fail
        have S0 : Hid (w5.drew.cell? ⟨w.heap.size, 2, none⟩ = some (.slice (some ⟨g, 0, none⟩) N k1) ∧ w5.drew.cell? ⟨g, j * 3 + 1, none⟩ = some (.string xd)) := ⟨x2, cD⟩
        refine wp_region_until (fun w' => w'.cell? ⟨w.heap.size, 2, none⟩ = some (.slice (some ⟨g, 0, none⟩) N k1) ∧ w'.cell? ⟨g, j * 3 + 1, none⟩ = some (.string xd)) (fun i => i == 13) 14 (by rfl) (by kernel_rfl) ?_
        refine until_take 0 (v := ?vkok0) (by rfl) (by kernel_rfl) (by exact fun _ _ _ h => h) (by rfl) ?hykok0 S0.out ?rkok0
        case hykok0 =>
          intro w hSw
          try dsimp only at hSw
          go_simp
          try with_reducible rfl
        try simp only [Act.put, List.setIfInBounds_toArray, List.set_cons_zero, List.set_cons_succ]
        refine until_take 1 (v := ?vkok1) (by rfl) (by kernel_rfl) (by exact fun _ _ _ h => h) (by rfl) ?hykok1 S0.out ?rkok1
        case hykok1 =>
          intro w hSw
          try dsimp only at hSw
          go_simp
          try with_reducible rfl
        try simp only [Act.put, List.setIfInBounds_toArray, List.set_cons_zero, List.set_cons_succ]
        refine until_take 2 (v := ?vkok2) (by rfl) (by kernel_rfl) (by exact fun _ _ _ h => h) (by rfl) ?hykok2 S0.out ?rkok2
        case hykok2 =>
          intro w hSw
          try dsimp only at hSw
          go_simp
          try with_reducible rfl
        try simp only [Act.put, List.setIfInBounds_toArray, List.set_cons_zero, List.set_cons_succ]
        refine until_take 3 (v := ?vkok3) (by rfl) (by kernel_rfl) (by exact fun _ _ _ h => h) (by rfl) ?hykok3 S0.out ?rkok3
        case hykok3 =>
          intro w hSw
          try dsimp only at hSw
          go_simp
          try with_reducible rfl
        try simp only [Act.put, List.setIfInBounds_toArray, List.set_cons_zero, List.set_cons_succ]
        refine until_take 4 (v := ?vkok4) (by rfl) (by kernel_rfl) (by exact fun _ _ _ h => h) (by rfl) ?hykok4 S0.out ?rkok4
        case hykok4 =>
          intro w hSw
          try dsimp only at hSw
          go_simp
          try with_reducible rfl
        try simp only [Act.put, List.setIfInBounds_toArray, List.set_cons_zero, List.set_cons_succ]
        refine until_take 5 (v := ?vkok5) (by rfl) (by kernel_rfl) (by exact fun _ _ _ h => h) (by rfl) ?hykok5 S0.out ?rkok5
        case hykok5 =>
          intro w hSw
          try dsimp only at hSw
          go_simp
          try with_reducible rfl
        try simp only [Act.put, List.setIfInBounds_toArray, List.set_cons_zero, List.set_cons_succ]
        refine until_take 6 (v := ?vkok6) (by rfl) (by kernel_rfl) (by exact fun _ _ _ h => h) (by rfl) ?hykok6 S0.out ?rkok6
        case hykok6 =>
          intro w hSw
          try dsimp only at hSw
          go_simp
          try with_reducible rfl
        try simp only [Act.put, List.setIfInBounds_toArray, List.set_cons_zero, List.set_cons_succ]
        refine until_take 7 (v := ?vkok7) (by rfl) (by kernel_rfl) (by exact fun _ _ _ h => h) (by rfl) ?hykok7 S0.out ?rkok7
        case hykok7 =>
          intro w hSw
          try dsimp only at hSw
          go_simp
          try with_reducible rfl
        try simp only [Act.put, List.setIfInBounds_toArray, List.set_cons_zero, List.set_cons_succ]
        refine until_take 8 (v := ?vkok8) (by rfl) (by kernel_rfl) (by exact fun _ _ _ h => h) (by rfl) ?hykok8 S0.out ?rkok8
        case hykok8 =>
          intro w hSw
          try dsimp only at hSw
          go_simp
          try with_reducible rfl
        try simp only [Act.put, List.setIfInBounds_toArray, List.set_cons_zero, List.set_cons_succ]
        refine until_take 9 (v := ?vkok9) (by rfl) (by kernel_rfl) (by exact fun _ _ _ h => h) (by rfl) ?hykok9 S0.out ?rkok9
        case hykok9 =>
          intro w hSw
          try dsimp only at hSw
          go_simp
          try with_reducible rfl
        try simp only [Act.put, List.setIfInBounds_toArray, List.set_cons_zero, List.set_cons_succ]
        refine until_take 10 (v := ?vkok10) (by rfl) (by kernel_rfl) (by exact fun _ _ _ h => h) (by rfl) ?hykok10 S0.out ?rkok10
        case hykok10 =>
          intro w hSw
          try dsimp only at hSw
          go_simp
          try with_reducible rfl
        try simp only [Act.put, List.setIfInBounds_toArray, List.set_cons_zero, List.set_cons_succ]
        refine until_take 11 (v := ?vkok11) (by rfl) (by kernel_rfl) (by exact fun _ _ _ h => h) (by rfl) ?hykok11 S0.out ?rkok11
        case hykok11 =>
          intro w hSw
          try dsimp only at hSw
          go_simp
          try with_reducible rfl
        try simp only [Act.put, List.setIfInBounds_toArray, List.set_cons_zero, List.set_cons_succ]
        refine until_take 12 (v := ?vkok12) (by rfl) (by kernel_rfl) (by exact fun _ _ _ h => h) (by rfl) ?hykok12 S0.out ?rkok12
        case hykok12 =>
          intro w hSw
          try dsimp only at hSw
          go_simp
          try with_reducible rfl
        try simp only [Act.put, List.setIfInBounds_toArray, List.set_cons_zero, List.set_cons_succ]
        refine until_one 13 (by rfl) (by kernel_rfl) (fun K hK => ?_)
        go_simp
        refine hK.out _ _ (fun h => by cases h) ?_
        clear hK K
        refine until_done (by kernel_rfl) ?_ _
        have hgw : w.heap.size + 1 < g := Nat.lt_of_lt_of_le hz HG.out
        have zK : Blk (w5.setCell ⟨g, j * 3 + 1, none⟩ (.string (xd ++ more))).drew w.heap.size #[.int .i64 d.room, .int .i64 d.next, .slice (some ⟨g, 0, none⟩) N k1, .slice A2 m2 k2, .slice A3 m3 k3] 35 := QK.out.other (by omega) _ _
        have zR : Blk (w5.setCell ⟨g, j * 3 + 1, none⟩ (.string (xd ++ more))).drew (w.heap.size + 1) #[.int .i64 0, .int .i64 0, .slice none 0 0, .slice none 0 0, .slice none 0 0] 35 := QR.out.other (by omega) _ _
        have z1 := P1.out.kept (w' := (w5.setCell ⟨g, j * 3 + 1, none⟩ (.string (xd ++ more))).drew) fun _ _ _ => rfl
        have z2 := (Q2.out.other (Q1.out.apart Q2.out (by decide) g rfl) (j * 3 + 1) (.string (xd ++ more))).kept (w' := (w5.setCell ⟨g, j * 3 + 1, none⟩ (.string (xd ++ more))).drew) fun _ _ _ => rfl
        have z3 := (Q3.out.other (Q1.out.apart Q3.out (by decide) g rfl) (j * 3 + 1) (.string (xd ++ more))).kept (w' := (w5.setCell ⟨g, j * 3 + 1, none⟩ (.string (xd ++ more))).drew) fun _ _ _ => rfl
        have zB : Below w.heap.size w (w5.setCell ⟨g, j * 3 + 1, none⟩ (.string (xd ++ more))).drew := (QB.out.setCell (p := ⟨g, j * 3 + 1, none⟩) (show w.heap.size ≤ g by omega) _).drew
        clear cD fS x2 S0 Q1 Q2 Q3 QB QK QR P1
        generalize (w5.setCell ⟨g, j * 3 + 1, none⟩ (.string (xd ++ more))).drew = Z at *
        have ZK : Hid (Blk Z w.heap.size #[.int .i64 d.room, .int .i64 d.next, .slice (some ⟨g, 0, none⟩) N k1, .slice A2 m2 k2, .slice A3 m3 k3] 35) := zK
        have ZR : Hid (Blk Z (w.heap.size + 1) #[.int .i64 0, .int .i64 0, .slice none 0 0, .slice none 0 0, .slice none 0 0] 35) := zR
        have Z1 : Hid (Owns Z w2.heap.size 76 3 (.slice (some ⟨g, 0, none⟩) N k1) _) := z1
        have Z2 : Hid (Owns Z w2.heap.size 79 2 (.slice A2 m2 k2) (lnkR d.dir)) := z2
        have Z3 : Hid (Owns Z w2.heap.size 81 4 (.slice A3 m3 k3) (movR d.movs)) := z3
        have ZB : Hid (Below w.heap.size w Z) := zB
        clear zK zR z1 z2 z3 zB
        have r0 := ZK.out.cell 0 _ rfl
        have r1 := ZK.out.cell 1 _ rfl
        have r2 := ZK.out.cell 2 _ rfl
        have r3 := ZK.out.cell 3 _ rfl
        have r4 := ZK.out.cell 4 _ rfl
        have g0 := ZR.out.cell 0 _ rfl
        have f0 := ZR.out.free 0
        have g1 := ZR.out.cell 1 _ rfl
        have f1 := ZR.out.free 1
        have g2 := ZR.out.cell 2 _ rfl
        have f2 := ZR.out.free 2
        have g3 := ZR.out.cell 3 _ rfl
        have f3 := ZR.out.free 3
        have g4 := ZR.out.cell 4 _ rfl
        have f4 := ZR.out.free 4
        go_wp2_with fail
        have hB := ZB.out
        clear r0 r1 r2 r3 r4
        have FB := (((((hB.setCell hg (.int .i64 d.room) (p := ⟨_, 0, none⟩)).setCell hg (.int .i64 d.next) (p := ⟨_, 1, none⟩)).setCell hg (.slice (some ⟨g, 0, none⟩) N k1) (p := ⟨_, 2, none⟩)).setCell hg (.slice A2 m2 k2) (p := ⟨_, 3, none⟩)).setCell hg (.slice A3 m3 k3) (p := ⟨_, 4, none⟩))
        have hF := (((((ZR.out.set 0 (.int .i64 d.room)).set 1 (.int .i64 d.next)).set 2 (.slice (some ⟨g, 0, none⟩) N k1)).set 3 (.slice A2 m2 k2)).set 4 (.slice A3 m3 k3))
        have mm0 := Z1.out.notBlk ZR.out (by decide)
        have F0 := (((((Z1.out.other mm0 0 (.int .i64 d.room)).other mm0 1 (.int .i64 d.next)).other mm0 2 (.slice (some ⟨g, 0, none⟩) N k1)).other mm0 3 (.slice A2 m2 k2)).other mm0 4 (.slice A3 m3 k3))
        have mm1 := Z2.out.notBlk ZR.out (by decide)
        have F1 := (((((Z2.out.other mm1 0 (.int .i64 d.room)).other mm1 1 (.int .i64 d.next)).other mm1 2 (.slice (some ⟨g, 0, none⟩) N k1)).other mm1 3 (.slice A2 m2 k2)).other mm1 4 (.slice A3 m3 k3))
        have mm2 := Z3.out.notBlk ZR.out (by decide)
        have F2 := (((((Z3.out.other mm2 0 (.int .i64 d.room)).other mm2 1 (.int .i64 d.next)).other mm2 2 (.slice (some ⟨g, 0, none⟩) N k1)).other mm2 3 (.slice A2 m2 k2)).other mm2 4 (.slice A3 m3 k3))
        clear g0 f0 g1 f1 g2 f2 g3 f3 g4 f4
        generalize (((((Z.setCell ⟨w.heap.size + 1, 0, none⟩ (.int .i64 d.room)).setCell ⟨w.heap.size + 1, 1, none⟩ (.int .i64 d.next)).setCell ⟨w.heap.size + 1, 2, none⟩ (.slice (some ⟨g, 0, none⟩) N k1)).setCell ⟨w.heap.size + 1, 3, none⟩ (.slice A2 m2 k2)).setCell ⟨w.heap.size + 1, 4, none⟩ (.slice A3 m3 k3)) = WF at *
        have hG : Blk WF (w.heap.size + 1) #[.int .i64 d.room, .int .i64 d.next, .slice (some ⟨g, 0, none⟩) N k1, .slice A2 m2 k2, .slice A3 m3 k3] 35 := hF
        have l0 := hG.cell 0 (.int .i64 d.room) rfl
        have l1 := hG.cell 1 (.int .i64 d.next) rfl
        have l2 := hG.cell 2 (.slice (some ⟨g, 0, none⟩) N k1) rfl
        have l3 := hG.cell 3 (.slice A2 m2 k2) rfl
        have l4 := hG.cell 4 (.slice A3 m3 k3) rfl
        exact bodyPost_ret (v := .tuple #[.agg #[.int .i64 d.room, .int .i64 d.next, .slice (some ⟨g, 0, none⟩) N k1, .slice A2 m2 k2, .slice A3 m3 k3], .int .i64 0]) (by simp [results, go_sem, l0, l1, l2, l3, l4]) rfl (by rw [hRRh.out]; exact ⟨_, rfl, ⟨_, _, _, rfl, F0.mono hm, F1.mono hm, F2.mono hm⟩, FB⟩)
    · have hc : addC d name more = named d name := addC_no hnc
      have hRR : addR d name more = (d, named d name) := by rw [HRR.out, addD_no (by rw [hc]; exact hnc), hc]
      have t1 : (named d name == 0) = false := by simpa using hnc
      clear hc hnc HRR
      generalize named d name = nc at *
      go_wp2_with fail
      have S0 : Hid (w1.drew.cell? ⟨w.heap.size, 0, none⟩ = some (.int .i64 d.room) ∧ w1.drew.cell? ⟨w.heap.size, 1, none⟩ = some (.int .i64 d.next) ∧ w1.drew.cell? ⟨w.heap.size, 2, none⟩ = some v1 ∧ w1.drew.cell? ⟨w.heap.size, 3, none⟩ = some v2 ∧ w1.drew.cell? ⟨w.heap.size, 4, none⟩ = some v3) := ⟨K1.out.cell 0 _ rfl, K1.out.cell 1 _ rfl, K1.out.cell 2 _ rfl, K1.out.cell 3 _ rfl, K1.out.cell 4 _ rfl⟩
      refine wp_region_until (fun w' => w'.cell? ⟨w.heap.size, 0, none⟩ = some (.int .i64 d.room) ∧ w'.cell? ⟨w.heap.size, 1, none⟩ = some (.int .i64 d.next) ∧ w'.cell? ⟨w.heap.size, 2, none⟩ = some v1 ∧ w'.cell? ⟨w.heap.size, 3, none⟩ = some v2 ∧ w'.cell? ⟨w.heap.size, 4, none⟩ = some v3) (fun i => false) 12 (by rfl) (by kernel_rfl) ?_
      refine until_pure 0 (v := ?vano0) (by rfl) (by kernel_rfl) (by exact fun _ _ _ h => h) (by rfl) ?hyano0 ?rano0
      case hyano0 =>
        intro w
        go_simp
        try with_reducible rfl
      try simp only [Act.put, List.setIfInBounds_toArray, List.set_cons_zero, List.set_cons_succ]
      refine until_pure 1 (v := ?vano1) (by rfl) (by kernel_rfl) (by exact fun _ _ _ h => h) (by rfl) ?hyano1 ?rano1
      case hyano1 =>
        intro w
        go_simp
        try with_reducible rfl
      try simp only [Act.put, List.setIfInBounds_toArray, List.set_cons_zero, List.set_cons_succ]
      refine until_pure 2 (v := ?vano2) (by rfl) (by kernel_rfl) (by exact fun _ _ _ h => h) (by rfl) ?hyano2 ?rano2
      case hyano2 =>
        intro w
        go_simp
        try with_reducible rfl
      try simp only [Act.put, List.setIfInBounds_toArray, List.set_cons_zero, List.set_cons_succ]
      refine until_skip 3 (by rfl) (by kernel_rfl) (by exact fun _ _ _ h => h) (by rfl) ?rsno3
      try simp only [Act.put, List.setIfInBounds_toArray, List.set_cons_zero, List.set_cons_succ]
      refine until_skip 4 (by rfl) (by kernel_rfl) (by exact fun _ _ _ h => h) (by rfl) ?rsno4
      try simp only [Act.put, List.setIfInBounds_toArray, List.set_cons_zero, List.set_cons_succ]
      refine until_skip 5 (by rfl) (by kernel_rfl) (by exact fun _ _ _ h => h) (by rfl) ?rsno5
      try simp only [Act.put, List.setIfInBounds_toArray, List.set_cons_zero, List.set_cons_succ]
      refine until_skip 6 (by rfl) (by kernel_rfl) (by exact fun _ _ _ h => h) (by rfl) ?rsno6
      try simp only [Act.put, List.setIfInBounds_toArray, List.set_cons_zero, List.set_cons_succ]
      refine until_skip 7 (by rfl) (by kernel_rfl) (by exact fun _ _ _ h => h) (by rfl) ?rsno7
      try simp only [Act.put, List.setIfInBounds_toArray, List.set_cons_zero, List.set_cons_succ]
      refine until_skip 8 (by rfl) (by kernel_rfl) (by exact fun _ _ _ h => h) (by rfl) ?rsno8
      try simp only [Act.put, List.setIfInBounds_toArray, List.set_cons_zero, List.set_cons_succ]
      refine until_skip 9 (by rfl) (by kernel_rfl) (by exact fun _ _ _ h => h) (by rfl) ?rsno9
      try simp only [Act.put, List.setIfInBounds_toArray, List.set_cons_zero, List.set_cons_succ]
      refine until_skip 10 (by rfl) (by kernel_rfl) (by exact fun _ _ _ h => h) (by rfl) ?rsno10
      try simp only [Act.put, List.setIfInBounds_toArray, List.set_cons_zero, List.set_cons_succ]
      refine until_pure 11 (v := ?vano11) (by rfl) (by kernel_rfl) (by exact fun _ _ _ h => h) (by rfl) ?hyano11 ?rano11
      case hyano11 =>
        intro w
        go_simp
        try with_reducible rfl
      try simp only [Act.put, List.setIfInBounds_toArray, List.set_cons_zero, List.set_cons_succ]
      refine until_done (by kernel_rfl) ?_ _
      have B2 : Hid (Below w.heap.size w w1.drew) := B1.out.drew
      have K2 : Hid (Blk w1.drew w.heap.size #[.int .i64 d.room, .int .i64 d.next, v1, v2, v3] 35) := K1.out
      have R2 : Hid (Blk w1.drew (w.heap.size + 1) #[.int .i64 0, .int .i64 0, .slice none 0 0, .slice none 0 0, .slice none 0 0] 35) := R1.out
      generalize w1.drew = w2 at *
      clear S0 K1 R1
      have cC := copyV d (.agg #[.int .i64 d.room, .int .i64 d.next, v1, v2, v3]) w2 B (HV.out.on (B2.out.mono HB.out)) (by have := HSZ.out; omega) HSZ.out.2.2.1 HSZ.out.2.2.2 (Nat.le_trans HB.out B2.out.size)
      have y0 := K2.out.cell 0 _ rfl
      have y1 := K2.out.cell 1 _ rfl
      have y2 := K2.out.cell 2 _ rfl
      have y3 := K2.out.cell 3 _ rfl
      have y4 := K2.out.cell 4 _ rfl
      go_wp2_with fail
      refine cC.mono ?_
      rintro e w3 ⟨x, rfl, hO3, hb3⟩
      have B3 : Hid (Below w.heap.size w w3) := B2.out.trans (hb3.mono B2.out.size)
      have K3 : Hid (Blk w3 w.heap.size #[.int .i64 d.room, .int .i64 d.next, v1, v2, v3] 35) := K2.out.on hb3 K2.out.lt
      have R3 : Hid (Blk w3 (w.heap.size + 1) #[.int .i64 0, .int .i64 0, .slice none 0 0, .slice none 0 0, .slice none 0 0] 35) := R2.out.on hb3 R2.out.lt
      obtain ⟨x1, x2, x3, rfl, o1, o2, o3⟩ := hO3
      obtain ⟨A1, m1, k1, rfl⟩ := o1.shape
      obtain ⟨A2, m2, k2, rfl⟩ := o2.shape
      obtain ⟨A3, m3, k3, rfl⟩ := o3.shape
      have hz : w.heap.size + 1 < w2.heap.size := R2.out.lt
      have hm : w.heap.size ≤ w2.heap.size := B2.out.size
      have HP1 : Hid (Owns (((((w3.setCell ⟨w.heap.size, 0, none⟩ (.int .i64 d.room)).setCell ⟨w.heap.size, 1, none⟩ (.int .i64 d.next)).setCell ⟨w.heap.size, 2, none⟩ (.slice A1 m1 k1)).setCell ⟨w.heap.size, 3, none⟩ (.slice A2 m2 k2)).setCell ⟨w.heap.size, 4, none⟩ (.slice A3 m3 k3)) w2.heap.size 76 3 (.slice A1 m1 k1) (nodR d.nods)) := (((((o1.other (o1.below (show w.heap.size < w2.heap.size by omega)) 0 (.int .i64 d.room)).other (o1.below (show w.heap.size < w2.heap.size by omega)) 1 (.int .i64 d.next)).other (o1.below (show w.heap.size < w2.heap.size by omega)) 2 (.slice A1 m1 k1)).other (o1.below (show w.heap.size < w2.heap.size by omega)) 3 (.slice A2 m2 k2)).other (o1.below (show w.heap.size < w2.heap.size by omega)) 4 (.slice A3 m3 k3))
      have HP2 : Hid (Owns (((((w3.setCell ⟨w.heap.size, 0, none⟩ (.int .i64 d.room)).setCell ⟨w.heap.size, 1, none⟩ (.int .i64 d.next)).setCell ⟨w.heap.size, 2, none⟩ (.slice A1 m1 k1)).setCell ⟨w.heap.size, 3, none⟩ (.slice A2 m2 k2)).setCell ⟨w.heap.size, 4, none⟩ (.slice A3 m3 k3)) w2.heap.size 79 2 (.slice A2 m2 k2) (lnkR d.dir)) := (((((o2.other (o2.below (show w.heap.size < w2.heap.size by omega)) 0 (.int .i64 d.room)).other (o2.below (show w.heap.size < w2.heap.size by omega)) 1 (.int .i64 d.next)).other (o2.below (show w.heap.size < w2.heap.size by omega)) 2 (.slice A1 m1 k1)).other (o2.below (show w.heap.size < w2.heap.size by omega)) 3 (.slice A2 m2 k2)).other (o2.below (show w.heap.size < w2.heap.size by omega)) 4 (.slice A3 m3 k3))
      have HP3 : Hid (Owns (((((w3.setCell ⟨w.heap.size, 0, none⟩ (.int .i64 d.room)).setCell ⟨w.heap.size, 1, none⟩ (.int .i64 d.next)).setCell ⟨w.heap.size, 2, none⟩ (.slice A1 m1 k1)).setCell ⟨w.heap.size, 3, none⟩ (.slice A2 m2 k2)).setCell ⟨w.heap.size, 4, none⟩ (.slice A3 m3 k3)) w2.heap.size 81 4 (.slice A3 m3 k3) (movR d.movs)) := (((((o3.other (o3.below (show w.heap.size < w2.heap.size by omega)) 0 (.int .i64 d.room)).other (o3.below (show w.heap.size < w2.heap.size by omega)) 1 (.int .i64 d.next)).other (o3.below (show w.heap.size < w2.heap.size by omega)) 2 (.slice A1 m1 k1)).other (o3.below (show w.heap.size < w2.heap.size by omega)) 3 (.slice A2 m2 k2)).other (o3.below (show w.heap.size < w2.heap.size by omega)) 4 (.slice A3 m3 k3))
      have HPB : Hid (Below w.heap.size w (((((w3.setCell ⟨w.heap.size, 0, none⟩ (.int .i64 d.room)).setCell ⟨w.heap.size, 1, none⟩ (.int .i64 d.next)).setCell ⟨w.heap.size, 2, none⟩ (.slice A1 m1 k1)).setCell ⟨w.heap.size, 3, none⟩ (.slice A2 m2 k2)).setCell ⟨w.heap.size, 4, none⟩ (.slice A3 m3 k3))) := (((((B3.out.setCell (Nat.le_refl _) (.int .i64 d.room) (p := ⟨_, 0, none⟩)).setCell (Nat.le_refl _) (.int .i64 d.next) (p := ⟨_, 1, none⟩)).setCell (Nat.le_refl _) (.slice A1 m1 k1) (p := ⟨_, 2, none⟩)).setCell (Nat.le_refl _) (.slice A2 m2 k2) (p := ⟨_, 3, none⟩)).setCell (Nat.le_refl _) (.slice A3 m3 k3) (p := ⟨_, 4, none⟩))
      have HPK : Hid (Blk (((((w3.setCell ⟨w.heap.size, 0, none⟩ (.int .i64 d.room)).setCell ⟨w.heap.size, 1, none⟩ (.int .i64 d.next)).setCell ⟨w.heap.size, 2, none⟩ (.slice A1 m1 k1)).setCell ⟨w.heap.size, 3, none⟩ (.slice A2 m2 k2)).setCell ⟨w.heap.size, 4, none⟩ (.slice A3 m3 k3)) w.heap.size #[.int .i64 d.room, .int .i64 d.next, .slice A1 m1 k1, .slice A2 m2 k2, .slice A3 m3 k3] 35) := (((((K3.out.set 0 (.int .i64 d.room)).set 1 (.int .i64 d.next)).set 2 (.slice A1 m1 k1)).set 3 (.slice A2 m2 k2)).set 4 (.slice A3 m3 k3))
      have HPR : Hid (Blk (((((w3.setCell ⟨w.heap.size, 0, none⟩ (.int .i64 d.room)).setCell ⟨w.heap.size, 1, none⟩ (.int .i64 d.next)).setCell ⟨w.heap.size, 2, none⟩ (.slice A1 m1 k1)).setCell ⟨w.heap.size, 3, none⟩ (.slice A2 m2 k2)).setCell ⟨w.heap.size, 4, none⟩ (.slice A3 m3 k3)) (w.heap.size + 1) #[.int .i64 0, .int .i64 0, .slice none 0 0, .slice none 0 0, .slice none 0 0] 35) := (((((R3.out.other (show w.heap.size + 1 ≠ w.heap.size by omega) 0 (.int .i64 d.room)).other (show w.heap.size + 1 ≠ w.heap.size by omega) 1 (.int .i64 d.next)).other (show w.heap.size + 1 ≠ w.heap.size by omega) 2 (.slice A1 m1 k1)).other (show w.heap.size + 1 ≠ w.heap.size by omega) 3 (.slice A2 m2 k2)).other (show w.heap.size + 1 ≠ w.heap.size by omega) 4 (.slice A3 m3 k3))
      clear cC hb3 y0 y1 y2 y3 y4 K2 R2 o1 o2 o3 R3
      have e0 := K3.out.cell 0 _ rfl
      have t0 := K3.out.free 0
      have e1 := K3.out.cell 1 _ rfl
      have t1 := K3.out.free 1
      have e2 := K3.out.cell 2 _ rfl
      have t2 := K3.out.free 2
      have e3 := K3.out.cell 3 _ rfl
      have t3 := K3.out.free 3
      have e4 := K3.out.cell 4 _ rfl
      have t4 := K3.out.free 4
      have r0 := HPK.out.cell 0 _ rfl
      have r1 := HPK.out.cell 1 _ rfl
      have r2 := HPK.out.cell 2 _ rfl
      have r3 := HPK.out.cell 3 _ rfl
      have r4 := HPK.out.cell 4 _ rfl
      have g0 := HPR.out.cell 0 _ rfl
      have f0 := HPR.out.free 0
      have g1 := HPR.out.cell 1 _ rfl
      have f1 := HPR.out.free 1
      have g2 := HPR.out.cell 2 _ rfl
      have f2 := HPR.out.free 2
      have g3 := HPR.out.cell 3 _ rfl
      have f3 := HPR.out.free 3
      have g4 := HPR.out.cell 4 _ rfl
      have f4 := HPR.out.free 4
      go_wp2_with fail
      have hB := HPB.out
      clear r0 e0 t0 r1 e1 t1 r2 e2 t2 r3 e3 t3 r4 e4 t4
      have FB := (((((hB.setCell hg (.int .i64 d.room) (p := ⟨_, 0, none⟩)).setCell hg (.int .i64 d.next) (p := ⟨_, 1, none⟩)).setCell hg (.slice A1 m1 k1) (p := ⟨_, 2, none⟩)).setCell hg (.slice A2 m2 k2) (p := ⟨_, 3, none⟩)).setCell hg (.slice A3 m3 k3) (p := ⟨_, 4, none⟩))
      have hF := (((((HPR.out.set 0 (.int .i64 d.room)).set 1 (.int .i64 d.next)).set 2 (.slice A1 m1 k1)).set 3 (.slice A2 m2 k2)).set 4 (.slice A3 m3 k3))
      have mm0 := HP1.out.notBlk HPR.out (by decide)
      have F0 := (((((HP1.out.other mm0 0 (.int .i64 d.room)).other mm0 1 (.int .i64 d.next)).other mm0 2 (.slice A1 m1 k1)).other mm0 3 (.slice A2 m2 k2)).other mm0 4 (.slice A3 m3 k3))
      have mm1 := HP2.out.notBlk HPR.out (by decide)
      have F1 := (((((HP2.out.other mm1 0 (.int .i64 d.room)).other mm1 1 (.int .i64 d.next)).other mm1 2 (.slice A1 m1 k1)).other mm1 3 (.slice A2 m2 k2)).other mm1 4 (.slice A3 m3 k3))
      have mm2 := HP3.out.notBlk HPR.out (by decide)
      have F2 := (((((HP3.out.other mm2 0 (.int .i64 d.room)).other mm2 1 (.int .i64 d.next)).other mm2 2 (.slice A1 m1 k1)).other mm2 3 (.slice A2 m2 k2)).other mm2 4 (.slice A3 m3 k3))
      clear g0 f0 g1 f1 g2 f2 g3 f3 g4 f4
      generalize ((((((((((w3.setCell ⟨w.heap.size, 0, none⟩ (.int .i64 d.room)).setCell ⟨w.heap.size, 1, none⟩ (.int .i64 d.next)).setCell ⟨w.heap.size, 2, none⟩ (.slice A1 m1 k1)).setCell ⟨w.heap.size, 3, none⟩ (.slice A2 m2 k2)).setCell ⟨w.heap.size, 4, none⟩ (.slice A3 m3 k3)).setCell ⟨w.heap.size + 1, 0, none⟩ (.int .i64 d.room)).setCell ⟨w.heap.size + 1, 1, none⟩ (.int .i64 d.next)).setCell ⟨w.heap.size + 1, 2, none⟩ (.slice A1 m1 k1)).setCell ⟨w.heap.size + 1, 3, none⟩ (.slice A2 m2 k2)).setCell ⟨w.heap.size + 1, 4, none⟩ (.slice A3 m3 k3)) = WF at *
      have hG : Blk WF (w.heap.size + 1) #[.int .i64 d.room, .int .i64 d.next, .slice A1 m1 k1, .slice A2 m2 k2, .slice A3 m3 k3] 35 := hF
      have l0 := hG.cell 0 (.int .i64 d.room) rfl
      have l1 := hG.cell 1 (.int .i64 d.next) rfl
      have l2 := hG.cell 2 (.slice A1 m1 k1) rfl
      have l3 := hG.cell 3 (.slice A2 m2 k2) rfl
      have l4 := hG.cell 4 (.slice A3 m3 k3) rfl
      exact bodyPost_ret (v := .tuple #[.agg #[.int .i64 d.room, .int .i64 d.next, .slice A1 m1 k1, .slice A2 m2 k2, .slice A3 m3 k3], .int .i64 nc]) (by simp [results, go_sem, l0, l1, l2, l3, l4]) rfl (by rw [hRR]; exact ⟨_, rfl, ⟨_, _, _, rfl, F0.mono hm, F1.mono hm, F2.mono hm⟩, FB⟩)
end Go.Proofs.YtnnfnhpehacelaaGreat

/-
  The contract of (impl.openDisk).addMove, the disk left open.
-/
namespace Go.Proofs.YtnnfnhpehacelaaGreat
open Go.ChangeShapes Go.WideShapes Go.ChangeAt Go.RowKit Go.PlainAid
set_option linter.unusedVariables false

set_option maxRecDepth 20000 in
set_option maxHeartbeats 4000000 in
theorem addMoveO (w : World) (base p : Nat) (d : Dsk) (bi bd bw : Nat) (gs : List Nat) (u : Value) (mk : Int) (mn mt : ByteArray) (mi : Int) (h : OpenD w base p d bi bd bw gs u) (hd : Whole d) (hw : wtD d ≤ 1048576) (hs1 : mn.size ≤ 1000) (hs2 : mt.size ≤ 1000) (hB : base ≤ w.heap.size) :
    Calls Tryz.prog 87 #[.pointer (some ⟨p, 0, none⟩), .agg #[.int .i64 mk, .string mn, .string mt, .int .i64 mi]] w fun e w' => e = .returned (.int .i64 (movedD d ⟨mk, mn, mt, mi⟩).2) ∧ ((20 ≤ d.movs.length ∧ Tellable w' p d) ∨ (¬ 20 ≤ d.movs.length ∧ ∃ u', Blk w' p #[.int .i64 d.room, .int .i64 d.next, .map (some bi), .map (some bd), u', .map (some bw)] 108 ∧ IT w' bi (prs d.nods gs) ∧ Held w' d.nods gs ∧ NT w' bd d.dir ∧ Owns w' base 81 4 u' (movR (d.movs ++ [⟨mk, mn, mt, mi⟩])))) ∧ Below base w w' := by
  have HT : Hid (Tellable w p d) := h.tell hd hw
  obtain ⟨uA, um, uc, rfl⟩ := h.mv.shape
  obtain rfl := slice_len h.mv
  have HO : Hid (OpenD w base p d bi bd bw gs (.slice uA d.movs.length uc)) := h
  have HB : Hid (base ≤ w.heap.size) := hB
  have HS1 : Hid (mn.size ≤ 1000) := hs1
  have HS2 : Hid (mt.size ≤ 1000) := hs2
  have hR := (sizeOk_iff d).1 hd.size
  have HM : Hid (d.movs.length ≤ 20) := hR.m
  have HL : Hid ((now d).length ≤ 1000) := by
    have h1 := names_len d.dir d.movs
    have := hR.l
    have := hR.m
    unfold Hid now
    omega
  have HNO : Hid (NamesOk (now d)) := (now_linked hd).ok
  have HR : Hid ((20 ≤ d.movs.length → movedD d ⟨mk, mn, mt, mi⟩ = (d, 4)) ∧ (¬ 20 ≤ d.movs.length → movedD d ⟨mk, mn, mt, mi⟩ = (⟨d.room, d.next, d.nods, d.dir, d.movs ++ [⟨mk, mn, mt, mi⟩]⟩, 0))) := ⟨movedD_full, movedD_room⟩
  clear h hd hw hB hs1 hs2 hR
  generalize hUM : d.movs.length = um at *
  have q1 : (um : Int) ≤ 20 := by have := HM.out; omega
  have PY0 : Hid (Blk (w.alloc (.cells #[.int .i64 mk, .string mn, .string mt, .int .i64 mi] 81)) p #[.int .i64 d.room, .int .i64 d.next, .map (some bi), .map (some bd), .slice uA um uc, .map (some bw)] 108) := HO.out.blk.alloc _
  have x4 := PY0.out.cell 4 _ rfl
  by_cases hfull : 20 ≤ um
  · have t1 : decide ((20 : Int) ≤ (um : Int)) = true := decide_eq_true (by omega)
    have HRR := HR.out.1 hfull
    have HFL : Hid (20 ≤ um) := hfull
    clear hfull HR
    go_enter Tryz.func87, Tryz.ntmps87
    go_wp2_with fail
    go_ret
    have hb : Below w.heap.size w (w.alloc (.cells #[.int .i64 mk, .string mn, .string mt, .int .i64 mi] 81)) := (Below.refl _ w).alloc (Nat.le_refl _) _
    exact ⟨by rw [HRR]; rfl, .inl ⟨HFL.out, tell_on HT.out hb⟩, hb.mono HB.out⟩
  · have t1 : decide ((20 : Int) ≤ (um : Int)) = false := decide_eq_false (by omega)
    have HRR : Hid (movedD d ⟨mk, mn, mt, mi⟩ = _) := HR.out.2 hfull
    have HFL : Hid (¬ 20 ≤ um) := hfull
    clear hfull HR
    go_enter Tryz.func87, Tryz.ntmps87
    go_wp2_with fail
    clear x4
    have hbY : Below w.heap.size w (w.alloc (.cells #[.int .i64 mk, .string mn, .string mt, .int .i64 mi] 81)) := (Below.refl _ w).alloc (Nat.le_refl _) _
    have zY := Blk.new w #[.int .i64 mk, .string mn, .string mt, .int .i64 mi] 81
    have szY : (w.alloc (.cells #[.int .i64 mk, .string mn, .string mt, .int .i64 mi] 81)).heap.size = w.heap.size + 1 := by simp
    generalize w.alloc (.cells #[.int .i64 mk, .string mn, .string mt, .int .i64 mi] 81) = Y at *
    have OY : Hid (OpenD Y base p d bi bd bw gs (.slice uA um uc)) := HO.out.on hbY
    have ZY : Hid (Blk Y w.heap.size #[.int .i64 mk, .string mn, .string mt, .int .i64 mi] 81) := zY
    have BY : Hid (Below w.heap.size w Y) := hbY
    have ZNE : Hid (∀ g, (Value.slice uA um uc).ownBlock = some g → g ≠ w.heap.size) := fun g hg => by
      have := (HO.out.mv.lt g hg).2
      omega
    have PZN : Hid (w.heap.size ≠ p ∧ w.heap.size ≠ bw) := by
      have h1 := HO.out.blk.lt
      have h2 := HO.out.nw.lt
      exact ⟨by omega, by omega⟩
    have hszY : Hid (w.heap.size ≤ Y.heap.size) := hbY.size
    clear hbY zY szY
    generalize hpz : w.heap.size = pz at *
    have HB2 : Hid (base ≤ pz) := HB.out
    have S0 : Hid (Y.drew.cell? ⟨p, 4, none⟩ = some (.slice uA um uc) ∧ Y.drew.cell? ⟨pz, 0, none⟩ = some (.int .i64 mk) ∧ Y.drew.cell? ⟨pz, 1, none⟩ = some (.string mn) ∧ Y.drew.cell? ⟨pz, 2, none⟩ = some (.string mt) ∧ Y.drew.cell? ⟨pz, 3, none⟩ = some (.int .i64 mi)) := ⟨OY.out.blk.cell 4 _ rfl, ZY.out.cell 0 _ rfl, ZY.out.cell 1 _ rfl, ZY.out.cell 2 _ rfl, ZY.out.cell 3 _ rfl⟩
    have OYd : Owns Y.drew base 81 4 (.slice uA um uc) (movR d.movs) := OY.out.mv.kept fun _ _ _ => rfl
    have Z5 : base ≤ Y.drew.heap.size := Nat.le_trans HB.out hszY.out
    obtain ⟨nA, nm, nc, w5, r5, hO5, hb5, hk5, _⟩ := run_append_row (P := Tryz.prog) Y.drew 33 33 81 (.agg #[.int .i64 0, .string ⟨#[]⟩, .string ⟨#[]⟩, .int .i64 0]) 4 48 Tryz.underlying33 Tryz.infoMov rfl (by omega) base (.slice uA um uc) (movR d.movs) OYd [.int .i64 mk, .string mn, .string mt, .int .i64 mi] rfl (by intro y hy; simp at hy; rcases hy with rfl | rfl | rfl | rfl <;> rfl) (by rw [movR_length]; have := HM.out; omega) (by omega) Z5
    have hk : ∀ g, g < Y.heap.size → (Value.slice uA um uc).ownBlock ≠ some g → w5.heap[g]? = Y.heap[g]? := hk5
    have P5 : Hid (Blk w5 p #[.int .i64 d.room, .int .i64 d.next, .map (some bi), .map (some bd), .slice uA um uc, .map (some bw)] 108) := by
      unfold Hid Blk
      rw [hk p OY.out.blk.lt (OY.out.mv.notBlk OY.out.blk (by decide))]
      exact OY.out.blk
    have K5 : Hid (Blk w5 pz #[.int .i64 mk, .string mn, .string mt, .int .i64 mi] 81) := by
      unfold Hid Blk
      rw [hk pz ZY.out.lt (fun e => ZNE.out pz e rfl)]
      exact ZY.out
    have I5 : Hid (IT w5 bi (prs d.nods gs)) := OY.out.it.kept (hk bi OY.out.it.lt (OY.out.it.notOwn OY.out.mv))
    have N5 : Hid (NT w5 bd d.dir) := OY.out.nd.kept (hk bd OY.out.nd.lt (OY.out.nd.notOwn OY.out.mv))
    have W5 : Hid (NT w5 bw (now d)) := OY.out.nw.kept (hk bw OY.out.nw.lt (OY.out.nw.notOwn OY.out.mv))
    have H5 : Hid (Held w5 d.nods gs) := OY.out.held.kept fun g hg => hk g (OY.out.held.lt g hg) (by
      obtain ⟨j, hj, rfl⟩ := List.getElem_of_mem hg
      have h1 := OY.out.held.blk j (by rw [← OY.out.held.len]; exact hj)
      rw [List.getD_eq_getElem?_getD, List.getElem?_eq_getElem hj] at h1
      exact OY.out.mv.notBlk h1 (by decide))
    have O5 : Hid (Owns w5 base 81 4 (.slice nA nm nc) (movR d.movs ++ [[.int .i64 mk, .string mn, .string mt, .int .i64 mi]])) := hO5
    have B5 : Hid (Below base Y w5) := (Below.refl base Y).drew.trans hb5
    have y4 := P5.out.cell 4 _ rfl
    have z4 := P5.out.free 4
    clear hO5 hb5 hk5 hk OYd Z5
    refine wp_region_until (fun w' => w'.cell? ⟨p, 4, none⟩ = some (.slice uA um uc) ∧ w'.cell? ⟨pz, 0, none⟩ = some (.int .i64 mk) ∧ w'.cell? ⟨pz, 1, none⟩ = some (.string mn) ∧ w'.cell? ⟨pz, 2, none⟩ = some (.string mt) ∧ w'.cell? ⟨pz, 3, none⟩ = some (.int .i64 mi)) (fun i => i == 7 || i == 10) 11 (by rfl) (by kernel_rfl) ?_
    refine until_pure 0 (v := ?va0) (by rfl) (by kernel_rfl) (by exact fun _ _ _ h => h) (by rfl) ?hya0 ?ra0
    case hya0 =>
      intro w
      go_simp
      try with_reducible rfl
    try simp only [Act.put, List.setIfInBounds_toArray, List.set_cons_zero, List.set_cons_succ]
    refine until_take 1 (v := ?va1) (by rfl) (by kernel_rfl) (by exact fun _ _ _ h => h) (by rfl) ?hya1 S0.out ?ra1
    case hya1 =>
      intro w hSw
      try dsimp only at hSw
      go_simp
      try with_reducible rfl
    try simp only [Act.put, List.setIfInBounds_toArray, List.set_cons_zero, List.set_cons_succ]
    refine until_take 2 (v := ?va2) (by rfl) (by kernel_rfl) (by exact fun _ _ _ h => h) (by rfl) ?hya2 S0.out ?ra2
    case hya2 =>
      intro w hSw
      try dsimp only at hSw
      go_simp
      try with_reducible rfl
    try simp only [Act.put, List.setIfInBounds_toArray, List.set_cons_zero, List.set_cons_succ]
    refine until_take 3 (v := ?va3) (by rfl) (by kernel_rfl) (by exact fun _ _ _ h => h) (by rfl) ?hya3 S0.out ?ra3
    case hya3 =>
      intro w hSw
      try dsimp only at hSw
      go_simp
      try with_reducible rfl
    try simp only [Act.put, List.setIfInBounds_toArray, List.set_cons_zero, List.set_cons_succ]
    refine until_take 4 (v := ?va4) (by rfl) (by kernel_rfl) (by exact fun _ _ _ h => h) (by rfl) ?hya4 S0.out ?ra4
    case hya4 =>
      intro w hSw
      try dsimp only at hSw
      go_simp
      try with_reducible rfl
    try simp only [Act.put, List.setIfInBounds_toArray, List.set_cons_zero, List.set_cons_succ]
    refine until_take 5 (v := ?va5) (by rfl) (by kernel_rfl) (by exact fun _ _ _ h => h) (by rfl) ?hya5 S0.out ?ra5
    case hya5 =>
      intro w hSw
      try dsimp only at hSw
      go_simp
      try with_reducible rfl
    try simp only [Act.put, List.setIfInBounds_toArray, List.set_cons_zero, List.set_cons_succ]
    refine until_one 6 (by rfl) (by kernel_rfl) (fun K hK => ?_)
    go_simp
    refine hK.out _ _ (fun _ _ => ⟨(Blk.alloc (w := Y.drew) OY.out.blk _).cell 4 _ rfl, (Blk.alloc (w := Y.drew) ZY.out _).cell 0 _ rfl, (Blk.alloc (w := Y.drew) ZY.out _).cell 1 _ rfl, (Blk.alloc (w := Y.drew) ZY.out _).cell 2 _ rfl, (Blk.alloc (w := Y.drew) ZY.out _).cell 3 _ rfl⟩) ?_
    clear hK K
    try simp only [Act.put, List.setIfInBounds_toArray, List.set_cons_zero, List.set_cons_succ]
    refine until_one 7 (by rfl) (by kernel_rfl) (fun K hK => ?_)
    refine step_append_run (by rfl) (.tmp 15) (.tmp 17) 33 (by rfl) _ _ _ _ (by rfl) (by rfl) r5 ?_
    refine hK.out _ _ (fun h => by cases h) ?_
    clear hK K
    try simp only [Act.put, List.setIfInBounds_toArray, List.set_cons_zero, List.set_cons_succ]
    refine until_pure 8 (v := ?vb8) (by rfl) (by kernel_rfl) (by exact fun _ _ _ h => h) (by rfl) ?hyb8 ?rb8
    case hyb8 =>
      intro w
      go_simp
      try with_reducible rfl
    try simp only [Act.put, List.setIfInBounds_toArray, List.set_cons_zero, List.set_cons_succ]
    refine until_pure 9 (v := ?vb9) (by rfl) (by kernel_rfl) (by exact fun _ _ _ h => h) (by rfl) ?hyb9 ?rb9
    case hyb9 =>
      intro w
      go_simp
      try with_reducible rfl
    try simp only [Act.put, List.setIfInBounds_toArray, List.set_cons_zero, List.set_cons_succ]
    refine until_one 10 (by rfl) (by kernel_rfl) (fun K hK => ?_)
    go_simp
    refine hK.out _ _ (fun h => by cases h) ?_
    clear hK K
    refine until_done (by kernel_rfl) ?_ _
    go_wp2_with fail
    have P6 : Hid (Blk (w5.setCell ⟨p, 4, none⟩ (.slice nA nm nc)) p #[.int .i64 d.room, .int .i64 d.next, .map (some bi), .map (some bd), .slice nA nm nc, .map (some bw)] 108) := P5.out.set 4 _
    have K6 : Hid (Blk (w5.setCell ⟨p, 4, none⟩ (.slice nA nm nc)) pz #[.int .i64 mk, .string mn, .string mt, .int .i64 mi] 81) := K5.out.other PZN.out.1 _ _
    have hkeep : ∀ g, g ≠ p → (w5.setCell ⟨p, 4, none⟩ (.slice nA nm nc)).heap[g]? = w5.heap[g]? := fun g hg => Below.heap_setCell _ ⟨p, 4, none⟩ _ _ hg
    have I6 : Hid (IT (w5.setCell ⟨p, 4, none⟩ (.slice nA nm nc)) bi (prs d.nods gs)) := I5.out.kept (hkeep bi HO.out.pi.symm)
    have N6 : Hid (NT (w5.setCell ⟨p, 4, none⟩ (.slice nA nm nc)) bd d.dir) := N5.out.kept (hkeep bd HO.out.pd.symm)
    have W6 : Hid (NT (w5.setCell ⟨p, 4, none⟩ (.slice nA nm nc)) bw (now d)) := W5.out.kept (hkeep bw HO.out.pw.symm)
    have H6 : Hid (Held (w5.setCell ⟨p, 4, none⟩ (.slice nA nm nc)) d.nods gs) := H5.out.kept fun g hg => hkeep g (HO.out.gl g hg).2.1
    have O6 : Hid (Owns (w5.setCell ⟨p, 4, none⟩ (.slice nA nm nc)) base 81 4 (.slice nA nm nc) (movR d.movs ++ [[.int .i64 mk, .string mn, .string mt, .int .i64 mi]])) := O5.out.other (O5.out.notBlk P5.out (by decide)) _ _
    have B6 : Hid (Below base Y (w5.setCell ⟨p, 4, none⟩ (.slice nA nm nc))) := B5.out.setCell (p := ⟨p, 4, none⟩) HO.out.lo.1 _
    clear hkeep y4 z4 S0 r5 P5 K5 I5 N5 W5 H5 O5 B5
    generalize w5.setCell ⟨p, 4, none⟩ (.slice nA nm nc) = w6 at *
    have S0 : Hid (w6.drew.cell? ⟨p, 5, none⟩ = some (.map (some bw)) ∧ w6.drew.cell? ⟨pz, 0, none⟩ = some (.int .i64 mk) ∧ w6.drew.cell? ⟨pz, 1, none⟩ = some (.string mn) ∧ w6.drew.cell? ⟨pz, 2, none⟩ = some (.string mt) ∧ w6.drew.cell? ⟨pz, 3, none⟩ = some (.int .i64 mi)) := ⟨P6.out.cell 5 _ rfl, K6.out.cell 0 _ rfl, K6.out.cell 1 _ rfl, K6.out.cell 2 _ rfl, K6.out.cell 3 _ rfl⟩
    have cA := applyI (now d) bw ⟨mk, mn, mt, mi⟩ w6.drew (W6.out.kept rfl) HL.out HNO.out (by have := HS1.out; unfold maxLen; simp only; omega) (by have := HS2.out; unfold maxLen; simp only; omega)
    unfold movV at cA
    simp only at cA
    generalize (apply (now d) ⟨mk, mn, mt, mi⟩).isSome = ok at *
    refine wp_region_until (fun w' => w'.cell? ⟨p, 5, none⟩ = some (.map (some bw)) ∧ w'.cell? ⟨pz, 0, none⟩ = some (.int .i64 mk) ∧ w'.cell? ⟨pz, 1, none⟩ = some (.string mn) ∧ w'.cell? ⟨pz, 2, none⟩ = some (.string mt) ∧ w'.cell? ⟨pz, 3, none⟩ = some (.int .i64 mi)) (fun i => i == 5) 6 (by rfl) (by kernel_rfl) ?_
    refine until_take 0 (v := ?vd0) (by rfl) (by kernel_rfl) (by exact fun _ _ _ h => h) (by rfl) ?hyd0 S0.out ?rd0
    case hyd0 =>
      intro w hSw
      try dsimp only at hSw
      go_simp
      try with_reducible rfl
    try simp only [Act.put, List.setIfInBounds_toArray, List.set_cons_zero, List.set_cons_succ]
    refine until_take 1 (v := ?vd1) (by rfl) (by kernel_rfl) (by exact fun _ _ _ h => h) (by rfl) ?hyd1 S0.out ?rd1
    case hyd1 =>
      intro w hSw
      try dsimp only at hSw
      go_simp
      try with_reducible rfl
    try simp only [Act.put, List.setIfInBounds_toArray, List.set_cons_zero, List.set_cons_succ]
    refine until_take 2 (v := ?vd2) (by rfl) (by kernel_rfl) (by exact fun _ _ _ h => h) (by rfl) ?hyd2 S0.out ?rd2
    case hyd2 =>
      intro w hSw
      try dsimp only at hSw
      go_simp
      try with_reducible rfl
    try simp only [Act.put, List.setIfInBounds_toArray, List.set_cons_zero, List.set_cons_succ]
    refine until_take 3 (v := ?vd3) (by rfl) (by kernel_rfl) (by exact fun _ _ _ h => h) (by rfl) ?hyd3 S0.out ?rd3
    case hyd3 =>
      intro w hSw
      try dsimp only at hSw
      go_simp
      try with_reducible rfl
    try simp only [Act.put, List.setIfInBounds_toArray, List.set_cons_zero, List.set_cons_succ]
    refine until_take 4 (v := ?vd4) (by rfl) (by kernel_rfl) (by exact fun _ _ _ h => h) (by rfl) ?hyd4 S0.out ?rd4
    case hyd4 =>
      intro w hSw
      try dsimp only at hSw
      go_simp
      try with_reducible rfl
    try simp only [Act.put, List.setIfInBounds_toArray, List.set_cons_zero, List.set_cons_succ]
    refine until_one 5 (by rfl) (by kernel_rfl) (fun K hK => ?_)
    go_simp
    refine cA.mono ?_
    rintro e w7 ⟨rfl, _, hB7⟩
    have P7 : Hid (Blk w7 p #[.int .i64 d.room, .int .i64 d.next, .map (some bi), .map (some bd), .slice nA nm nc, .map (some bw)] 108) := hB7.blk (w := w6.drew) P6.out HO.out.pw
    have I7 : Hid (IT w7 bi (prs d.nods gs)) := IT.but (w := w6.drew) (I6.out.kept rfl) hB7 HO.out.iw
    have N7 : Hid (NT w7 bd d.dir) := NT.kept (w := w6.drew) (N6.out.kept rfl) (hB7.block bd N6.out.lt HO.out.dw)
    have H7 : Hid (Held w7 d.nods gs) := Held.but (w := w6.drew) (H6.out.kept fun _ _ => rfl) hB7 (fun g hg => (HO.out.gl g hg).2.2.2.2)
    have O7 : Hid (Owns w7 base 81 4 (.slice nA nm nc) (movR d.movs ++ [[.int .i64 mk, .string mn, .string mt, .int .i64 mi]])) := O6.out.kept fun g hg ho => hB7.block g hg (fun e => by subst e; exact W6.out.notOwn O6.out ho)
    have B7 : Hid (Below base Y w7) := (B6.out.drew).trans (hB7.below base (Nat.le_trans HB.out (Nat.le_trans hszY.out B6.out.size)) fun i hi e => by have := HO.out.lo.2.2.2; omega)
    clear cA hB7 S0 P6 K6 I6 N6 W6 H6 O6 B6
    go_wp2_with fail
    refine hK.out _ _ (fun h => by cases h) ?_
    clear hK K
    refine until_done (by kernel_rfl) ?_ _
    go_wp2_with fail
    go_ret
    have e1 : movR (d.movs ++ [⟨mk, mn, mt, mi⟩]) = movR d.movs ++ [[.int .i64 mk, .string mn, .string mt, .int .i64 mi]] := by unfold movR; rw [List.map_append]; rfl
    refine ⟨by rw [HRR.out]; rfl, .inr ⟨HFL.out, _, P7.out, I7.out, H7.out, N7.out, ?_⟩, ?_⟩
    · rw [e1]
      exact O7.out
    · exact (BY.out.mono HB2.out).trans B7.out
end Go.Proofs.YtnnfnhpehacelaaGreat

/-
  The contracts of (impl.openDisk).makeFile and impl.Make.
-/
namespace Go.Proofs.YtnnfnhpehacelaaGreat
open Go.ChangeShapes Go.WideShapes Go.ChangeAt Go.RowKit Go.PlainAid
set_option linter.unusedVariables false

/-- The code of a Make. -/
def makeC (d : Dsk) (name : ByteArray) : Int := if nameOk name = false then 1 else if find d name ≠ none then 3 else if 10 ≤ d.nods.length ∨ 20 ≤ d.movs.length ∨ 1000000 ≤ d.next then 4 else 0
/-- A disk behind a Make. -/
def makeD (d : Dsk) (name : ByteArray) : Dsk := if makeC d name = 0 then ⟨d.room, d.next + 1, d.nods ++ [⟨d.next, ⟨#[]⟩, 0⟩], d.dir, d.movs ++ [⟨1, name, ⟨#[]⟩, d.next⟩]⟩ else d
theorem makeC_bad {d : Dsk} {name : ByteArray} (h : nameOk name = false) : makeC d name = 1 := by unfold makeC; rw [if_pos h]
theorem makeC_there {d : Dsk} {name : ByteArray} {j : Nat} (h : nameOk name = true) (hf : find d name = some j) : makeC d name = 3 := by unfold makeC; rw [if_neg (by rw [h]; simp), if_pos (by rw [hf]; simp)]
theorem makeC_full {d : Dsk} {name : ByteArray} (h : nameOk name = true) (hf : find d name = none) (hx : 10 ≤ d.nods.length ∨ 20 ≤ d.movs.length ∨ 1000000 ≤ d.next) : makeC d name = 4 := by unfold makeC; rw [if_neg (by rw [h]; simp), if_neg (by rw [hf]; simp), if_pos hx]
theorem makeC_ok {d : Dsk} {name : ByteArray} (h : nameOk name = true) (hf : find d name = none) (hx : ¬ (10 ≤ d.nods.length ∨ 20 ≤ d.movs.length ∨ 1000000 ≤ d.next)) : makeC d name = 0 := by unfold makeC; rw [if_neg (by rw [h]; simp), if_neg (by rw [hf]; simp), if_neg hx]
theorem makeD_no {d : Dsk} {name : ByteArray} (h : makeC d name ≠ 0) : makeD d name = d := by unfold makeD; rw [if_neg h]
theorem makeD_ok {d : Dsk} {name : ByteArray} (h : makeC d name = 0) : makeD d name = ⟨d.room, d.next + 1, d.nods ++ [⟨d.next, ⟨#[]⟩, 0⟩], d.dir, d.movs ++ [⟨1, name, ⟨#[]⟩, d.next⟩]⟩ := by unfold makeD; rw [if_pos h]
theorem nod_below {d : Dsk} (hd : Whole d) : ∀ x ∈ d.nods, x.id < d.next := fun x hx => by
  obtain ⟨k, hk, rfl⟩ := List.getElem_of_mem hx
  have hg := hd.nod k hk
  unfold nodGood at hg
  simp only [Bool.and_eq_true, decide_eq_true_eq] at hg
  rw [getD_at d.nods k hk]
  have h1 := hg.1.1.1
  omega

set_option maxRecDepth 20000 in
set_option maxHeartbeats 4000000 in
theorem makeFileV (w : World) (base p : Nat) (d : Dsk) (bi bd bw : Nat) (gs : List Nat) (u : Value) (name : ByteArray) (h : OpenD w base p d bi bd bw gs u) (hd : Whole d) (hw : wtD d ≤ 1048576) (hs : name.size ≤ maxLen) (hB : base ≤ w.heap.size) :
    Calls Tryz.prog 59 #[.pointer (some ⟨p, 0, none⟩), .string name] w fun e w' => e = .returned (.int .i64 (makeC d name)) ∧ Tellable w' p (makeD d name) ∧ Below base w w' := by
  have cF := findI w base p d bi bd bw gs u name h hd hs
  have hR := (sizeOk_iff d).1 hd.size
  have HO : Hid (OpenD w base p d bi bd bw gs u) := h
  have HD : Hid (Whole d) := hd
  have HB : Hid (base ≤ w.heap.size) := hB
  have HT : Hid (Tellable w p d) := h.tell hd hw
  have cM := fun (hn : nameOk name = true) => addMoveO w base p d bi bd bw gs u 1 name ⟨#[]⟩ d.next h hd hw (by have := name_size hn; omega) (by show (0 : Nat) ≤ 1000; omega) hB
  have hlen := fun ty => h.it.len ty
  rw [prs_length h.held.len] at hlen
  have x1 := h.blk.cell 1 _ rfl
  have x2 := h.blk.cell 2 _ rfl
  have HX : Hid (1 ≤ d.next ∧ d.next ≤ 1000000 ∧ d.nods.length ≤ 10) := ⟨hR.x0, hR.x1, hR.n⟩
  have q1 : (d.nods.length : Int) ≤ 10 := by have := hR.n; omega
  have q2 : d.next ≤ 1000000 := hR.x1
  have q3 : 1 ≤ d.next := hR.x0
  clear h hd hs hB hR hw
  go_enter Tryz.func59, Tryz.ntmps59
  go_wp2_with fail
  refine cF.mono ?_
  rintro e w1 ⟨rfl, hF⟩
  clear cF
  rcases hF with ⟨hn, rfl⟩ | ⟨hn, hf, rfl⟩ | ⟨hn, j, hf, hj, rfl⟩
  · have hc : makeC d name = 1 := makeC_bad hn
    have HR : Hid (makeC d name = 1 ∧ makeD d name = d) := ⟨hc, makeD_no (by rw [hc]; omega)⟩
    clear hn cM hc
    go_wp2_with fail
    go_ret
    exact ⟨by rw [HR.out.1]; rfl, by rw [HR.out.2]; exact HT.out, Below.refl _ _⟩
  · by_cases hx : 10 ≤ d.nods.length
    · have hc : makeC d name = 4 := makeC_full hn hf (.inl hx)
      have HR : Hid (makeC d name = 4 ∧ makeD d name = d) := ⟨hc, makeD_no (by rw [hc]; omega)⟩
      have t1 : decide ((10 : Int) ≤ (d.nods.length : Int)) = true := decide_eq_true (by omega)
      clear hn hf cM hc hx
      generalize d.nods.length = nl at *
      go_wp2_with fail
      go_ret
      exact ⟨by rw [HR.out.1]; rfl, by rw [HR.out.2]; exact HT.out, Below.refl _ _⟩
    · have t1 : decide ((10 : Int) ≤ (d.nods.length : Int)) = false := decide_eq_false (by omega)
      by_cases hy : 1000000 ≤ d.next
      · have hc : makeC d name = 4 := makeC_full hn hf (.inr (.inr hy))
        have HR : Hid (makeC d name = 4 ∧ makeD d name = d) := ⟨hc, makeD_no (by rw [hc]; omega)⟩
        have t2 : decide ((1000000 : Int) ≤ d.next) = true := decide_eq_true hy
        clear hn hf cM hc hx hy
        generalize d.nods.length = nl at *
        go_wp2_with fail
        go_ret
        exact ⟨by rw [HR.out.1]; rfl, by rw [HR.out.2]; exact HT.out, Below.refl _ _⟩
      · have t2 : decide ((1000000 : Int) ≤ d.next) = false := decide_eq_false hy
        have HCF : Hid (20 ≤ d.movs.length → makeC d name = 4 ∧ makeD d name = d) := fun hm => by
          have hc : makeC d name = 4 := makeC_full hn hf (.inr (.inl hm))
          exact ⟨hc, makeD_no (by rw [hc]; omega)⟩
        have HCO : Hid (¬ 20 ≤ d.movs.length → makeC d name = 0 ∧ makeD d name = ⟨d.room, d.next + 1, d.nods ++ [⟨d.next, ⟨#[]⟩, 0⟩], d.dir, d.movs ++ [⟨1, name, ⟨#[]⟩, d.next⟩]⟩) := fun hm => by
          have hc : makeC d name = 0 := makeC_ok hn hf (by omega)
          exact ⟨hc, makeD_ok hc⟩
        have cM := cM hn
        have HNM : Hid (name.size ≤ 1000) := by have := name_size hn; unfold Hid; omega
        have HNL : Hid (d.nods.length < 10) := by unfold Hid; omega
        have HNX : Hid (d.next < 1000000) := by unfold Hid; omega
        have hmc : ∀ e : Int, (20 ≤ d.movs.length → (movedD d ⟨1, name, ⟨#[]⟩, d.next⟩).2 = 4) ∧ (¬ 20 ≤ d.movs.length → (movedD d ⟨1, name, ⟨#[]⟩, d.next⟩).2 = 0) := fun _ => ⟨fun h => by rw [movedD_full h], fun h => by rw [movedD_room h]⟩
        have HMC := hmc 0
        clear hn hf hx hy hmc
        generalize hnl : d.nods.length = nl at *
        generalize hmc2 : (movedD d ⟨1, name, ⟨#[]⟩, d.next⟩).2 = mc at *
        go_wp2_with fail
        refine cM.mono ?_
        rintro e w2 ⟨rfl, hD, hb2⟩
        have B2 : Hid (Below base w w2) := hb2
        clear cM hb2 x1 x2 hlen
        rcases hD with ⟨hfull, hT2⟩ | ⟨hroom, u', hk2, hI2, hH2, hN2, hO2⟩
        · have HR : Hid (makeC d name = 4 ∧ makeD d name = d) := HCF.out hfull
          have HT2 : Hid (Tellable w2 p d) := hT2
          have e4 := HMC.1 hfull
          subst e4
          clear hfull hT2
          go_wp2_with fail
          go_ret
          exact ⟨by rw [HR.out.1]; rfl, by rw [HR.out.2]; exact HT2.out, B2.out⟩
        · have HR : Hid (makeC d name = 0 ∧ makeD d name = ⟨d.room, d.next + 1, d.nods ++ [⟨d.next, ⟨#[]⟩, 0⟩], d.dir, d.movs ++ [⟨1, name, ⟨#[]⟩, d.next⟩]⟩) := HCO.out hroom
          have e0 := HMC.2 hroom
          subst e0
          have HML : Hid (d.movs.length < 20) := by unfold Hid; omega
          have K2 : Hid (Blk w2 p #[.int .i64 d.room, .int .i64 d.next, .map (some bi), .map (some bd), u', .map (some bw)] 108) := hk2
          have I2 : Hid (IT w2 bi (prs d.nods gs)) := hI2
          have H2 : Hid (Held w2 d.nods gs) := hH2
          have N2 : Hid (NT w2 bd d.dir) := hN2
          have O2 : Hid (Owns w2 base 81 4 u' (movR (d.movs ++ [⟨1, name, ⟨#[]⟩, d.next⟩]))) := hO2
          have PL : Hid (p < w2.heap.size) := hk2.lt
          have IL : Hid (bi < w2.heap.size) := hI2.lt
          have hBA : Below w2.heap.size w2 (w2.alloc (.cells #[.int .i64 d.next, .string ⟨#[]⟩, .int .i64 0] 76)).drew := ((Below.refl _ w2).alloc (Nat.le_refl _) _).drew
          have kN : Blk (w2.alloc (.cells #[.int .i64 d.next, .string ⟨#[]⟩, .int .i64 0] 76)).drew w2.heap.size #[.int .i64 d.next, .string ⟨#[]⟩, .int .i64 0] 76 := Blk.new w2 _ _
          have iN : IT (w2.alloc (.cells #[.int .i64 d.next, .string ⟨#[]⟩, .int .i64 0] 76)).drew bi (prs d.nods gs) := hI2.on hBA hI2.lt
          have HTT : ∀ q ∈ prs d.nods gs, q.1 < d.next := fun q hq => by
            obtain ⟨x, hx, e⟩ := prs_mem hq
            have := nod_below HD.out x hx
            omega
          obtain ⟨w3, r3, hI3, hB3, hS3⟩ := iN.put d.next w2.heap.size ⟨by omega, by omega⟩ (by rw [prs_length hH2.len]; unfold maxLen; have := HNL.out; omega) HTT
          have hgs : ∀ g ∈ gs, g ≠ bi := fun g hg => (HO.out.gl g hg).2.2.1
          have hnb : w2.heap.size ≠ bi := by have := IL.out; omega
          have I3 : Hid (IT w3 bi (prs (d.nods ++ [⟨d.next, ⟨#[]⟩, 0⟩]) (gs ++ [w2.heap.size]))) := by unfold Hid; rw [prs_snoc hH2.len]; exact hI3
          have H3 : Hid (Held w3 (d.nods ++ [⟨d.next, ⟨#[]⟩, 0⟩]) (gs ++ [w2.heap.size])) := ((hH2.on hBA hH2.lt).snoc (x := ⟨d.next, ⟨#[]⟩, 0⟩) kN).but hB3 (fun g hg e => by
            rcases List.mem_append.1 hg with hg | hg
            · exact hgs g hg e
            · rw [List.mem_singleton] at hg
              omega)
          have K3 : Hid (Blk w3 p #[.int .i64 d.room, .int .i64 d.next, .map (some bi), .map (some bd), u', .map (some bw)] 108) := hB3.blk (hk2.on hBA hk2.lt) HO.out.pi
          have N3 : Hid (NT w3 bd d.dir) := (hN2.on hBA hN2.lt).kept (hB3.block bd (by have := hN2.lt; simp; omega) HO.out.id.symm)
          have O3 : Hid (Owns w3 base 81 4 u' (movR (d.movs ++ [⟨1, name, ⟨#[]⟩, d.next⟩]))) := (hO2.on hBA).kept fun g hg ho => hB3.block g hg (fun e => by subst e; exact iN.notOwn (hO2.on hBA) ho)
          have B3 : Hid (Below base w w3) := (B2.out.trans (hBA.mono (Nat.le_trans HB.out B2.out.size))).trans (hB3.below base (by have := B2.out.size; have := HB.out; simp; omega) fun i hi e => by have := HO.out.lo.2.1; omega)
          have S1 : Hid ((w2.alloc (.cells #[.int .i64 d.next, .string ⟨#[]⟩, .int .i64 0] 76)).drew.cell? ⟨p, 1, none⟩ = some (.int .i64 d.next) ∧ (w2.alloc (.cells #[.int .i64 d.next, .string ⟨#[]⟩, .int .i64 0] 76)).drew.cell? ⟨p, 2, none⟩ = some (.map (some bi))) := ⟨(hk2.on hBA hk2.lt).cell 1 _ rfl, (hk2.on hBA hk2.lt).cell 2 _ rfl⟩
          have S2 : Hid (w3.cell? ⟨p, 1, none⟩ = some (.int .i64 d.next) ∧ w3.cell? ⟨p, 2, none⟩ = some (.map (some bi))) := ⟨K3.out.cell 1 _ rfl, K3.out.cell 2 _ rfl⟩
          have S0 : Hid (w2.drew.cell? ⟨p, 1, none⟩ = some (.int .i64 d.next) ∧ w2.drew.cell? ⟨p, 2, none⟩ = some (.map (some bi))) := ⟨hk2.cell 1 _ rfl, hk2.cell 2 _ rfl⟩
          clear hk2 hI2 hH2 hN2 hO2 hBA kN iN HTT hI3 hB3 hS3 hgs hnb hroom HCF HCO HMC
          go_wp2_with fail
          go_region_held3 (fun w' => w'.cell? ⟨p, 1, none⟩ = some (.int .i64 d.next) ∧ w'.cell? ⟨p, 2, none⟩ = some (.map (some bi))) (first | exact S0.out | exact S1.out | exact S2.out) (fail)
          have y1 := K3.out.cell 1 _ rfl
          have y2 := K3.out.free 1
          have z1 : wrap64 (d.next + 1) = d.next + 1 := by unfold wrap64; omega
          go_wp2_with fail
          go_ret
          have hkeep : ∀ g, g ≠ p → (w3.setCell ⟨p, 1, none⟩ (.int .i64 (d.next + 1))).heap[g]? = w3.heap[g]? := fun g hg => Below.heap_setCell _ ⟨p, 1, none⟩ _ _ hg
          refine ⟨by rw [HR.out.1]; rfl, ?_, B3.out.setCell (p := ⟨p, 1, none⟩) HO.out.lo.1 _⟩
          rw [HR.out.2]
          have hlast := nod_below HD.out
          refine ⟨⟨bi, bd, gs ++ [w2.heap.size], u', _, K3.out.set 1 _, I3.out.kept (hkeep bi HO.out.pi.symm), H3.out.kept fun g hg => hkeep g ?_, N3.out.kept (hkeep bd HO.out.pd.symm), ?_⟩, ?_, HT.out.sorted, HT.out.ok, ?_, HT.out.n2, ?_, ?_, ?_⟩
          · rcases List.mem_append.1 hg with hg | hg
            · exact (HO.out.gl g hg).2.1
            · rw [List.mem_singleton] at hg
              have := PL.out
              omega
          · have hO4 := O3.out.other (O3.out.notBlk K3.out (by decide)) 1 (.int .i64 (d.next + 1))
            exact hO4.lies
          · show Rising (d.nods ++ [⟨d.next, ⟨#[]⟩, 0⟩])
            unfold Rising
            rw [List.pairwise_append]
            refine ⟨HT.out.rise, List.pairwise_singleton _ _, fun a ha b hb => ?_⟩
            rw [List.mem_singleton] at hb
            subst hb
            exact hlast a ha
          · show (d.nods ++ [_]).length ≤ 1000
            rw [List.length_append, List.length_singleton]
            have := HNL.out
            omega
          · show (d.movs ++ [_]).length ≤ 1000
            rw [List.length_append, List.length_singleton]
            have := HML.out
            omega
          · intro x hx
            have hx' : x ∈ d.nods ++ [⟨d.next, ⟨#[]⟩, 0⟩] := hx
            rcases List.mem_append.1 hx' with h1 | h1
            · exact HT.out.nx x h1
            · obtain rfl := List.mem_singleton.1 h1
              exact ⟨⟨by show _ ≤ d.next; omega, by show d.next ≤ _; omega⟩, by show (0 : Nat) ≤ _; omega⟩
          · intro x hx
            have hx' : x ∈ d.movs ++ [⟨1, name, ⟨#[]⟩, d.next⟩] := hx
            rcases List.mem_append.1 hx' with h1 | h1
            · exact HT.out.mx x h1
            · obtain rfl := List.mem_singleton.1 h1
              have := HNM.out
              exact ⟨by show name.size ≤ _; omega, by show (0 : Nat) ≤ _; omega⟩
  · have hc : makeC d name = 3 := makeC_there hn hf
    have HR : Hid (makeC d name = 3 ∧ makeD d name = d) := ⟨hc, makeD_no (by rw [hc]; omega)⟩
    generalize gs.getD j 0 = gj at *
    clear hn hf hj cM hc
    go_wp2_with fail
    go_ret
    exact ⟨by rw [HR.out.1]; rfl, by rw [HR.out.2]; exact HT.out, Below.refl _ _⟩


/-- What Make answers. -/
def makeR (d : Dsk) (name : ByteArray) : Dsk × Int := if diskOk d = true then (makeD d name, makeC d name) else (zeroD, 1)
theorem makeR_yes {d : Dsk} {name : ByteArray} (h : diskOk d = true) : makeR d name = (makeD d name, makeC d name) := by unfold makeR; rw [if_pos h]
theorem makeR_no {d : Dsk} {name : ByteArray} (h : diskOk d = false) : makeR d name = (zeroD, 1) := by unfold makeR; rw [if_neg (by rw [h]; simp)]

end Go.Proofs.YtnnfnhpehacelaaGreat

/-
  The contract of spec.Make.
-/
namespace Go.Proofs.YtnnfnhpehacelaaGreat
open Go.ChangeShapes Go.WideShapes Go.ChangeAt Go.RowKit Go.PlainAid
set_option linter.unusedVariables false

theorem makeD_len (d : Dsk) (name : ByteArray) : (makeD d name).nods.length ≤ d.nods.length + 1 ∧ (makeD d name).dir = d.dir ∧ (makeD d name).movs.length ≤ d.movs.length + 1 := by
  unfold makeD
  split
  · refine ⟨?_, rfl, ?_⟩
    · show (d.nods ++ [_]).length ≤ _
      rw [List.length_append]
      exact Nat.le_refl _
    · show (d.movs ++ [_]).length ≤ _
      rw [List.length_append]
      exact Nat.le_refl _
  · exact ⟨Nat.le_succ _, rfl, Nat.le_succ _⟩
theorem makeR_len (d : Dsk) (name : ByteArray) (hf : Fits d) : (makeR d name).1.nods.length ≤ 1000 ∧ (makeR d name).1.dir.length ≤ 1000 ∧ (makeR d name).1.movs.length ≤ 1000 := by
  cases h : diskOk d with
  | false =>
    rw [makeR_no h]
    exact ⟨by show 0 ≤ 1000; omega, by show 0 ≤ 1000; omega, by show 0 ≤ 1000; omega⟩
  | true =>
    rw [makeR_yes h]
    have hR := (sizeOk_iff d).1 ((whole_iff d).1 h).size
    have h1 := makeD_len d name
    have := hR.l
    have := hR.m
    have := hR.n
    show (makeD d name).nods.length ≤ 1000 ∧ (makeD d name).dir.length ≤ 1000 ∧ (makeD d name).movs.length ≤ 1000
    rw [h1.2.1]
    exact ⟨by omega, by omega, by omega⟩

set_option maxRecDepth 20000 in
set_option maxHeartbeats 8000000 in
theorem specMakeV (d : Dsk) (v : Value) (name : ByteArray) (w : World) (B : Nat) (hv : DiskV w B v d) (hf : Fits d) (hw : wtD d ≤ 1048576) (hB : B ≤ w.heap.size) (hs : name.size ≤ maxLen) :
    Calls Tryz.prog 17 #[v, .string name] w fun e w' => ∃ x, e = .returned (.tuple #[x, .int .i64 (makeR d name).2]) ∧ DiskO w' w.heap.size x (makeR d name).1 ∧ Below w.heap.size w w' := by
  have HV : Hid (DiskV w B v d) := hv
  have HF : Hid (Fits d) := hf
  have HB : Hid (B ≤ w.heap.size) := hB
  have HW : Hid (wtD d ≤ 1048576) := hw
  have cN := fun wx => nameV name wx (by unfold maxLen at hs; omega)
  have hlk : ∃ A1 c1 A3 c3 v2, v = .agg #[.int .i64 d.room, .int .i64 d.next, .slice A1 d.nods.length c1, v2, .slice A3 d.movs.length c3] := by
    obtain ⟨v1, v2, v3, rfl, h1, h2, h3⟩ := hv
    obtain ⟨A1, c1, rfl, _⟩ := nod_look h1
    obtain ⟨A3, c3, rfl, _⟩ := mov_look h3
    exact ⟨A1, c1, A3, c3, v2, rfl⟩
  obtain ⟨a1, b1, a3, b3, v2, rfl⟩ := hlk
  have q1 : (d.nods.length : Int) ≤ 9223372036854775807 := by have := hf.n; unfold maxLen at this; omega
  have q3 : (d.movs.length : Int) ≤ 9223372036854775807 := by have := hf.m; unfold maxLen at this; omega
  clear hf hB hw hs hv
  go_enter Tryz.func17, Tryz.ntmps17
  go_wp2_with fail
  have hb0 := below_alloc2' w (.cells #[.int .i64 d.room, .int .i64 d.next, .slice a1 d.nods.length b1, v2, .slice a3 d.movs.length b3] 35) (.cells #[.int .i64 0, .int .i64 0, .slice none 0 0, .slice none 0 0, .slice none 0 0] 35)
  have bA := (Blk.new w #[.int .i64 d.room, .int .i64 d.next, .slice a1 d.nods.length b1, v2, .slice a3 d.movs.length b3] 35).alloc (.cells #[.int .i64 0, .int .i64 0, .slice none 0 0, .slice none 0 0, .slice none 0 0] 35)
  have bR := Blk.new (w.alloc (.cells #[.int .i64 d.room, .int .i64 d.next, .slice a1 d.nods.length b1, v2, .slice a3 d.movs.length b3] 35)) #[.int .i64 0, .int .i64 0, .slice none 0 0, .slice none 0 0, .slice none 0 0] 35
  simp only [World.size_alloc] at bR
  generalize (w.alloc (.cells #[.int .i64 d.room, .int .i64 d.next, .slice a1 d.nods.length b1, v2, .slice a3 d.movs.length b3] 35)).alloc (.cells #[.int .i64 0, .int .i64 0, .slice none 0 0, .slice none 0 0, .slice none 0 0] 35) = W at *
  have B0 : Hid (Below w.heap.size w W) := hb0
  have K0 : Hid (Blk W w.heap.size #[.int .i64 d.room, .int .i64 d.next, .slice a1 d.nods.length b1, v2, .slice a3 d.movs.length b3] 35) := bA
  have R0 : Hid (Blk W (w.heap.size + 1) #[.int .i64 0, .int .i64 0, .slice none 0 0, .slice none 0 0, .slice none 0 0] 35) := bR
  clear hb0 bA bR
  refine (specOkV d _ W B (HV.out.on (B0.out.mono HB.out)) HF.out HW.out (Nat.le_trans HB.out B0.out.size)).mono ?_
  rintro e w1 ⟨rfl, hb1⟩
  have B1 : Hid (Below w.heap.size w w1) := B0.out.trans (hb1.mono B0.out.size)
  have K1 : Hid (Blk w1 w.heap.size #[.int .i64 d.room, .int .i64 d.next, .slice a1 d.nods.length b1, v2, .slice a3 d.movs.length b3] 35) := K0.out.on hb1 K0.out.lt
  have R1 : Hid (Blk w1 (w.heap.size + 1) #[.int .i64 0, .int .i64 0, .slice none 0 0, .slice none 0 0, .slice none 0 0] 35) := R0.out.on hb1 R0.out.lt
  clear hb1 K0 R0
  have hg : w.heap.size ≤ w.heap.size + 1 := by omega
  cases hok : diskOk d with
  | false =>
    have hRR : makeR d name = (zeroD, 1) := makeR_no hok
    clear hok
    have g0 := R1.out.cell 0 _ rfl
    have f0 := R1.out.free 0
    have g1 := R1.out.cell 1 _ rfl
    have f1 := R1.out.free 1
    have g2 := R1.out.cell 2 _ rfl
    have f2 := R1.out.free 2
    have g3 := R1.out.cell 3 _ rfl
    have f3 := R1.out.free 3
    have g4 := R1.out.cell 4 _ rfl
    have f4 := R1.out.free 4
    go_wp2_with fail
    have hB := B1.out
    have FB := (((((hB.setCell hg (.int .i64 0) (p := ⟨_, 0, none⟩)).setCell hg (.int .i64 0) (p := ⟨_, 1, none⟩)).setCell hg (.slice none 0 0) (p := ⟨_, 2, none⟩)).setCell hg (.slice none 0 0) (p := ⟨_, 3, none⟩)).setCell hg (.slice none 0 0) (p := ⟨_, 4, none⟩))
    have hF := (((((R1.out.set 0 (.int .i64 0)).set 1 (.int .i64 0)).set 2 (.slice none 0 0)).set 3 (.slice none 0 0)).set 4 (.slice none 0 0))
    clear g0 f0 g1 f1 g2 f2 g3 f3 g4 f4
    generalize (((((w1.setCell ⟨w.heap.size + 1, 0, none⟩ (.int .i64 0)).setCell ⟨w.heap.size + 1, 1, none⟩ (.int .i64 0)).setCell ⟨w.heap.size + 1, 2, none⟩ (.slice none 0 0)).setCell ⟨w.heap.size + 1, 3, none⟩ (.slice none 0 0)).setCell ⟨w.heap.size + 1, 4, none⟩ (.slice none 0 0)) = WF at *
    have hG : Blk WF (w.heap.size + 1) #[.int .i64 0, .int .i64 0, .slice none 0 0, .slice none 0 0, .slice none 0 0] 35 := hF
    have l0 := hG.cell 0 (.int .i64 0) rfl
    have l1 := hG.cell 1 (.int .i64 0) rfl
    have l2 := hG.cell 2 (.slice none 0 0) rfl
    have l3 := hG.cell 3 (.slice none 0 0) rfl
    have l4 := hG.cell 4 (.slice none 0 0) rfl
    exact bodyPost_ret (v := .tuple #[.agg #[.int .i64 0, .int .i64 0, .slice none 0 0, .slice none 0 0, .slice none 0 0], .int .i64 1]) (by simp [results, go_sem, l0, l1, l2, l3, l4]) rfl (by rw [hRR]; exact ⟨_, rfl, ⟨_, _, _, rfl, Owns.nil _ _ _ _, Owns.nil _ _ _ _, Owns.nil _ _ _ _⟩, FB⟩)
  | true =>
    have hR := (sizeOk_iff d).1 ((whole_iff d).1 hok).size
    have HSZ : Hid (d.dir.length + d.movs.length ≤ 1048575 ∧ d.nods.length ≤ 10 ∧ d.dir.length ≤ 1048576 ∧ d.movs.length ≤ 1048576) := by
      have := hR.l; have := hR.m; have := hR.n
      unfold Hid
      omega
    have HNX : Hid (1 ≤ d.next ∧ d.next ≤ 1000000) := ⟨hR.x0, hR.x1⟩
    have hRY : Hid (makeR d name = (makeD d name, makeC d name)) := makeR_yes hok
    clear hR hok
    go_wp2_with fail
    refine (cN _).mono ?_
    rintro e w0 ⟨rfl, rfl⟩
    cases hno : nameOk name with
    | false =>
      have hRR : Hid (makeR d name = (d, 1)) := by unfold Hid; rw [hRY.out, makeD_no (by rw [makeC_bad hno]; omega), makeC_bad hno]
      clear hno cN
      have y0 := K1.out.cell 0 _ rfl
      have y1 := K1.out.cell 1 _ rfl
      have y2 := K1.out.cell 2 _ rfl
      have y3 := K1.out.cell 3 _ rfl
      have y4 := K1.out.cell 4 _ rfl
      go_wp2_with fail
      refine (copyV d (.agg #[.int .i64 d.room, .int .i64 d.next, .slice a1 d.nods.length b1, v2, .slice a3 d.movs.length b3]) w1 B (HV.out.on (B1.out.mono HB.out)) (by have := HSZ.out; omega) HSZ.out.2.2.1 HSZ.out.2.2.2 (Nat.le_trans HB.out B1.out.size)).mono ?_
      rintro e w9 ⟨x, rfl, hO9, hb9⟩
      clear y0 y1 y2 y3 y4
      have hsz9 : Hid (w1.heap.size ≤ w9.heap.size) := hb9.size
      have B9 : Hid (Below w.heap.size w w9) := B1.out.trans (hb9.mono B1.out.size)
      have K9 : Hid (Blk w9 w.heap.size #[.int .i64 d.room, .int .i64 d.next, .slice a1 d.nods.length b1, v2, .slice a3 d.movs.length b3] 35) := K1.out.on hb9 K1.out.lt
      have R9 : Hid (Blk w9 (w.heap.size + 1) #[.int .i64 0, .int .i64 0, .slice none 0 0, .slice none 0 0, .slice none 0 0] 35) := R1.out.on hb9 R1.out.lt
      obtain ⟨x1, x2, x3, rfl, o1, o2, o3⟩ := hO9
      obtain ⟨A1, m1, k1, rfl⟩ := o1.shape
      obtain ⟨A2, m2, k2, rfl⟩ := o2.shape
      obtain ⟨A3, m3, k3, rfl⟩ := o3.shape
      have O1 : Hid (Owns w9 w.heap.size 76 3 (.slice A1 m1 k1) (nodR d.nods)) := o1.mono B1.out.size
      have O2 : Hid (Owns w9 w.heap.size 79 2 (.slice A2 m2 k2) (lnkR d.dir)) := o2.mono B1.out.size
      have O3 : Hid (Owns w9 w.heap.size 81 4 (.slice A3 m3 k3) (movR d.movs)) := o3.mono B1.out.size
      clear hb9 o1 o2 o3 K9
      have g0 := R9.out.cell 0 _ rfl
      have f0 := R9.out.free 0
      have g1 := R9.out.cell 1 _ rfl
      have f1 := R9.out.free 1
      have g2 := R9.out.cell 2 _ rfl
      have f2 := R9.out.free 2
      have g3 := R9.out.cell 3 _ rfl
      have f3 := R9.out.free 3
      have g4 := R9.out.cell 4 _ rfl
      have f4 := R9.out.free 4
      go_wp2_with fail
      have hB := B9.out
      have FB := (((((hB.setCell hg (.int .i64 d.room) (p := ⟨_, 0, none⟩)).setCell hg (.int .i64 d.next) (p := ⟨_, 1, none⟩)).setCell hg (.slice A1 m1 k1) (p := ⟨_, 2, none⟩)).setCell hg (.slice A2 m2 k2) (p := ⟨_, 3, none⟩)).setCell hg (.slice A3 m3 k3) (p := ⟨_, 4, none⟩))
      have hF := (((((R9.out.set 0 (.int .i64 d.room)).set 1 (.int .i64 d.next)).set 2 (.slice A1 m1 k1)).set 3 (.slice A2 m2 k2)).set 4 (.slice A3 m3 k3))
      have mm0 := O1.out.notBlk R9.out (by decide)
      have F0 := (((((O1.out.other mm0 0 (.int .i64 d.room)).other mm0 1 (.int .i64 d.next)).other mm0 2 (.slice A1 m1 k1)).other mm0 3 (.slice A2 m2 k2)).other mm0 4 (.slice A3 m3 k3))
      have mm1 := O2.out.notBlk R9.out (by decide)
      have F1 := (((((O2.out.other mm1 0 (.int .i64 d.room)).other mm1 1 (.int .i64 d.next)).other mm1 2 (.slice A1 m1 k1)).other mm1 3 (.slice A2 m2 k2)).other mm1 4 (.slice A3 m3 k3))
      have mm2 := O3.out.notBlk R9.out (by decide)
      have F2 := (((((O3.out.other mm2 0 (.int .i64 d.room)).other mm2 1 (.int .i64 d.next)).other mm2 2 (.slice A1 m1 k1)).other mm2 3 (.slice A2 m2 k2)).other mm2 4 (.slice A3 m3 k3))
      clear g0 f0 g1 f1 g2 f2 g3 f3 g4 f4
      generalize (((((w9.setCell ⟨w.heap.size + 1, 0, none⟩ (.int .i64 d.room)).setCell ⟨w.heap.size + 1, 1, none⟩ (.int .i64 d.next)).setCell ⟨w.heap.size + 1, 2, none⟩ (.slice A1 m1 k1)).setCell ⟨w.heap.size + 1, 3, none⟩ (.slice A2 m2 k2)).setCell ⟨w.heap.size + 1, 4, none⟩ (.slice A3 m3 k3)) = WF at *
      have hG : Blk WF (w.heap.size + 1) #[.int .i64 d.room, .int .i64 d.next, .slice A1 m1 k1, .slice A2 m2 k2, .slice A3 m3 k3] 35 := hF
      have l0 := hG.cell 0 (.int .i64 d.room) rfl
      have l1 := hG.cell 1 (.int .i64 d.next) rfl
      have l2 := hG.cell 2 (.slice A1 m1 k1) rfl
      have l3 := hG.cell 3 (.slice A2 m2 k2) rfl
      have l4 := hG.cell 4 (.slice A3 m3 k3) rfl
      exact bodyPost_ret (v := .tuple #[.agg #[.int .i64 d.room, .int .i64 d.next, .slice A1 m1 k1, .slice A2 m2 k2, .slice A3 m3 k3], .int .i64 1]) (by simp [results, go_sem, l0, l1, l2, l3, l4]) rfl (by rw [hRR.out]; exact ⟨_, rfl, ⟨_, _, _, rfl, F0, F1, F2⟩, FB⟩)
    | true =>
      have y0 := K1.out.cell 0 _ rfl
      have y1 := K1.out.cell 1 _ rfl
      have y2 := K1.out.cell 2 _ rfl
      have y3 := K1.out.cell 3 _ rfl
      have y4 := K1.out.cell 4 _ rfl
      go_wp2_with fail
      refine (findV d (.agg #[.int .i64 d.room, .int .i64 d.next, .slice a1 d.nods.length b1, v2, .slice a3 d.movs.length b3]) name w1 B (HV.out.on (B1.out.mono HB.out)) HF.out HSZ.out.1 (by have := HSZ.out; omega) (Nat.le_trans HB.out B1.out.size)).mono ?_
      rintro e w2 ⟨rfl, hb2⟩
      have B2 : Hid (Below w.heap.size w w2) := B1.out.trans (hb2.mono B1.out.size)
      have K2 : Hid (Blk w2 w.heap.size #[.int .i64 d.room, .int .i64 d.next, .slice a1 d.nods.length b1, v2, .slice a3 d.movs.length b3] 35) := K1.out.on hb2 K1.out.lt
      have R2 : Hid (Blk w2 (w.heap.size + 1) #[.int .i64 0, .int .i64 0, .slice none 0 0, .slice none 0 0, .slice none 0 0] 35) := R1.out.on hb2 R1.out.lt
      clear hb2 K1 R1 y0 y1 y2 y3 y4 cN
      cases hfi : find d name with
      | some j =>
        have hRR : Hid (makeR d name = (d, 3)) := by unfold Hid; rw [hRY.out, makeD_no (by rw [makeC_there hno hfi]; omega), makeC_there hno hfi]
        have t0 : idxV (some j) = (j : Int) := rfl
        rw [t0]
        have t1 : (0 : Int) ≤ (j : Int) := by omega
        clear hno hfi t0
        have y0 := K2.out.cell 0 _ rfl
        have y1 := K2.out.cell 1 _ rfl
        have y2 := K2.out.cell 2 _ rfl
        have y3 := K2.out.cell 3 _ rfl
        have y4 := K2.out.cell 4 _ rfl
        go_wp2_with fail
        refine (copyV d (.agg #[.int .i64 d.room, .int .i64 d.next, .slice a1 d.nods.length b1, v2, .slice a3 d.movs.length b3]) w2 B (HV.out.on (B2.out.mono HB.out)) (by have := HSZ.out; omega) HSZ.out.2.2.1 HSZ.out.2.2.2 (Nat.le_trans HB.out B2.out.size)).mono ?_
        rintro e w9 ⟨x, rfl, hO9, hb9⟩
        clear y0 y1 y2 y3 y4
        have hsz9 : Hid (w2.heap.size ≤ w9.heap.size) := hb9.size
        have B9 : Hid (Below w.heap.size w w9) := B2.out.trans (hb9.mono B2.out.size)
        have K9 : Hid (Blk w9 w.heap.size #[.int .i64 d.room, .int .i64 d.next, .slice a1 d.nods.length b1, v2, .slice a3 d.movs.length b3] 35) := K2.out.on hb9 K2.out.lt
        have R9 : Hid (Blk w9 (w.heap.size + 1) #[.int .i64 0, .int .i64 0, .slice none 0 0, .slice none 0 0, .slice none 0 0] 35) := R2.out.on hb9 R2.out.lt
        obtain ⟨x1, x2, x3, rfl, o1, o2, o3⟩ := hO9
        obtain ⟨A1, m1, k1, rfl⟩ := o1.shape
        obtain ⟨A2, m2, k2, rfl⟩ := o2.shape
        obtain ⟨A3, m3, k3, rfl⟩ := o3.shape
        have O1 : Hid (Owns w9 w.heap.size 76 3 (.slice A1 m1 k1) (nodR d.nods)) := o1.mono B2.out.size
        have O2 : Hid (Owns w9 w.heap.size 79 2 (.slice A2 m2 k2) (lnkR d.dir)) := o2.mono B2.out.size
        have O3 : Hid (Owns w9 w.heap.size 81 4 (.slice A3 m3 k3) (movR d.movs)) := o3.mono B2.out.size
        clear hb9 o1 o2 o3 K9
        have g0 := R9.out.cell 0 _ rfl
        have f0 := R9.out.free 0
        have g1 := R9.out.cell 1 _ rfl
        have f1 := R9.out.free 1
        have g2 := R9.out.cell 2 _ rfl
        have f2 := R9.out.free 2
        have g3 := R9.out.cell 3 _ rfl
        have f3 := R9.out.free 3
        have g4 := R9.out.cell 4 _ rfl
        have f4 := R9.out.free 4
        go_wp2_with fail
        have hB := B9.out
        have FB := (((((hB.setCell hg (.int .i64 d.room) (p := ⟨_, 0, none⟩)).setCell hg (.int .i64 d.next) (p := ⟨_, 1, none⟩)).setCell hg (.slice A1 m1 k1) (p := ⟨_, 2, none⟩)).setCell hg (.slice A2 m2 k2) (p := ⟨_, 3, none⟩)).setCell hg (.slice A3 m3 k3) (p := ⟨_, 4, none⟩))
        have hF := (((((R9.out.set 0 (.int .i64 d.room)).set 1 (.int .i64 d.next)).set 2 (.slice A1 m1 k1)).set 3 (.slice A2 m2 k2)).set 4 (.slice A3 m3 k3))
        have mm0 := O1.out.notBlk R9.out (by decide)
        have F0 := (((((O1.out.other mm0 0 (.int .i64 d.room)).other mm0 1 (.int .i64 d.next)).other mm0 2 (.slice A1 m1 k1)).other mm0 3 (.slice A2 m2 k2)).other mm0 4 (.slice A3 m3 k3))
        have mm1 := O2.out.notBlk R9.out (by decide)
        have F1 := (((((O2.out.other mm1 0 (.int .i64 d.room)).other mm1 1 (.int .i64 d.next)).other mm1 2 (.slice A1 m1 k1)).other mm1 3 (.slice A2 m2 k2)).other mm1 4 (.slice A3 m3 k3))
        have mm2 := O3.out.notBlk R9.out (by decide)
        have F2 := (((((O3.out.other mm2 0 (.int .i64 d.room)).other mm2 1 (.int .i64 d.next)).other mm2 2 (.slice A1 m1 k1)).other mm2 3 (.slice A2 m2 k2)).other mm2 4 (.slice A3 m3 k3))
        clear g0 f0 g1 f1 g2 f2 g3 f3 g4 f4
        generalize (((((w9.setCell ⟨w.heap.size + 1, 0, none⟩ (.int .i64 d.room)).setCell ⟨w.heap.size + 1, 1, none⟩ (.int .i64 d.next)).setCell ⟨w.heap.size + 1, 2, none⟩ (.slice A1 m1 k1)).setCell ⟨w.heap.size + 1, 3, none⟩ (.slice A2 m2 k2)).setCell ⟨w.heap.size + 1, 4, none⟩ (.slice A3 m3 k3)) = WF at *
        have hG : Blk WF (w.heap.size + 1) #[.int .i64 d.room, .int .i64 d.next, .slice A1 m1 k1, .slice A2 m2 k2, .slice A3 m3 k3] 35 := hF
        have l0 := hG.cell 0 (.int .i64 d.room) rfl
        have l1 := hG.cell 1 (.int .i64 d.next) rfl
        have l2 := hG.cell 2 (.slice A1 m1 k1) rfl
        have l3 := hG.cell 3 (.slice A2 m2 k2) rfl
        have l4 := hG.cell 4 (.slice A3 m3 k3) rfl
        exact bodyPost_ret (v := .tuple #[.agg #[.int .i64 d.room, .int .i64 d.next, .slice A1 m1 k1, .slice A2 m2 k2, .slice A3 m3 k3], .int .i64 3]) (by simp [results, go_sem, l0, l1, l2, l3, l4]) rfl (by rw [hRR.out]; exact ⟨_, rfl, ⟨_, _, _, rfl, F0, F1, F2⟩, FB⟩)
      | none =>
        have t0 : idxV none = -1 := rfl
        rw [t0]
        clear t0
        have p0 := K2.out.cell 1 _ rfl
        have p1 := K2.out.cell 2 _ rfl
        have p2 := K2.out.cell 4 _ rfl
        have q10 : (d.nods.length : Int) ≤ 10 := by have := HSZ.out; omega
        have q5 : d.next ≤ 1000000 := HNX.out.2
        by_cases hx1 : 10 ≤ d.nods.length
        · have hRR : Hid (makeR d name = (d, 4)) := by unfold Hid; rw [hRY.out, makeD_no (by rw [makeC_full hno hfi (.inl hx1)]; omega), makeC_full hno hfi (.inl hx1)]
          have t1 : decide ((10 : Int) ≤ (d.nods.length : Int)) = true := decide_eq_true (by omega)
          clear hno hfi hx1
          have y0 := K2.out.cell 0 _ rfl
          have y1 := K2.out.cell 1 _ rfl
          have y2 := K2.out.cell 2 _ rfl
          have y3 := K2.out.cell 3 _ rfl
          have y4 := K2.out.cell 4 _ rfl
          go_wp2_with fail
          refine (copyV d (.agg #[.int .i64 d.room, .int .i64 d.next, .slice a1 d.nods.length b1, v2, .slice a3 d.movs.length b3]) w2 B (HV.out.on (B2.out.mono HB.out)) (by have := HSZ.out; omega) HSZ.out.2.2.1 HSZ.out.2.2.2 (Nat.le_trans HB.out B2.out.size)).mono ?_
          rintro e w9 ⟨x, rfl, hO9, hb9⟩
          clear y0 y1 y2 y3 y4 p0 p1 p2
          have hsz9 : Hid (w2.heap.size ≤ w9.heap.size) := hb9.size
          have B9 : Hid (Below w.heap.size w w9) := B2.out.trans (hb9.mono B2.out.size)
          have K9 : Hid (Blk w9 w.heap.size #[.int .i64 d.room, .int .i64 d.next, .slice a1 d.nods.length b1, v2, .slice a3 d.movs.length b3] 35) := K2.out.on hb9 K2.out.lt
          have R9 : Hid (Blk w9 (w.heap.size + 1) #[.int .i64 0, .int .i64 0, .slice none 0 0, .slice none 0 0, .slice none 0 0] 35) := R2.out.on hb9 R2.out.lt
          obtain ⟨x1, x2, x3, rfl, o1, o2, o3⟩ := hO9
          obtain ⟨A1, m1, k1, rfl⟩ := o1.shape
          obtain ⟨A2, m2, k2, rfl⟩ := o2.shape
          obtain ⟨A3, m3, k3, rfl⟩ := o3.shape
          have O1 : Hid (Owns w9 w.heap.size 76 3 (.slice A1 m1 k1) (nodR d.nods)) := o1.mono B2.out.size
          have O2 : Hid (Owns w9 w.heap.size 79 2 (.slice A2 m2 k2) (lnkR d.dir)) := o2.mono B2.out.size
          have O3 : Hid (Owns w9 w.heap.size 81 4 (.slice A3 m3 k3) (movR d.movs)) := o3.mono B2.out.size
          clear hb9 o1 o2 o3 K9
          have g0 := R9.out.cell 0 _ rfl
          have f0 := R9.out.free 0
          have g1 := R9.out.cell 1 _ rfl
          have f1 := R9.out.free 1
          have g2 := R9.out.cell 2 _ rfl
          have f2 := R9.out.free 2
          have g3 := R9.out.cell 3 _ rfl
          have f3 := R9.out.free 3
          have g4 := R9.out.cell 4 _ rfl
          have f4 := R9.out.free 4
          go_wp2_with fail
          have hB := B9.out
          have FB := (((((hB.setCell hg (.int .i64 d.room) (p := ⟨_, 0, none⟩)).setCell hg (.int .i64 d.next) (p := ⟨_, 1, none⟩)).setCell hg (.slice A1 m1 k1) (p := ⟨_, 2, none⟩)).setCell hg (.slice A2 m2 k2) (p := ⟨_, 3, none⟩)).setCell hg (.slice A3 m3 k3) (p := ⟨_, 4, none⟩))
          have hF := (((((R9.out.set 0 (.int .i64 d.room)).set 1 (.int .i64 d.next)).set 2 (.slice A1 m1 k1)).set 3 (.slice A2 m2 k2)).set 4 (.slice A3 m3 k3))
          have mm0 := O1.out.notBlk R9.out (by decide)
          have F0 := (((((O1.out.other mm0 0 (.int .i64 d.room)).other mm0 1 (.int .i64 d.next)).other mm0 2 (.slice A1 m1 k1)).other mm0 3 (.slice A2 m2 k2)).other mm0 4 (.slice A3 m3 k3))
          have mm1 := O2.out.notBlk R9.out (by decide)
          have F1 := (((((O2.out.other mm1 0 (.int .i64 d.room)).other mm1 1 (.int .i64 d.next)).other mm1 2 (.slice A1 m1 k1)).other mm1 3 (.slice A2 m2 k2)).other mm1 4 (.slice A3 m3 k3))
          have mm2 := O3.out.notBlk R9.out (by decide)
          have F2 := (((((O3.out.other mm2 0 (.int .i64 d.room)).other mm2 1 (.int .i64 d.next)).other mm2 2 (.slice A1 m1 k1)).other mm2 3 (.slice A2 m2 k2)).other mm2 4 (.slice A3 m3 k3))
          clear g0 f0 g1 f1 g2 f2 g3 f3 g4 f4
          generalize (((((w9.setCell ⟨w.heap.size + 1, 0, none⟩ (.int .i64 d.room)).setCell ⟨w.heap.size + 1, 1, none⟩ (.int .i64 d.next)).setCell ⟨w.heap.size + 1, 2, none⟩ (.slice A1 m1 k1)).setCell ⟨w.heap.size + 1, 3, none⟩ (.slice A2 m2 k2)).setCell ⟨w.heap.size + 1, 4, none⟩ (.slice A3 m3 k3)) = WF at *
          have hG : Blk WF (w.heap.size + 1) #[.int .i64 d.room, .int .i64 d.next, .slice A1 m1 k1, .slice A2 m2 k2, .slice A3 m3 k3] 35 := hF
          have l0 := hG.cell 0 (.int .i64 d.room) rfl
          have l1 := hG.cell 1 (.int .i64 d.next) rfl
          have l2 := hG.cell 2 (.slice A1 m1 k1) rfl
          have l3 := hG.cell 3 (.slice A2 m2 k2) rfl
          have l4 := hG.cell 4 (.slice A3 m3 k3) rfl
          exact bodyPost_ret (v := .tuple #[.agg #[.int .i64 d.room, .int .i64 d.next, .slice A1 m1 k1, .slice A2 m2 k2, .slice A3 m3 k3], .int .i64 4]) (by simp [results, go_sem, l0, l1, l2, l3, l4]) rfl (by rw [hRR.out]; exact ⟨_, rfl, ⟨_, _, _, rfl, F0, F1, F2⟩, FB⟩)
        have t1 : decide ((10 : Int) ≤ (d.nods.length : Int)) = false := decide_eq_false (by omega)
        by_cases hx2 : 20 ≤ d.movs.length
        · have hRR : Hid (makeR d name = (d, 4)) := by unfold Hid; rw [hRY.out, makeD_no (by rw [makeC_full hno hfi (.inr (.inl hx2))]; omega), makeC_full hno hfi (.inr (.inl hx2))]
          have t2 : decide ((20 : Int) ≤ (d.movs.length : Int)) = true := decide_eq_true (by omega)
          clear hno hfi hx1 hx2
          have y0 := K2.out.cell 0 _ rfl
          have y1 := K2.out.cell 1 _ rfl
          have y2 := K2.out.cell 2 _ rfl
          have y3 := K2.out.cell 3 _ rfl
          have y4 := K2.out.cell 4 _ rfl
          go_wp2_with fail
          refine (copyV d (.agg #[.int .i64 d.room, .int .i64 d.next, .slice a1 d.nods.length b1, v2, .slice a3 d.movs.length b3]) w2 B (HV.out.on (B2.out.mono HB.out)) (by have := HSZ.out; omega) HSZ.out.2.2.1 HSZ.out.2.2.2 (Nat.le_trans HB.out B2.out.size)).mono ?_
          rintro e w9 ⟨x, rfl, hO9, hb9⟩
          clear y0 y1 y2 y3 y4 p0 p1 p2
          have hsz9 : Hid (w2.heap.size ≤ w9.heap.size) := hb9.size
          have B9 : Hid (Below w.heap.size w w9) := B2.out.trans (hb9.mono B2.out.size)
          have K9 : Hid (Blk w9 w.heap.size #[.int .i64 d.room, .int .i64 d.next, .slice a1 d.nods.length b1, v2, .slice a3 d.movs.length b3] 35) := K2.out.on hb9 K2.out.lt
          have R9 : Hid (Blk w9 (w.heap.size + 1) #[.int .i64 0, .int .i64 0, .slice none 0 0, .slice none 0 0, .slice none 0 0] 35) := R2.out.on hb9 R2.out.lt
          obtain ⟨x1, x2, x3, rfl, o1, o2, o3⟩ := hO9
          obtain ⟨A1, m1, k1, rfl⟩ := o1.shape
          obtain ⟨A2, m2, k2, rfl⟩ := o2.shape
          obtain ⟨A3, m3, k3, rfl⟩ := o3.shape
          have O1 : Hid (Owns w9 w.heap.size 76 3 (.slice A1 m1 k1) (nodR d.nods)) := o1.mono B2.out.size
          have O2 : Hid (Owns w9 w.heap.size 79 2 (.slice A2 m2 k2) (lnkR d.dir)) := o2.mono B2.out.size
          have O3 : Hid (Owns w9 w.heap.size 81 4 (.slice A3 m3 k3) (movR d.movs)) := o3.mono B2.out.size
          clear hb9 o1 o2 o3 K9
          have g0 := R9.out.cell 0 _ rfl
          have f0 := R9.out.free 0
          have g1 := R9.out.cell 1 _ rfl
          have f1 := R9.out.free 1
          have g2 := R9.out.cell 2 _ rfl
          have f2 := R9.out.free 2
          have g3 := R9.out.cell 3 _ rfl
          have f3 := R9.out.free 3
          have g4 := R9.out.cell 4 _ rfl
          have f4 := R9.out.free 4
          go_wp2_with fail
          have hB := B9.out
          have FB := (((((hB.setCell hg (.int .i64 d.room) (p := ⟨_, 0, none⟩)).setCell hg (.int .i64 d.next) (p := ⟨_, 1, none⟩)).setCell hg (.slice A1 m1 k1) (p := ⟨_, 2, none⟩)).setCell hg (.slice A2 m2 k2) (p := ⟨_, 3, none⟩)).setCell hg (.slice A3 m3 k3) (p := ⟨_, 4, none⟩))
          have hF := (((((R9.out.set 0 (.int .i64 d.room)).set 1 (.int .i64 d.next)).set 2 (.slice A1 m1 k1)).set 3 (.slice A2 m2 k2)).set 4 (.slice A3 m3 k3))
          have mm0 := O1.out.notBlk R9.out (by decide)
          have F0 := (((((O1.out.other mm0 0 (.int .i64 d.room)).other mm0 1 (.int .i64 d.next)).other mm0 2 (.slice A1 m1 k1)).other mm0 3 (.slice A2 m2 k2)).other mm0 4 (.slice A3 m3 k3))
          have mm1 := O2.out.notBlk R9.out (by decide)
          have F1 := (((((O2.out.other mm1 0 (.int .i64 d.room)).other mm1 1 (.int .i64 d.next)).other mm1 2 (.slice A1 m1 k1)).other mm1 3 (.slice A2 m2 k2)).other mm1 4 (.slice A3 m3 k3))
          have mm2 := O3.out.notBlk R9.out (by decide)
          have F2 := (((((O3.out.other mm2 0 (.int .i64 d.room)).other mm2 1 (.int .i64 d.next)).other mm2 2 (.slice A1 m1 k1)).other mm2 3 (.slice A2 m2 k2)).other mm2 4 (.slice A3 m3 k3))
          clear g0 f0 g1 f1 g2 f2 g3 f3 g4 f4
          generalize (((((w9.setCell ⟨w.heap.size + 1, 0, none⟩ (.int .i64 d.room)).setCell ⟨w.heap.size + 1, 1, none⟩ (.int .i64 d.next)).setCell ⟨w.heap.size + 1, 2, none⟩ (.slice A1 m1 k1)).setCell ⟨w.heap.size + 1, 3, none⟩ (.slice A2 m2 k2)).setCell ⟨w.heap.size + 1, 4, none⟩ (.slice A3 m3 k3)) = WF at *
          have hG : Blk WF (w.heap.size + 1) #[.int .i64 d.room, .int .i64 d.next, .slice A1 m1 k1, .slice A2 m2 k2, .slice A3 m3 k3] 35 := hF
          have l0 := hG.cell 0 (.int .i64 d.room) rfl
          have l1 := hG.cell 1 (.int .i64 d.next) rfl
          have l2 := hG.cell 2 (.slice A1 m1 k1) rfl
          have l3 := hG.cell 3 (.slice A2 m2 k2) rfl
          have l4 := hG.cell 4 (.slice A3 m3 k3) rfl
          exact bodyPost_ret (v := .tuple #[.agg #[.int .i64 d.room, .int .i64 d.next, .slice A1 m1 k1, .slice A2 m2 k2, .slice A3 m3 k3], .int .i64 4]) (by simp [results, go_sem, l0, l1, l2, l3, l4]) rfl (by rw [hRR.out]; exact ⟨_, rfl, ⟨_, _, _, rfl, F0, F1, F2⟩, FB⟩)
        have t2 : decide ((20 : Int) ≤ (d.movs.length : Int)) = false := decide_eq_false (by omega)
        by_cases hx3 : 1000000 ≤ d.next
        · have hRR : Hid (makeR d name = (d, 4)) := by unfold Hid; rw [hRY.out, makeD_no (by rw [makeC_full hno hfi (.inr (.inr hx3))]; omega), makeC_full hno hfi (.inr (.inr hx3))]
          have t3 : decide ((1000000 : Int) ≤ d.next) = true := decide_eq_true hx3
          clear hno hfi hx1 hx2 hx3
          have y0 := K2.out.cell 0 _ rfl
          have y1 := K2.out.cell 1 _ rfl
          have y2 := K2.out.cell 2 _ rfl
          have y3 := K2.out.cell 3 _ rfl
          have y4 := K2.out.cell 4 _ rfl
          go_wp2_with fail
          refine (copyV d (.agg #[.int .i64 d.room, .int .i64 d.next, .slice a1 d.nods.length b1, v2, .slice a3 d.movs.length b3]) w2 B (HV.out.on (B2.out.mono HB.out)) (by have := HSZ.out; omega) HSZ.out.2.2.1 HSZ.out.2.2.2 (Nat.le_trans HB.out B2.out.size)).mono ?_
          rintro e w9 ⟨x, rfl, hO9, hb9⟩
          clear y0 y1 y2 y3 y4 p0 p1 p2
          have hsz9 : Hid (w2.heap.size ≤ w9.heap.size) := hb9.size
          have B9 : Hid (Below w.heap.size w w9) := B2.out.trans (hb9.mono B2.out.size)
          have K9 : Hid (Blk w9 w.heap.size #[.int .i64 d.room, .int .i64 d.next, .slice a1 d.nods.length b1, v2, .slice a3 d.movs.length b3] 35) := K2.out.on hb9 K2.out.lt
          have R9 : Hid (Blk w9 (w.heap.size + 1) #[.int .i64 0, .int .i64 0, .slice none 0 0, .slice none 0 0, .slice none 0 0] 35) := R2.out.on hb9 R2.out.lt
          obtain ⟨x1, x2, x3, rfl, o1, o2, o3⟩ := hO9
          obtain ⟨A1, m1, k1, rfl⟩ := o1.shape
          obtain ⟨A2, m2, k2, rfl⟩ := o2.shape
          obtain ⟨A3, m3, k3, rfl⟩ := o3.shape
          have O1 : Hid (Owns w9 w.heap.size 76 3 (.slice A1 m1 k1) (nodR d.nods)) := o1.mono B2.out.size
          have O2 : Hid (Owns w9 w.heap.size 79 2 (.slice A2 m2 k2) (lnkR d.dir)) := o2.mono B2.out.size
          have O3 : Hid (Owns w9 w.heap.size 81 4 (.slice A3 m3 k3) (movR d.movs)) := o3.mono B2.out.size
          clear hb9 o1 o2 o3 K9
          have g0 := R9.out.cell 0 _ rfl
          have f0 := R9.out.free 0
          have g1 := R9.out.cell 1 _ rfl
          have f1 := R9.out.free 1
          have g2 := R9.out.cell 2 _ rfl
          have f2 := R9.out.free 2
          have g3 := R9.out.cell 3 _ rfl
          have f3 := R9.out.free 3
          have g4 := R9.out.cell 4 _ rfl
          have f4 := R9.out.free 4
          go_wp2_with fail
          have hB := B9.out
          have FB := (((((hB.setCell hg (.int .i64 d.room) (p := ⟨_, 0, none⟩)).setCell hg (.int .i64 d.next) (p := ⟨_, 1, none⟩)).setCell hg (.slice A1 m1 k1) (p := ⟨_, 2, none⟩)).setCell hg (.slice A2 m2 k2) (p := ⟨_, 3, none⟩)).setCell hg (.slice A3 m3 k3) (p := ⟨_, 4, none⟩))
          have hF := (((((R9.out.set 0 (.int .i64 d.room)).set 1 (.int .i64 d.next)).set 2 (.slice A1 m1 k1)).set 3 (.slice A2 m2 k2)).set 4 (.slice A3 m3 k3))
          have mm0 := O1.out.notBlk R9.out (by decide)
          have F0 := (((((O1.out.other mm0 0 (.int .i64 d.room)).other mm0 1 (.int .i64 d.next)).other mm0 2 (.slice A1 m1 k1)).other mm0 3 (.slice A2 m2 k2)).other mm0 4 (.slice A3 m3 k3))
          have mm1 := O2.out.notBlk R9.out (by decide)
          have F1 := (((((O2.out.other mm1 0 (.int .i64 d.room)).other mm1 1 (.int .i64 d.next)).other mm1 2 (.slice A1 m1 k1)).other mm1 3 (.slice A2 m2 k2)).other mm1 4 (.slice A3 m3 k3))
          have mm2 := O3.out.notBlk R9.out (by decide)
          have F2 := (((((O3.out.other mm2 0 (.int .i64 d.room)).other mm2 1 (.int .i64 d.next)).other mm2 2 (.slice A1 m1 k1)).other mm2 3 (.slice A2 m2 k2)).other mm2 4 (.slice A3 m3 k3))
          clear g0 f0 g1 f1 g2 f2 g3 f3 g4 f4
          generalize (((((w9.setCell ⟨w.heap.size + 1, 0, none⟩ (.int .i64 d.room)).setCell ⟨w.heap.size + 1, 1, none⟩ (.int .i64 d.next)).setCell ⟨w.heap.size + 1, 2, none⟩ (.slice A1 m1 k1)).setCell ⟨w.heap.size + 1, 3, none⟩ (.slice A2 m2 k2)).setCell ⟨w.heap.size + 1, 4, none⟩ (.slice A3 m3 k3)) = WF at *
          have hG : Blk WF (w.heap.size + 1) #[.int .i64 d.room, .int .i64 d.next, .slice A1 m1 k1, .slice A2 m2 k2, .slice A3 m3 k3] 35 := hF
          have l0 := hG.cell 0 (.int .i64 d.room) rfl
          have l1 := hG.cell 1 (.int .i64 d.next) rfl
          have l2 := hG.cell 2 (.slice A1 m1 k1) rfl
          have l3 := hG.cell 3 (.slice A2 m2 k2) rfl
          have l4 := hG.cell 4 (.slice A3 m3 k3) rfl
          exact bodyPost_ret (v := .tuple #[.agg #[.int .i64 d.room, .int .i64 d.next, .slice A1 m1 k1, .slice A2 m2 k2, .slice A3 m3 k3], .int .i64 4]) (by simp [results, go_sem, l0, l1, l2, l3, l4]) rfl (by rw [hRR.out]; exact ⟨_, rfl, ⟨_, _, _, rfl, F0, F1, F2⟩, FB⟩)
        have t3 : decide ((1000000 : Int) ≤ d.next) = false := decide_eq_false hx3
        have hRR : Hid (makeR d name = (⟨d.room, d.next + 1, d.nods ++ [⟨d.next, ⟨#[]⟩, 0⟩], d.dir, d.movs ++ [⟨1, name, ⟨#[]⟩, d.next⟩]⟩, 0)) := by unfold Hid; rw [hRY.out, makeD_ok (makeC_ok hno hfi (by omega)), makeC_ok hno hfi (by omega)]
        clear hno hfi hx1 hx2 hx3
        have y0 := K2.out.cell 0 _ rfl
        have y1 := K2.out.cell 1 _ rfl
        have y2 := K2.out.cell 2 _ rfl
        have y3 := K2.out.cell 3 _ rfl
        have y4 := K2.out.cell 4 _ rfl
        go_wp2_with fail
        refine (copyV d (.agg #[.int .i64 d.room, .int .i64 d.next, .slice a1 d.nods.length b1, v2, .slice a3 d.movs.length b3]) w2 B (HV.out.on (B2.out.mono HB.out)) (by have := HSZ.out; omega) HSZ.out.2.2.1 HSZ.out.2.2.2 (Nat.le_trans HB.out B2.out.size)).mono ?_
        rintro e w9 ⟨x, rfl, hO9, hb9⟩
        clear y0 y1 y2 y3 y4 p0 p1 p2
        have hsz9 : Hid (w2.heap.size ≤ w9.heap.size) := hb9.size
        have B9 : Hid (Below w.heap.size w w9) := B2.out.trans (hb9.mono B2.out.size)
        have K9 : Hid (Blk w9 w.heap.size #[.int .i64 d.room, .int .i64 d.next, .slice a1 d.nods.length b1, v2, .slice a3 d.movs.length b3] 35) := K2.out.on hb9 K2.out.lt
        have R9 : Hid (Blk w9 (w.heap.size + 1) #[.int .i64 0, .int .i64 0, .slice none 0 0, .slice none 0 0, .slice none 0 0] 35) := R2.out.on hb9 R2.out.lt
        obtain ⟨x1, x2, x3, rfl, o1, o2, o3⟩ := hO9
        obtain ⟨A1, m1, k1, rfl⟩ := o1.shape
        obtain ⟨A2, m2, k2, rfl⟩ := o2.shape
        obtain ⟨A3, m3, k3, rfl⟩ := o3.shape
        have hz : w.heap.size + 1 < w2.heap.size := R2.out.lt
        have hm : w.heap.size ≤ w2.heap.size := B2.out.size
        have HP1 : Hid (Owns (((((w9.setCell ⟨w.heap.size, 0, none⟩ (.int .i64 d.room)).setCell ⟨w.heap.size, 1, none⟩ (.int .i64 d.next)).setCell ⟨w.heap.size, 2, none⟩ (.slice A1 m1 k1)).setCell ⟨w.heap.size, 3, none⟩ (.slice A2 m2 k2)).setCell ⟨w.heap.size, 4, none⟩ (.slice A3 m3 k3)) w2.heap.size 76 3 (.slice A1 m1 k1) (nodR d.nods)) := (((((o1.other (o1.below (show w.heap.size < w2.heap.size by omega)) 0 (.int .i64 d.room)).other (o1.below (show w.heap.size < w2.heap.size by omega)) 1 (.int .i64 d.next)).other (o1.below (show w.heap.size < w2.heap.size by omega)) 2 (.slice A1 m1 k1)).other (o1.below (show w.heap.size < w2.heap.size by omega)) 3 (.slice A2 m2 k2)).other (o1.below (show w.heap.size < w2.heap.size by omega)) 4 (.slice A3 m3 k3))
        have HP2 : Hid (Owns (((((w9.setCell ⟨w.heap.size, 0, none⟩ (.int .i64 d.room)).setCell ⟨w.heap.size, 1, none⟩ (.int .i64 d.next)).setCell ⟨w.heap.size, 2, none⟩ (.slice A1 m1 k1)).setCell ⟨w.heap.size, 3, none⟩ (.slice A2 m2 k2)).setCell ⟨w.heap.size, 4, none⟩ (.slice A3 m3 k3)) w2.heap.size 79 2 (.slice A2 m2 k2) (lnkR d.dir)) := (((((o2.other (o2.below (show w.heap.size < w2.heap.size by omega)) 0 (.int .i64 d.room)).other (o2.below (show w.heap.size < w2.heap.size by omega)) 1 (.int .i64 d.next)).other (o2.below (show w.heap.size < w2.heap.size by omega)) 2 (.slice A1 m1 k1)).other (o2.below (show w.heap.size < w2.heap.size by omega)) 3 (.slice A2 m2 k2)).other (o2.below (show w.heap.size < w2.heap.size by omega)) 4 (.slice A3 m3 k3))
        have HP3 : Hid (Owns (((((w9.setCell ⟨w.heap.size, 0, none⟩ (.int .i64 d.room)).setCell ⟨w.heap.size, 1, none⟩ (.int .i64 d.next)).setCell ⟨w.heap.size, 2, none⟩ (.slice A1 m1 k1)).setCell ⟨w.heap.size, 3, none⟩ (.slice A2 m2 k2)).setCell ⟨w.heap.size, 4, none⟩ (.slice A3 m3 k3)) w2.heap.size 81 4 (.slice A3 m3 k3) (movR d.movs)) := (((((o3.other (o3.below (show w.heap.size < w2.heap.size by omega)) 0 (.int .i64 d.room)).other (o3.below (show w.heap.size < w2.heap.size by omega)) 1 (.int .i64 d.next)).other (o3.below (show w.heap.size < w2.heap.size by omega)) 2 (.slice A1 m1 k1)).other (o3.below (show w.heap.size < w2.heap.size by omega)) 3 (.slice A2 m2 k2)).other (o3.below (show w.heap.size < w2.heap.size by omega)) 4 (.slice A3 m3 k3))
        have HPB : Hid (Below w.heap.size w (((((w9.setCell ⟨w.heap.size, 0, none⟩ (.int .i64 d.room)).setCell ⟨w.heap.size, 1, none⟩ (.int .i64 d.next)).setCell ⟨w.heap.size, 2, none⟩ (.slice A1 m1 k1)).setCell ⟨w.heap.size, 3, none⟩ (.slice A2 m2 k2)).setCell ⟨w.heap.size, 4, none⟩ (.slice A3 m3 k3))) := (((((B9.out.setCell (Nat.le_refl _) (.int .i64 d.room) (p := ⟨_, 0, none⟩)).setCell (Nat.le_refl _) (.int .i64 d.next) (p := ⟨_, 1, none⟩)).setCell (Nat.le_refl _) (.slice A1 m1 k1) (p := ⟨_, 2, none⟩)).setCell (Nat.le_refl _) (.slice A2 m2 k2) (p := ⟨_, 3, none⟩)).setCell (Nat.le_refl _) (.slice A3 m3 k3) (p := ⟨_, 4, none⟩))
        have HPK : Hid (Blk (((((w9.setCell ⟨w.heap.size, 0, none⟩ (.int .i64 d.room)).setCell ⟨w.heap.size, 1, none⟩ (.int .i64 d.next)).setCell ⟨w.heap.size, 2, none⟩ (.slice A1 m1 k1)).setCell ⟨w.heap.size, 3, none⟩ (.slice A2 m2 k2)).setCell ⟨w.heap.size, 4, none⟩ (.slice A3 m3 k3)) w.heap.size #[.int .i64 d.room, .int .i64 d.next, .slice A1 m1 k1, .slice A2 m2 k2, .slice A3 m3 k3] 35) := (((((K9.out.set 0 (.int .i64 d.room)).set 1 (.int .i64 d.next)).set 2 (.slice A1 m1 k1)).set 3 (.slice A2 m2 k2)).set 4 (.slice A3 m3 k3))
        have HPR : Hid (Blk (((((w9.setCell ⟨w.heap.size, 0, none⟩ (.int .i64 d.room)).setCell ⟨w.heap.size, 1, none⟩ (.int .i64 d.next)).setCell ⟨w.heap.size, 2, none⟩ (.slice A1 m1 k1)).setCell ⟨w.heap.size, 3, none⟩ (.slice A2 m2 k2)).setCell ⟨w.heap.size, 4, none⟩ (.slice A3 m3 k3)) (w.heap.size + 1) #[.int .i64 0, .int .i64 0, .slice none 0 0, .slice none 0 0, .slice none 0 0] 35) := (((((R9.out.other (show w.heap.size + 1 ≠ w.heap.size by omega) 0 (.int .i64 d.room)).other (show w.heap.size + 1 ≠ w.heap.size by omega) 1 (.int .i64 d.next)).other (show w.heap.size + 1 ≠ w.heap.size by omega) 2 (.slice A1 m1 k1)).other (show w.heap.size + 1 ≠ w.heap.size by omega) 3 (.slice A2 m2 k2)).other (show w.heap.size + 1 ≠ w.heap.size by omega) 4 (.slice A3 m3 k3))
        clear hb9 o1 o2 o3
        have e0 := K9.out.cell 0 _ rfl
        have t0 := K9.out.free 0
        have e1 := K9.out.cell 1 _ rfl
        have t1 := K9.out.free 1
        have e2 := K9.out.cell 2 _ rfl
        have t2 := K9.out.free 2
        have e3 := K9.out.cell 3 _ rfl
        have t3 := K9.out.free 3
        have e4 := K9.out.cell 4 _ rfl
        have t4 := K9.out.free 4
        have r1 := HPK.out.cell 1 _ rfl
        have r2 := HPK.out.cell 2 _ rfl
        have hzz : w2.heap.size ≤ ((((((w9.setCell ⟨w.heap.size, 0, none⟩ (.int .i64 d.room)).setCell ⟨w.heap.size, 1, none⟩ (.int .i64 d.next)).setCell ⟨w.heap.size, 2, none⟩ (.slice A1 m1 k1)).setCell ⟨w.heap.size, 3, none⟩ (.slice A2 m2 k2)).setCell ⟨w.heap.size, 4, none⟩ (.slice A3 m3 k3))).heap.size := by simp only [World.size_setCell]; exact hsz9.out
        have hYs : ((((((w9.setCell ⟨w.heap.size, 0, none⟩ (.int .i64 d.room)).setCell ⟨w.heap.size, 1, none⟩ (.int .i64 d.next)).setCell ⟨w.heap.size, 2, none⟩ (.slice A1 m1 k1)).setCell ⟨w.heap.size, 3, none⟩ (.slice A2 m2 k2)).setCell ⟨w.heap.size, 4, none⟩ (.slice A3 m3 k3))).heap.size = w9.heap.size := by simp only [World.size_setCell]
        go_wp2_with (at_builtin; refine Shut.out ?_)
        clear r1 r2 e0 t0 e1 t1 e2 t2 e3 t3 e4 t4
        generalize (((((w9.setCell ⟨w.heap.size, 0, none⟩ (.int .i64 d.room)).setCell ⟨w.heap.size, 1, none⟩ (.int .i64 d.next)).setCell ⟨w.heap.size, 2, none⟩ (.slice A1 m1 k1)).setCell ⟨w.heap.size, 3, none⟩ (.slice A2 m2 k2)).setCell ⟨w.heap.size, 4, none⟩ (.slice A3 m3 k3)) = Y at *
        unfold Shut
        refine wpList_append_row (w := Y) rfl (.tmp 45) (.tmp 49) 31 76 (.agg #[.int .i64 0, .string ⟨#[]⟩, .int .i64 0]) 3 32 rfl Tryz.underlying31 Tryz.infoNod rfl (by omega) w2.heap.size (.slice A1 m1 k1) (nodR d.nods) rfl HP1.out [.int .i64 d.next, .string ⟨#[]⟩, .int .i64 0] rfl (by intro y hy; simp at hy; rcases hy with rfl | rfl | rfl <;> rfl) (by rw [hYs]; rfl) (by rw [nodR_length]; have := HSZ.out; omega) (by omega) hzz ?_
        intro v' w5 hO5 hb5 hk5 _
        obtain ⟨nA, nm, nc, rfl⟩ := hO5.shape
        have Q2 : Hid (Owns w5 w2.heap.size 79 2 (.slice A2 m2 k2) (lnkR d.dir)) := HP2.out.kept fun g hg ho => hk5 g hg (HP2.out.apart HP1.out (by decide) g ho)
        have Q3 : Hid (Owns w5 w2.heap.size 81 4 (.slice A3 m3 k3) (movR d.movs)) := HP3.out.kept fun g hg ho => hk5 g hg (HP3.out.apart HP1.out (by decide) g ho)
        have Q1 : Hid (Owns w5 w2.heap.size 76 3 (.slice nA nm nc) (nodR d.nods ++ [[.int .i64 d.next, .string ⟨#[]⟩, .int .i64 0]])) := hO5
        have QB : Hid (Below w.heap.size w w5) := HPB.out.trans (hb5.mono hm)
        have QK : Hid (Blk w5 w.heap.size #[.int .i64 d.room, .int .i64 d.next, .slice A1 m1 k1, .slice A2 m2 k2, .slice A3 m3 k3] 35) := HPK.out.on hb5 (by omega)
        have QR : Hid (Blk w5 (w.heap.size + 1) #[.int .i64 0, .int .i64 0, .slice none 0 0, .slice none 0 0, .slice none 0 0] 35) := HPR.out.on hb5 hz
        have QZ : Hid (w2.heap.size ≤ w5.heap.size) := Nat.le_trans hzz hb5.size
        have y2 := QK.out.cell 2 _ rfl
        have z2 := QK.out.free 2
        have KK : Hid (Blk (w5.setCell ⟨w.heap.size, 2, none⟩ (.slice nA nm nc)) w.heap.size #[.int .i64 d.room, .int .i64 d.next, .slice nA nm nc, .slice A2 m2 k2, .slice A3 m3 k3] 35) := QK.out.set 2 _
        have RRx : Hid (Blk (w5.setCell ⟨w.heap.size, 2, none⟩ (.slice nA nm nc)) (w.heap.size + 1) #[.int .i64 0, .int .i64 0, .slice none 0 0, .slice none 0 0, .slice none 0 0] 35) := QR.out.other (by omega) _ _
        have G1 : Hid (Owns (w5.setCell ⟨w.heap.size, 2, none⟩ (.slice nA nm nc)) w2.heap.size 76 3 (.slice nA nm nc) (nodR d.nods ++ [[.int .i64 d.next, .string ⟨#[]⟩, .int .i64 0]])) := Q1.out.other (Q1.out.below (by omega)) _ _
        have G2 : Hid (Owns (w5.setCell ⟨w.heap.size, 2, none⟩ (.slice nA nm nc)) w2.heap.size 79 2 (.slice A2 m2 k2) (lnkR d.dir)) := Q2.out.other (Q2.out.below (by omega)) _ _
        have G3 : Hid (Owns (w5.setCell ⟨w.heap.size, 2, none⟩ (.slice nA nm nc)) w2.heap.size 81 4 (.slice A3 m3 k3) (movR d.movs)) := Q3.out.other (Q3.out.below (by omega)) _ _
        have GB : Hid (Below w.heap.size w (w5.setCell ⟨w.heap.size, 2, none⟩ (.slice nA nm nc))) := QB.out.setCell (p := ⟨w.heap.size, 2, none⟩) (Nat.le_refl _) _
        have hY5 : (w5.setCell ⟨w.heap.size, 2, none⟩ (.slice nA nm nc)).heap.size = w5.heap.size := by simp only [World.size_setCell]
        have r1 := KK.out.cell 1 _ rfl
        have r4 := KK.out.cell 4 _ rfl
        clear hO5 hb5 hk5 Q1 Q2 Q3 QB QK QR HP1 HP2 HP3 HPB HPK HPR hzz hYs
        go_wp2_with (at_builtin; refine Shut.out ?_)
        clear y2 z2 r1 r4
        generalize w5.setCell ⟨w.heap.size, 2, none⟩ (.slice nA nm nc) = Y2 at *
        unfold Shut
        refine wpList_append_row (w := Y2) rfl (.tmp 53) (.tmp 58) 33 81 (.agg #[.int .i64 0, .string ⟨#[]⟩, .string ⟨#[]⟩, .int .i64 0]) 4 48 rfl Tryz.underlying33 Tryz.infoMov rfl (by omega) w2.heap.size (.slice A3 m3 k3) (movR d.movs) rfl G3.out [.int .i64 1, .string name, .string ⟨#[]⟩, .int .i64 d.next] rfl (by intro y hy; simp at hy; rcases hy with rfl | rfl | rfl | rfl <;> rfl) (by rw [hY5]; rfl) (by rw [movR_length]; have := HSZ.out; omega) (by omega) (by rw [hY5]; exact QZ.out) ?_
        intro v' w6 hO6 hb6 hk6 _
        obtain ⟨pA, pm, pc, rfl⟩ := hO6.shape
        have e1 : movR (d.movs ++ [⟨1, name, ⟨#[]⟩, d.next⟩]) = movR d.movs ++ [[.int .i64 1, .string name, .string ⟨#[]⟩, .int .i64 d.next]] := by unfold movR; rw [List.map_append]; rfl
        have e2 : nodR (d.nods ++ [⟨d.next, ⟨#[]⟩, 0⟩]) = nodR d.nods ++ [[.int .i64 d.next, .string ⟨#[]⟩, .int .i64 0]] := by unfold nodR; rw [List.map_append]; rfl
        have Q1 : Hid (Owns w6 w2.heap.size 76 3 (.slice nA nm nc) (nodR (d.nods ++ [⟨d.next, ⟨#[]⟩, 0⟩]))) := by unfold Hid; rw [e2]; exact G1.out.kept fun g hg ho => hk6 g hg (G1.out.apart G3.out (by decide) g ho)
        have Q2 : Hid (Owns w6 w2.heap.size 79 2 (.slice A2 m2 k2) (lnkR d.dir)) := G2.out.kept fun g hg ho => hk6 g hg (G2.out.apart G3.out (by decide) g ho)
        have Q3 : Hid (Owns w6 w2.heap.size 81 4 (.slice pA pm pc) (movR (d.movs ++ [⟨1, name, ⟨#[]⟩, d.next⟩]))) := by unfold Hid; rw [e1]; exact hO6
        have QB : Hid (Below w.heap.size w w6) := GB.out.trans (hb6.mono hm)
        have QK : Hid (Blk w6 w.heap.size #[.int .i64 d.room, .int .i64 d.next, .slice nA nm nc, .slice A2 m2 k2, .slice A3 m3 k3] 35) := KK.out.on hb6 (by omega)
        have QR : Hid (Blk w6 (w.heap.size + 1) #[.int .i64 0, .int .i64 0, .slice none 0 0, .slice none 0 0, .slice none 0 0] 35) := RRx.out.on hb6 hz
        have y1 := QK.out.cell 1 _ rfl
        have y4 := QK.out.cell 4 _ rfl
        have z4 := QK.out.free 4
        have k7 : Blk (w6.setCell ⟨w.heap.size, 4, none⟩ (.slice pA pm pc)) w.heap.size #[.int .i64 d.room, .int .i64 d.next, .slice nA nm nc, .slice A2 m2 k2, .slice pA pm pc] 35 := QK.out.set 4 _
        have y7 := k7.cell 1 _ rfl
        have z7 := k7.free 1
        have KK : Hid (Blk ((w6.setCell ⟨w.heap.size, 4, none⟩ (.slice pA pm pc)).setCell ⟨w.heap.size, 1, none⟩ (.int .i64 (d.next + 1))) w.heap.size #[.int .i64 d.room, .int .i64 (d.next + 1), .slice nA nm nc, .slice A2 m2 k2, .slice pA pm pc] 35) := k7.set 1 _
        have RRx : Hid (Blk ((w6.setCell ⟨w.heap.size, 4, none⟩ (.slice pA pm pc)).setCell ⟨w.heap.size, 1, none⟩ (.int .i64 (d.next + 1))) (w.heap.size + 1) #[.int .i64 0, .int .i64 0, .slice none 0 0, .slice none 0 0, .slice none 0 0] 35) := (QR.out.other (by omega) _ _).other (by omega) _ _
        have H1 : Hid (Owns ((w6.setCell ⟨w.heap.size, 4, none⟩ (.slice pA pm pc)).setCell ⟨w.heap.size, 1, none⟩ (.int .i64 (d.next + 1))) w2.heap.size 76 3 (.slice nA nm nc) (nodR (d.nods ++ [⟨d.next, ⟨#[]⟩, 0⟩]))) := (Q1.out.other (Q1.out.below (by omega)) _ _).other (Q1.out.below (by omega)) _ _
        have H2 : Hid (Owns ((w6.setCell ⟨w.heap.size, 4, none⟩ (.slice pA pm pc)).setCell ⟨w.heap.size, 1, none⟩ (.int .i64 (d.next + 1))) w2.heap.size 79 2 (.slice A2 m2 k2) (lnkR d.dir)) := (Q2.out.other (Q2.out.below (by omega)) _ _).other (Q2.out.below (by omega)) _ _
        have H3 : Hid (Owns ((w6.setCell ⟨w.heap.size, 4, none⟩ (.slice pA pm pc)).setCell ⟨w.heap.size, 1, none⟩ (.int .i64 (d.next + 1))) w2.heap.size 81 4 (.slice pA pm pc) (movR (d.movs ++ [⟨1, name, ⟨#[]⟩, d.next⟩]))) := (Q3.out.other (Q3.out.below (by omega)) _ _).other (Q3.out.below (by omega)) _ _
        have FBx : Hid (Below w.heap.size w ((w6.setCell ⟨w.heap.size, 4, none⟩ (.slice pA pm pc)).setCell ⟨w.heap.size, 1, none⟩ (.int .i64 (d.next + 1)))) := (QB.out.setCell (p := ⟨w.heap.size, 4, none⟩) (Nat.le_refl _) _).setCell (p := ⟨w.heap.size, 1, none⟩) (Nat.le_refl _) _
        have zz : wrap64 (d.next + 1) = d.next + 1 := by have := HNX.out; unfold wrap64; omega
        clear hO6 hb6 hk6 Q1 Q2 Q3 QB QK QR G1 G2 G3 GB k7
        have r0 := KK.out.cell 0 _ rfl
        have r1 := KK.out.cell 1 _ rfl
        have r2 := KK.out.cell 2 _ rfl
        have r3 := KK.out.cell 3 _ rfl
        have r4 := KK.out.cell 4 _ rfl
        have g0 := RRx.out.cell 0 _ rfl
        have f0 := RRx.out.free 0
        have g1 := RRx.out.cell 1 _ rfl
        have f1 := RRx.out.free 1
        have g2 := RRx.out.cell 2 _ rfl
        have f2 := RRx.out.free 2
        have g3 := RRx.out.cell 3 _ rfl
        have f3 := RRx.out.free 3
        have g4 := RRx.out.cell 4 _ rfl
        have f4 := RRx.out.free 4
        go_wp2_with fail
        have hB := FBx.out
        clear y1 y4 z4 y7 z7 r0 r1 r2 r3 r4
        have FB := (((((hB.setCell hg (.int .i64 d.room) (p := ⟨_, 0, none⟩)).setCell hg (.int .i64 (d.next + 1)) (p := ⟨_, 1, none⟩)).setCell hg (.slice nA nm nc) (p := ⟨_, 2, none⟩)).setCell hg (.slice A2 m2 k2) (p := ⟨_, 3, none⟩)).setCell hg (.slice pA pm pc) (p := ⟨_, 4, none⟩))
        have hF := (((((RRx.out.set 0 (.int .i64 d.room)).set 1 (.int .i64 (d.next + 1))).set 2 (.slice nA nm nc)).set 3 (.slice A2 m2 k2)).set 4 (.slice pA pm pc))
        have mm0 := H1.out.notBlk RRx.out (by decide)
        have F0 := (((((H1.out.other mm0 0 (.int .i64 d.room)).other mm0 1 (.int .i64 (d.next + 1))).other mm0 2 (.slice nA nm nc)).other mm0 3 (.slice A2 m2 k2)).other mm0 4 (.slice pA pm pc))
        have mm1 := H2.out.notBlk RRx.out (by decide)
        have F1 := (((((H2.out.other mm1 0 (.int .i64 d.room)).other mm1 1 (.int .i64 (d.next + 1))).other mm1 2 (.slice nA nm nc)).other mm1 3 (.slice A2 m2 k2)).other mm1 4 (.slice pA pm pc))
        have mm2 := H3.out.notBlk RRx.out (by decide)
        have F2 := (((((H3.out.other mm2 0 (.int .i64 d.room)).other mm2 1 (.int .i64 (d.next + 1))).other mm2 2 (.slice nA nm nc)).other mm2 3 (.slice A2 m2 k2)).other mm2 4 (.slice pA pm pc))
        clear g0 f0 g1 f1 g2 f2 g3 f3 g4 f4
        generalize (((((((w6.setCell ⟨w.heap.size, 4, none⟩ (.slice pA pm pc)).setCell ⟨w.heap.size, 1, none⟩ (.int .i64 (d.next + 1))).setCell ⟨w.heap.size + 1, 0, none⟩ (.int .i64 d.room)).setCell ⟨w.heap.size + 1, 1, none⟩ (.int .i64 (d.next + 1))).setCell ⟨w.heap.size + 1, 2, none⟩ (.slice nA nm nc)).setCell ⟨w.heap.size + 1, 3, none⟩ (.slice A2 m2 k2)).setCell ⟨w.heap.size + 1, 4, none⟩ (.slice pA pm pc)) = WF at *
        have hG : Blk WF (w.heap.size + 1) #[.int .i64 d.room, .int .i64 (d.next + 1), .slice nA nm nc, .slice A2 m2 k2, .slice pA pm pc] 35 := hF
        have l0 := hG.cell 0 (.int .i64 d.room) rfl
        have l1 := hG.cell 1 (.int .i64 (d.next + 1)) rfl
        have l2 := hG.cell 2 (.slice nA nm nc) rfl
        have l3 := hG.cell 3 (.slice A2 m2 k2) rfl
        have l4 := hG.cell 4 (.slice pA pm pc) rfl
        exact bodyPost_ret (v := .tuple #[.agg #[.int .i64 d.room, .int .i64 (d.next + 1), .slice nA nm nc, .slice A2 m2 k2, .slice pA pm pc], .int .i64 0]) (by simp [results, go_sem, l0, l1, l2, l3, l4]) rfl (by rw [hRR.out]; exact ⟨_, rfl, ⟨_, _, _, rfl, F0.mono hm, F1.mono hm, F2.mono hm⟩, FB⟩)
end Go.Proofs.YtnnfnhpehacelaaGreat

/-
  The inodes that a table of names leads to: what is gathered in no order is what is left of the inodes in order (no program in sight, no condition).
-/
namespace Go.Proofs.YtnnfnhpehacelaaGreat
open Go.RowKit Go.PlainAid Go.Maps

/-- What is gathered so far: the numbers of the names that have come, each as in the table P. -/
structure Gath (l : List Lnk) (P : List (Int × Nat)) (left : Lit → Bool) (D : DataW Unit) : Prop where
  has : ∀ kl, has D kl = true ↔ ∃ x ∈ l, left (nameK x.name) = false ∧ kl = .int .i64 x.id
  at_ : ∀ kl z, Maps.has D kl = true → D.atKey kl z = (ptrD P).atKey kl z
theorem gath_start (l : List Lnk) (P : List (Int × Nat)) : Gath l P (has (linkD l)) (.map []) := by
  refine ⟨fun kl => ⟨fun h => (by cases h), ?_⟩, fun kl z h => (by cases h)⟩
  rintro ⟨x, hx, h1, rfl⟩
  have h2 : Maps.has (linkD l) (nameK x.name) = true := by
    unfold linkD
    rw [has_eq, List.any_eq_true]
    exact ⟨(nameK x.name, .lit (.int .i64 x.id)), List.mem_map.2 ⟨x, hx, rfl⟩, by rw [nameK_same]; simp⟩
  rw [h2] at h1
  cases h1
theorem link_of {l : List Lnk} {s : ByteArray} {c : Int} (h : ∀ z, (linkD l).atKey (nameK s) z = .lit (.int .i64 c)) : ∃ x ∈ l, x.name = s ∧ x.id = c := by
  rcases e : linkAt l s with _ | i
  · have := h .nil
    rw [linkD_none l s e] at this
    cases this
  · have := h .nil
    rw [linkD_at l s i e] at this
    injection this with this
    injection this with _ this
    unfold linkAt at e
    rw [List.findIdx?_eq_some_iff_getElem] at e
    obtain ⟨hi, hp, _⟩ := e
    refine ⟨l[i], List.getElem_mem hi, by simpa using hp, ?_⟩
    rw [← this, List.getD_eq_getElem?_getD, List.getElem?_eq_getElem hi]
    rfl
theorem gath_step {l : List Lnk} {P : List (Int × Nat)} {left : Lit → Bool} {D : DataW Unit} {s : ByteArray} {c : Int} {g : Nat} (h : Gath l P left D) (hm : IsMap D) (hu : ∀ x ∈ l, ∀ y ∈ l, x.name = y.name → x = y) (hl : ∀ z, (linkD l).atKey (nameK s) z = .lit (.int .i64 c)) (hp : ptrAt P c = some g) :
    Gath l P (fun z => left z && !z.sameKey (nameK s)) (D.put (.int .i64 c) (.lit (.int .i64 (g : Int)))) := by
  obtain ⟨y, hy, rfl, rfl⟩ := link_of hl
  refine ⟨fun kl => ?_, fun kl z hk => ?_⟩
  · by_cases e : kl = .int .i64 y.id
    · subst e
      rw [has_put_same hm (show WideAt.IsKeyLit (.int .i64 y.id) from trivial)]
      refine ⟨fun _ => ⟨y, hy, ?_, rfl⟩, fun _ => rfl⟩
      rw [nameK_same]
      simp
    · rw [has_put_other e, h.has]
      constructor
      · rintro ⟨x, hx, h1, h2⟩
        exact ⟨x, hx, by rw [h1]; rfl, h2⟩
      · rintro ⟨x, hx, h1, h2⟩
        refine ⟨x, hx, ?_, h2⟩
        rw [nameK_same] at h1
        by_cases hn : x.name = y.name
        · have := hu x hx y hy hn
          subst this
          exact absurd h2 e
        · rw [decide_eq_false hn] at h1
          simpa using h1
  · by_cases e : kl = .int .i64 y.id
    · subst e
      rw [atKey_put_same hm (show WideAt.IsKeyLit (.int .i64 y.id) from trivial), ptrD_at, hp]
    · rw [has_put_other e] at hk
      rw [atKey_put_other e, h.at_ kl z hk]
/-- The pairs whose number some name leads to. -/
def keptP (l : List Lnk) (P : List (Int × Nat)) : List (Int × Nat) := P.filter fun p => linked l p.1
theorem ptrAt_kept (l : List Lnk) (P : List (Int × Nat)) (id : Int) : ptrAt (keptP l P) id = if linked l id = true then ptrAt P id else none := by
  unfold ptrAt keptP
  induction P with
  | nil => simp
  | cons p r ih =>
    by_cases h : linked l p.1 = true
    · rw [List.filter_cons, if_pos h, List.find?_cons, List.find?_cons]
      by_cases e : p.1 = id
      · rw [decide_eq_true e, ← e, if_pos h]
      · rw [decide_eq_false e]
        exact ih
    · rw [List.filter_cons, if_neg h, ih]
      by_cases e : p.1 = id
      · subst e
        rw [if_neg h, if_neg h]
      · rw [List.find?_cons, decide_eq_false e]
theorem canon_ptrD {P : List (Int × Nat)} (h : P.Pairwise fun a b => a.1 < b.1) : Canon (ptrD P) := by
  refine ⟨_, rfl, ?_, ?_⟩
  · rw [List.pairwise_map]
    exact h.imp fun {a b} hab => by show decide (a.1 < b.1) = true; exact decide_eq_true hab
  · intro p hp
    obtain ⟨q, _, rfl⟩ := List.mem_map.1 hp
    trivial
theorem has_ptrD {P : List (Int × Nat)} {kl : Lit} (h : Maps.has (ptrD P) kl = true) : ∃ id, kl = .int .i64 id ∧ (ptrAt P id).isSome = true := by
  have h0 := h
  unfold ptrD at h
  rw [has_eq, List.any_eq_true] at h
  obtain ⟨q, hq, hs⟩ := h
  obtain ⟨p, _, rfl⟩ := List.mem_map.1 hq
  have e := WideAt.sameKey_eq hs
  refine ⟨p.1, e.symm, ?_⟩
  rw [← e, ptrD_has] at h0
  exact h0
/-- Where nothing is to come any more, it is what is kept. -/
theorem gath_end {l : List Lnk} {P : List (Int × Nat)} {left : Lit → Bool} {D : DataW Unit} (h : Gath l P left D) (hl : ∀ k, left k = false) (hc : Canon D) (hP : P.Pairwise fun a b => a.1 < b.1) (hin : ∀ x ∈ l, (ptrAt P x.id).isSome = true) : D = ptrD (keptP l P) := by
  have key : ∀ kl, Maps.has D kl = Maps.has (ptrD (keptP l P)) kl := by
    intro kl
    rw [Bool.eq_iff_iff, h.has]
    constructor
    · rintro ⟨x, hx, _, rfl⟩
      rw [ptrD_has, ptrAt_kept, if_pos ((linked_iff l x.id).2 ⟨x, hx, rfl⟩)]
      exact hin x hx
    · intro hk
      obtain ⟨id, rfl, hs⟩ := has_ptrD hk
      rw [ptrAt_kept] at hs
      by_cases hlk : linked l id = true
      · obtain ⟨x, hx, rfl⟩ := (linked_iff l id).1 hlk
        exact ⟨x, hx, hl _, rfl⟩
      · rw [if_neg hlk] at hs
        cases hs
  refine ext hc (canon_ptrD (hP.filter _)) key fun kl z hk => ?_
  rw [h.at_ kl z hk]
  rw [key] at hk
  obtain ⟨id, rfl, hs⟩ := has_ptrD hk
  rw [ptrD_at, ptrD_at]
  rw [ptrAt_kept] at hs ⊢
  by_cases hlk : linked l id = true
  · rw [if_pos hlk]
  · rw [if_neg hlk] at hs
    cases hs
/-- What is kept of the inodes, with their places. -/
def keptN (l : List Lnk) (ns : List Nod) : List Nod := ns.filter fun x => linked l x.id
def keptG (l : List Lnk) : List Nod → List Nat → List Nat
  | x :: r, g :: s => if linked l x.id = true then g :: keptG l r s else keptG l r s
  | _, _ => []
theorem prs_kept (l : List Lnk) : ∀ (ns : List Nod) (gs : List Nat), gs.length = ns.length → keptP l (prs ns gs) = prs (keptN l ns) (keptG l ns gs) ∧ (keptG l ns gs).length = (keptN l ns).length
  | [], [], _ => ⟨rfl, rfl⟩
  | [], _ :: _, h => by cases h
  | _ :: _, [], h => by cases h
  | x :: r, g :: s, h => by
    have ih := prs_kept l r s (by simpa using h)
    have eg : keptG l (x :: r) (g :: s) = if linked l x.id = true then g :: keptG l r s else keptG l r s := by rw [keptG]
    rw [eg]
    unfold keptP prs keptN at *
    simp only [List.map_cons, List.zip_cons_cons]
    by_cases hx : linked l x.id = true
    · rw [List.filter_cons, if_pos hx, List.filter_cons, if_pos hx, if_pos hx, List.map_cons, List.zip_cons_cons, ih.1]
      exact ⟨rfl, by rw [List.length_cons, List.length_cons, ih.2]⟩
    · rw [List.filter_cons, if_neg hx, List.filter_cons, if_neg hx, if_neg hx]
      exact ih
theorem keptG_sub (l : List Lnk) : ∀ (ns : List Nod) (gs : List Nat), ∀ g ∈ keptG l ns gs, g ∈ gs
  | [], _, g, hg => by unfold keptG at hg; cases hg
  | _ :: _, [], g, hg => by unfold keptG at hg; cases hg
  | x :: r, h :: s, g, hg => by
    unfold keptG at hg
    by_cases hx : linked l x.id = true
    · rw [if_pos hx] at hg
      rcases List.mem_cons.1 hg with rfl | hg
      · exact List.mem_cons_self
      · exact List.mem_cons_of_mem _ (keptG_sub l r s g hg)
    · rw [if_neg hx] at hg
      exact List.mem_cons_of_mem _ (keptG_sub l r s g hg)
end Go.Proofs.YtnnfnhpehacelaaGreat

/-
  The contract of (impl.openDisk).settle, for whatever table of names that lead to inodes.
-/
namespace Go.Proofs.YtnnfnhpehacelaaGreat
open Go.ChangeShapes Go.WideShapes Go.ChangeAt Go.RowKit Go.PlainAid Go.Maps
set_option linter.unusedVariables false

theorem ptrAt_prs : ∀ (ns : List Nod) (gs : List Nat) (id : Int), gs.length = ns.length → (∃ x ∈ ns, x.id = id) → (ptrAt (prs ns gs) id).isSome = true
  | [], _, _, _, h => by obtain ⟨x, hx, _⟩ := h; cases hx
  | _ :: _, [], _, h, _ => by cases h
  | y :: r, g :: s, id, hl, h => by
    unfold ptrAt prs
    simp only [List.map_cons, List.zip_cons_cons, List.find?_cons]
    by_cases e : y.id = id
    · rw [decide_eq_true e]
      rfl
    · rw [decide_eq_false e]
      obtain ⟨x, hx, hid⟩ := h
      rcases List.mem_cons.1 hx with rfl | hx
      · exact absurd hid e
      · exact ptrAt_prs r s id (by simpa using hl) ⟨x, hx, hid⟩
theorem linked_nod {d : Dsk} {l : List Lnk} (h : Linked d l) {x : Lnk} (hx : x ∈ l) : ∃ y ∈ d.nods, y.id = x.id := by
  have h1 := h.ids x hx
  rcases e : nodAt d.nods x.id with _ | j
  · rw [e] at h1; cases h1
  · obtain ⟨hj, hid⟩ := nodAt_at e
    exact ⟨d.nods.getD j default, getD_mem d.nods j hj, hid⟩
theorem prs_rise {ns : List Nod} {gs : List Nat} (h : Rising ns) : (prs ns gs).Pairwise fun a b => a.1 < b.1 := by
  unfold prs
  have h1 : (ns.map (·.id)).Pairwise (· < ·) := by rw [List.pairwise_map]; exact h
  generalize ns.map (·.id) = is at h1
  clear h
  induction is generalizing gs with
  | nil => simp
  | cons a r ih =>
    cases gs with
    | nil => simp
    | cons g s =>
      rw [List.zip_cons_cons, List.pairwise_cons]
      rw [List.pairwise_cons] at h1
      exact ⟨fun q hq => h1.1 q.1 (List.of_mem_zip hq).1, ih h1.2⟩

theorem sorted_one {l : List Lnk} (h : Sorted l) : ∀ x ∈ l, ∀ y ∈ l, x.name = y.name → x = y := by
  intro x hx y hy e
  obtain ⟨i, hi, rfl⟩ := List.getElem_of_mem hx
  obtain ⟨j, hj, rfl⟩ := List.getElem_of_mem hy
  rcases Nat.lt_trichotomy i j with hij | hij | hij
  · have := (List.pairwise_iff_getElem.1 h) i j hi hj hij
    rw [e] at this
    exact absurd this (by rw [ahead_irrefl]; simp)
  · subst hij; rfl
  · have := (List.pairwise_iff_getElem.1 h) j i hj hi hij
    rw [e] at this
    exact absurd this (by rw [ahead_irrefl]; simp)

set_option maxRecDepth 20000 in
set_option maxHeartbeats 4000000 in
theorem settleV (w : World) (base p : Nat) (d : Dsk) (bi bd bw : Nat) (gs : List Nat) (u : Value) (bn : Nat) (l : List Lnk) (h : OpenD w base p d bi bd bw gs u) (hd : Whole d) (hr : Rising d.nods) (hl : Linked d l) (hn : NT w bn l) (hnp : p ≠ bn) (hll : l.length ≤ 1000) (hB : base ≤ w.heap.size) :
    Calls Tryz.prog 90 #[.pointer (some ⟨p, 0, none⟩), .map (some bn)] w fun e w' => (∃ r, e = .returned r) ∧ (∃ bl bc, Blk w' p #[.int .i64 d.room, .int .i64 d.next, .map (some bl), .map (some bn), .slice none 0 0, .map (some bc)] 108 ∧ IT w' bl (prs (keptN l d.nods) (keptG l d.nods gs)) ∧ Held w' d.nods gs ∧ NT w' bn l) ∧ Below base w w' := by
  have HO : Hid (OpenD w base p d bi bd bw gs u) := h
  have HD : Hid (Whole d) := hd
  have HR : Hid (Rising d.nods) := hr
  have HL : Hid (Linked d l) := hl
  have HN : Hid (NT w bn l) := hn
  have HNP : Hid (p ≠ bn) := hnp
  have HB : Hid (base ≤ w.heap.size) := hB
  have hnt := hn.tight
  have HLL : Hid (l.length ≤ 1000) := hll
  have hmm := fun t wx => run_makeMap (P := Tryz.prog) t wx
  have e1 : (w.alloc (.map #[] 0)).heap.size = w.heap.size + 1 := by simp
  clear h hd hr hl hn hnp hB
  go_enter Tryz.func90, Tryz.ntmps90
  go_wp2_with (first
    | (at_range; refine wpList_range_own _ rfl _ 106 rfl 9 3 (string_keyed Tryz.underlying9) Tryz.underlying106 _ bn l.length _ rfl (hnt.alloc _) ?_; intro w0 hrg0 hg0 hs0)
    | go_in)
  go_frame
  rw [e1] at hrg0 hs0 ⊢
  go_loopw [6] (fun _ wr => ∃ (left : Lit → Bool) (cnt k : Nat) (Dout : DataW Unit), wr.ranges Tryz.prog 9 intElem bn (w.heap.size + 1) l.length (linkD l) left cnt ∧ k + cnt ≤ l.length ∧
      wr.ownsMap Tryz.prog 3 ptrElem w.heap.size k Dout ∧ Gath l (prs d.nods gs) left Dout ∧ Below w.heap.size w wr)
    (fun _ wr => wr.rangeLeft bn (w.heap.size + 1))
  case atStart =>
    exact ⟨_, _, 0, .map [], hrg0, by rw [linkD_size]; omega, (World.ownsMap_made _ _ _ _).kept hg0 (by simp), gath_start l _, ((Below.refl _ _).alloc (Nat.le_refl _) _).grown hg0 (by simp) (fun j hj => by cases hj)⟩
  case round =>
    obtain ⟨left, cnt, k, Dout, hrg, hkc, hout, hA, hnx⟩ := hrel
    go_wp2_with (first
      | (at_next; refine wpList_next_ranges _ rfl _ rfl 9 (string_keyed Tryz.underlying9) intElem (fun (s : ByteArray) => Value.string s) (fun (c : Int) => Value.int .i64 c) ?_ ?_ bn (w.heap.size + 1) l.length _ _ _ rfl hrg ?_ ?_)
      | go_in)
    · intro key kl hk
      obtain ⟨s, rfl, _, _⟩ := Go.WideMaps.string_of_keyOf Tryz.underlying9 hk
      exact ⟨s, rfl⟩
    · intro v y hv
      unfold intElem at hv
      split at hv
      · exact ⟨_, rfl⟩
      · cases hv
    · -- nothing is left
      intro hc0 hl0
      have hD := gath_end hA hl0 (hout.canon (int_keyed Tryz.underlying3)) (prs_rise HR.out) (fun x hx => ptrAt_prs d.nods gs x.id HO.out.held.len (linked_nod HL.out hx))
      rw [(prs_kept l d.nods gs HO.out.held.len).1] at hD
      subst hD
      have IR : Hid (IT wr w.heap.size (prs (keptN l d.nods) (keptG l d.nods gs))) := ⟨_, hout⟩
      have NR : Hid (NT wr bn l) := ⟨_, hrg.owns⟩
      have BR : Hid (Below w.heap.size w wr) := hnx
      have KR : Hid (Blk wr p #[.int .i64 d.room, .int .i64 d.next, .map (some bi), .map (some bd), u, .map (some bw)] 108) := HO.out.blk.on hnx HO.out.blk.lt
      have HHR : Hid (Held wr d.nods gs) := HO.out.held.on hnx HO.out.held.lt
      have hru := hrg.lt
      have cC := cloneNV wr bn l NR.out
      clear hout hrg hA hnx hc0 hl0 hkc hru
      go_wp2_with fail
      refine cC.mono ?_
      rintro e w4 ⟨rfl, hN4, hb4⟩
      have B4 : Hid (Below w.heap.size w w4) := BR.out.trans (hb4.mono BR.out.size)
      have K4 : Hid (Blk w4 p #[.int .i64 d.room, .int .i64 d.next, .map (some bi), .map (some bd), u, .map (some bw)] 108) := KR.out.on hb4 KR.out.lt
      have I4 : Hid (IT w4 w.heap.size (prs (keptN l d.nods) (keptG l d.nods gs))) := IR.out.on hb4 IR.out.lt
      have H4 : Hid (Held w4 d.nods gs) := HHR.out.on hb4 HHR.out.lt
      have N4 : Hid (NT w4 bn l) := NR.out.on hb4 NR.out.lt
      have PL : Hid (p < w.heap.size) := HO.out.blk.lt
      clear hN4 hb4 cC
      have y2 := K4.out.cell 2 _ rfl
      have z2 := K4.out.free 2
      have y3 := K4.out.cell 3 _ rfl
      have z3 := K4.out.free 3
      have y4 := K4.out.cell 4 _ rfl
      have z4 := K4.out.free 4
      have y5 := K4.out.cell 5 _ rfl
      have z5 := K4.out.free 5
      go_wp2_with fail
      have hkeep : ∀ g, g ≠ p → ((((w4.setCell ⟨p, 2, none⟩ (.map (some w.heap.size))).setCell ⟨p, 3, none⟩ (.map (some bn))).setCell ⟨p, 4, none⟩ (.slice none 0 0)).setCell ⟨p, 5, none⟩ (.map (some wr.heap.size))).heap[g]? = w4.heap[g]? := fun g hg => by
        rw [Below.heap_setCell _ ⟨p, 5, none⟩ _ _ hg, Below.heap_setCell _ ⟨p, 4, none⟩ _ _ hg, Below.heap_setCell _ ⟨p, 3, none⟩ _ _ hg, Below.heap_setCell _ ⟨p, 2, none⟩ _ _ hg]
      have hBB : Below base w ((((w4.setCell ⟨p, 2, none⟩ (.map (some w.heap.size))).setCell ⟨p, 3, none⟩ (.map (some bn))).setCell ⟨p, 4, none⟩ (.slice none 0 0)).setCell ⟨p, 5, none⟩ (.map (some wr.heap.size))) := ((((B4.out.mono HB.out).setCell (p := ⟨p, 2, none⟩) HO.out.lo.1 _).setCell (p := ⟨p, 3, none⟩) HO.out.lo.1 _).setCell (p := ⟨p, 4, none⟩) HO.out.lo.1 _).setCell (p := ⟨p, 5, none⟩) HO.out.lo.1 _
      have hKK := ((((K4.out.set 2 (.map (some w.heap.size))).set 3 (.map (some bn))).set 4 (.slice none 0 0)).set 5 (.map (some wr.heap.size)))
      exact bodyPost_end (v := .tuple #[]) (by simp [results, go_sem]) rfl ⟨⟨_, rfl⟩, ⟨w.heap.size, wr.heap.size, hKK, I4.out.kept (hkeep _ (by have := PL.out; omega)), H4.out.kept fun g hg => hkeep g (HO.out.gl g hg).2.1, N4.out.kept (hkeep bn HNP.out.symm)⟩, hBB⟩
    · -- a name has come
      intro s c kl y ps w1 cnt1 hkey hlk hv hat hrg1 hlt hg1 hs1 hen
      obtain ⟨s', es, rfl, hsz⟩ := Go.WideMaps.string_of_keyOf Tryz.underlying9 hkey
      injection es with es
      subst es
      have hy : y = .lit (.int .i64 c) := by
        unfold intElem at hv
        simp at hv
        exact hv.1.symm
      subst hy
      obtain ⟨x, hx, hxn, hxi⟩ := link_of (l := l) (s := s) (c := c) hat
      obtain ⟨nd, hnd, hndi⟩ := linked_nod HL.out hx
      have hids := nod_ids HD.out nd hnd
      have hPs := ptrAt_prs d.nods gs c HO.out.held.len ⟨nd, hnd, by omega⟩
      obtain ⟨g, hg⟩ := Option.isSome_iff_exists.1 hPs
      have hB1 : Below w.heap.size w w1 := hnx.grown hg1 hnx.size (fun j hj => by cases hj; exact Nat.le_succ _)
      have hval := ((HO.out.it.on hB1 HO.out.it.lt).val c ⟨by omega, by omega⟩).2 g hg
      have hout1 := hout.kept hg1 (by simp)
      obtain ⟨w2, r2, hout2, ht2⟩ := hout1.store (int_keyed Tryz.underlying3) Tryz.underlying104 (by unfold maxLen; have := HLL.out; omega) (intK_of (a := c) ⟨by omega, by omega⟩) (ptrElem_mk g)
      have hrg2 := hrg1.kept ht2.grown (fun e => by have := Option.some.inj e; have := HN.out.lt; omega) (fun e => by have := Option.some.inj e; omega)
      have hB2 : Below w.heap.size w w2 := hB1.grown ht2.grown hB1.size (fun j hj => by cases hj; exact Nat.le_refl _)
      have hGG := gath_step hA hout.isMap (fun a ha b hb => sorted_one HL.out.sorted a ha b hb) hat hg
      have k2 := (HO.out.blk.on hB1 HO.out.blk.lt).cell 2 _ rfl
      have REL : Hid (∃ (left : Lit → Bool) (cnt k : Nat) (Dout : DataW Unit), w2.ranges Tryz.prog 9 intElem bn (w.heap.size + 1) l.length (linkD l) left cnt ∧ k + cnt ≤ l.length ∧ w2.ownsMap Tryz.prog 3 ptrElem w.heap.size k Dout ∧ Gath l (prs d.nods gs) left Dout ∧ Below w.heap.size w w2) := ⟨_, cnt1, k + 1, _, hrg2, by omega, hout2, hGG, hB2⟩
      have MEA : Hid (w2.rangeLeft bn (w.heap.size + 1) < wr.rangeLeft bn (w.heap.size + 1)) := by unfold Hid; rw [hrg2.left_eq, hrg.left_eq]; exact hlt
      clear hrg hout hA hnx hrg1 hg1 hs1 hout1 hout2 ht2 hrg2 hGG hat hv hkey hlk hPs hg hB1 hB2
      go_wp2_with fail
      go_roundw
      case rel => exact REL.out
      case measure => exact MEA.out
end Go.Proofs.YtnnfnhpehacelaaGreat

/-
  The contracts of (impl.openDisk).syncNames and impl.SyncDir.
-/
namespace Go.Proofs.YtnnfnhpehacelaaGreat
open Go.ChangeShapes Go.WideShapes Go.ChangeAt Go.RowKit Go.PlainAid
set_option linter.unusedVariables false

/-- A disk behind a SyncDir. -/
def syncDirD (d : Dsk) : Dsk := ⟨d.room, d.next, keptN (now d) d.nods, now d, []⟩
theorem held_tail {w : World} {x : Nod} {r : List Nod} {g : Nat} {s : List Nat} (h : Held w (x :: r) (g :: s)) : Blk w g #[.int .i64 x.id, .string x.data, .int .i64 x.sure] 76 ∧ Held w r s :=
  ⟨h.blk 0 (by simp), ⟨by have := h.len; simpa using this, fun j hj => h.blk (j + 1) (by simpa using hj)⟩⟩
theorem held_cons {w : World} {x : Nod} {r : List Nod} {g : Nat} {s : List Nat} (hg : Blk w g #[.int .i64 x.id, .string x.data, .int .i64 x.sure] 76) (h : Held w r s) : Held w (x :: r) (g :: s) :=
  ⟨by simp [h.len], fun j hj => by
    cases j with
    | zero => exact hg
    | succ j => exact h.blk j (by simpa using hj)⟩
theorem held_kept {w : World} (l : List Lnk) : ∀ (ns : List Nod) (gs : List Nat), Held w ns gs → Held w (keptN l ns) (keptG l ns gs)
  | [], [], h => h
  | [], _ :: _, h => by have := h.len; cases this
  | _ :: _, [], h => by have := h.len; cases this
  | x :: r, g :: s, h => by
    obtain ⟨h1, h2⟩ := held_tail h
    have ih := held_kept l r s h2
    have eg : keptG l (x :: r) (g :: s) = if linked l x.id = true then g :: keptG l r s else keptG l r s := by rw [keptG]
    have en : keptN l (x :: r) = if linked l x.id = true then x :: keptN l r else keptN l r := by unfold keptN; rw [List.filter_cons]
    rw [eg, en]
    split
    · exact held_cons h1 ih
    · exact ih

set_option maxHeartbeats 1000000 in
theorem syncNamesV (w : World) (base p : Nat) (d : Dsk) (bi bd bw : Nat) (gs : List Nat) (u : Value) (h : OpenD w base p d bi bd bw gs u) (hd : Whole d) (hw : wtD d ≤ 1048576) (hB : base ≤ w.heap.size) :
    Calls Tryz.prog 69 #[.pointer (some ⟨p, 0, none⟩)] w fun e w' => e = .returned (.int .i64 0) ∧ Tellable w' p (syncDirD d) ∧ Below base w w' := by
  have HT : Hid (Tellable w p d) := h.tell hd hw
  have hR := (sizeOk_iff d).1 hd.size
  have HLN : Hid ((now d).length ≤ 1000) := by
    have h1 := names_len d.dir d.movs
    have := hR.l
    have := hR.m
    unfold Hid now
    omega
  have HLK : Hid (Linked d (now d)) := now_linked hd
  have cS := settleV w base p d bi bd bw gs u bw (now d) h hd HT.out.rise HLK.out h.nw h.pw HLN.out hB
  have x5 := h.blk.cell 5 _ rfl
  clear h hd hw hB hR
  go_enter Tryz.func69, Tryz.ntmps69
  go_wp2_with fail
  refine cS.mono ?_
  rintro e w1 ⟨⟨r, rfl⟩, ⟨bl, bc, hK, hI, hH, hN⟩, hb⟩
  have HB : Hid (Below base w w1) := hb
  have HTT : Hid (Tellable w1 p (syncDirD d)) := by
    refine ⟨⟨bl, bw, keptG (now d) d.nods gs, .slice none 0 0, .map (some bc), hK, hI, held_kept (now d) d.nods gs hH, hN, ⟨none, 0, rfl, ⟨fun _ => rfl, Nat.le_refl _⟩, fun r hr => (by cases hr), .inl rfl⟩⟩, ?_, HLK.out.sorted, HLK.out.ok, ?_, HLN.out, ?_, ?_, ?_⟩
    · exact HT.out.rise.filter _
    · show (keptN (now d) d.nods).length ≤ 1000
      have h1 : (keptN (now d) d.nods).length ≤ d.nods.length := List.length_filter_le _ _
      have := HT.out.n1
      omega
    · show (0 : Nat) ≤ 1000
      omega
    · intro x hx
      exact HT.out.nx x (List.mem_filter.1 hx).1
    · intro x hx
      cases hx
  clear cS hb hK hI hH hN x5
  go_wp2_with fail
  go_ret
  exact ⟨rfl, HTT.out, HB.out⟩


/-- What SyncDir answers. -/
def syncDirR (d : Dsk)  : Dsk × Int := if diskOk d = true then (syncDirD d, 0) else (zeroD, 1)
theorem syncDirR_yes {d : Dsk} (h : diskOk d = true) : syncDirR d  = (syncDirD d, 0) := by unfold syncDirR; rw [if_pos h]
theorem syncDirR_no {d : Dsk} (h : diskOk d = false) : syncDirR d  = (zeroD, 1) := by unfold syncDirR; rw [if_neg (by rw [h]; simp)]

end Go.Proofs.YtnnfnhpehacelaaGreat

/-
  The contract of spec.l4Settled.
-/
namespace Go.Proofs.YtnnfnhpehacelaaGreat
open Go.ChangeShapes Go.WideShapes Go.ChangeAt Go.RowKit Go.PlainAid
set_option linter.unusedVariables false

theorem keptN_snoc (l : List Lnk) (ns : List Nod) (k : Nat) (hk : k < ns.length) : keptN l (ns.take (k + 1)) = if linked l (ns.getD k default).id = true then keptN l (ns.take k) ++ [ns.getD k default] else keptN l (ns.take k) := by
  unfold keptN
  rw [take_getD ns k hk, List.filter_append, List.filter_cons, List.filter_nil]
  split
  · rfl
  · rw [List.append_nil]

set_option maxRecDepth 20000 in
set_option maxHeartbeats 4000000 in
theorem settledV (room next : Int) (v1 v2 v3 lv iv : Value) (l : List Lnk) (ns : List Nod) (w : World) (B : Nat) (hlv : Lies w B 2 lv (lnkR l)) (hiv : Lies w B 3 iv (nodR ns)) (hl : l.length ≤ 1048576) (hns : ns.length ≤ 1000) (hB : B ≤ w.heap.size) :
    Calls Tryz.prog 51 #[.agg #[.int .i64 room, .int .i64 next, v1, v2, v3], lv, iv] w fun e w' => ∃ u, e = .returned (.agg #[.int .i64 room, .int .i64 next, u, lv, .slice none 0 0]) ∧ Owns w' w.heap.size 76 3 u (nodR (keptN l ns)) ∧ Below w.heap.size w w' := by
  have HLV : Hid (Lies w B 2 lv (lnkR l)) := hlv
  have HB : Hid (B ≤ w.heap.size) := hB
  have HL : Hid (l.length ≤ 1048576) := hl
  obtain ⟨iA, ic, rfl, hlk⟩ := nod_look hiv
  obtain ⟨lA, lc, rfl, _⟩ := lnk_look hlv
  have HI : Hid (∀ j, j < ns.length → ∃ g off, iA = some ⟨g, off, none⟩ ∧ g < B ∧ _) := hlk
  have q1 : (ns.length : Int) ≤ 1000 := by omega
  have HNS : Hid (ns.length ≤ 1000) := hns
  clear hlk hlv hiv hl hns hB
  generalize hN : ns.length = n at *
  have HN : Hid (ns.length = n) := hN
  clear hN
  go_enter Tryz.func51, Tryz.ntmps51
  go_wp2_with fail
  have b0 : Below w.heap.size w (((w.alloc (.cells #[.int .i64 room, .int .i64 next, v1, v2, v3] 35)).alloc (.cells #[.int .i64 0, .int .i64 0, .slice none 0 0, .slice none 0 0, .slice none 0 0] 35)).alloc (.cells #[.int .i64 room, .int .i64 next, .slice none 0 0, .slice lA l.length lc, .slice none 0 0] 35)) := (((Below.refl _ w).alloc (Nat.le_refl _) _).alloc (by simp) _).alloc (by simp; omega) _
  have kO := Blk.new ((w.alloc (.cells #[.int .i64 room, .int .i64 next, v1, v2, v3] 35)).alloc (.cells #[.int .i64 0, .int .i64 0, .slice none 0 0, .slice none 0 0, .slice none 0 0] 35)) #[.int .i64 room, .int .i64 next, .slice none 0 0, .slice lA l.length lc, .slice none 0 0] 35
  have kR := (Blk.new (w.alloc (.cells #[.int .i64 room, .int .i64 next, v1, v2, v3] 35)) #[.int .i64 0, .int .i64 0, .slice none 0 0, .slice none 0 0, .slice none 0 0] 35).alloc (.cells #[.int .i64 room, .int .i64 next, .slice none 0 0, .slice lA l.length lc, .slice none 0 0] 35)
  simp only [World.size_alloc] at kO kR
  have ST : Hid (Blk (((w.alloc (.cells #[.int .i64 room, .int .i64 next, v1, v2, v3] 35)).alloc (.cells #[.int .i64 0, .int .i64 0, .slice none 0 0, .slice none 0 0, .slice none 0 0] 35)).alloc (.cells #[.int .i64 room, .int .i64 next, .slice none 0 0, .slice lA l.length lc, .slice none 0 0] 35)) (w.heap.size + 1 + 1) #[.int .i64 room, .int .i64 next, .slice none 0 0, .slice lA l.length lc, .slice none 0 0] 35 ∧ Blk (((w.alloc (.cells #[.int .i64 room, .int .i64 next, v1, v2, v3] 35)).alloc (.cells #[.int .i64 0, .int .i64 0, .slice none 0 0, .slice none 0 0, .slice none 0 0] 35)).alloc (.cells #[.int .i64 room, .int .i64 next, .slice none 0 0, .slice lA l.length lc, .slice none 0 0] 35)) (w.heap.size + 1) #[.int .i64 0, .int .i64 0, .slice none 0 0, .slice none 0 0, .slice none 0 0] 35 ∧ Below w.heap.size w (((w.alloc (.cells #[.int .i64 room, .int .i64 next, v1, v2, v3] 35)).alloc (.cells #[.int .i64 0, .int .i64 0, .slice none 0 0, .slice none 0 0, .slice none 0 0] 35)).alloc (.cells #[.int .i64 room, .int .i64 next, .slice none 0 0, .slice lA l.length lc, .slice none 0 0] 35))) := ⟨kO, kR, b0⟩
  clear b0 kO kR
  generalize ((w.alloc (.cells #[.int .i64 room, .int .i64 next, v1, v2, v3] 35)).alloc (.cells #[.int .i64 0, .int .i64 0, .slice none 0 0, .slice none 0 0, .slice none 0 0] 35)).alloc (.cells #[.int .i64 room, .int .i64 next, .slice none 0 0, .slice lA l.length lc, .slice none 0 0] 35) = W at *
  go_loopw [8] (fun v8 wr => ∃ (k : Nat) (s : Value), k ≤ n ∧ v8 = .int .i64 (k : Int) ∧ Blk wr (w.heap.size + 1 + 1) #[.int .i64 room, .int .i64 next, s, .slice lA l.length lc, .slice none 0 0] 35 ∧ Blk wr (w.heap.size + 1) #[.int .i64 0, .int .i64 0, .slice none 0 0, .slice none 0 0, .slice none 0 0] 35 ∧ Owns wr (w.heap.size + 1 + 1 + 1) 76 3 s (nodR (keptN l (ns.take k))) ∧ Below w.heap.size w wr) (fun i _ => n - (intOf i).toNat)
  case atStart => exact ⟨0, _, by omega, rfl, ST.out.1, ST.out.2.1, Owns.nil _ _ _ _, ST.out.2.2⟩
  case round =>
    obtain ⟨k, s, hk, rfl, hO, hRk, hOw, hb⟩ := hrel
    have BR : Hid (Below w.heap.size w wr) := hb
    have KO : Hid (Blk wr (w.heap.size + 1 + 1) #[.int .i64 room, .int .i64 next, s, .slice lA l.length lc, .slice none 0 0] 35) := hO
    have KR : Hid (Blk wr (w.heap.size + 1) #[.int .i64 0, .int .i64 0, .slice none 0 0, .slice none 0 0, .slice none 0 0] 35) := hRk
    have OW : Hid (Owns wr (w.heap.size + 1 + 1 + 1) 76 3 s (nodR (keptN l (ns.take k)))) := hOw
    obtain ⟨sA, sm, sc, rfl⟩ := hOw.shape
    clear hO hRk hOw hb
    by_cases hlt : k < n
    · have q2 : (k : Int) < (n : Int) := by omega
      have q3 : (3 * (k : Int)) ≤ 3000 := by omega
      obtain ⟨gi, off, rfl, hgB, hc0, hc1, hc2⟩ := HI.out k hlt
      have hgw : gi < w.heap.size := Nat.lt_of_lt_of_le hgB HB.out
      rw [← BR.out.cell (p := ⟨_, _, none⟩) hgw] at hc0 hc1 hc2
      have cL := fun id => linkedV l (.slice lA l.length lc) id wr w.heap.size ((HLV.out.on (BR.out.mono HB.out)).mono HB.out) HL.out
      have HKS := keptN_snoc l ns k (by rw [HN.out]; exact hlt)
      generalize hxx : ns.getD k default = xx at *
      obtain ⟨xi, xd, xs⟩ := xx
      simp only at hc0 hc1 hc2 HKS
      have HLE : Hid ((nodR (keptN l (ns.take k))).length ≤ 2097152) := by
        unfold Hid
        rw [nodR_length]
        have h1 : (keptN l (ns.take k)).length ≤ (ns.take k).length := List.length_filter_le _ _
        rw [List.length_take] at h1
        have := HNS.out
        omega
      cases hlk : linked l xi with
      | false =>
        have cL := cL xi
        rw [hlk] at cL HKS
        have HKS2 : Hid (keptN l (ns.take (k + 1)) = keptN l (ns.take k)) := by unfold Hid; rw [HKS]; simp
        clear HKS hlk
        go_wp2_with fail
        refine cL.mono ?_
        rintro e w1 ⟨rfl, rfl⟩
        go_wp2_with fail
        go_roundw
        case rel => exact ⟨k + 1, _, by omega, by go_num, KO.out, KR.out, by rw [HKS2.out]; exact OW.out, BR.out⟩
        case measure => simp [intOf]; omega
      | true =>
        have cL := cL xi
        rw [hlk] at cL HKS
        have e2 : nodR (keptN l (ns.take (k + 1))) = nodR (keptN l (ns.take k)) ++ [[.int .i64 xi, .string xd, .int .i64 xs]] := by rw [HKS, if_pos rfl]; unfold nodR; rw [List.map_append]; rfl
        have HE2 : Hid (nodR (keptN l (ns.take (k + 1))) = nodR (keptN l (ns.take k)) ++ [[.int .i64 xi, .string xd, .int .i64 xs]]) := e2
        clear HKS hlk e2
        have hz1 : w.heap.size + 1 + 1 + 1 ≤ wr.heap.size := KO.out.lt
        obtain ⟨nA, nm, nc, w5, r5, hO5, hb5, hk5, _⟩ := run_append_row (P := Tryz.prog) wr.drew 31 31 76 (.agg #[.int .i64 0, .string ⟨#[]⟩, .int .i64 0]) 3 32 Tryz.underlying31 Tryz.infoNod rfl (by omega) (w.heap.size + 1 + 1 + 1) (.slice sA sm sc) (nodR (keptN l (ns.take k))) (OW.out.kept fun _ _ _ => rfl) [.int .i64 xi, .string xd, .int .i64 xs] rfl (by intro y hy; simp at hy; rcases hy with rfl | rfl | rfl <;> rfl) HLE.out (by omega) hz1
        have B5 : Hid (Below (w.heap.size + 1 + 1 + 1) wr w5) := (Below.refl _ wr).drew.trans hb5
        have K5 : Hid (Blk w5 (w.heap.size + 1 + 1) #[.int .i64 room, .int .i64 next, .slice sA sm sc, .slice lA l.length lc, .slice none 0 0] 35) := KO.out.on B5.out (by omega)
        have R5 : Hid (Blk w5 (w.heap.size + 1) #[.int .i64 0, .int .i64 0, .slice none 0 0, .slice none 0 0, .slice none 0 0] 35) := KR.out.on B5.out (by omega)
        have O5 : Hid (Owns w5 (w.heap.size + 1 + 1 + 1) 76 3 (.slice nA nm nc) (nodR (keptN l (ns.take (k + 1))))) := by unfold Hid; rw [HE2.out]; exact hO5
        have hcO := KO.out.cell 2 _ rfl
        have S0 : Hid (wr.drew.cell? ⟨w.heap.size + 1 + 1, 2, none⟩ = some (.slice sA sm sc) ∧ wr.drew.cell? ⟨gi, off + k * 3, none⟩ = some (.int .i64 xi) ∧ wr.drew.cell? ⟨gi, off + k * 3 + 1, none⟩ = some (.string xd) ∧ wr.drew.cell? ⟨gi, off + k * 3 + 2, none⟩ = some (.int .i64 xs)) := ⟨hcO, hc0, hc1, hc2⟩
        have S1 : Hid ((wr.drew.alloc (.cells #[.int .i64 xi, .string xd, .int .i64 xs] 76)).cell? ⟨w.heap.size + 1 + 1, 2, none⟩ = some (.slice sA sm sc) ∧ (wr.drew.alloc (.cells #[.int .i64 xi, .string xd, .int .i64 xs] 76)).cell? ⟨gi, off + k * 3, none⟩ = some (.int .i64 xi) ∧ (wr.drew.alloc (.cells #[.int .i64 xi, .string xd, .int .i64 xs] 76)).cell? ⟨gi, off + k * 3 + 1, none⟩ = some (.string xd) ∧ (wr.drew.alloc (.cells #[.int .i64 xi, .string xd, .int .i64 xs] 76)).cell? ⟨gi, off + k * 3 + 2, none⟩ = some (.int .i64 xs)) := by
          have hBA : Below wr.heap.size wr (wr.drew.alloc (.cells #[.int .i64 xi, .string xd, .int .i64 xs] 76)) := ((Below.refl _ wr).drew).alloc (Nat.le_refl _) _
          have hgr : gi < wr.heap.size := Nat.lt_of_lt_of_le hgw BR.out.size
          exact ⟨(hBA.cell (p := ⟨_, _, none⟩) KO.out.lt).trans hcO, (hBA.cell (p := ⟨_, _, none⟩) hgr).trans hc0, (hBA.cell (p := ⟨_, _, none⟩) hgr).trans hc1, (hBA.cell (p := ⟨_, _, none⟩) hgr).trans hc2⟩
        have y2 := K5.out.cell 2 _ rfl
        have z2 := K5.out.free 2
        have FK : Hid (Blk (w5.setCell ⟨w.heap.size + 1 + 1, 2, none⟩ (.slice nA nm nc)) (w.heap.size + 1 + 1) #[.int .i64 room, .int .i64 next, .slice nA nm nc, .slice lA l.length lc, .slice none 0 0] 35) := K5.out.set 2 _
        have FR : Hid (Blk (w5.setCell ⟨w.heap.size + 1 + 1, 2, none⟩ (.slice nA nm nc)) (w.heap.size + 1) #[.int .i64 0, .int .i64 0, .slice none 0 0, .slice none 0 0, .slice none 0 0] 35) := R5.out.other (by omega) _ _
        have FO : Hid (Owns (w5.setCell ⟨w.heap.size + 1 + 1, 2, none⟩ (.slice nA nm nc)) (w.heap.size + 1 + 1 + 1) 76 3 (.slice nA nm nc) (nodR (keptN l (ns.take (k + 1))))) := O5.out.other (O5.out.below (by omega)) _ _
        have FB : Hid (Below w.heap.size w (w5.setCell ⟨w.heap.size + 1 + 1, 2, none⟩ (.slice nA nm nc))) := (BR.out.trans (B5.out.mono (by omega))).setCell (p := ⟨w.heap.size + 1 + 1, 2, none⟩) (by show w.heap.size ≤ w.heap.size + 1 + 1; omega) _
        clear hO5 hb5 hk5 hcO
        go_wp2_with fail
        refine cL.mono ?_
        rintro e w1 ⟨rfl, rfl⟩
        go_wp2_with fail
        refine wp_region_until (fun w' => w'.cell? ⟨w.heap.size + 1 + 1, 2, none⟩ = some (.slice sA sm sc) ∧ w'.cell? ⟨gi, off + k * 3, none⟩ = some (.int .i64 xi) ∧ w'.cell? ⟨gi, off + k * 3 + 1, none⟩ = some (.string xd) ∧ w'.cell? ⟨gi, off + k * 3 + 2, none⟩ = some (.int .i64 xs)) (fun i => i == 7 || i == 9) 10 (by rfl) (by kernel_rfl) ?_
        refine until_take 0 (v := ?va0) (by rfl) (by kernel_rfl) (by exact fun _ _ _ h => h) (by rfl) ?hya0 S0.out ?ra0
        case hya0 =>
          intro w hSw
          try dsimp only at hSw
          go_simp
          try with_reducible rfl
        try simp only [Act.put, List.setIfInBounds_toArray, List.set_cons_zero, List.set_cons_succ]
        refine until_take 1 (v := ?va1) (by rfl) (by kernel_rfl) (by exact fun _ _ _ h => h) (by rfl) ?hya1 S0.out ?ra1
        case hya1 =>
          intro w hSw
          try dsimp only at hSw
          go_simp
          try with_reducible rfl
        try simp only [Act.put, List.setIfInBounds_toArray, List.set_cons_zero, List.set_cons_succ]
        refine until_take 2 (v := ?va2) (by rfl) (by kernel_rfl) (by exact fun _ _ _ h => h) (by rfl) ?hya2 S0.out ?ra2
        case hya2 =>
          intro w hSw
          try dsimp only at hSw
          go_simp
          try with_reducible rfl
        try simp only [Act.put, List.setIfInBounds_toArray, List.set_cons_zero, List.set_cons_succ]
        refine until_take 3 (v := ?va3) (by rfl) (by kernel_rfl) (by exact fun _ _ _ h => h) (by rfl) ?hya3 S0.out ?ra3
        case hya3 =>
          intro w hSw
          try dsimp only at hSw
          go_simp
          try with_reducible rfl
        try simp only [Act.put, List.setIfInBounds_toArray, List.set_cons_zero, List.set_cons_succ]
        refine until_take 4 (v := ?va4) (by rfl) (by kernel_rfl) (by exact fun _ _ _ h => h) (by rfl) ?hya4 S0.out ?ra4
        case hya4 =>
          intro w hSw
          try dsimp only at hSw
          go_simp
          try with_reducible rfl
        try simp only [Act.put, List.setIfInBounds_toArray, List.set_cons_zero, List.set_cons_succ]
        refine until_take 5 (v := ?va5) (by rfl) (by kernel_rfl) (by exact fun _ _ _ h => h) (by rfl) ?hya5 S0.out ?ra5
        case hya5 =>
          intro w hSw
          try dsimp only at hSw
          go_simp
          try with_reducible rfl
        try simp only [Act.put, List.setIfInBounds_toArray, List.set_cons_zero, List.set_cons_succ]
        refine until_one 6 (by rfl) (by kernel_rfl) (fun K hK => ?_)
        go_simp
        refine hK.out _ _ (fun _ _ => S1.out) ?_
        clear hK K
        try simp only [Act.put, List.setIfInBounds_toArray, List.set_cons_zero, List.set_cons_succ]
        refine until_one 7 (by rfl) (by kernel_rfl) (fun K hK => ?_)
        refine step_append_run (by rfl) (.tmp 29) (.tmp 34) 31 (by rfl) _ _ _ _ (by rfl) (by rfl) r5 ?_
        refine hK.out _ _ (fun h => by cases h) ?_
        clear hK K
        try simp only [Act.put, List.setIfInBounds_toArray, List.set_cons_zero, List.set_cons_succ]
        refine until_pure 8 (v := ?vb8) (by rfl) (by kernel_rfl) (by exact fun _ _ _ h => h) (by rfl) ?hyb8 ?rb8
        case hyb8 =>
          intro w
          go_simp
          try with_reducible rfl
        try simp only [Act.put, List.setIfInBounds_toArray, List.set_cons_zero, List.set_cons_succ]
        refine until_one 9 (by rfl) (by kernel_rfl) (fun K hK => ?_)
        go_simp
        refine hK.out _ _ (fun h => by cases h) ?_
        clear hK K
        refine until_done (by kernel_rfl) ?_ _
        go_wp2_with fail
        go_roundw
        case rel => exact ⟨k + 1, _, by omega, by go_num, FK.out, FR.out, FO.out, FB.out⟩
        case measure => simp [intOf]; omega
    · obtain rfl : k = n := by omega
      have HFI : Hid (keptN l (ns.take k) = keptN l ns) := by unfold Hid; rw [← HN.out, List.take_length]
      have r0 := KO.out.cell 0 _ rfl
      have r1 := KO.out.cell 1 _ rfl
      have r2 := KO.out.cell 2 _ rfl
      have r3 := KO.out.cell 3 _ rfl
      have r4 := KO.out.cell 4 _ rfl
      have hg : w.heap.size ≤ w.heap.size + 1 := by omega
      have g0 := KR.out.cell 0 _ rfl
      have f0 := KR.out.free 0
      have g1 := KR.out.cell 1 _ rfl
      have f1 := KR.out.free 1
      have g2 := KR.out.cell 2 _ rfl
      have f2 := KR.out.free 2
      have g3 := KR.out.cell 3 _ rfl
      have f3 := KR.out.free 3
      have g4 := KR.out.cell 4 _ rfl
      have f4 := KR.out.free 4
      go_wp2_with fail
      have hB := BR.out
      clear r0 r1 r2 r3 r4
      have FB := (((((hB.setCell hg (.int .i64 room) (p := ⟨_, 0, none⟩)).setCell hg (.int .i64 next) (p := ⟨_, 1, none⟩)).setCell hg (.slice sA sm sc) (p := ⟨_, 2, none⟩)).setCell hg (.slice lA l.length lc) (p := ⟨_, 3, none⟩)).setCell hg (.slice none 0 0) (p := ⟨_, 4, none⟩))
      have hF := (((((KR.out.set 0 (.int .i64 room)).set 1 (.int .i64 next)).set 2 (.slice sA sm sc)).set 3 (.slice lA l.length lc)).set 4 (.slice none 0 0))
      have mm0 := OW.out.notBlk KR.out (by decide)
      have F0 := (((((OW.out.other mm0 0 (.int .i64 room)).other mm0 1 (.int .i64 next)).other mm0 2 (.slice sA sm sc)).other mm0 3 (.slice lA l.length lc)).other mm0 4 (.slice none 0 0))
      clear g0 f0 g1 f1 g2 f2 g3 f3 g4 f4
      generalize (((((wr.setCell ⟨w.heap.size + 1, 0, none⟩ (.int .i64 room)).setCell ⟨w.heap.size + 1, 1, none⟩ (.int .i64 next)).setCell ⟨w.heap.size + 1, 2, none⟩ (.slice sA sm sc)).setCell ⟨w.heap.size + 1, 3, none⟩ (.slice lA l.length lc)).setCell ⟨w.heap.size + 1, 4, none⟩ (.slice none 0 0)) = WF at *
      have hG : Blk WF (w.heap.size + 1) #[.int .i64 room, .int .i64 next, .slice sA sm sc, .slice lA l.length lc, .slice none 0 0] 35 := hF
      have l0 := hG.cell 0 (.int .i64 room) rfl
      have l1 := hG.cell 1 (.int .i64 next) rfl
      have l2 := hG.cell 2 (.slice sA sm sc) rfl
      have l3 := hG.cell 3 (.slice lA l.length lc) rfl
      have l4 := hG.cell 4 (.slice none 0 0) rfl
      exact bodyPost_ret (v := .agg #[.int .i64 room, .int .i64 next, .slice sA sm sc, .slice lA l.length lc, .slice none 0 0]) (by simp [results, go_sem, l0, l1, l2, l3, l4]) rfl ⟨_, rfl, by rw [← HFI.out]; exact F0.mono (by omega), FB⟩
end Go.Proofs.YtnnfnhpehacelaaGreat

/-
  The contract of spec.SyncDir.
-/
namespace Go.Proofs.YtnnfnhpehacelaaGreat
open Go.ChangeShapes Go.WideShapes Go.ChangeAt Go.RowKit Go.PlainAid
set_option linter.unusedVariables false

theorem syncDirR_len (d : Dsk) (hf : Fits d) : (syncDirR d).1.nods.length ≤ 1000 ∧ (syncDirR d).1.dir.length ≤ 1000 ∧ (syncDirR d).1.movs.length ≤ 1000 := by
  cases h : diskOk d with
  | false =>
    rw [syncDirR_no h]
    exact ⟨by show 0 ≤ 1000; omega, by show 0 ≤ 1000; omega, by show 0 ≤ 1000; omega⟩
  | true =>
    rw [syncDirR_yes h]
    have hR := (sizeOk_iff d).1 ((whole_iff d).1 h).size
    have h1 : (keptN (now d) d.nods).length ≤ d.nods.length := List.length_filter_le _ _
    have h2 := names_len d.dir d.movs
    have := hR.l
    have := hR.m
    have := hR.n
    refine ⟨?_, ?_, ?_⟩
    · show (keptN (now d) d.nods).length ≤ 1000
      omega
    · show (now d).length ≤ 1000
      unfold now
      omega
    · show (0 : Nat) ≤ 1000
      omega

set_option maxRecDepth 20000 in
set_option maxHeartbeats 8000000 in
theorem specSyncDirV (d : Dsk) (v : Value) (w : World) (B : Nat) (hv : DiskV w B v d) (hf : Fits d) (hw : wtD d ≤ 1048576) (hB : B ≤ w.heap.size) :
    Calls Tryz.prog 22 #[v] w fun e w' => ∃ x, e = .returned (.tuple #[x, .int .i64 (syncDirR d).2]) ∧ DiskO w' w.heap.size x (syncDirR d).1 ∧ Below w.heap.size w w' := by
  have HV : Hid (DiskV w B v d) := hv
  have HF : Hid (Fits d) := hf
  have HB : Hid (B ≤ w.heap.size) := hB
  have HW : Hid (wtD d ≤ 1048576) := hw
  have hlk : ∃ a1 b1 a3 b3 v2, v = .agg #[.int .i64 d.room, .int .i64 d.next, .slice a1 d.nods.length b1, v2, .slice a3 d.movs.length b3] ∧ Lies w B 3 (.slice a1 d.nods.length b1) (nodR d.nods) := by
    obtain ⟨v1, v2, v3, rfl, h1, h2, h3⟩ := hv
    obtain ⟨A1, c1, rfl, _⟩ := nod_look h1
    obtain ⟨A3, c3, rfl, _⟩ := mov_look h3
    exact ⟨A1, c1, A3, c3, v2, rfl, h1⟩
  obtain ⟨a1, b1, a3, b3, v2, rfl, hl1⟩ := hlk
  have HL1 : Hid (Lies w B 3 (.slice a1 d.nods.length b1) (nodR d.nods)) := hl1
  have q1 : (d.nods.length : Int) ≤ 9223372036854775807 := by have := hf.n; unfold maxLen at this; omega
  have q3 : (d.movs.length : Int) ≤ 9223372036854775807 := by have := hf.m; unfold maxLen at this; omega
  clear hf hB hw hv hl1
  go_enter Tryz.func22, Tryz.ntmps22
  go_wp2_with fail
  have hb0 := below_alloc2' w (.cells #[.int .i64 d.room, .int .i64 d.next, .slice a1 d.nods.length b1, v2, .slice a3 d.movs.length b3] 35) (.cells #[.int .i64 0, .int .i64 0, .slice none 0 0, .slice none 0 0, .slice none 0 0] 35)
  have bA := (Blk.new w #[.int .i64 d.room, .int .i64 d.next, .slice a1 d.nods.length b1, v2, .slice a3 d.movs.length b3] 35).alloc (.cells #[.int .i64 0, .int .i64 0, .slice none 0 0, .slice none 0 0, .slice none 0 0] 35)
  have bR := Blk.new (w.alloc (.cells #[.int .i64 d.room, .int .i64 d.next, .slice a1 d.nods.length b1, v2, .slice a3 d.movs.length b3] 35)) #[.int .i64 0, .int .i64 0, .slice none 0 0, .slice none 0 0, .slice none 0 0] 35
  simp only [World.size_alloc] at bR
  generalize (w.alloc (.cells #[.int .i64 d.room, .int .i64 d.next, .slice a1 d.nods.length b1, v2, .slice a3 d.movs.length b3] 35)).alloc (.cells #[.int .i64 0, .int .i64 0, .slice none 0 0, .slice none 0 0, .slice none 0 0] 35) = W at *
  have B0 : Hid (Below w.heap.size w W) := hb0
  have K0 : Hid (Blk W w.heap.size #[.int .i64 d.room, .int .i64 d.next, .slice a1 d.nods.length b1, v2, .slice a3 d.movs.length b3] 35) := bA
  have R0 : Hid (Blk W (w.heap.size + 1) #[.int .i64 0, .int .i64 0, .slice none 0 0, .slice none 0 0, .slice none 0 0] 35) := bR
  clear hb0 bA bR
  refine (specOkV d _ W B (HV.out.on (B0.out.mono HB.out)) HF.out HW.out (Nat.le_trans HB.out B0.out.size)).mono ?_
  rintro e w1 ⟨rfl, hb1⟩
  have B1 : Hid (Below w.heap.size w w1) := B0.out.trans (hb1.mono B0.out.size)
  have K1 : Hid (Blk w1 w.heap.size #[.int .i64 d.room, .int .i64 d.next, .slice a1 d.nods.length b1, v2, .slice a3 d.movs.length b3] 35) := K0.out.on hb1 K0.out.lt
  have R1 : Hid (Blk w1 (w.heap.size + 1) #[.int .i64 0, .int .i64 0, .slice none 0 0, .slice none 0 0, .slice none 0 0] 35) := R0.out.on hb1 R0.out.lt
  clear hb1 K0 R0
  have hg : w.heap.size ≤ w.heap.size + 1 := by omega
  cases hok : diskOk d with
  | false =>
    have hRR : syncDirR d = (zeroD, 1) := syncDirR_no hok
    clear hok
    have g0 := R1.out.cell 0 _ rfl
    have f0 := R1.out.free 0
    have g1 := R1.out.cell 1 _ rfl
    have f1 := R1.out.free 1
    have g2 := R1.out.cell 2 _ rfl
    have f2 := R1.out.free 2
    have g3 := R1.out.cell 3 _ rfl
    have f3 := R1.out.free 3
    have g4 := R1.out.cell 4 _ rfl
    have f4 := R1.out.free 4
    go_wp2_with fail
    have hB := B1.out
    have FB := (((((hB.setCell hg (.int .i64 0) (p := ⟨_, 0, none⟩)).setCell hg (.int .i64 0) (p := ⟨_, 1, none⟩)).setCell hg (.slice none 0 0) (p := ⟨_, 2, none⟩)).setCell hg (.slice none 0 0) (p := ⟨_, 3, none⟩)).setCell hg (.slice none 0 0) (p := ⟨_, 4, none⟩))
    have hF := (((((R1.out.set 0 (.int .i64 0)).set 1 (.int .i64 0)).set 2 (.slice none 0 0)).set 3 (.slice none 0 0)).set 4 (.slice none 0 0))
    clear g0 f0 g1 f1 g2 f2 g3 f3 g4 f4
    generalize (((((w1.setCell ⟨w.heap.size + 1, 0, none⟩ (.int .i64 0)).setCell ⟨w.heap.size + 1, 1, none⟩ (.int .i64 0)).setCell ⟨w.heap.size + 1, 2, none⟩ (.slice none 0 0)).setCell ⟨w.heap.size + 1, 3, none⟩ (.slice none 0 0)).setCell ⟨w.heap.size + 1, 4, none⟩ (.slice none 0 0)) = WF at *
    have hG : Blk WF (w.heap.size + 1) #[.int .i64 0, .int .i64 0, .slice none 0 0, .slice none 0 0, .slice none 0 0] 35 := hF
    have l0 := hG.cell 0 (.int .i64 0) rfl
    have l1 := hG.cell 1 (.int .i64 0) rfl
    have l2 := hG.cell 2 (.slice none 0 0) rfl
    have l3 := hG.cell 3 (.slice none 0 0) rfl
    have l4 := hG.cell 4 (.slice none 0 0) rfl
    exact bodyPost_ret (v := .tuple #[.agg #[.int .i64 0, .int .i64 0, .slice none 0 0, .slice none 0 0, .slice none 0 0], .int .i64 1]) (by simp [results, go_sem, l0, l1, l2, l3, l4]) rfl (by rw [hRR]; exact ⟨_, rfl, ⟨_, _, _, rfl, Owns.nil _ _ _ _, Owns.nil _ _ _ _, Owns.nil _ _ _ _⟩, FB⟩)
  | true =>
    have hR := (sizeOk_iff d).1 ((whole_iff d).1 hok).size
    have HSZ : Hid (d.dir.length + d.movs.length ≤ 1048575 ∧ d.nods.length ≤ 10 ∧ (now d).length ≤ 1048576) := by
      have h2 := names_len d.dir d.movs
      have := hR.l; have := hR.m; have := hR.n
      unfold Hid now
      omega
    have hRR : Hid (syncDirR d = (⟨d.room, d.next, keptN (now d) d.nods, now d, []⟩, 0)) := syncDirR_yes hok
    clear hR hok
    have cN := namesV d (.agg #[.int .i64 d.room, .int .i64 d.next, .slice a1 d.nods.length b1, v2, .slice a3 d.movs.length b3]) (d.movs.length : Int) w1.drew B (HV.out.on (B1.out.drew.mono HB.out)) HF.out HSZ.out.1 (Nat.le_trans HB.out B1.out.size)
    rw [Int.toNat_natCast, List.take_length] at cN
    have S0 : Hid (w1.drew.cell? ⟨w.heap.size, 0, none⟩ = some (.int .i64 d.room) ∧ w1.drew.cell? ⟨w.heap.size, 1, none⟩ = some (.int .i64 d.next) ∧ w1.drew.cell? ⟨w.heap.size, 2, none⟩ = some (.slice a1 d.nods.length b1) ∧ w1.drew.cell? ⟨w.heap.size, 3, none⟩ = some v2 ∧ w1.drew.cell? ⟨w.heap.size, 4, none⟩ = some (.slice a3 d.movs.length b3)) := ⟨K1.out.cell 0 _ rfl, K1.out.cell 1 _ rfl, K1.out.cell 2 _ rfl, K1.out.cell 3 _ rfl, K1.out.cell 4 _ rfl⟩
    go_wp2_with fail
    refine wp_region_until (fun w' => w'.cell? ⟨w.heap.size, 0, none⟩ = some (.int .i64 d.room) ∧ w'.cell? ⟨w.heap.size, 1, none⟩ = some (.int .i64 d.next) ∧ w'.cell? ⟨w.heap.size, 2, none⟩ = some (.slice a1 d.nods.length b1) ∧ w'.cell? ⟨w.heap.size, 3, none⟩ = some v2 ∧ w'.cell? ⟨w.heap.size, 4, none⟩ = some (.slice a3 d.movs.length b3)) (fun i => i == 9) 11 (by rfl) (by kernel_rfl) ?_
    refine until_take 0 (v := ?va0) (by rfl) (by kernel_rfl) (by exact fun _ _ _ h => h) (by rfl) ?hya0 S0.out ?ra0
    case hya0 =>
      intro w hSw
      try dsimp only at hSw
      go_simp
      try with_reducible rfl
    try simp only [Act.put, List.setIfInBounds_toArray, List.set_cons_zero, List.set_cons_succ]
    refine until_take 1 (v := ?va1) (by rfl) (by kernel_rfl) (by exact fun _ _ _ h => h) (by rfl) ?hya1 S0.out ?ra1
    case hya1 =>
      intro w hSw
      try dsimp only at hSw
      go_simp
      try with_reducible rfl
    try simp only [Act.put, List.setIfInBounds_toArray, List.set_cons_zero, List.set_cons_succ]
    refine until_take 2 (v := ?va2) (by rfl) (by kernel_rfl) (by exact fun _ _ _ h => h) (by rfl) ?hya2 S0.out ?ra2
    case hya2 =>
      intro w hSw
      try dsimp only at hSw
      go_simp
      try with_reducible rfl
    try simp only [Act.put, List.setIfInBounds_toArray, List.set_cons_zero, List.set_cons_succ]
    refine until_take 3 (v := ?va3) (by rfl) (by kernel_rfl) (by exact fun _ _ _ h => h) (by rfl) ?hya3 S0.out ?ra3
    case hya3 =>
      intro w hSw
      try dsimp only at hSw
      go_simp
      try with_reducible rfl
    try simp only [Act.put, List.setIfInBounds_toArray, List.set_cons_zero, List.set_cons_succ]
    refine until_take 4 (v := ?va4) (by rfl) (by kernel_rfl) (by exact fun _ _ _ h => h) (by rfl) ?hya4 S0.out ?ra4
    case hya4 =>
      intro w hSw
      try dsimp only at hSw
      go_simp
      try with_reducible rfl
    try simp only [Act.put, List.setIfInBounds_toArray, List.set_cons_zero, List.set_cons_succ]
    refine until_take 6 (v := ?va6) (by rfl) (by kernel_rfl) (by exact fun _ _ _ h => h) (by rfl) ?hya6 S0.out ?ra6
    case hya6 =>
      intro w hSw
      try dsimp only at hSw
      go_simp
      try with_reducible rfl
    try simp only [Act.put, List.setIfInBounds_toArray, List.set_cons_zero, List.set_cons_succ]
    refine until_take 7 (v := ?va7) (by rfl) (by kernel_rfl) (by exact fun _ _ _ h => h) (by rfl) ?hya7 S0.out ?ra7
    case hya7 =>
      intro w hSw
      try dsimp only at hSw
      go_simp
      try with_reducible rfl
    try simp only [Act.put, List.setIfInBounds_toArray, List.set_cons_zero, List.set_cons_succ]
    refine until_one 5 (by rfl) (by kernel_rfl) (fun K hK => ?_)
    go_simp
    refine cN.mono ?_
    rintro e w2 ⟨u2, rfl, hO2, hb2⟩
    have hb21 : Below w1.heap.size w1 w2 := (Below.refl _ w1).drew.trans hb2
    have B2 : Hid (Below w.heap.size w w2) := B1.out.trans (hb21.mono B1.out.size)
    have K2 : Hid (Blk w2 w.heap.size #[.int .i64 d.room, .int .i64 d.next, .slice a1 d.nods.length b1, v2, .slice a3 d.movs.length b3] 35) := K1.out.on hb21 K1.out.lt
    have R2 : Hid (Blk w2 (w.heap.size + 1) #[.int .i64 0, .int .i64 0, .slice none 0 0, .slice none 0 0, .slice none 0 0] 35) := R1.out.on hb21 R1.out.lt
    obtain ⟨A2, m2, k2, rfl⟩ := hO2.shape
    have O2 : Hid (Owns w2 w.heap.size 79 2 (.slice A2 m2 k2) (lnkR (now d))) := hO2.mono B1.out.size
    clear hb2 hb21 hO2 cN
    go_wp2_with fail
    refine hK.out _ _ (fun _ _ => ⟨K2.out.cell 0 _ rfl, K2.out.cell 1 _ rfl, K2.out.cell 2 _ rfl, K2.out.cell 3 _ rfl, K2.out.cell 4 _ rfl⟩) ?_
    clear hK K
    try simp only [Act.put, List.setIfInBounds_toArray, List.set_cons_zero, List.set_cons_succ]
    have cS := settledV d.room d.next (.slice a1 d.nods.length b1) v2 (.slice a3 d.movs.length b3) (.slice A2 m2 k2) (.slice a1 d.nods.length b1) (now d) d.nods w2 w2.heap.size O2.out.lies ((HL1.out.on (B2.out.mono HB.out)).mono (Nat.le_trans HB.out B2.out.size)) HSZ.out.2.2 (by have := HSZ.out; omega) (Nat.le_refl _)
    refine until_one 8 (by rfl) (by kernel_rfl) (fun K hK => ?_)
    go_simp
    refine cS.mono ?_
    rintro e w3 ⟨u3, rfl, hO3, hb3⟩
    have B3 : Hid (Below w.heap.size w w3) := B2.out.trans (hb3.mono B2.out.size)
    have K3 : Hid (Blk w3 w.heap.size #[.int .i64 d.room, .int .i64 d.next, .slice a1 d.nods.length b1, v2, .slice a3 d.movs.length b3] 35) := K2.out.on hb3 K2.out.lt
    have R3 : Hid (Blk w3 (w.heap.size + 1) #[.int .i64 0, .int .i64 0, .slice none 0 0, .slice none 0 0, .slice none 0 0] 35) := R2.out.on hb3 R2.out.lt
    obtain ⟨A1, m1, k1, rfl⟩ := hO3.shape
    have O1 : Hid (Owns w3 w.heap.size 76 3 (.slice A1 m1 k1) (nodR (keptN (now d) d.nods))) := hO3.mono B2.out.size
    have O2b : Hid (Owns w3 w.heap.size 79 2 (.slice A2 m2 k2) (lnkR (now d))) := O2.out.on hb3
    clear hb3 hO3 cS
    go_wp2_with fail
    refine hK.out _ _ (fun _ _ => ⟨K3.out.cell 0 _ rfl, K3.out.cell 1 _ rfl, K3.out.cell 2 _ rfl, K3.out.cell 3 _ rfl, K3.out.cell 4 _ rfl⟩) ?_
    clear hK K
    try simp only [Act.put, List.setIfInBounds_toArray, List.set_cons_zero, List.set_cons_succ]
    have g0 := R3.out.cell 0 _ rfl
    have f0 := R3.out.free 0
    have g1 := R3.out.cell 1 _ rfl
    have f1 := R3.out.free 1
    have g2 := R3.out.cell 2 _ rfl
    have f2 := R3.out.free 2
    have g3 := R3.out.cell 3 _ rfl
    have f3 := R3.out.free 3
    have g4 := R3.out.cell 4 _ rfl
    have f4 := R3.out.free 4
    refine until_one 9 (by rfl) (by kernel_rfl) (fun K hK => ?_)
    go_simp
    refine hK.out _ _ (fun h => by cases h) ?_
    clear hK K
    try simp only [Act.put, List.setIfInBounds_toArray, List.set_cons_zero, List.set_cons_succ]
    refine until_pure 10 (v := ?vb10) (by rfl) (by kernel_rfl) (by exact fun _ _ _ h => h) (by rfl) ?hyb10 ?rb10
    case hyb10 =>
      intro w
      go_simp
      try with_reducible rfl
    try simp only [Act.put, List.setIfInBounds_toArray, List.set_cons_zero, List.set_cons_succ]
    refine until_done (by kernel_rfl) ?_ _
    go_wp2_with fail
    have hB := B3.out
    have FB := (((((hB.setCell hg (.int .i64 d.room) (p := ⟨_, 0, none⟩)).setCell hg (.int .i64 d.next) (p := ⟨_, 1, none⟩)).setCell hg (.slice A1 m1 k1) (p := ⟨_, 2, none⟩)).setCell hg (.slice A2 m2 k2) (p := ⟨_, 3, none⟩)).setCell hg (.slice none 0 0) (p := ⟨_, 4, none⟩))
    have hF := (((((R3.out.set 0 (.int .i64 d.room)).set 1 (.int .i64 d.next)).set 2 (.slice A1 m1 k1)).set 3 (.slice A2 m2 k2)).set 4 (.slice none 0 0))
    have mm0 := O1.out.notBlk R3.out (by decide)
    have F0 := (((((O1.out.other mm0 0 (.int .i64 d.room)).other mm0 1 (.int .i64 d.next)).other mm0 2 (.slice A1 m1 k1)).other mm0 3 (.slice A2 m2 k2)).other mm0 4 (.slice none 0 0))
    have mm1 := O2b.out.notBlk R3.out (by decide)
    have F1 := (((((O2b.out.other mm1 0 (.int .i64 d.room)).other mm1 1 (.int .i64 d.next)).other mm1 2 (.slice A1 m1 k1)).other mm1 3 (.slice A2 m2 k2)).other mm1 4 (.slice none 0 0))
    clear g0 f0 g1 f1 g2 f2 g3 f3 g4 f4
    generalize (((((w3.setCell ⟨w.heap.size + 1, 0, none⟩ (.int .i64 d.room)).setCell ⟨w.heap.size + 1, 1, none⟩ (.int .i64 d.next)).setCell ⟨w.heap.size + 1, 2, none⟩ (.slice A1 m1 k1)).setCell ⟨w.heap.size + 1, 3, none⟩ (.slice A2 m2 k2)).setCell ⟨w.heap.size + 1, 4, none⟩ (.slice none 0 0)) = WF at *
    have hG : Blk WF (w.heap.size + 1) #[.int .i64 d.room, .int .i64 d.next, .slice A1 m1 k1, .slice A2 m2 k2, .slice none 0 0] 35 := hF
    have l0 := hG.cell 0 (.int .i64 d.room) rfl
    have l1 := hG.cell 1 (.int .i64 d.next) rfl
    have l2 := hG.cell 2 (.slice A1 m1 k1) rfl
    have l3 := hG.cell 3 (.slice A2 m2 k2) rfl
    have l4 := hG.cell 4 (.slice none 0 0) rfl
    exact bodyPost_ret (v := .tuple #[.agg #[.int .i64 d.room, .int .i64 d.next, .slice A1 m1 k1, .slice A2 m2 k2, .slice none 0 0], .int .i64 0]) (by simp [results, go_sem, l0, l1, l2, l3, l4]) rfl (by rw [hRR.out]; exact ⟨_, rfl, ⟨_, _, _, rfl, F0, F1, Owns.nil _ _ _ _⟩, FB⟩)
end Go.Proofs.YtnnfnhpehacelaaGreat

/-
  What a step does to a disk, and the laws' own measure and copy of one.
-/
namespace Go.Proofs.YtnnfnhpehacelaaGreat
open Go.ChangeShapes Go.WideShapes Go.ChangeAt Go.RowKit Go.PlainAid
set_option linter.unusedVariables false

/-- What a step does to a right disk, and its code. -/
def stepY (d : Dsk) (k : Int) (n t x : ByteArray) : Dsk × Int :=
  if k = 1 then (makeD d n, makeC d n) else if k = 2 then (addD d n x, addC d n x) else if k = 3 then (syncD d n, named d n) else if k = 4 then ((movedC d ⟨2, n, t, 0⟩ (renC d n t)).1, (movedC d ⟨2, n, t, 0⟩ (renC d n t)).2) else if k = 5 then ((movedC d ⟨3, n, ⟨#[]⟩, 0⟩ (named d n)).1, (movedC d ⟨3, n, ⟨#[]⟩, 0⟩ (named d n)).2) else if k = 6 then (syncDirD d, 0) else (d, 1)
/-- What DoStep answers. -/
def doStepR (d : Dsk) (k : Int) (n t x : ByteArray) : Dsk × Int := if diskOk d = true then stepY d k n t x else (zeroD, 1)
theorem doStepR_yes {d : Dsk} {k : Int} {n t x : ByteArray} (h : diskOk d = true) : doStepR d k n t x = stepY d k n t x := by unfold doStepR; rw [if_pos h]
theorem doStepR_no {d : Dsk} {k : Int} {n t x : ByteArray} (h : diskOk d = false) : doStepR d k n t x = (zeroD, 1) := by unfold doStepR; rw [if_neg (by rw [h]; simp)]
theorem doStepR_1 (d : Dsk) (n t x : ByteArray) : doStepR d 1 n t x = makeR d n := by unfold doStepR makeR; rw [show stepY d 1 n t x = (makeD d n, makeC d n) from by unfold stepY; rw [if_pos rfl]]
theorem doStepR_2 (d : Dsk) (n t x : ByteArray) : doStepR d 2 n t x = addR d n x := by unfold doStepR addR; rw [show stepY d 2 n t x = (addD d n x, addC d n x) from by unfold stepY; rw [if_neg (by decide), if_pos rfl]]
theorem doStepR_3 (d : Dsk) (n t x : ByteArray) : doStepR d 3 n t x = syncR d n := by unfold doStepR syncR; rw [show stepY d 3 n t x = (syncD d n, named d n) from by unfold stepY; rw [if_neg (by decide), if_neg (by decide), if_pos rfl]]
theorem doStepR_4 (d : Dsk) (n t x : ByteArray) : doStepR d 4 n t x = renameR d n t := by unfold doStepR renameR; rw [show stepY d 4 n t x = ((movedC d ⟨2, n, t, 0⟩ (renC d n t)).1, (movedC d ⟨2, n, t, 0⟩ (renC d n t)).2) from by unfold stepY; rw [if_neg (by decide), if_neg (by decide), if_neg (by decide), if_pos rfl]]
theorem doStepR_5 (d : Dsk) (n t x : ByteArray) : doStepR d 5 n t x = dropR d n := by unfold doStepR dropR; rw [show stepY d 5 n t x = ((movedC d ⟨3, n, ⟨#[]⟩, 0⟩ (named d n)).1, (movedC d ⟨3, n, ⟨#[]⟩, 0⟩ (named d n)).2) from by unfold stepY; rw [if_neg (by decide), if_neg (by decide), if_neg (by decide), if_neg (by decide), if_pos rfl]]
theorem doStepR_6 (d : Dsk) (n t x : ByteArray) : doStepR d 6 n t x = syncDirR d := by unfold doStepR syncDirR; rw [show stepY d 6 n t x = (syncDirD d, 0) from by unfold stepY; rw [if_neg (by decide), if_neg (by decide), if_neg (by decide), if_neg (by decide), if_neg (by decide), if_pos rfl]]
theorem stepY_0 {d : Dsk} {k : Int} {n t x : ByteArray} (h1 : ¬k = 1) (h2 : ¬k = 2) (h3 : ¬k = 3) (h4 : ¬k = 4) (h5 : ¬k = 5) (h6 : ¬k = 6) : stepY d k n t x = (d, 1) := by unfold stepY; rw [if_neg h1, if_neg h2, if_neg h3, if_neg h4, if_neg h5, if_neg h6]
theorem doStepR_len (d : Dsk) (k : Int) (n t x : ByteArray) (hf : Fits d) : (doStepR d k n t x).1.nods.length ≤ 1000 ∧ (doStepR d k n t x).1.dir.length ≤ 1000 ∧ (doStepR d k n t x).1.movs.length ≤ 1000 := by
  by_cases h1 : k = 1
  · subst h1
    rw [doStepR_1]
    exact makeR_len d n hf
  by_cases h2 : k = 2
  · subst h2
    rw [doStepR_2]
    exact addR_len d n x hf
  by_cases h3 : k = 3
  · subst h3
    rw [doStepR_3]
    exact syncR_len d n hf
  by_cases h4 : k = 4
  · subst h4
    rw [doStepR_4]
    exact renameR_len d n t hf
  by_cases h5 : k = 5
  · subst h5
    rw [doStepR_5]
    exact dropR_len d n hf
  by_cases h6 : k = 6
  · subst h6
    rw [doStepR_6]
    exact syncDirR_len d hf
  cases h : diskOk d with
  | false =>
    rw [doStepR_no h]
    exact ⟨by show 0 ≤ 1000; omega, by show 0 ≤ 1000; omega, by show 0 ≤ 1000; omega⟩
  | true =>
    rw [doStepR_yes h, stepY_0 h1 h2 h3 h4 h5 h6]
    have hR := (sizeOk_iff d).1 ((whole_iff d).1 h).size
    have := hR.l
    have := hR.m
    have := hR.n
    exact ⟨by show d.nods.length ≤ 1000; omega, by show d.dir.length ≤ 1000; omega, by show d.movs.length ≤ 1000; omega⟩

set_option maxHeartbeats 1000000 in
theorem szStep (k : Int) (n t x : ByteArray) (left : Int) (w : World) (h0 : 0 ≤ left) (h1 : left ≤ 1048576) (hn : n.size ≤ maxLen) (ht : t.size ≤ maxLen) (hx : x.size ≤ maxLen) :
    Calls Tryz.prog 5 #[.agg #[.int .i64 k, .string n, .string t, .string x], .int .i64 left] w fun e w' => (∃ r, e = .returned (.int .i64 r) ∧ Hid (r = -1 ∨ 0 ≤ r)) ∧ Below w.heap.size w w' := by
  unfold maxLen at hn ht hx
  generalize en : n.size = a at *
  generalize et : t.size = b at *
  generalize ex : x.size = c at *
  have q1 : (a : Int) ≤ 9223372036854775807 := by omega
  have q2 : (b : Int) ≤ 9223372036854775807 := by omega
  have q3 : (c : Int) ≤ 9223372036854775807 := by omega
  have w1 : wrap64 (left - (a : Int)) = left - (a : Int) := by unfold wrap64; omega
  by_cases l0 : left - (a : Int) < 0
  · have b0 : decide (left - (a : Int) < 0) = true := decide_eq_true l0
    go_enter Tryz.func5, Tryz.ntmps5
    go_wp2
    go_ret
    exact ⟨⟨_, rfl, .inl rfl⟩, (Below.refl _ _).alloc (Nat.le_refl _) _⟩
  have b0 : decide (left - (a : Int) < 0) = false := decide_eq_false l0
  have w2 : wrap64 (left - (a : Int) - (b : Int)) = left - (a : Int) - (b : Int) := by unfold wrap64; omega
  by_cases l1 : left - (a : Int) - (b : Int) < 0
  · have b1 : decide (left - (a : Int) - (b : Int) < 0) = true := decide_eq_true l1
    go_enter Tryz.func5, Tryz.ntmps5
    go_wp2
    go_ret
    exact ⟨⟨_, rfl, .inl rfl⟩, (Below.refl _ _).alloc (Nat.le_refl _) _⟩
  have b1 : decide (left - (a : Int) - (b : Int) < 0) = false := decide_eq_false l1
  have w3 : wrap64 (left - (a : Int) - (b : Int) - (c : Int)) = left - (a : Int) - (b : Int) - (c : Int) := by unfold wrap64; omega
  by_cases l2 : left - (a : Int) - (b : Int) - (c : Int) < 0
  · have b2 : decide (left - (a : Int) - (b : Int) - (c : Int) < 0) = true := decide_eq_true l2
    go_enter Tryz.func5, Tryz.ntmps5
    go_wp2
    go_ret
    exact ⟨⟨_, rfl, .inl rfl⟩, (Below.refl _ _).alloc (Nat.le_refl _) _⟩
  have b2 : decide (left - (a : Int) - (b : Int) - (c : Int) < 0) = false := decide_eq_false l2
  have HL : Hid (0 ≤ left - (a : Int) - (b : Int) - (c : Int)) := by unfold Hid; omega
  go_enter Tryz.func5, Tryz.ntmps5
  go_wp2
  go_ret
  exact ⟨⟨_, rfl, .inr HL.out⟩, (Below.refl _ _).alloc (Nat.le_refl _) _⟩

set_option maxHeartbeats 1000000 in
theorem toStep (k : Int) (n t x : ByteArray) (w : World) : Calls Tryz.prog 8 #[.agg #[.int .i64 k, .string n, .string t, .string x]] w fun e w' => e = .returned (.agg #[.int .i64 k, .string n, .string t, .string x]) ∧ Below w.heap.size w w' := by
  go_enter Tryz.func8, Tryz.ntmps8
  go_wp2
  exact bodyPost_ret (v := .agg #[.int .i64 k, .string n, .string t, .string x]) (by simp [results, go_sem]) rfl ⟨rfl, below_alloc3 _ _ _ _⟩
end Go.Proofs.YtnnfnhpehacelaaGreat
