/- DkMakeS DsDef DcOps KdMath KdBnd DkLoad KdSafe -/
import Derived.Test.YtgjilgecklhglaaGreatRows
import Derived.Test.YtgjilgecklhglaaGreatQn5
import Derived.Test.YtgjilgecklhglaaGreatQn4
import Derived.Test.YtgjilgecklhglaaGreatQt0
import Derived.Test.YtgjilgecklhglaaGreatQt1
import Derived.Test.YtgjilgecklhglaaGreatQt2
import Derived.Test.YtgjilgecklhglaaGreatQt3
import Derived.Test.YtgjilgecklhglaaGreatQt4
import Derived.Test.YtgjilgecklhglaaGreatQt5
import Derived.Test.YtgjilgecklhglaaGreatQt6
import Derived.Test.YtgjilgecklhglaaGreatQt7
import Derived.Test.YtgjilgecklhglaaGreatQt8
import Derived.Test.YtgjilgecklhglaaGreatQt9
import Derived.Test.YtgjilgecklhglaaGreatQt10
import Derived.Test.YtgjilgecklhglaaGreatQt11
import Derived.Test.YtgjilgecklhglaaGreatQt12
namespace Go.Proofs.YtgjilgecklhglaaGreat
open Go.ChangeShapes Go.WideShapes Go.ChangeAt Go.RowKit Go.PlainAid
set_option linter.unusedVariables false
end Go.Proofs.YtgjilgecklhglaaGreat
namespace Go.Proofs.YtgjilgecklhglaaGreat
open Go.ChangeShapes Go.WideShapes Go.ChangeAt Go.RowKit Go.PlainAid
set_option linter.unusedVariables false
end Go.Proofs.YtgjilgecklhglaaGreat
namespace Go.Proofs.YtgjilgecklhglaaGreat
open Go.RowKit Go.PlainAid
set_option linter.unusedVariables false
theorem linkAt_no {l : List Lnk} {s : ByteArray} : linkAt l s = none ↔ ∀ x ∈ l, x.name ≠ s := by
 unfold linkAt
 rw [List.findIdx?_eq_none_iff]
 exact ⟨fun h x hx e => by have := h x hx; rw [decide_eq_false_iff_not] at this; exact this e, fun h x hx => decide_eq_false (h x hx)⟩
theorem linkAt_some {l : List Lnk} {s : ByteArray} (h : ∃ x ∈ l, x.name = s) : ∃ i, linkAt l s = some i := by
 cases e : linkAt l s with
 | some i => exact ⟨i, rfl⟩
 | none =>
  obtain ⟨x, hx, hs⟩ := h
  exact absurd hs (linkAt_no.1 e x hx)
end Go.Proofs.YtgjilgecklhglaaGreat
namespace Go.Proofs.YtgjilgecklhglaaGreat
open Go.RowKit Go.PlainAid
set_option linter.unusedVariables false
end Go.Proofs.YtgjilgecklhglaaGreat
namespace Go.Proofs.YtgjilgecklhglaaGreat
open Go.RowKit Go.PlainAid
set_option linter.unusedVariables false
end Go.Proofs.YtgjilgecklhglaaGreat
namespace Go.Proofs.YtgjilgecklhglaaGreat
open Go.ChangeShapes Go.WideShapes Go.ChangeAt Go.RowKit Go.PlainAid
set_option linter.unusedVariables false
def loadR (d : Dsk) (name : ByteArray) : ByteArray × Bool :=
 if diskOk d = false then (⟨#[]⟩, false) else match find d name with | none => (⟨#[]⟩, false) | some k => ((d.nods.getD k default).data, true)
theorem loadR_no {d : Dsk} {name : ByteArray} (h : diskOk d = false) : loadR d name = (⟨#[]⟩, false) := by unfold loadR; rw [if_pos h]
theorem loadR_none {d : Dsk} {name : ByteArray} (h : diskOk d = true) (hf : find d name = none) : loadR d name = (⟨#[]⟩, false) := by unfold loadR; rw [if_neg (by rw [h]; simp), hf]
theorem loadR_some {d : Dsk} {name : ByteArray} {k : Nat} (h : diskOk d = true) (hf : find d name = some k) : loadR d name = ((d.nods.getD k default).data, true) := by unfold loadR; rw [if_neg (by rw [h]; simp), hf]
set_option maxHeartbeats 1000000 in
theorem specLoadV (d : Dsk) (v : Value) (name : ByteArray) (w : World) (B : Nat) (hv : DiskV w B v d) (hf : Fits d) (hw : wtD d ≤ 1048576) (hB : B ≤ w.heap.size) :
  Calls Tryz.prog 23 #[v, .string name] w fun e w' => e = .returned (.tuple #[.string (loadR d name).1, .bool (loadR d name).2]) ∧ Below w.heap.size w w' := by
 have HV : Hid (DiskV w B v d) := hv
 have HF : Hid (Fits d) := hf
 have HB : Hid (B ≤ w.heap.size) := hB
 have HW : Hid (wtD d ≤ 1048576) := hw
 obtain ⟨v1, v2, v3, rfl, h1, h2, h3⟩ := hv
 obtain ⟨A1, c1, rfl, g1⟩ := nod_look h1
 have HN : Hid (∀ j, j < d.nods.length → ∃ g off, A1 = some ⟨g, off, none⟩ ∧ g < B ∧ _) := g1
 clear h1 h2 h3 hf hB hw g1
 go_enter Tryz.func23, Tryz.ntmps23
 go_wp2_with fail
 have hb0 : Below w.heap.size w (w.alloc (.cells #[.int .i64 d.room, .int .i64 d.next, .slice A1 d.nods.length c1, v2, v3] 28)) := (Below.refl _ _).alloc (Nat.le_refl _) _
 have k0 := Blk.new w #[.int .i64 d.room, .int .i64 d.next, .slice A1 d.nods.length c1, v2, v3] 28
 generalize w.alloc (.cells #[.int .i64 d.room, .int .i64 d.next, .slice A1 d.nods.length c1, v2, v3] 28) = W at *
 have B0 : Hid (Below w.heap.size w W) := hb0
 have K0 : Hid (Blk W w.heap.size #[.int .i64 d.room, .int .i64 d.next, .slice A1 d.nods.length c1, v2, v3] 28) := k0
 clear hb0 k0
 refine (specOkV d _ W B (HV.out.on (B0.out.mono HB.out)) HF.out HW.out (Nat.le_trans HB.out B0.out.size)).mono ?_
 rintro e w1 ⟨rfl, hb1⟩
 have B1 : Hid (Below w.heap.size w w1) := B0.out.trans (hb1.mono B0.out.size)
 have K1 : Hid (Blk w1 w.heap.size #[.int .i64 d.room, .int .i64 d.next, .slice A1 d.nods.length c1, v2, v3] 28) := K0.out.on hb1 K0.out.lt
 clear hb1 K0
 cases hok : diskOk d with
 | false =>
  have HR : Hid (loadR d name = (⟨#[]⟩, false)) := loadR_no hok
  go_wp2_with fail
  go_ret2
  exact ⟨by rw [HR.out]; rfl, B1.out⟩
 | true =>
  have hR := (sizeOk_iff d).1 ((whole_iff d).1 hok).size
  have q1 : (d.nods.length : Int) ≤ 10 := by have := hR.n; omega
  have cF := findV d (.agg #[.int .i64 d.room, .int .i64 d.next, .slice A1 d.nods.length c1, v2, v3]) name w1 B (HV.out.on (B1.out.mono HB.out)) HF.out (by have := hR.l; have := hR.m; omega) (by have := hR.n; omega) (Nat.le_trans HB.out B1.out.size)
  have y0 := K1.out.cell 0 _ rfl
  have y1 := K1.out.cell 1 _ rfl
  have y2 := K1.out.cell 2 _ rfl
  have y3 := K1.out.cell 3 _ rfl
  have y4 := K1.out.cell 4 _ rfl
  have HOK : Hid (diskOk d = true) := hok
  clear hR hok
  go_wp2_with fail
  refine cF.mono ?_
  rintro e w2 ⟨rfl, hb2⟩
  have B2 : Hid (Below w.heap.size w w2) := B1.out.trans (hb2.mono B1.out.size)
  have K2 : Hid (Blk w2 w.heap.size #[.int .i64 d.room, .int .i64 d.next, .slice A1 d.nods.length c1, v2, v3] 28) := K1.out.on hb2 K1.out.lt
  clear cF hb2 y0 y1 y2 y3 y4 K1
  rcases hfd : find d name with _ | k
  ·have HR : Hid (loadR d name = (⟨#[]⟩, false)) := loadR_none HOK.out hfd
   have e1 : idxV (none : Option Nat) = -1 := rfl
   rw [e1]
   clear hfd
   go_wp2_with fail
   go_ret2
   exact ⟨by rw [HR.out]; rfl, B2.out⟩
  ·have HR : Hid (loadR d name = ((d.nods.getD k default).data, true)) := loadR_some HOK.out hfd
   have e1 : idxV (some k) = (k : Int) := rfl
   rw [e1]
   have hk : k < d.nods.length := by
    unfold find at hfd
    rcases e : linkAt (now d) name with _ | i
    ·rw [e] at hfd; cases hfd
    ·rw [e] at hfd; exact (nodAt_at hfd).1
   obtain ⟨g, off, rfl, hg, _, hc1, _⟩ := HN.out k hk
   have hgw : g < w.heap.size := Nat.lt_of_lt_of_le hg HB.out
   rw [← B2.out.cell (p := ⟨_, _, none⟩) hgw] at hc1
   have q4 : (k : Int) < (d.nods.length : Int) := by omega
   have j1 : decide ((k : Int) < 0) = false := decide_eq_false (by omega)
   have y2 := K2.out.cell 2 _ rfl
   clear hfd hg hgw hk
   generalize (d.nods.getD k default).data = xd at *
   generalize d.nods.length = N at *
   go_wp2_with fail
   go_ret2
   exact ⟨by rw [HR.out]; rfl, B2.out⟩
set_option maxHeartbeats 1000000 in
theorem implLoadV (d : Dsk) (v : Value) (name : ByteArray) (w : World) (B : Nat) (hv : DiskV w B v d) (hf : Fits d) (hi : IntsOk d) (hw : wtD d ≤ 1048576) (hB : B ≤ w.heap.size) (hs : name.size ≤ maxLen) :
  Calls Tryz.prog 17 #[v, .string name] w fun e w' => e = .returned (.tuple #[.string (loadR d name).1, .bool (loadR d name).2]) ∧ Below w.heap.size w w' := by
 have HV : Hid (DiskV w B v d) := hv
 have HB : Hid (B ≤ w.heap.size) := hB
 have HS : Hid (name.size ≤ maxLen) := hs
 have HW : Hid (wtD d ≤ 1048576) := hw
 obtain ⟨v1, v2, v3, rfl, h1, h2, h3⟩ := hv
 have cO := fun wx hx hb => openedV d (.agg #[.int .i64 d.room, .int .i64 d.next, v1, v2, v3]) wx B hx hf hi hw hb
 clear h1 h2 h3 hB hf hi hw hs
 go_enter Tryz.func17, Tryz.ntmps17
 go_wp2_with fail
 have hb0 : Below w.heap.size w (w.alloc (.cells #[.int .i64 d.room, .int .i64 d.next, v1, v2, v3] 28)) := (Below.refl _ _).alloc (Nat.le_refl _) _
 generalize w.alloc (.cells #[.int .i64 d.room, .int .i64 d.next, v1, v2, v3] 28) = W at *
 have B0 : Hid (Below w.heap.size w W) := hb0
 clear hb0
 refine (cO W (HV.out.on (B0.out.mono HB.out)) (Nat.le_trans HB.out B0.out.size)).mono ?_
 rintro e w1 ⟨hb, h⟩
 have B1 : Hid (Below w.heap.size w w1) := B0.out.trans (hb.mono B0.out.size)
 clear hb cO
 rcases h with ⟨hn, rfl⟩ | ⟨hy, p, bi, bd, bw, gs, u, rfl, hO⟩
 ·have HR : Hid (loadR d name = (⟨#[]⟩, false)) := loadR_no hn
  clear hn
  go_wp2_with fail
  go_ret2
  exact ⟨by rw [HR.out]; rfl, B1.out⟩
 ·have hwh := (whole_iff d).1 hy
  have cF := findI w1 _ p d bi bd bw gs u name hO hwh HS.out
  have HOK : Hid (diskOk d = true) := hy
  have HO : Hid (OpenD w1 W.heap.size p d bi bd bw gs u) := hO
  have hR := (sizeOk_iff d).1 hwh.size
  have HBY : Hid (bytesOf d.nods ≤ 1048576) := by unfold Hid; have := hR.b; have := hR.r1; omega
  clear hy hO hwh hR
  go_wp2_with fail
  refine cF.mono ?_
  rintro e w2 ⟨rfl, h⟩
  clear cF
  rcases h with ⟨hno, rfl⟩ | ⟨hno, hfd, rfl⟩ | ⟨hno, j, hfd, hj, rfl⟩
  ·have HR : Hid (loadR d name = (⟨#[]⟩, false)) := loadR_none HOK.out (find_bad ((whole_iff d).1 HOK.out) hno)
   clear hno
   go_wp2_with fail
   go_ret2
   exact ⟨by rw [HR.out]; rfl, B1.out⟩
  ·have HR : Hid (loadR d name = (⟨#[]⟩, false)) := loadR_none HOK.out hfd
   clear hno hfd
   go_wp2_with fail
   go_ret2
   exact ⟨by rw [HR.out]; rfl, B1.out⟩
  ·have HR : Hid (loadR d name = ((d.nods.getD j default).data, true)) := loadR_some HOK.out hfd
   have x1 := (HO.out.held.blk j hj).cell 1 _ rfl
   have hsz : (d.nods.getD j default).data.size ≤ 281474976710656 := by
    have e1 := bytesOf_snoc d.nods j hj
    have e2 := bytesOf_le d.nods (j + 1)
    have := HBY.out
    omega
   clear hno hfd hj
   generalize (d.nods.getD j default).data = xd at *
   generalize gs.getD j 0 = gj at *
   have cC := clone xd w1 hsz
   go_wp2_with fail
   refine cC.mono ?_
   rintro e w3 ⟨rfl, hb3⟩
   have B3 : Hid (Below w.heap.size w w3) := B1.out.trans (hb3.mono B1.out.size)
   clear hb3 cC
   go_wp2_with fail
   go_ret2
   exact ⟨by rw [HR.out]; rfl, B3.out⟩
end Go.Proofs.YtgjilgecklhglaaGreat
namespace Go.Proofs.YtgjilgecklhglaaGreat
open Go.RowKit Go.PlainAid
set_option linter.unusedVariables false
theorem sorted_same {l : List Lnk} (h : Sorted l) {x y : Lnk} (hx : x ∈ l) (hy : y ∈ l) (e : x.name = y.name) : x = y := by
 obtain ⟨i, hi, rfl⟩ := List.mem_iff_getElem.1 hx
 obtain ⟨j, hj, rfl⟩ := List.mem_iff_getElem.1 hy
 have hp := List.pairwise_iff_getElem.1 h
 rcases Nat.lt_trichotomy i j with hij | rfl | hij
 ·exact absurd e (ahead_ne (hp i j hi hj hij))
 ·rfl
 ·exact absurd e.symm (ahead_ne (hp j i hj hi hij))
theorem rising_one {l : List Nod} (h : Rising l) {x y : Nod} (hx : x ∈ l) (hy : y ∈ l) (e : x.id = y.id) : x = y := by
 obtain ⟨i, hi, rfl⟩ := List.mem_iff_getElem.1 hx
 obtain ⟨j, hj, rfl⟩ := List.mem_iff_getElem.1 hy
 have hp := List.pairwise_iff_getElem.1 h
 rcases Nat.lt_trichotomy i j with hij | rfl | hij
 ·have := hp i j hi hj hij; omega
 ·rfl
 ·have := hp j i hj hi hij; omega
def Leads (d : Dsk) (name : ByteArray) (y : Nod) : Prop := ∃ x ∈ now d, x.name = name ∧ y ∈ d.nods ∧ y.id = x.id
theorem Leads.find {d : Dsk} (h : RD d) {name : ByteArray} {y : Nod} (hl : Leads d name y) : ∃ j, ∃ hj : j < d.nods.length, find d name = some j ∧ d.nods[j] = y := by
 obtain ⟨x, hx, hn, hy, e⟩ := hl
 obtain ⟨i, hi⟩ := linkAt_some ⟨x, hx, hn⟩
 obtain ⟨hil, hin⟩ := linkAt_yes hi
 have hxe : (now d)[i] = x := sorted_same h.linksN.sorted (List.getElem_mem hil) hx (hin.trans hn.symm)
 have hf := find_yes hi
 rw [getE _ _ hil, hxe] at hf
 cases e2 : nodAt d.nods x.id with
 | none => exact absurd e (nodAt_no.1 e2 y hy)
 | some j =>
  obtain ⟨hj, hjd⟩ := nodAt_lt e2
  rw [e2] at hf
  exact ⟨j, hj, hf, rising_one h.rise (List.getElem_mem hj) hy (hjd.trans e.symm)⟩
theorem Leads.load {d : Dsk} (h : RD d) {name : ByteArray} {y : Nod} (hl : Leads d name y) : loadR d name = (y.data, true) := by
 obtain ⟨j, hj, hf, e⟩ := hl.find h
 rw [loadR_some (RD.iff.2 h) hf, getE _ _ hj, e]
structure Kept (d : Dsk) (name data rest : ByteArray) : Prop where
 rd : RD d
 mv : d.movs = []
 le : ∃ y, Leads d name y ∧ y.data = data ++ rest ∧ y.sure = (data.size : Int)
theorem cat_nil (a : ByteArray) : a ++ (⟨#[]⟩ : ByteArray) = a := by
 apply ByteArray.ext
 simp
theorem Kept.add {d : Dsk} {name data : ByteArray} (h : Kept d name data ⟨#[]⟩) (more : ByteArray) : Kept (addD d name more) name data (if addC d name more = 0 then more else ⟨#[]⟩) := by
 by_cases hc : addC d name more = 0
 ·rw [if_pos hc]
  obtain ⟨y, hl, hd, hs⟩ := h.le
  obtain ⟨j, hj, hf, e⟩ := hl.find h.rd
  obtain ⟨x, hx, hn, hy, ex⟩ := hl
  have ea : addD d name more = ⟨d.room, d.next, d.nods.set j ⟨(d.nods.getD j default).id, (d.nods.getD j default).data ++ more, (d.nods.getD j default).sure⟩, d.dir, d.movs⟩ := by
   unfold addD
   rw [if_pos hc, hf]
  refine ⟨h.rd.add name more, by rw [ea]; exact h.mv, ?_⟩
  rw [ea]
  have eg : d.nods.getD j default = y := by rw [getE _ _ hj, e]
  refine ⟨⟨(d.nods.getD j default).id, (d.nods.getD j default).data ++ more, (d.nods.getD j default).sure⟩, ⟨x, hx, hn, List.mem_iff_getElem.2 ⟨j, by simpa using hj, by simp⟩, ?_⟩, ?_, ?_⟩
  ·show (d.nods.getD j default).id = x.id
   rw [eg]; exact ex
  ·show (d.nods.getD j default).data ++ more = data ++ more
   rw [eg, hd, cat_nil]
  ·show (d.nods.getD j default).sure = _
   rw [eg]; exact hs
 ·rw [if_neg hc]
  have ea : addD d name more = d := by unfold addD; rw [if_neg hc]
  rw [ea]
  exact h
theorem Kept.crash {d : Dsk} {name data rest : ByteArray} (h : Kept d name data rest) (later : ByteArray) (keep : Int) (cuts : List Int) :
  ∃ got, loadR (crashD (makeD d later) keep cuts) name = (got, true) ∧ data.size ≤ got.size ∧ got.size ≤ (data ++ rest).size ∧ got = (data ++ rest).extract 0 got.size := by
 obtain ⟨y, ⟨x, hx, hn, hy, e⟩, hd, hs⟩ := h.le
 have hnow : now d = d.dir := by unfold now; rw [h.mv]; rfl
 rw [hnow] at hx
 have h4 := h.rd.make later
 have hy4 : y ∈ (makeD d later).nods := by
  unfold makeD
  split
  ·exact List.mem_append_left _ hy
  ·exact hy
 have hx4 : x ∈ crashL (makeD d later) keep := by
  by_cases hc : makeC d later = 0
  ·have hlk : linkAt d.dir later = none := by
    have hf : find d later = none := by
     cases ef : find d later with
     | none => rfl
     | some j =>
      exfalso
      unfold makeC at hc
      split at hc
      ·cases hc
      ·rw [if_pos (by rw [ef]; simp)] at hc
       cases hc
    have := (h.rd.find_none).1 hf
    rwa [hnow] at this
   rw [makeD_ok hc, h.mv]
   unfold crashL
   show x ∈ names d.dir (([] ++ [⟨1, later, ⟨#[]⟩, d.next⟩] : List Mov).take keep.toNat)
   cases keep.toNat with
   | zero => exact hx
   | succ k =>
    have ht : ([] ++ [⟨1, later, ⟨#[]⟩, d.next⟩] : List Mov).take (k + 1) = [⟨1, later, ⟨#[]⟩, d.next⟩] := by simp
    rw [ht]
    show x ∈ (apply d.dir ⟨1, later, ⟨#[]⟩, d.next⟩).getD d.dir
    cases ea : apply d.dir ⟨1, later, ⟨#[]⟩, d.next⟩ with
    | none => exact hx
    | some l' =>
     obtain ⟨_, h1 | ⟨_, _, h2, _⟩ | h3⟩ := apply_cases ea
     ·show x ∈ l'
      rw [h1.2.2]
      exact withL_mem.2 (.inr ⟨hx, linkAt_no.1 hlk x hx⟩)
     ·exact absurd (show (1 : Int) = 2 from h2) (by decide)
     ·exact absurd (show (1 : Int) = 3 from h3.1) (by decide)
  ·rw [makeD_no hc]
   unfold crashL
   rw [h.mv, List.take_nil]
   exact hx
 obtain ⟨i, hi, ei⟩ := List.mem_iff_getElem.1 hy4
 have hsz : (cutL cuts (makeD d later).nods).length = (makeD d later).nods.length := mixN_length cuts _ _
 have hcut := cutL_at cuts (makeD d later).nods i (by omega) hi
 rw [ei] at hcut
 have hmem : cutN y (cuts.getD i 0) ∈ cutL cuts (makeD d later).nods := hcut ▸ List.getElem_mem (by omega)
 have hsy : 0 ≤ y.sure ∧ y.sure ≤ (y.data.size : Int) := (h4.nid y hy4).2
 have hcs := cutS_in (n := y.data.size) (more := cuts.getD i 0) hsy.1 hsy.2
 have hL : Leads (crashD (makeD d later) keep cuts) name (cutN y (cuts.getD i 0)) := by
  refine ⟨x, hx4, hn, ?_, e⟩
  show _ ∈ keptN (crashL (makeD d later) keep) (cutL cuts (makeD d later).nods)
  unfold keptN
  exact List.mem_filter.2 ⟨hmem, (linked_iff _ _).2 ⟨x, hx4, e.symm⟩⟩
 have hb : (cutN y (cuts.getD i 0)).data = y.data.extract 0 (cutS y.data.size y.sure (cuts.getD i 0)).toNat := rfl
 have hbs : (cutN y (cuts.getD i 0)).data.size = (cutS y.data.size y.sure (cuts.getD i 0)).toNat := by
  rw [hb, ByteArray.size_extract]; omega
 refine ⟨_, hL.load (h4.crash keep cuts), ?_, ?_, ?_⟩
 ·rw [hbs]; omega
 ·rw [hbs, ← hd]; omega
 ·rw [hbs, ← hd]; exact hb
end Go.Proofs.YtgjilgecklhglaaGreat
