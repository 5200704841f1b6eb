/- KdSafe KdUF DkNew CrImpl -/
import Derived.Test.YtgjilgecklhglaaGreatQz10
import Derived.Test.YtgjilgecklhglaaGreatQz7
import Derived.Test.YtgjilgecklhglaaGreatRows
import Derived.Test.YtgjilgecklhglaaGreatQt0
import Derived.Test.YtgjilgecklhglaaGreatQt1
import Derived.Test.YtgjilgecklhglaaGreatQt2
import Derived.Test.YtgjilgecklhglaaGreatQt3
import Derived.Test.YtgjilgecklhglaaGreatQt4
import Derived.Test.YtgjilgecklhglaaGreatQt5
import Derived.Test.YtgjilgecklhglaaGreatQt6
import Derived.Test.YtgjilgecklhglaaGreatQt7
import Derived.Test.YtgjilgecklhglaaGreatQt8
import Derived.Test.YtgjilgecklhglaaGreatQt9
import Derived.Test.YtgjilgecklhglaaGreatQt10
import Derived.Test.YtgjilgecklhglaaGreatQt11
import Derived.Test.YtgjilgecklhglaaGreatQt12
open List (setIfInBounds_toArray set_cons_zero set_cons_succ)
namespace Go.Proofs.YtgjilgecklhglaaGreat
open Go.RowKit Go.PlainAid
set_option linter.unusedVariables false
theorem sorted_same {l : List Lnk} (h : Sorted l) {x y : Lnk} (hx : x ∈ l) (hy : y ∈ l) (e : x.name = y.name) : x = y := by
 obtain ⟨i, hi, rfl⟩ := List.mem_iff_getElem.1 hx
 obtain ⟨j, hj, rfl⟩ := List.mem_iff_getElem.1 hy
 have hp := List.pairwise_iff_getElem.1 h
 rcases Nat.lt_trichotomy i j with hij | rfl | hij
 ·exact absurd e (ahead_ne (hp i j hi hj hij))
 ·rfl
 ·exact absurd e.symm (ahead_ne (hp j i hj hi hij))
theorem rising_one {l : List Nod} (h : Rising l) {x y : Nod} (hx : x ∈ l) (hy : y ∈ l) (e : x.id = y.id) : x = y := by
 obtain ⟨i, hi, rfl⟩ := List.mem_iff_getElem.1 hx
 obtain ⟨j, hj, rfl⟩ := List.mem_iff_getElem.1 hy
 have hp := List.pairwise_iff_getElem.1 h
 rcases Nat.lt_trichotomy i j with hij | rfl | hij
 ·have := hp i j hi hj hij; omega
 ·rfl
 ·have := hp j i hj hi hij; omega
def Leads (d : Dsk) (name : ByteArray) (y : Nod) : Prop := ∃ x ∈ now d, x.name = name ∧ y ∈ d.nods ∧ y.id = x.id
theorem Leads.find {d : Dsk} (h : RD d) {name : ByteArray} {y : Nod} (hl : Leads d name y) : ∃ j, ∃ hj : j < d.nods.length, find d name = some j ∧ d.nods[j] = y := by
 obtain ⟨x, hx, hn, hy, e⟩ := hl
 obtain ⟨i, hi⟩ := linkAt_some ⟨x, hx, hn⟩
 obtain ⟨hil, hin⟩ := linkAt_yes hi
 have hxe : (now d)[i] = x := sorted_same h.linksN.sorted (List.getElem_mem hil) hx (hin.trans hn.symm)
 have hf := find_yes hi
 rw [getE _ _ hil, hxe] at hf
 cases e2 : nodAt d.nods x.id with
 | none => exact absurd e (nodAt_no.1 e2 y hy)
 | some j =>
  obtain ⟨hj, hjd⟩ := nodAt_lt e2
  rw [e2] at hf
  exact ⟨j, hj, hf, rising_one h.rise (List.getElem_mem hj) hy (hjd.trans e.symm)⟩
theorem Leads.load {d : Dsk} (h : RD d) {name : ByteArray} {y : Nod} (hl : Leads d name y) : loadR d name = (y.data, true) := by
 obtain ⟨j, hj, hf, e⟩ := hl.find h
 rw [loadR_some (RD.iff.2 h) hf, getE _ _ hj, e]
theorem leads_of {d : Dsk} {name : ByteArray} {j : Nat} (hf : find d name = some j) : ∃ hj : j < d.nods.length, Leads d name d.nods[j] := by
 obtain ⟨i, hi, hn, hj, e⟩ := find_ltN hf
 exact ⟨hj, _, List.getElem_mem hi, hn, List.getElem_mem hj, e⟩
structure Kept (d : Dsk) (name data rest : ByteArray) : Prop where
 rd : RD d
 mv : d.movs = []
 le : ∃ y, Leads d name y ∧ y.data = data ++ rest ∧ y.sure = (data.size : Int)
theorem sync_leads {d : Dsk} (h : RD d) {name : ByteArray} (hn : named d name = 0) : ∃ y, Leads (syncD d name) name y ∧ y.sure = (y.data.size : Int) := by
 obtain ⟨hok, j, hf⟩ := named_zero hn
 obtain ⟨hj, x, hx, hxn, hy, e⟩ := leads_of hf
 have es : syncD d name = ⟨d.room, d.next, d.nods.set j ⟨(d.nods.getD j default).id, (d.nods.getD j default).data, ((d.nods.getD j default).data.size : Int)⟩, d.dir, d.movs⟩ := by
  unfold syncD
  rw [if_neg (by rw [hok]; simp), hf]
 rw [es]
 refine ⟨⟨(d.nods.getD j default).id, (d.nods.getD j default).data, ((d.nods.getD j default).data.size : Int)⟩, ⟨x, hx, hxn, ?_, ?_⟩, rfl⟩
 ·exact List.mem_iff_getElem.2 ⟨j, by simpa using hj, by simp⟩
 ·show (d.nods.getD j default).id = x.id
  rw [getE _ _ hj]
  exact e
theorem settle_leads {d : Dsk} {name : ByteArray} {y : Nod} (hl : Leads d name y) : Leads (syncDirD d) name y := by
 obtain ⟨x, hx, hn, hy, e⟩ := hl
 refine ⟨x, hx, hn, ?_, e⟩
 show y ∈ keptN (now d) d.nods
 unfold keptN
 exact List.mem_filter.2 ⟨hy, (linked_iff _ _).2 ⟨x, hx, e.symm⟩⟩
theorem cat_nil (a : ByteArray) : a ++ (⟨#[]⟩ : ByteArray) = a := by
 apply ByteArray.ext
 simp
theorem synced_kept {d : Dsk} (h : RD d) {name : ByteArray} (hn : named d name = 0) : ∃ data, Kept (syncDirD (syncD d name)) name data ⟨#[]⟩ ∧ loadR (syncDirD (syncD d name)) name = (data, true) := by
 obtain ⟨y, hl, hs⟩ := sync_leads h hn
 have h2 := (h.sync name).syncDir
 exact ⟨y.data, ⟨h2, rfl, y, settle_leads hl, (cat_nil _).symm, hs⟩, (settle_leads hl).load h2⟩
theorem Kept.add {d : Dsk} {name data : ByteArray} (h : Kept d name data ⟨#[]⟩) (more : ByteArray) : Kept (addD d name more) name data (if addC d name more = 0 then more else ⟨#[]⟩) := by
 by_cases hc : addC d name more = 0
 ·rw [if_pos hc]
  obtain ⟨y, hl, hd, hs⟩ := h.le
  obtain ⟨j, hj, hf, e⟩ := hl.find h.rd
  obtain ⟨x, hx, hn, hy, ex⟩ := hl
  have ea : addD d name more = ⟨d.room, d.next, d.nods.set j ⟨(d.nods.getD j default).id, (d.nods.getD j default).data ++ more, (d.nods.getD j default).sure⟩, d.dir, d.movs⟩ := by
   unfold addD
   rw [if_pos hc, hf]
  refine ⟨h.rd.add name more, by rw [ea]; exact h.mv, ?_⟩
  rw [ea]
  have eg : d.nods.getD j default = y := by rw [getE _ _ hj, e]
  refine ⟨⟨(d.nods.getD j default).id, (d.nods.getD j default).data ++ more, (d.nods.getD j default).sure⟩, ⟨x, hx, hn, List.mem_iff_getElem.2 ⟨j, by simpa using hj, by simp⟩, ?_⟩, ?_, ?_⟩
  ·show (d.nods.getD j default).id = x.id
   rw [eg]; exact ex
  ·show (d.nods.getD j default).data ++ more = data ++ more
   rw [eg, hd, cat_nil]
  ·show (d.nods.getD j default).sure = _
   rw [eg]; exact hs
 ·rw [if_neg hc]
  have ea : addD d name more = d := by unfold addD; rw [if_neg hc]
  rw [ea]
  exact h
theorem Kept.crash {d : Dsk} {name data rest : ByteArray} (h : Kept d name data rest) (later : ByteArray) (keep : Int) (cuts : List Int) :
  ∃ got, loadR (crashD (makeD d later) keep cuts) name = (got, true) ∧ data.size ≤ got.size ∧ got.size ≤ (data ++ rest).size ∧ got = (data ++ rest).extract 0 got.size := by
 obtain ⟨y, ⟨x, hx, hn, hy, e⟩, hd, hs⟩ := h.le
 have hnow : now d = d.dir := by unfold now; rw [h.mv]; rfl
 rw [hnow] at hx
 have h4 := h.rd.make later
 have hy4 : y ∈ (makeD d later).nods := by
  unfold makeD
  split
  ·exact List.mem_append_left _ hy
  ·exact hy
 have hx4 : x ∈ crashL (makeD d later) keep := by
  by_cases hc : makeC d later = 0
  ·have hlk : linkAt d.dir later = none := by
    have hf : find d later = none := by
     cases ef : find d later with
     | none => rfl
     | some j =>
      exfalso
      unfold makeC at hc
      split at hc
      ·cases hc
      ·rw [if_pos (by rw [ef]; simp)] at hc
       cases hc
    have := (h.rd.find_none).1 hf
    rwa [hnow] at this
   rw [makeD_ok hc, h.mv]
   unfold crashL
   show x ∈ names d.dir (([] ++ [⟨1, later, ⟨#[]⟩, d.next⟩] : List Mov).take keep.toNat)
   cases keep.toNat with
   | zero => exact hx
   | succ k =>
    have ht : ([] ++ [⟨1, later, ⟨#[]⟩, d.next⟩] : List Mov).take (k + 1) = [⟨1, later, ⟨#[]⟩, d.next⟩] := by simp
    rw [ht]
    show x ∈ (apply d.dir ⟨1, later, ⟨#[]⟩, d.next⟩).getD d.dir
    cases ea : apply d.dir ⟨1, later, ⟨#[]⟩, d.next⟩ with
    | none => exact hx
    | some l' =>
     obtain ⟨_, h1 | ⟨_, _, h2, _⟩ | h3⟩ := apply_cases ea
     ·show x ∈ l'
      rw [h1.2.2]
      exact withL_mem.2 (.inr ⟨hx, linkAt_no.1 hlk x hx⟩)
     ·exact absurd (show (1 : Int) = 2 from h2) (by decide)
     ·exact absurd (show (1 : Int) = 3 from h3.1) (by decide)
  ·rw [makeD_no hc]
   unfold crashL
   rw [h.mv, List.take_nil]
   exact hx
 obtain ⟨i, hi, ei⟩ := List.mem_iff_getElem.1 hy4
 have hsz : (cutL cuts (makeD d later).nods).length = (makeD d later).nods.length := mixN_length cuts _ _
 have hcut := cutL_at cuts (makeD d later).nods i (by omega) hi
 rw [ei] at hcut
 have hmem : cutN y (cuts.getD i 0) ∈ cutL cuts (makeD d later).nods := hcut ▸ List.getElem_mem (by omega)
 have hsy : 0 ≤ y.sure ∧ y.sure ≤ (y.data.size : Int) := (h4.nid y hy4).2
 have hcs := cutS_in (n := y.data.size) (more := cuts.getD i 0) hsy.1 hsy.2
 have hL : Leads (crashD (makeD d later) keep cuts) name (cutN y (cuts.getD i 0)) := by
  refine ⟨x, hx4, hn, ?_, e⟩
  show _ ∈ keptN (crashL (makeD d later) keep) (cutL cuts (makeD d later).nods)
  unfold keptN
  exact List.mem_filter.2 ⟨hmem, (linked_iff _ _).2 ⟨x, hx4, e.symm⟩⟩
 have hb : (cutN y (cuts.getD i 0)).data = y.data.extract 0 (cutS y.data.size y.sure (cuts.getD i 0)).toNat := rfl
 have hbs : (cutN y (cuts.getD i 0)).data.size = (cutS y.data.size y.sure (cuts.getD i 0)).toNat := by
  rw [hb, ByteArray.size_extract]; omega
 refine ⟨_, hL.load (h4.crash keep cuts), ?_, ?_, ?_⟩
 ·rw [hbs]; omega
 ·rw [hbs, ← hd]; omega
 ·rw [hbs, ← hd]; exact hb
end Go.Proofs.YtgjilgecklhglaaGreat
namespace Go.Proofs.YtgjilgecklhglaaGreat
set_option linter.unusedVariables false
section
variable {P : Program} {Q : Exit → Act → World → Prop} {md : Region.Mode} {S : World → Prop} {T : Nat → Bool}
end
end Go.Proofs.YtgjilgecklhglaaGreat
namespace Go.Proofs.YtgjilgecklhglaaGreat
open Go.ChangeShapes Go.WideShapes Go.ChangeAt Go.RowKit Go.PlainAid
set_option linter.unusedVariables false
end Go.Proofs.YtgjilgecklhglaaGreat
namespace Go.Proofs.YtgjilgecklhglaaGreat
open Go.ChangeShapes Go.WideShapes Go.ChangeAt Go.RowKit Go.PlainAid
set_option linter.unusedVariables false
end Go.Proofs.YtgjilgecklhglaaGreat
