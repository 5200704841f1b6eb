/-
  The contract of (impl.openDisk).find.
-/
import Derived.Test.YtnnfnhpehacelaaGreatRows
import Derived.Test.YtnnfnhpehacelaaGreatImFindA
import Derived.Test.YtnnfnhpehacelaaGreatImOpen
namespace Go.Proofs.YtnnfnhpehacelaaGreat
open Go.ChangeShapes Go.WideShapes Go.ChangeAt Go.RowKit Go.PlainAid Go.Maps
set_option linter.unusedVariables false

theorem find_bad {d : Dsk} (hd : Whole d) {name : ByteArray} (h : nameOk name = false) : find d name = none := by
  unfold find
  rcases hat : linkAt (now d) name with _ | i
  · rfl
  · have := (now_linked hd).ok.at hat
    rw [h] at this
    cases this
theorem find_link {d : Dsk} (hd : Whole d) {name : ByteArray} {i : Nat} (h : linkAt (now d) name = some i) : ∃ j, nodAt d.nods ((now d).getD i default).id = some j ∧ find d name = some j ∧ j < d.nods.length := by
  have h1 : (nodAt d.nods ((names d.dir d.movs).getD i default).id).isSome = true := (now_linked hd).ids _ (linkAt_name h).2
  rcases e : nodAt d.nods ((now d).getD i default).id with _ | j
  · rw [show nodAt d.nods ((names d.dir d.movs).getD i default).id = none from e] at h1
    cases h1
  · exact ⟨j, rfl, by rw [find_yes h]; exact e, (nodAt_at e).1⟩

/-- What find ends with. -/
def FoundI (d : Dsk) (gs : List Nat) (name : ByteArray) (e : Ending) : Prop :=
  (nameOk name = false ∧ e = .returned (.tuple #[.pointer none, .int .i64 1])) ∨ (nameOk name = true ∧ find d name = none ∧ e = .returned (.tuple #[.pointer none, .int .i64 2])) ∨ (nameOk name = true ∧ ∃ j, find d name = some j ∧ j < d.nods.length ∧ e = .returned (.tuple #[.pointer (some ⟨gs.getD j 0, 0, none⟩), .int .i64 0]))
theorem FoundI.bad {d : Dsk} {gs : List Nat} {name : ByteArray} (h : nameOk name = false) : FoundI d gs name (.returned (.tuple #[.pointer none, .int .i64 1])) := .inl ⟨h, rfl⟩
theorem FoundI.no {d : Dsk} {gs : List Nat} {name : ByteArray} (h : nameOk name = true) (hf : find d name = none) : FoundI d gs name (.returned (.tuple #[.pointer none, .int .i64 2])) := .inr (.inl ⟨h, hf, rfl⟩)
theorem FoundI.yes {d : Dsk} {gs : List Nat} {name : ByteArray} (h : nameOk name = true) {j : Nat} (hf : find d name = some j) (hj : j < d.nods.length) {gj : Nat} (hg : gs.getD j 0 = gj) : FoundI d gs name (.returned (.tuple #[.pointer (some ⟨gj, 0, none⟩), .int .i64 0])) := .inr (.inr ⟨h, j, hf, hj, by rw [hg]⟩)

set_option maxHeartbeats 1000000 in
theorem findI (w : World) (base p : Nat) (d : Dsk) (bi bd bw : Nat) (gs : List Nat) (u : Value) (name : ByteArray) (h : OpenD w base p d bi bd bw gs u) (hd : Whole d) (hs : name.size ≤ maxLen) :
    Calls Tryz.prog 86 #[.pointer (some ⟨p, 0, none⟩), .string name] w fun e w' => w = w' ∧ FoundI d gs name e := by
  have c1 := isNameV name w (by unfold maxLen at hs; omega)
  cases hno : nameOk name with
  | false =>
    rw [hno] at c1
    have HNO : Hid (nameOk name = false) := hno
    clear h hno
    go_enter Tryz.func86, Tryz.ntmps86
    go_wp2_with fail
    refine c1.mono ?_
    rintro e w1 ⟨rfl, rfl⟩
    go_wp2_with fail
    go_ret2
    exact ⟨rfl, FoundI.bad HNO.out⟩
  | true =>
    rw [hno] at c1
    have HNO : Hid (nameOk name = true) := hno
    have y5 := h.blk.cell 5 _ rfl
    have y2 := h.blk.cell 2 _ rfl
    rcases hat : linkAt (now d) name with _ | i
    · have HF : Hid (find d name = none) := find_no hat
      have r1 := (h.nw.look name hs).1 hat
      clear h hat hno
      go_enter Tryz.func86, Tryz.ntmps86
      go_wp2_with fail
      refine c1.mono ?_
      rintro e w1 ⟨rfl, rfl⟩
      go_wp2_with fail
      go_ret2
      exact ⟨rfl, FoundI.no HNO.out HF.out⟩
    · obtain ⟨j, hj, hf, hjl⟩ := find_link hd hat
      have HF : Hid (find d name = some j ∧ j < d.nods.length) := ⟨hf, hjl⟩
      have r1 := (h.nw.look name hs).2 i hat
      have hio : IntOk ((now d).getD i default).id := by
        have h1 := nod_ids hd _ (getD_mem d.nods j hjl)
        rw [(nodAt_at hj).2] at h1
        exact ⟨by omega, by omega⟩
      have r2 := (h.it.val _ hio).2 _ (ptr_nod h.held.len hj)
      clear h hat hno hj hf hjl hio
      generalize ((now d).getD i default).id = li at *
      generalize hgj : gs.getD j 0 = gj at *
      have HGJ : Hid (gs.getD j 0 = gj) := hgj
      clear hgj
      go_enter Tryz.func86, Tryz.ntmps86
      go_wp2_with fail
      refine c1.mono ?_
      rintro e w1 ⟨rfl, rfl⟩
      go_wp2_with fail
      go_ret2
      exact ⟨rfl, FoundI.yes HNO.out HF.out.1 HF.out.2 HGJ.out⟩
end Go.Proofs.YtnnfnhpehacelaaGreat
