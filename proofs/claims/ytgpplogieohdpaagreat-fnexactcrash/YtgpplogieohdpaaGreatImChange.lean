/-
  The contract of impl.changed, for whatever change.
-/
import Derived.Test.YtgpplogieohdpaaGreatRows
import Derived.Test.YtgpplogieohdpaaGreatImToldO
import Derived.Test.YtgpplogieohdpaaGreatImOpen
namespace Go.Proofs.YtgpplogieohdpaaGreat
open Go.ChangeShapes Go.WideShapes Go.ChangeAt Go.RowKit Go.PlainAid
set_option linter.unusedVariables false

/-- An open disk that can be told. -/
structure Tellable (w : World) (p : Nat) (d : Dsk) : Prop where
  ex : ∃ bi bd gs u vw, Blk w p #[.int .i64 d.room, .int .i64 d.next, .map (some bi), .map (some bd), u, vw] 61 ∧ IT w bi (prs d.nods gs) ∧ Held w d.nods gs ∧ NT w bd d.dir ∧ Lies w w.heap.size 4 u (movR d.movs)
  rise : Rising d.nods
  sorted : Sorted d.dir
  ok : NamesOk d.dir
  n1 : d.nods.length ≤ 1000
  n2 : d.dir.length ≤ 1000
  n3 : d.movs.length ≤ 1000
  nx : ∀ x ∈ d.nods, IntOk x.id ∧ x.data.size ≤ 281474976710656
  mx : ∀ x ∈ d.movs, x.name.size ≤ 281474976710656 ∧ x.to.size ≤ 281474976710656
theorem tellV {w : World} {p : Nat} {d : Dsk} (h : Tellable w p d) : Calls Tryz.prog 27 #[.pointer (some ⟨p, 0, none⟩)] w fun e w' => ∃ v, e = .returned v ∧ DiskO w' w.heap.size v d ∧ Below w.heap.size w w' := by
  obtain ⟨bi, bd, gs, u, vw, h1, h2, h3, h4, h5⟩ := h.ex
  exact toldO d.room d.next vw p bi bd d.nods gs d.dir d.movs u w h1 h2 h3 h.rise h4 h.sorted h.ok h5 h.n1 h.n2 h.n3 h.nx h.mx
theorem wt_data {l : List Nod} : ∀ x ∈ l, x.data.size ≤ wtN l := by
  induction l with
  | nil => intro x hx; cases hx
  | cons y r ih =>
    intro x hx
    unfold wtN wtN1
    rcases List.mem_cons.1 hx with rfl | hx
    · omega
    · have := ih x hx
      omega
theorem wt_movs {l : List Mov} : ∀ x ∈ l, x.name.size + x.to.size ≤ wtM l := by
  induction l with
  | nil => intro x hx; cases hx
  | cons y r ih =>
    intro x hx
    unfold wtM wtM1
    rcases List.mem_cons.1 hx with rfl | hx
    · omega
    · have := ih x hx
      omega
theorem whole_rising {d : Dsk} (hd : Whole d) : Rising d.nods := by
  have h := take_of_whole hd
  unfold takeOk at h
  simp only [Bool.and_eq_true] at h
  have := (take_rising (Nat.le_refl _) (all_of h.1.2)).1
  rw [List.take_length] at this
  exact this
theorem OpenD.tell {w : World} {base p : Nat} {d : Dsk} {bi bd bw : Nat} {gs : List Nat} {u : Value} (h : OpenD w base p d bi bd bw gs u) (hd : Whole d) (hw : wtD d ≤ 1048576) : Tellable w p d := by
  have hR := (sizeOk_iff d).1 hd.size
  have hl := dir_linked hd
  refine ⟨⟨bi, bd, gs, u, _, h.blk, h.it, h.held, h.nd, h.mv.lies⟩, whole_rising hd, hl.sorted, hl.ok, by have := hR.n; omega, by have := hR.l; omega, by have := hR.m; omega, fun x hx => ?_, fun x hx => ?_⟩
  · have h1 := nod_ids hd x hx
    have h2 := wt_data x hx
    unfold wtD at hw
    exact ⟨⟨by omega, by omega⟩, by omega⟩
  · have h2 := wt_movs x hx
    unfold wtD at hw
    exact ⟨by omega, by omega⟩
def zeroD : Dsk := ⟨0, 0, [], [], []⟩

end Go.Proofs.YtgpplogieohdpaaGreat
