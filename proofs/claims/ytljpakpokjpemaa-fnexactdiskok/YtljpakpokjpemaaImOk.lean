/-
  The contract of impl.DiskOk.
-/
import Derived.Test.YtljpakpokjpemaaRows
import Derived.Test.YtljpakpokjpemaaImOpen
namespace Go.Proofs.Ytljpakpokjpemaa
open Go.ChangeShapes Go.WideShapes Go.ChangeAt Go.RowKit Go.PlainAid Go.Maps
set_option linter.unusedVariables false

set_option maxHeartbeats 1000000 in
theorem implOkV (d : Dsk) (v : Value) (w : World) (B : Nat) (hv : DiskV w B v d) (hf : Fits d) (hi : Ints d) (hw : wtD d ≤ 1048576) (hB : B ≤ w.heap.size) :
    Calls Try.prog 15 #[v] w fun e w' => e = .returned (.bool (diskOk d)) ∧ Below w.heap.size w w' := by
  have HV : Hid (DiskV w B v d) := hv
  have HB : Hid (B ≤ w.heap.size) := hB
  obtain ⟨v1, v2, v3, rfl, h1, h2, h3⟩ := hv
  have cO := fun wx hx hb => openedV d (.agg #[.int .i64 d.room, .int .i64 d.next, v1, v2, v3]) wx B hx hf hi hw hb
  clear h1 h2 h3 hB hf hi hw
  go_enter Try.func15, Try.ntmps15
  go_wp2_with fail
  have hb0 : Below w.heap.size w (w.alloc (.cells #[.int .i64 d.room, .int .i64 d.next, v1, v2, v3] 26)) := (Below.refl _ _).alloc (Nat.le_refl _) _
  generalize w.alloc (.cells #[.int .i64 d.room, .int .i64 d.next, v1, v2, v3] 26) = W at *
  have B0 : Hid (Below w.heap.size w W) := hb0
  clear hb0
  refine (cO W (HV.out.on (B0.out.mono HB.out)) (Nat.le_trans HB.out B0.out.size)).mono ?_
  rintro e w1 ⟨hb, h⟩
  have B1 : Hid (Below w.heap.size w w1) := B0.out.trans (hb.mono B0.out.size)
  clear hb cO
  rcases h with ⟨hn, rfl⟩ | ⟨hy, p, bi, bd, bw, gs, u, rfl, _⟩
  · have HN : Hid (diskOk d = false) := hn
    clear hn
    go_wp2_with fail
    go_ret
    exact ⟨by rw [HN.out]; rfl, B1.out⟩
  · have HN : Hid (diskOk d = true) := hy
    clear hy
    go_wp2_with fail
    go_ret
    exact ⟨by rw [HN.out]; rfl, B1.out⟩
end Go.Proofs.Ytljpakpokjpemaa
