/-
  The contract of spec.l4Named.
-/
import Derived.Test.YtnnfnhpehacelaaGreatRows
import Derived.Test.YtnnfnhpehacelaaGreatDkFind
namespace Go.Proofs.YtnnfnhpehacelaaGreat
open Go.ChangeShapes Go.WideShapes Go.ChangeAt Go.RowKit Go.PlainAid
set_option linter.unusedVariables false

/-- The code of a call that needs a name that is there now. -/
def named (d : Dsk) (name : ByteArray) : Int := if nameOk name = false then 1 else if find d name = none then 2 else 0
theorem idxV_neg (o : Option Nat) : (idxV o < 0) ↔ o = none := by
  cases o with
  | none => simp [idxV]
  | some i => simp [idxV]

set_option maxRecDepth 20000 in
set_option maxHeartbeats 1000000 in
theorem namedV (d : Dsk) (v : Value) (name : ByteArray) (w : World) (B : Nat) (hv : DiskV w B v d) (hf : Fits d) (hs : name.size ≤ 9223372036854775807) (hn : d.dir.length + d.movs.length ≤ 1048575) (hnn : d.nods.length ≤ 1048576) (hB : B ≤ w.heap.size) :
    Calls Tryz.prog 49 #[v, .string name] w fun e w' => e = .returned (.int .i64 (named d name)) ∧ Below w.heap.size w w' := by
  have HV : Hid (DiskV w B v d) := hv
  have HF : Hid (Fits d) := hf
  have HB : Hid (B ≤ w.heap.size) := hB
  have HN : Hid (d.dir.length + d.movs.length ≤ 1048575) := hn
  have HNN : Hid (d.nods.length ≤ 1048576) := hnn
  have c2 := fun wx => nameV name wx hs
  obtain ⟨v1, v2, v3, rfl, h1, h2, h3⟩ := hv
  clear h1 h2 h3 hf hB hn hnn hs
  have cF := fun wx hx hb => findV d (.agg #[.int .i64 d.room, .int .i64 d.next, v1, v2, v3]) name wx B hx HF.out HN.out HNN.out hb
  go_enter Tryz.func49, Tryz.ntmps49
  go_wp2_with fail
  have hb0 : Below w.heap.size w (w.alloc (.cells #[.int .i64 d.room, .int .i64 d.next, v1, v2, v3] 35)) := (Below.refl _ _).alloc (Nat.le_refl _) _
  have K0 := Blk.new w #[.int .i64 d.room, .int .i64 d.next, v1, v2, v3] 35
  generalize w.alloc (.cells #[.int .i64 d.room, .int .i64 d.next, v1, v2, v3] 35) = W at *
  have B0 : Hid (Below w.heap.size w W) := hb0
  have y0 := K0.cell 0 _ rfl
  have y1 := K0.cell 1 _ rfl
  have y2 := K0.cell 2 _ rfl
  have y3 := K0.cell 3 _ rfl
  have y4 := K0.cell 4 _ rfl
  clear hb0 K0
  refine (c2 W).mono ?_
  rintro e w1 ⟨rfl, rfl⟩
  clear c2
  cases hno : nameOk name with
  | false =>
    go_wp2_with fail
    go_ret
    exact ⟨by unfold named; rw [if_pos hno]; rfl, B0.out⟩
  | true =>
    go_wp2_with fail
    refine (cF W (HV.out.on (B0.out.mono HB.out)) (Nat.le_trans HB.out B0.out.size)).mono ?_
    rintro e w2 ⟨rfl, hb⟩
    have B2 : Hid (Below w.heap.size w w2) := B0.out.trans (hb.mono B0.out.size)
    have hno' : Hid (¬ nameOk name = false) := by unfold Hid; rw [hno]; simp
    clear hb cF
    by_cases hfd : find d name = none
    · rw [hfd]
      have e1 : idxV (none : Option Nat) = -1 := rfl
      rw [e1]
      go_wp2_with fail
      go_ret
      exact ⟨by unfold named; rw [if_neg hno'.out, if_pos hfd]; rfl, B2.out⟩
    · have j1 : decide (idxV (find d name) < 0) = false := decide_eq_false fun h => hfd ((idxV_neg _).1 h)
      generalize idxV (find d name) = ix at *
      go_wp2_with fail
      go_ret
      exact ⟨by unfold named; rw [if_neg hno'.out, if_neg hfd]; rfl, B2.out⟩
end Go.Proofs.YtnnfnhpehacelaaGreat
