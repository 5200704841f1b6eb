/-
  The walk of FnExactRoutes.
-/
import Derived.Test.YtfloihegggkonaaRows
import Derived.Test.YtfloihegggkonaaRtSpec
import Derived.Test.YtfloihegggkonaaBkLaw
namespace Go.Proofs.Ytfloihegggkonaa
open Go.ChangeShapes Go.WideShapes Go.ChangeAt Go.RowKit Go.PlainAid
set_option linter.unusedVariables false

/-- No block is both slices'. -/
def ApartB (u v : Value) : Prop := ∀ g, u.ownBlock = some g → v.ownBlock ≠ some g
theorem ApartB.of {w w' : World} {base base' : Nat} {e e' : TypeId} {sz sz' : Nat} {u v : Value} {r r' : List (List Value)} (h : Owns w base e sz u r) (h' : Owns w' base' e' sz' v r') (hb : w.heap.size ≤ base') : ApartB u v := fun g hg hv => by
  have h1 := (h.lt g hg).2
  have h2 := (h'.lt g hv).1
  omega
/-- What both packages answer at the text s. -/
def RtAns (s : ByteArray) (l : List Pnt) (ok : Bool) : Prop := (ok = true ∧ RtA s l) ∨ (ok = false ∧ l = [] ∧ ∀ m, ¬ RtA s m)
theorem RtAns.one {s : ByteArray} {l m : List Pnt} {a b : Bool} (h : RtAns s l a) (h' : RtAns s m b) : l = m ∧ a = b := by
  rcases h with ⟨rfl, h⟩ | ⟨rfl, rfl, h⟩ <;> rcases h' with ⟨rfl, h'⟩ | ⟨rfl, rfl, h'⟩
  · exact ⟨h.one h', rfl⟩
  · exact absurd h (h' _)
  · exact absurd h' (h _)
  · exact ⟨rfl, rfl⟩
theorem RtAns.len {s : ByteArray} {l : List Pnt} {a : Bool} (h : RtAns s l a) : l.length ≤ 60 := by
  rcases h with ⟨rfl, _, _, _, h, _⟩ | ⟨rfl, rfl, h⟩
  · omega
  · simp
theorem specRoutesA (s : ByteArray) (w : World) (hs : s.size ≤ 1048576) : Calls Try.prog 15 #[.string s] w fun e w' => (∃ u l ok, RtAns s l ok ∧ e = .returned (.tuple #[u, .bool ok]) ∧ Owns w' w.heap.size 57 2 u (ptR l)) ∧ Below w.heap.size w w' := by
  refine (specRoutes s w hs).mono ?_
  rintro e w' ⟨h, hb⟩
  refine ⟨?_, hb⟩
  rcases h with ⟨l, u, h1, h2, h3⟩ | ⟨h1, u, h2, h3⟩
  · exact ⟨u, l, true, .inl ⟨rfl, h1⟩, h2, h3⟩
  · exact ⟨u, [], false, .inr ⟨rfl, rfl, h1⟩, h2, h3⟩
theorem implRoutesA (s : ByteArray) (w : World) (hs : s.size ≤ 1048576) : Calls Try.prog 16 #[.string s] w fun e w' => (∃ u l ok, RtAns s l ok ∧ e = .returned (.tuple #[u, .bool ok]) ∧ Owns w' w.heap.size 57 2 u (ptR l)) ∧ Below w.heap.size w w' := by
  refine (implRoutes s w hs).mono ?_
  rintro e w' ⟨h, hb⟩
  refine ⟨?_, hb⟩
  rcases h with ⟨l, u, h1, h2, h3⟩ | ⟨h1, u, h2, h3⟩
  · exact ⟨u, l, true, .inl ⟨rfl, h1⟩, h2, h3⟩
  · exact ⟨u, [], false, .inr ⟨rfl, rfl, h1⟩, h2, h3⟩
set_option maxHeartbeats 2000000 in
theorem law_fnExactRoutes (s : ByteArray) (w : World) (hs : s.size ≤ maxLen) : Calls Try.prog 5 #[.string s] w fun e w' => e = .returned (.bool true) ∧ Below w.heap.size w w' := by
  unfold maxLen at hs
  by_cases hbig : (1048576 : Int) < (s.size : Int)
  · go_enter Try.func5, Try.ntmps5
    go_wp2_with fail
    go_ret
    exact ⟨rfl, Below.refl _ _⟩
  have cS := specRoutesA s w (by omega)
  have cI := fun wx (hx : Below w.heap.size w wx) => implRoutesA s wx (by omega)
  have q1 : (s.size : Int) ≤ 1048576 := by omega
  clear hbig
  go_enter Try.func5, Try.ntmps5
  go_wp2_with fail
  refine cS.mono ?_
  rintro e w1 ⟨⟨us, l, ok, hA1, rfl, hO⟩, hb⟩
  have HA : Hid (RtAns s l ok) := hA1
  have LL : Hid (l.length ≤ 60) := hA1.len
  have B1 : Hid (Below w.heap.size w w1) := hb
  have OS1 : Hid (Owns w1 w.heap.size 57 2 us (ptR l)) := hO
  clear hA1 hO hb cS
  go_wp2_with fail
  refine (cI w1 B1.out).mono ?_
  rintro e w2 ⟨⟨ug, l2, ok2, hA2, rfl, hO⟩, hb⟩
  obtain ⟨rfl, rfl⟩ := HA.out.one hA2
  have B2 : Hid (Below w.heap.size w w2) := B1.out.trans (hb.mono B1.out.size)
  have OS2 : Hid (Owns w2 w.heap.size 57 2 us (ptR l)) := OS1.out.on hb
  have OG2 : Hid (Owns w2 w1.heap.size 57 2 ug (ptR l)) := hO
  have Aug : Hid (ApartB us ug) := ApartB.of OS1.out hO (Nat.le_refl _)
  have Zg : Hid (w.heap.size ≤ w1.heap.size) := B1.out.size
  have hbb : (ok != ok) = false := by cases ok <;> rfl
  clear hA2 hO hb OS1
  have cE := eqBucketS l ug us w2 w2.heap.size OG2.out.lies OS2.out.lies (by have := LL.out; omega) (Nat.le_refl _)
  go_wp2_with fail
  refine cE.mono ?_
  rintro e w3 ⟨rfl, hb⟩
  have B3 : Hid (Below w.heap.size w w3) := B2.out.trans (hb.mono B2.out.size)
  have OS3 : Hid (Owns w3 w.heap.size 57 2 us (ptR l)) := OS2.out.on hb
  have OG3 : Hid (Owns w3 w1.heap.size 57 2 ug (ptR l)) := OG2.out.on hb
  clear hb cE OS2 OG2
  have cM := markBucketS 1 w1.heap.size ug (ptR l) w3 OG3.out (by rw [ptR_length]; have := LL.out; omega) (by omega)
  rw [ptR_length] at cM
  go_wp2_with fail
  refine cM.mono ?_
  rintro e w4 ⟨rfl, hO, hb, hk⟩
  have B4 : Hid (Below w.heap.size w w4) := B3.out.trans (hb.mono Zg.out)
  have OS4 : Hid (Owns w4 w.heap.size 57 2 us (ptR l)) := OS3.out.kept fun g _ ho => hk g (Aug.out g ho)
  have OG4 : Hid (Owns w4 w1.heap.size 57 2 ug (newR (mkPt 1) l.length)) := hO
  clear hO hb hk cM OS3 OG3
  generalize hln : l.length = ln at *
  have cH := fun wx B hx => heldBucketS 1 ln ug wx B hx (by have := LL.out; omega) (by omega)
  have q9 : ((1 + 2 * ln : Nat) : Int) ≤ 200 := by have := LL.out; omega
  have q8 : decide (((1 + 2 * ln : Nat) : Int) < 0) = false := decide_eq_false (by omega)
  generalize ((1 + 2 * ln : Nat) : Int) = mm at *
  go_wp2_with fail
  refine (cH w4 _ OG4.out.lies).mono ?_
  rintro e w' ⟨rfl, rfl⟩
  go_wp2_with fail
  refine (cI w4 B4.out).mono ?_
  rintro e w5 ⟨⟨uh, l3, ok3, hA3, rfl, hO⟩, hb⟩
  obtain ⟨rfl, rfl⟩ := HA.out.one hA3
  have B5 : Hid (Below w.heap.size w w5) := B4.out.trans (hb.mono B4.out.size)
  have OS5 : Hid (Owns w5 w.heap.size 57 2 us (ptR l)) := OS4.out.on hb
  have OG5 : Hid (Owns w5 w1.heap.size 57 2 ug (newR (mkPt 1) ln)) := OG4.out.on hb
  have cE := eqBucketS l uh us w5 w5.heap.size hO.lies OS5.out.lies (by have := LL.out; omega) (Nat.le_refl _)
  clear hA3 hO hb OS4 OG4
  go_wp2_with fail
  refine cE.mono ?_
  rintro e w6 ⟨rfl, hb⟩
  have B6 : Hid (Below w.heap.size w w6) := B5.out.trans (hb.mono B5.out.size)
  have OG6 : Hid (Owns w6 w1.heap.size 57 2 ug (newR (mkPt 1) ln)) := OG5.out.on hb
  clear hb cE
  go_wp2_with fail
  refine (cH w6 _ OG6.out.lies).mono ?_
  rintro e w' ⟨rfl, rfl⟩
  go_wp2_with fail
  go_ret
  exact ⟨rfl, B6.out⟩
end Go.Proofs.Ytfloihegggkonaa
