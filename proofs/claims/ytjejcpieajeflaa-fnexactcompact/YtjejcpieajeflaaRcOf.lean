/-
  Contracts of impl.recordOf and impl.RecOk: the record where it is right, else nil.
-/
import Derived.Test.YtjejcpieajeflaaRows
import Derived.Test.YtjejcpieajeflaaRcImpl
import Derived.Deep.RegionWith
import Derived.Handy
namespace Go.Proofs.Ytjejcpieajeflaa
open Go.ChangeShapes Go.WideShapes Go.ChangeAt Go.RowKit Go.PlainAid
set_option linter.unusedVariables false

/-- The record that recordOf tells. -/
def recV (r : Rcd) : Value := if recOk r = true then kindV r else .nilIface
/-- What a kind does not name is zero. -/
def rest0 (k t i v : Int) (d : ByteArray) : Bool :=
  if k = 1 then decide (i = 0) && decide (d = ByteArray.empty) else if k = 2 then decide (v = 0)
  else if k = 3 then decide (t = 0) && decide (v = 0) && decide (d = ByteArray.empty) else decide (v = 0) && decide (d = ByteArray.empty)
theorem recOk_iff (k t i v : Int) (d : ByteArray) : recOk ⟨k, t, i, v, d⟩ = (bnd k t i v d.size && rest0 k t i v d) := by
  rw [Bool.eq_iff_iff]
  unfold recOk bnd rest0 based inIt
  have hz : d = ByteArray.empty → (d.size : Int) = 0 := fun h => by subst h; rfl
  by_cases k1 : k = 1
  · subst k1
    simp
    constructor <;> intro h <;> simp [h]
  by_cases k2 : k = 2
  · subst k2
    simp
    omega
  by_cases k3 : k = 3
  · subst k3
    simp
    constructor <;> intro h <;> simp [h]
  by_cases k4 : k = 4
  · subst k4
    by_cases hd : d = ByteArray.empty
    · have := hz hd
      by_cases hi : i = 0
      · subst hi
        simp [hd]
      · simp [hd, hi]
        omega
    · simp [hd]
  · simp [k1, k2, k3, k4]
theorem empty_eqs (d : ByteArray) : ([] == d.toList) = decide (d = ByteArray.empty) := by
  rw [← empty_beq]
  cases d.toList <;> rfl

set_option maxHeartbeats 1000000 in
theorem recordOf_no (k t i v : Int) (d : ByteArray) (w : World) (hd : d.size ≤ maxLen) (hn : bnd k t i v d.size = false) : Calls Try.prog 97 #[.agg #[.int .i64 k, .int .i64 t, .int .i64 i, .int .i64 v, .string d]] w fun e w' => e = .returned .nilIface ∧ Below w.heap.size w w' := by
  have c1 := fun wx => inBoundsV k t i v d wx hd
  rw [hn] at c1
  have hb0 : Below w.heap.size w (w.alloc (.cells #[.int .i64 k, .int .i64 t, .int .i64 i, .int .i64 v, .string d] 91)) := (Below.refl _ _).alloc (Nat.le_refl _) _
  go_enter Try.func97, Try.ntmps97
  go_wp2_with fail
  generalize w.alloc (.cells #[.int .i64 k, .int .i64 t, .int .i64 i, .int .i64 v, .string d] 91) = W at *
  refine (c1 _).mono ?_
  rintro e w1 ⟨rfl, hb1⟩
  have B1 : Hid (Below w.heap.size w w1) := hb0.trans (hb1.mono hb0.size)
  clear hb0 hb1 c1
  go_wp2_with fail
  go_ret
  exact ⟨rfl, B1.out⟩

set_option maxHeartbeats 2000000 in
theorem recordOf_hard (t i v : Int) (d : ByteArray) (w : World) (hd : d.size ≤ maxLen) (hn : bnd 1 t i v d.size = true) : Calls Try.prog 97 #[.agg #[.int .i64 1, .int .i64 t, .int .i64 i, .int .i64 v, .string d]] w fun e w' => e = .returned (recV ⟨1, t, i, v, d⟩) ∧ Below w.heap.size w w' := by
  have HE : Hid (recV ⟨1, t, i, v, d⟩ = if (decide (i = 0) && decide (d = ByteArray.empty)) = true then kindV ⟨1, t, i, v, d⟩ else .nilIface) := by unfold Hid recV; rw [recOk_iff, hn, Bool.true_and]; rfl
  have c1 := fun wx => inBoundsV 1 t i v d wx hd
  rw [hn] at c1
  have c2 := fun wx => kindOfV 1 t i v d wx
  have c3 := fun wx => hardRec t v wx
  have hb0 : Below w.heap.size w (w.alloc (.cells #[.int .i64 1, .int .i64 t, .int .i64 i, .int .i64 v, .string d] 91)) := (Below.refl _ _).alloc (Nat.le_refl _) _
  have k0 := Blk.new w #[.int .i64 1, .int .i64 t, .int .i64 i, .int .i64 v, .string d] 91
  clear hd hn
  go_enter Try.func97, Try.ntmps97
  go_wp2_with fail
  generalize w.alloc (.cells #[.int .i64 1, .int .i64 t, .int .i64 i, .int .i64 v, .string d] 91) = W at *
  refine (c1 _).mono ?_
  rintro e w1 ⟨rfl, hb1⟩
  have B1 : Hid (Below w.heap.size w w1) := hb0.trans (hb1.mono hb0.size)
  have k1 := k0.on hb1 k0.lt
  clear hb0 hb1 c1 k0
  have e0 := k1.cell 0 (.int .i64 1) rfl
  have e1 := k1.cell 1 (.int .i64 t) rfl
  have e2 := k1.cell 2 (.int .i64 i) rfl
  have e3 := k1.cell 3 (.int .i64 v) rfl
  have e4 := k1.cell 4 (.string d) rfl
  have K1 : Hid (Blk w1 w.heap.size _ _) := k1
  clear k1
  go_wp2_with fail
  refine (c2 _).mono ?_
  rintro e w2 ⟨rfl, hb2⟩
  have B2 : Hid (Below w.heap.size w w2) := B1.out.trans (hb2.mono B1.out.size)
  have k2 := K1.out.on hb2 K1.out.lt
  have hlt : w.heap.size < w2.heap.size := k2.lt
  clear hb2 e0 e1 e2 e3 e4 K1 B1
  have e0 := k2.cell 0 (.int .i64 1) rfl
  have e1 := k2.cell 1 (.int .i64 t) rfl
  have e2 := k2.cell 2 (.int .i64 i) rfl
  have e3 := k2.cell 3 (.int .i64 v) rfl
  have e4 := k2.cell 4 (.string d) rfl
  clear k2 c2
  rw [show kindV ⟨1, t, i, v, d⟩ = .iface 116 (.agg #[.int .i64 t, .int .i64 v]) from rfl]
  by_cases hzi : i = 0
  · subst hzi
    rw [decide_eq_true rfl] at HE
    have hb1 := empty_beq d
    have hb2 := empty_eqs d
    cases hdd : decide (d = ByteArray.empty) <;> rw [hdd] at hb1 hb2 HE <;> clear hdd
    · have HE : Hid (recV ⟨1, t, 0, v, d⟩ = .nilIface) := by unfold Hid; rw [HE.out]; rfl
      go_wp2_with fail
      go_region_with (go_at_call 128; refine (c3 _).mono ?_; rintro e w3 ⟨rfl, hb3⟩; have a0 := (hb3.cell (p := ⟨w.heap.size, 0, none⟩) hlt).trans e0; have a1 := (hb3.cell (p := ⟨w.heap.size, 1, none⟩) hlt).trans e1; have a2 := (hb3.cell (p := ⟨w.heap.size, 2, none⟩) hlt).trans e2; have a3 := (hb3.cell (p := ⟨w.heap.size, 3, none⟩) hlt).trans e3; have a4 := (hb3.cell (p := ⟨w.heap.size, 4, none⟩) hlt).trans e4)
      all_goals go_wp2_with fail
      all_goals go_ret
      all_goals exact ⟨by rw [HE.out]; first | rfl | simp [kindV], B2.out.trans (((Below.refl _ w2).drew.trans hb3).mono B2.out.size)⟩
    · have HE : Hid (recV ⟨1, t, 0, v, d⟩ = kindV ⟨1, t, 0, v, d⟩) := by unfold Hid; rw [HE.out]; rfl
      go_wp2_with fail
      go_region_with (go_at_call 128; refine (c3 _).mono ?_; rintro e w3 ⟨rfl, hb3⟩; have a0 := (hb3.cell (p := ⟨w.heap.size, 0, none⟩) hlt).trans e0; have a1 := (hb3.cell (p := ⟨w.heap.size, 1, none⟩) hlt).trans e1; have a2 := (hb3.cell (p := ⟨w.heap.size, 2, none⟩) hlt).trans e2; have a3 := (hb3.cell (p := ⟨w.heap.size, 3, none⟩) hlt).trans e3; have a4 := (hb3.cell (p := ⟨w.heap.size, 4, none⟩) hlt).trans e4)
      all_goals go_wp2_with fail
      all_goals go_ret
      all_goals exact ⟨by rw [HE.out]; first | rfl | simp [kindV], B2.out.trans (((Below.refl _ w2).drew.trans hb3).mono B2.out.size)⟩
  · rw [decide_eq_false hzi] at HE
    have HE : Hid (recV ⟨1, t, i, v, d⟩ = .nilIface) := by unfold Hid; rw [HE.out]; first | rfl | simp
    have zi : ((0 : Int) == i) = false := by simpa using Ne.symm hzi
    go_wp2_with fail
    go_region_with (go_at_call 128; refine (c3 _).mono ?_; rintro e w3 ⟨rfl, hb3⟩; have a0 := (hb3.cell (p := ⟨w.heap.size, 0, none⟩) hlt).trans e0; have a1 := (hb3.cell (p := ⟨w.heap.size, 1, none⟩) hlt).trans e1; have a2 := (hb3.cell (p := ⟨w.heap.size, 2, none⟩) hlt).trans e2; have a3 := (hb3.cell (p := ⟨w.heap.size, 3, none⟩) hlt).trans e3; have a4 := (hb3.cell (p := ⟨w.heap.size, 4, none⟩) hlt).trans e4)
    all_goals go_wp2_with fail
    all_goals go_ret
    all_goals exact ⟨by rw [HE.out]; first | rfl | simp [kindV], B2.out.trans (((Below.refl _ w2).drew.trans hb3).mono B2.out.size)⟩

set_option maxHeartbeats 2000000 in
theorem recordOf_entry (t i v : Int) (d : ByteArray) (w : World) (hd : d.size ≤ maxLen) (hn : bnd 2 t i v d.size = true) : Calls Try.prog 97 #[.agg #[.int .i64 2, .int .i64 t, .int .i64 i, .int .i64 v, .string d]] w fun e w' => e = .returned (recV ⟨2, t, i, v, d⟩) ∧ Below w.heap.size w w' := by
  have HE : Hid (recV ⟨2, t, i, v, d⟩ = if (decide (v = 0)) = true then kindV ⟨2, t, i, v, d⟩ else .nilIface) := by unfold Hid recV; rw [recOk_iff, hn, Bool.true_and]; rfl
  have c1 := fun wx => inBoundsV 2 t i v d wx hd
  rw [hn] at c1
  have c2 := fun wx => kindOfV 2 t i v d wx
  have c3 := fun wx => entryRec i t d wx
  have hb0 : Below w.heap.size w (w.alloc (.cells #[.int .i64 2, .int .i64 t, .int .i64 i, .int .i64 v, .string d] 91)) := (Below.refl _ _).alloc (Nat.le_refl _) _
  have k0 := Blk.new w #[.int .i64 2, .int .i64 t, .int .i64 i, .int .i64 v, .string d] 91
  clear hd hn
  go_enter Try.func97, Try.ntmps97
  go_wp2_with fail
  generalize w.alloc (.cells #[.int .i64 2, .int .i64 t, .int .i64 i, .int .i64 v, .string d] 91) = W at *
  refine (c1 _).mono ?_
  rintro e w1 ⟨rfl, hb1⟩
  have B1 : Hid (Below w.heap.size w w1) := hb0.trans (hb1.mono hb0.size)
  have k1 := k0.on hb1 k0.lt
  clear hb0 hb1 c1 k0
  have e0 := k1.cell 0 (.int .i64 2) rfl
  have e1 := k1.cell 1 (.int .i64 t) rfl
  have e2 := k1.cell 2 (.int .i64 i) rfl
  have e3 := k1.cell 3 (.int .i64 v) rfl
  have e4 := k1.cell 4 (.string d) rfl
  have K1 : Hid (Blk w1 w.heap.size _ _) := k1
  clear k1
  go_wp2_with fail
  refine (c2 _).mono ?_
  rintro e w2 ⟨rfl, hb2⟩
  have B2 : Hid (Below w.heap.size w w2) := B1.out.trans (hb2.mono B1.out.size)
  have k2 := K1.out.on hb2 K1.out.lt
  have hlt : w.heap.size < w2.heap.size := k2.lt
  clear hb2 e0 e1 e2 e3 e4 K1 B1
  have e0 := k2.cell 0 (.int .i64 2) rfl
  have e1 := k2.cell 1 (.int .i64 t) rfl
  have e2 := k2.cell 2 (.int .i64 i) rfl
  have e3 := k2.cell 3 (.int .i64 v) rfl
  have e4 := k2.cell 4 (.string d) rfl
  clear k2 c2
  rw [show kindV ⟨2, t, i, v, d⟩ = .iface 118 (.agg #[.int .i64 i, .int .i64 t, .string d]) from rfl]
  by_cases hzv : v = 0
  · subst hzv
    rw [decide_eq_true rfl] at HE
    have HE : Hid (recV ⟨2, t, i, 0, d⟩ = kindV ⟨2, t, i, 0, d⟩) := by unfold Hid; rw [HE.out]; rfl
    go_wp2_with fail
    go_region_with (go_at_call 129; refine (c3 _).mono ?_; rintro e w3 ⟨rfl, hb3⟩; have a0 := (hb3.cell (p := ⟨w.heap.size, 0, none⟩) hlt).trans e0; have a1 := (hb3.cell (p := ⟨w.heap.size, 1, none⟩) hlt).trans e1; have a2 := (hb3.cell (p := ⟨w.heap.size, 2, none⟩) hlt).trans e2; have a3 := (hb3.cell (p := ⟨w.heap.size, 3, none⟩) hlt).trans e3; have a4 := (hb3.cell (p := ⟨w.heap.size, 4, none⟩) hlt).trans e4)
    all_goals go_wp2_with fail
    all_goals go_ret
    all_goals exact ⟨by rw [HE.out]; first | rfl | simp [kindV], B2.out.trans (((Below.refl _ w2).drew.trans hb3).mono B2.out.size)⟩
  · rw [decide_eq_false hzv] at HE
    have HE : Hid (recV ⟨2, t, i, v, d⟩ = .nilIface) := by unfold Hid; rw [HE.out]; first | rfl | simp
    have zv : ((0 : Int) == v) = false := by simpa using Ne.symm hzv
    go_wp2_with fail
    go_region_with (go_at_call 129; refine (c3 _).mono ?_; rintro e w3 ⟨rfl, hb3⟩; have a0 := (hb3.cell (p := ⟨w.heap.size, 0, none⟩) hlt).trans e0; have a1 := (hb3.cell (p := ⟨w.heap.size, 1, none⟩) hlt).trans e1; have a2 := (hb3.cell (p := ⟨w.heap.size, 2, none⟩) hlt).trans e2; have a3 := (hb3.cell (p := ⟨w.heap.size, 3, none⟩) hlt).trans e3; have a4 := (hb3.cell (p := ⟨w.heap.size, 4, none⟩) hlt).trans e4)
    all_goals go_wp2_with fail
    all_goals go_ret
    all_goals exact ⟨by rw [HE.out]; first | rfl | simp [kindV], B2.out.trans (((Below.refl _ w2).drew.trans hb3).mono B2.out.size)⟩

set_option maxHeartbeats 2000000 in
theorem recordOf_cut (t i v : Int) (d : ByteArray) (w : World) (hd : d.size ≤ maxLen) (hn : bnd 3 t i v d.size = true) : Calls Try.prog 97 #[.agg #[.int .i64 3, .int .i64 t, .int .i64 i, .int .i64 v, .string d]] w fun e w' => e = .returned (recV ⟨3, t, i, v, d⟩) ∧ Below w.heap.size w w' := by
  have HE : Hid (recV ⟨3, t, i, v, d⟩ = if (decide (t = 0) && decide (v = 0) && decide (d = ByteArray.empty)) = true then kindV ⟨3, t, i, v, d⟩ else .nilIface) := by unfold Hid recV; rw [recOk_iff, hn, Bool.true_and]; rfl
  have c1 := fun wx => inBoundsV 3 t i v d wx hd
  rw [hn] at c1
  have c2 := fun wx => kindOfV 3 t i v d wx
  have c3 := fun wx => cutRec i wx
  have hb0 : Below w.heap.size w (w.alloc (.cells #[.int .i64 3, .int .i64 t, .int .i64 i, .int .i64 v, .string d] 91)) := (Below.refl _ _).alloc (Nat.le_refl _) _
  have k0 := Blk.new w #[.int .i64 3, .int .i64 t, .int .i64 i, .int .i64 v, .string d] 91
  clear hd hn
  go_enter Try.func97, Try.ntmps97
  go_wp2_with fail
  generalize w.alloc (.cells #[.int .i64 3, .int .i64 t, .int .i64 i, .int .i64 v, .string d] 91) = W at *
  refine (c1 _).mono ?_
  rintro e w1 ⟨rfl, hb1⟩
  have B1 : Hid (Below w.heap.size w w1) := hb0.trans (hb1.mono hb0.size)
  have k1 := k0.on hb1 k0.lt
  clear hb0 hb1 c1 k0
  have e0 := k1.cell 0 (.int .i64 3) rfl
  have e1 := k1.cell 1 (.int .i64 t) rfl
  have e2 := k1.cell 2 (.int .i64 i) rfl
  have e3 := k1.cell 3 (.int .i64 v) rfl
  have e4 := k1.cell 4 (.string d) rfl
  have K1 : Hid (Blk w1 w.heap.size _ _) := k1
  clear k1
  go_wp2_with fail
  refine (c2 _).mono ?_
  rintro e w2 ⟨rfl, hb2⟩
  have B2 : Hid (Below w.heap.size w w2) := B1.out.trans (hb2.mono B1.out.size)
  have k2 := K1.out.on hb2 K1.out.lt
  have hlt : w.heap.size < w2.heap.size := k2.lt
  clear hb2 e0 e1 e2 e3 e4 K1 B1
  have e0 := k2.cell 0 (.int .i64 3) rfl
  have e1 := k2.cell 1 (.int .i64 t) rfl
  have e2 := k2.cell 2 (.int .i64 i) rfl
  have e3 := k2.cell 3 (.int .i64 v) rfl
  have e4 := k2.cell 4 (.string d) rfl
  clear k2 c2
  rw [show kindV ⟨3, t, i, v, d⟩ = .iface 120 (.agg #[.int .i64 i]) from rfl]
  by_cases hzt : t = 0
  · subst hzt
    rw [decide_eq_true rfl] at HE
    by_cases hzv : v = 0
    · subst hzv
      rw [decide_eq_true rfl] at HE
      have hb1 := empty_beq d
      have hb2 := empty_eqs d
      cases hdd : decide (d = ByteArray.empty) <;> rw [hdd] at hb1 hb2 HE <;> clear hdd
      · have HE : Hid (recV ⟨3, 0, i, 0, d⟩ = .nilIface) := by unfold Hid; rw [HE.out]; rfl
        go_wp2_with fail
        go_region_with (go_at_call 130; refine (c3 _).mono ?_; rintro e w3 ⟨rfl, hb3⟩; have a0 := (hb3.cell (p := ⟨w.heap.size, 0, none⟩) hlt).trans e0; have a1 := (hb3.cell (p := ⟨w.heap.size, 1, none⟩) hlt).trans e1; have a2 := (hb3.cell (p := ⟨w.heap.size, 2, none⟩) hlt).trans e2; have a3 := (hb3.cell (p := ⟨w.heap.size, 3, none⟩) hlt).trans e3; have a4 := (hb3.cell (p := ⟨w.heap.size, 4, none⟩) hlt).trans e4)
        all_goals go_wp2_with fail
        all_goals go_ret
        all_goals exact ⟨by rw [HE.out]; first | rfl | simp [kindV], B2.out.trans (((Below.refl _ w2).drew.trans hb3).mono B2.out.size)⟩
      · have HE : Hid (recV ⟨3, 0, i, 0, d⟩ = kindV ⟨3, 0, i, 0, d⟩) := by unfold Hid; rw [HE.out]; rfl
        go_wp2_with fail
        go_region_with (go_at_call 130; refine (c3 _).mono ?_; rintro e w3 ⟨rfl, hb3⟩; have a0 := (hb3.cell (p := ⟨w.heap.size, 0, none⟩) hlt).trans e0; have a1 := (hb3.cell (p := ⟨w.heap.size, 1, none⟩) hlt).trans e1; have a2 := (hb3.cell (p := ⟨w.heap.size, 2, none⟩) hlt).trans e2; have a3 := (hb3.cell (p := ⟨w.heap.size, 3, none⟩) hlt).trans e3; have a4 := (hb3.cell (p := ⟨w.heap.size, 4, none⟩) hlt).trans e4)
        all_goals go_wp2_with fail
        all_goals go_ret
        all_goals exact ⟨by rw [HE.out]; first | rfl | simp [kindV], B2.out.trans (((Below.refl _ w2).drew.trans hb3).mono B2.out.size)⟩
    · rw [decide_eq_false hzv] at HE
      have HE : Hid (recV ⟨3, 0, i, v, d⟩ = .nilIface) := by unfold Hid; rw [HE.out]; first | rfl | simp
      have zv : ((0 : Int) == v) = false := by simpa using Ne.symm hzv
      go_wp2_with fail
      go_region_with (go_at_call 130; refine (c3 _).mono ?_; rintro e w3 ⟨rfl, hb3⟩; have a0 := (hb3.cell (p := ⟨w.heap.size, 0, none⟩) hlt).trans e0; have a1 := (hb3.cell (p := ⟨w.heap.size, 1, none⟩) hlt).trans e1; have a2 := (hb3.cell (p := ⟨w.heap.size, 2, none⟩) hlt).trans e2; have a3 := (hb3.cell (p := ⟨w.heap.size, 3, none⟩) hlt).trans e3; have a4 := (hb3.cell (p := ⟨w.heap.size, 4, none⟩) hlt).trans e4)
      all_goals go_wp2_with fail
      all_goals go_ret
      all_goals exact ⟨by rw [HE.out]; first | rfl | simp [kindV], B2.out.trans (((Below.refl _ w2).drew.trans hb3).mono B2.out.size)⟩
  · rw [decide_eq_false hzt] at HE
    have HE : Hid (recV ⟨3, t, i, v, d⟩ = .nilIface) := by unfold Hid; rw [HE.out]; first | rfl | simp
    have zt : ((0 : Int) == t) = false := by simpa using Ne.symm hzt
    go_wp2_with fail
    go_region_with (go_at_call 130; refine (c3 _).mono ?_; rintro e w3 ⟨rfl, hb3⟩; have a0 := (hb3.cell (p := ⟨w.heap.size, 0, none⟩) hlt).trans e0; have a1 := (hb3.cell (p := ⟨w.heap.size, 1, none⟩) hlt).trans e1; have a2 := (hb3.cell (p := ⟨w.heap.size, 2, none⟩) hlt).trans e2; have a3 := (hb3.cell (p := ⟨w.heap.size, 3, none⟩) hlt).trans e3; have a4 := (hb3.cell (p := ⟨w.heap.size, 4, none⟩) hlt).trans e4)
    all_goals go_wp2_with fail
    all_goals go_ret
    all_goals exact ⟨by rw [HE.out]; first | rfl | simp [kindV], B2.out.trans (((Below.refl _ w2).drew.trans hb3).mono B2.out.size)⟩

set_option maxHeartbeats 2000000 in
theorem recordOf_base (t i v : Int) (d : ByteArray) (w : World) (hd : d.size ≤ maxLen) (hn : bnd 4 t i v d.size = true) : Calls Try.prog 97 #[.agg #[.int .i64 4, .int .i64 t, .int .i64 i, .int .i64 v, .string d]] w fun e w' => e = .returned (recV ⟨4, t, i, v, d⟩) ∧ Below w.heap.size w w' := by
  have HE : Hid (recV ⟨4, t, i, v, d⟩ = if (decide (v = 0) && decide (d = ByteArray.empty)) = true then kindV ⟨4, t, i, v, d⟩ else .nilIface) := by unfold Hid recV; rw [recOk_iff, hn, Bool.true_and]; rfl
  have c1 := fun wx => inBoundsV 4 t i v d wx hd
  rw [hn] at c1
  have c2 := fun wx => kindOfV 4 t i v d wx
  have c3 := fun wx => baseRec i t wx
  have hb0 : Below w.heap.size w (w.alloc (.cells #[.int .i64 4, .int .i64 t, .int .i64 i, .int .i64 v, .string d] 91)) := (Below.refl _ _).alloc (Nat.le_refl _) _
  have k0 := Blk.new w #[.int .i64 4, .int .i64 t, .int .i64 i, .int .i64 v, .string d] 91
  clear hd hn
  go_enter Try.func97, Try.ntmps97
  go_wp2_with fail
  generalize w.alloc (.cells #[.int .i64 4, .int .i64 t, .int .i64 i, .int .i64 v, .string d] 91) = W at *
  refine (c1 _).mono ?_
  rintro e w1 ⟨rfl, hb1⟩
  have B1 : Hid (Below w.heap.size w w1) := hb0.trans (hb1.mono hb0.size)
  have k1 := k0.on hb1 k0.lt
  clear hb0 hb1 c1 k0
  have e0 := k1.cell 0 (.int .i64 4) rfl
  have e1 := k1.cell 1 (.int .i64 t) rfl
  have e2 := k1.cell 2 (.int .i64 i) rfl
  have e3 := k1.cell 3 (.int .i64 v) rfl
  have e4 := k1.cell 4 (.string d) rfl
  have K1 : Hid (Blk w1 w.heap.size _ _) := k1
  clear k1
  go_wp2_with fail
  refine (c2 _).mono ?_
  rintro e w2 ⟨rfl, hb2⟩
  have B2 : Hid (Below w.heap.size w w2) := B1.out.trans (hb2.mono B1.out.size)
  have k2 := K1.out.on hb2 K1.out.lt
  have hlt : w.heap.size < w2.heap.size := k2.lt
  clear hb2 e0 e1 e2 e3 e4 K1 B1
  have e0 := k2.cell 0 (.int .i64 4) rfl
  have e1 := k2.cell 1 (.int .i64 t) rfl
  have e2 := k2.cell 2 (.int .i64 i) rfl
  have e3 := k2.cell 3 (.int .i64 v) rfl
  have e4 := k2.cell 4 (.string d) rfl
  clear k2 c2
  rw [show kindV ⟨4, t, i, v, d⟩ = .iface 122 (.agg #[.int .i64 i, .int .i64 t]) from rfl]
  by_cases hzv : v = 0
  · subst hzv
    rw [decide_eq_true rfl] at HE
    have hb1 := empty_beq d
    have hb2 := empty_eqs d
    cases hdd : decide (d = ByteArray.empty) <;> rw [hdd] at hb1 hb2 HE <;> clear hdd
    · have HE : Hid (recV ⟨4, t, i, 0, d⟩ = .nilIface) := by unfold Hid; rw [HE.out]; rfl
      go_wp2_with fail
      go_region_with (go_at_call 131; refine (c3 _).mono ?_; rintro e w3 ⟨rfl, hb3⟩; have a0 := (hb3.cell (p := ⟨w.heap.size, 0, none⟩) hlt).trans e0; have a1 := (hb3.cell (p := ⟨w.heap.size, 1, none⟩) hlt).trans e1; have a2 := (hb3.cell (p := ⟨w.heap.size, 2, none⟩) hlt).trans e2; have a3 := (hb3.cell (p := ⟨w.heap.size, 3, none⟩) hlt).trans e3; have a4 := (hb3.cell (p := ⟨w.heap.size, 4, none⟩) hlt).trans e4)
      all_goals go_wp2_with fail
      all_goals go_ret
      all_goals exact ⟨by rw [HE.out]; first | rfl | simp [kindV], B2.out.trans (((Below.refl _ w2).drew.trans hb3).mono B2.out.size)⟩
    · have HE : Hid (recV ⟨4, t, i, 0, d⟩ = kindV ⟨4, t, i, 0, d⟩) := by unfold Hid; rw [HE.out]; rfl
      go_wp2_with fail
      go_region_with (go_at_call 131; refine (c3 _).mono ?_; rintro e w3 ⟨rfl, hb3⟩; have a0 := (hb3.cell (p := ⟨w.heap.size, 0, none⟩) hlt).trans e0; have a1 := (hb3.cell (p := ⟨w.heap.size, 1, none⟩) hlt).trans e1; have a2 := (hb3.cell (p := ⟨w.heap.size, 2, none⟩) hlt).trans e2; have a3 := (hb3.cell (p := ⟨w.heap.size, 3, none⟩) hlt).trans e3; have a4 := (hb3.cell (p := ⟨w.heap.size, 4, none⟩) hlt).trans e4)
      all_goals go_wp2_with fail
      all_goals go_ret
      all_goals exact ⟨by rw [HE.out]; first | rfl | simp [kindV], B2.out.trans (((Below.refl _ w2).drew.trans hb3).mono B2.out.size)⟩
  · rw [decide_eq_false hzv] at HE
    have HE : Hid (recV ⟨4, t, i, v, d⟩ = .nilIface) := by unfold Hid; rw [HE.out]; first | rfl | simp
    have zv : ((0 : Int) == v) = false := by simpa using Ne.symm hzv
    go_wp2_with fail
    go_region_with (go_at_call 131; refine (c3 _).mono ?_; rintro e w3 ⟨rfl, hb3⟩; have a0 := (hb3.cell (p := ⟨w.heap.size, 0, none⟩) hlt).trans e0; have a1 := (hb3.cell (p := ⟨w.heap.size, 1, none⟩) hlt).trans e1; have a2 := (hb3.cell (p := ⟨w.heap.size, 2, none⟩) hlt).trans e2; have a3 := (hb3.cell (p := ⟨w.heap.size, 3, none⟩) hlt).trans e3; have a4 := (hb3.cell (p := ⟨w.heap.size, 4, none⟩) hlt).trans e4)
    all_goals go_wp2_with fail
    all_goals go_ret
    all_goals exact ⟨by rw [HE.out]; first | rfl | simp [kindV], B2.out.trans (((Below.refl _ w2).drew.trans hb3).mono B2.out.size)⟩

theorem recordOfV (r : Rcd) (w : World) (hd : r.data.size ≤ maxLen) : Calls Try.prog 97 #[vRcd r] w fun e w' => e = .returned (recV r) ∧ Below w.heap.size w w' := by
  obtain ⟨k, t, i, v, d⟩ := r
  cases hn : bnd k t i v d.size
  · have : recV ⟨k, t, i, v, d⟩ = .nilIface := by unfold recV; rw [recOk_iff, hn]; rfl
    rw [this]
    exact recordOf_no k t i v d w hd hn
  · have hh := of_decide_eq_true hn
    rcases (show k = 1 ∨ k = 2 ∨ k = 3 ∨ k = 4 by omega) with rfl | rfl | rfl | rfl
    · exact recordOf_hard t i v d w hd hn
    · exact recordOf_entry t i v d w hd hn
    · exact recordOf_cut t i v d w hd hn
    · exact recordOf_base t i v d w hd hn

set_option maxHeartbeats 1000000 in
theorem implRecOk (r : Rcd) (w : World) (hd : r.data.size ≤ maxLen) : Calls Try.prog 78 #[vRcd r] w fun e w' => e = .returned (.bool (recOk r)) ∧ Below w.heap.size w w' := by
  have c1 := fun wx => recordOfV r wx hd
  have HE : Hid (recV r = if recOk r = true then kindV r else .nilIface) := rfl
  have HK : Hid (∃ a b, kindV r = .iface a b) := by
    unfold Hid kindV
    split
    · exact ⟨_, _, rfl⟩
    split
    · exact ⟨_, _, rfl⟩
    split
    · exact ⟨_, _, rfl⟩
    · exact ⟨_, _, rfl⟩
  unfold vRcd at *
  have hb0 : Below w.heap.size w (w.alloc (.cells #[.int .i64 r.kind, .int .i64 r.term, .int .i64 r.index, .int .i64 r.vote, .string r.data] 91)) := (Below.refl _ _).alloc (Nat.le_refl _) _
  go_enter Try.func78, Try.ntmps78
  go_wp2_with fail
  generalize w.alloc (.cells #[.int .i64 r.kind, .int .i64 r.term, .int .i64 r.index, .int .i64 r.vote, .string r.data] 91) = W at *
  refine (c1 _).mono ?_
  rintro e w1 ⟨rfl, hb1⟩
  have B1 : Hid (Below w.heap.size w w1) := hb0.trans (hb1.mono hb0.size)
  clear hb0 hb1 c1
  cases ho : recOk r
  · rw [show recV r = .nilIface by rw [HE.out, ho]; rfl]
    go_wp2_with fail
    go_ret
    exact ⟨by rw [ho]; rfl, B1.out⟩
  · obtain ⟨a, b, hk⟩ := HK.out
    rw [show recV r = .iface a b by rw [HE.out, ho, hk]; rfl]
    clear hk
    go_wp2_with fail
    go_ret
    exact ⟨by rw [ho]; rfl, B1.out⟩
end Go.Proofs.Ytjejcpieajeflaa
