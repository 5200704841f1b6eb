/- DkApply DkNames DkFind -/
import Derived.Test.YtdimaoloapbeoaaGreatDoorRows
import Derived.Test.YtdimaoloapbeoaaGreatDoorQv3
import Derived.Deep.RegionHeld3
namespace Go.Proofs.YtdimaoloapbeoaaGreatDoor
open Go.ChangeShapes Go.WideShapes Go.ChangeAt Go.RowKit Go.PlainAid
set_option linter.unusedVariables false
def movV (x : Mov) : Value := .agg #[.int .i64 x.kind, .string x.name, .string x.to, .int .i64 x.id]
theorem empty_of (b : ByteArray) (h : b.size = 0) : b = ⟨#[]⟩ := by
 apply ByteArray.ext
 exact Array.eq_empty_of_size_eq_zero h
theorem isEmpty_no (b : ByteArray) (h : ¬ b.size = 0) : b.toList.isEmpty = false := by
 rw [Lib.toList_data]
 rcases e : b.data.toList with _ | ⟨x, l⟩
 ·exact absurd (by rw [Lib.size_eq, e]; rfl) h
 ·rfl
theorem idx_lt {l : List Lnk} {name : ByteArray} {i : Nat} (h : linkAt l name = some i) : i < l.length := by
 unfold linkAt at h
 rw [List.findIdx?_eq_some_iff_getElem] at h
 exact h.1
set_option maxRecDepth 20000 in
set_option maxHeartbeats 1000000 in
theorem apply_a (l : List Lnk) (v : Value) (m : Mov) (w : World) (B : Nat) (hv : Lies w B 2 v (lnkR l)) (hn : l.length ≤ 1048575) (hB : B ≤ w.heap.size) (hs : m.name.size ≤ 9223372036854775807) (ht : m.to.size ≤ 9223372036854775807) (hno : nameOk m.name = false) :
  Calls Tryz.prog 49 #[v, movV m] w fun e w' => e = .returned (.tuple #[v, .bool false]) ∧ Below w.heap.size w w' := by
 have HV : Hid (Lies w B 2 v (lnkR l)) := hv
 have HB : Hid (B ≤ w.heap.size) := hB
 have HN : Hid (l.length ≤ 1048575) := hn
 obtain ⟨A0, c0, hv0⟩ : ∃ A c, v = .slice A l.length c := by
  obtain ⟨A, c, e, _⟩ := HV.out
  exact ⟨A, c, by rw [e, lnkR_length]⟩
 subst hv0
 have c1 := fun wx hx => atV4 l (.slice A0 l.length c0) m.name wx B hx (by have := HN.out; omega)
 have c2 := fun wx => nameV m.name wx hs
 have c3 := fun wx => nameV m.to wx ht
 rw [hno] at c2
 obtain ⟨mk, mn, mt, mi⟩ := m
 simp only at *
 unfold movV
 simp only
 clear hno hs ht hn hB
 generalize hln : l.length = n at *
 go_enter Tryz.func49, Tryz.ntmps49
 go_wp2_with fail
 have hb0 : Below w.heap.size w (w.alloc (.cells #[.int .i64 mk, .string mn, .string mt, .int .i64 mi] 94)) := (Below.refl _ _).alloc (Nat.le_refl _) _
 have K0 := Blk.new w #[.int .i64 mk, .string mn, .string mt, .int .i64 mi] 94
 generalize w.alloc (.cells #[.int .i64 mk, .string mn, .string mt, .int .i64 mi] 94) = W at *
 have B0 : Hid (Below w.heap.size w W) := hb0
 have x0 := K0.cell 0 _ rfl
 have x1 := K0.cell 1 _ rfl
 have x2 := K0.cell 2 _ rfl
 have x3 := K0.cell 3 _ rfl
 have KK : Hid (Blk W w.heap.size #[.int .i64 mk, .string mn, .string mt, .int .i64 mi] 94) := K0
 clear hb0 K0
 have hV1 := HV.out.on (B0.out.mono HB.out)
 refine (c1 W hV1).mono ?_
 rintro e w1 ⟨rfl, rfl⟩
 generalize idxV (linkAt l mn) = ix at *
 go_wp2_with fail
 refine (c2 W).mono ?_
 rintro e w1 ⟨rfl, rfl⟩
 go_wp2_with fail
 go_ret2
 exact ⟨rfl, B0.out⟩
set_option maxRecDepth 20000 in
set_option maxHeartbeats 1000000 in
theorem apply_b (l : List Lnk) (v : Value) (m : Mov) (w : World) (B : Nat) (hv : Lies w B 2 v (lnkR l)) (hn : l.length ≤ 1048575) (hB : B ≤ w.heap.size) (hs : m.name.size ≤ 9223372036854775807) (ht : m.to.size ≤ 9223372036854775807) (hno : nameOk m.name = true) (hk : m.kind = 1) (hto : m.to.size = 0) (hat : linkAt l m.name = none) :
  Calls Tryz.prog 49 #[v, movV m] w fun e w' => ∃ u, e = .returned (.tuple #[u, .bool true]) ∧ Owns w' w.heap.size 93 2 u (lnkR (withL l ⟨m.name, m.id⟩)) ∧ Below w.heap.size w w' := by
 have HV : Hid (Lies w B 2 v (lnkR l)) := hv
 have HB : Hid (B ≤ w.heap.size) := hB
 have HN : Hid (l.length ≤ 1048575) := hn
 obtain ⟨A0, c0, hv0⟩ : ∃ A c, v = .slice A l.length c := by
  obtain ⟨A, c, e, _⟩ := HV.out
  exact ⟨A, c, by rw [e, lnkR_length]⟩
 subst hv0
 have c1 := fun wx hx => atV4 l (.slice A0 l.length c0) m.name wx B hx (by have := HN.out; omega)
 have c2 := fun wx => nameV m.name wx hs
 have c3 := fun wx => nameV m.to wx ht
 rw [hno] at c2
 rw [hat] at c1
 have e1 : idxV none = -1 := rfl
 rw [e1] at c1
 obtain ⟨mk, mn, mt, mi⟩ := m
 simp only at *
 unfold movV
 simp only
 subst hk
 obtain rfl := empty_of mt hto
 clear hno hs ht hn hB
 generalize hln : l.length = n at *
 go_enter Tryz.func49, Tryz.ntmps49
 go_wp2_with fail
 have hb0 : Below w.heap.size w (w.alloc (.cells #[.int .i64 1, .string mn, .string ⟨#[]⟩, .int .i64 mi] 94)) := (Below.refl _ _).alloc (Nat.le_refl _) _
 have K0 := Blk.new w #[.int .i64 1, .string mn, .string ⟨#[]⟩, .int .i64 mi] 94
 generalize w.alloc (.cells #[.int .i64 1, .string mn, .string ⟨#[]⟩, .int .i64 mi] 94) = W at *
 have B0 : Hid (Below w.heap.size w W) := hb0
 have x0 := K0.cell 0 _ rfl
 have x1 := K0.cell 1 _ rfl
 have x2 := K0.cell 2 _ rfl
 have x3 := K0.cell 3 _ rfl
 have KK : Hid (Blk W w.heap.size #[.int .i64 1, .string mn, .string ⟨#[]⟩, .int .i64 mi] 94) := K0
 clear hb0 K0
 have hV1 := HV.out.on (B0.out.mono HB.out)
 refine (c1 W hV1).mono ?_
 rintro e w1 ⟨rfl, rfl⟩
 go_wp2_with fail
 refine (c2 W).mono ?_
 rintro e w1 ⟨rfl, rfl⟩
 go_wp2_with fail
 have c4 := withV l (.slice A0 n c0) ⟨mn, mi⟩ W B hV1 (by rw [hln]; exact HN.out) (Nat.le_trans HB.out B0.out.size)
 unfold vLnk at c4
 refine c4.mono ?_
 rintro e w2 ⟨u, rfl, hO, hb⟩
 have O2 : Hid (Owns w2 w.heap.size 93 2 u (lnkR (withL l ⟨mn, mi⟩))) := hO.mono B0.out.size
 have B2 : Hid (Below w.heap.size w w2) := B0.out.trans (hb.mono B0.out.size)
 clear hO hb
 go_wp2_with fail
 go_ret2
 exact ⟨u, rfl, O2.out, B2.out⟩
set_option maxRecDepth 20000 in
set_option maxHeartbeats 1000000 in
theorem apply_e1 (l : List Lnk) (v : Value) (m : Mov) (w : World) (B : Nat) (hv : Lies w B 2 v (lnkR l)) (hn : l.length ≤ 1048575) (hB : B ≤ w.heap.size) (hs : m.name.size ≤ 9223372036854775807) (ht : m.to.size ≤ 9223372036854775807) (hno : nameOk m.name = true) (hk : m.kind = 1) (hto : ¬ m.to.size = 0) :
  Calls Tryz.prog 49 #[v, movV m] w fun e w' => e = .returned (.tuple #[v, .bool false]) ∧ Below w.heap.size w w' := by
 have HV : Hid (Lies w B 2 v (lnkR l)) := hv
 have HB : Hid (B ≤ w.heap.size) := hB
 have HN : Hid (l.length ≤ 1048575) := hn
 obtain ⟨A0, c0, hv0⟩ : ∃ A c, v = .slice A l.length c := by
  obtain ⟨A, c, e, _⟩ := HV.out
  exact ⟨A, c, by rw [e, lnkR_length]⟩
 subst hv0
 have c1 := fun wx hx => atV4 l (.slice A0 l.length c0) m.name wx B hx (by have := HN.out; omega)
 have c2 := fun wx => nameV m.name wx hs
 have c3 := fun wx => nameV m.to wx ht
 rw [hno] at c2
 obtain ⟨mk, mn, mt, mi⟩ := m
 simp only at *
 unfold movV
 simp only
 subst hk
 have t1 := isEmpty_no mt hto
 have t2 : ¬ mt.toList = [] := fun h => by rw [h] at t1; cases t1
 clear hno hs ht hn hB
 generalize hln : l.length = n at *
 go_enter Tryz.func49, Tryz.ntmps49
 go_wp2_with fail
 have hb0 : Below w.heap.size w (w.alloc (.cells #[.int .i64 1, .string mn, .string mt, .int .i64 mi] 94)) := (Below.refl _ _).alloc (Nat.le_refl _) _
 have K0 := Blk.new w #[.int .i64 1, .string mn, .string mt, .int .i64 mi] 94
 generalize w.alloc (.cells #[.int .i64 1, .string mn, .string mt, .int .i64 mi] 94) = W at *
 have B0 : Hid (Below w.heap.size w W) := hb0
 have x0 := K0.cell 0 _ rfl
 have x1 := K0.cell 1 _ rfl
 have x2 := K0.cell 2 _ rfl
 have x3 := K0.cell 3 _ rfl
 have KK : Hid (Blk W w.heap.size #[.int .i64 1, .string mn, .string mt, .int .i64 mi] 94) := K0
 clear hb0 K0
 have hV1 := HV.out.on (B0.out.mono HB.out)
 refine (c1 W hV1).mono ?_
 rintro e w1 ⟨rfl, rfl⟩
 generalize idxV (linkAt l mn) = ix at *
 go_wp2_with fail
 refine (c2 W).mono ?_
 rintro e w1 ⟨rfl, rfl⟩
 go_wp2_with fail
 go_ret2
 exact ⟨rfl, B0.out⟩
set_option maxRecDepth 20000 in
set_option maxHeartbeats 1000000 in
theorem apply_e2 (l : List Lnk) (v : Value) (m : Mov) (w : World) (B : Nat) (hv : Lies w B 2 v (lnkR l)) (hn : l.length ≤ 1048575) (hB : B ≤ w.heap.size) (hs : m.name.size ≤ 9223372036854775807) (ht : m.to.size ≤ 9223372036854775807) (hno : nameOk m.name = true) (hk : m.kind = 1) (hto : m.to.size = 0) (i : Nat) (hat : linkAt l m.name = some i) :
  Calls Tryz.prog 49 #[v, movV m] w fun e w' => e = .returned (.tuple #[v, .bool false]) ∧ Below w.heap.size w w' := by
 have HV : Hid (Lies w B 2 v (lnkR l)) := hv
 have HB : Hid (B ≤ w.heap.size) := hB
 have HN : Hid (l.length ≤ 1048575) := hn
 obtain ⟨A0, c0, hv0⟩ : ∃ A c, v = .slice A l.length c := by
  obtain ⟨A, c, e, _⟩ := HV.out
  exact ⟨A, c, by rw [e, lnkR_length]⟩
 subst hv0
 have c1 := fun wx hx => atV4 l (.slice A0 l.length c0) m.name wx B hx (by have := HN.out; omega)
 have c2 := fun wx => nameV m.name wx hs
 have c3 := fun wx => nameV m.to wx ht
 rw [hno] at c2
 rw [hat] at c1
 have e1 : idxV (some i) = (i : Int) := rfl
 rw [e1] at c1
 have HI : Hid (i < l.length) := idx_lt hat
 obtain ⟨mk, mn, mt, mi⟩ := m
 simp only at *
 unfold movV
 simp only
 subst hk
 obtain rfl := empty_of mt hto
 have j1 : decide ((i : Int) < 0) = false := decide_eq_false (by omega)
 have j2 : decide ((0 : Int) ≤ (i : Int)) = true := decide_eq_true (by omega)
 clear hno hs ht hn hB
 generalize hln : l.length = n at *
 go_enter Tryz.func49, Tryz.ntmps49
 go_wp2_with fail
 have hb0 : Below w.heap.size w (w.alloc (.cells #[.int .i64 1, .string mn, .string ⟨#[]⟩, .int .i64 mi] 94)) := (Below.refl _ _).alloc (Nat.le_refl _) _
 have K0 := Blk.new w #[.int .i64 1, .string mn, .string ⟨#[]⟩, .int .i64 mi] 94
 generalize w.alloc (.cells #[.int .i64 1, .string mn, .string ⟨#[]⟩, .int .i64 mi] 94) = W at *
 have B0 : Hid (Below w.heap.size w W) := hb0
 have x0 := K0.cell 0 _ rfl
 have x1 := K0.cell 1 _ rfl
 have x2 := K0.cell 2 _ rfl
 have x3 := K0.cell 3 _ rfl
 have KK : Hid (Blk W w.heap.size #[.int .i64 1, .string mn, .string ⟨#[]⟩, .int .i64 mi] 94) := K0
 clear hb0 K0
 have hV1 := HV.out.on (B0.out.mono HB.out)
 refine (c1 W hV1).mono ?_
 rintro e w1 ⟨rfl, rfl⟩
 go_wp2_with fail
 refine (c2 W).mono ?_
 rintro e w1 ⟨rfl, rfl⟩
 go_wp2_with fail
 go_ret2
 exact ⟨rfl, B0.out⟩
set_option maxRecDepth 20000 in
set_option maxHeartbeats 1000000 in
theorem apply_e3 (l : List Lnk) (v : Value) (m : Mov) (w : World) (B : Nat) (hv : Lies w B 2 v (lnkR l)) (hn : l.length ≤ 1048575) (hB : B ≤ w.heap.size) (hs : m.name.size ≤ 9223372036854775807) (ht : m.to.size ≤ 9223372036854775807) (hno : nameOk m.name = true) (hk : m.kind = 2) (hid : ¬ m.id = 0) :
  Calls Tryz.prog 49 #[v, movV m] w fun e w' => e = .returned (.tuple #[v, .bool false]) ∧ Below w.heap.size w w' := by
 have HV : Hid (Lies w B 2 v (lnkR l)) := hv
 have HB : Hid (B ≤ w.heap.size) := hB
 have HN : Hid (l.length ≤ 1048575) := hn
 obtain ⟨A0, c0, hv0⟩ : ∃ A c, v = .slice A l.length c := by
  obtain ⟨A, c, e, _⟩ := HV.out
  exact ⟨A, c, by rw [e, lnkR_length]⟩
 subst hv0
 have c1 := fun wx hx => atV4 l (.slice A0 l.length c0) m.name wx B hx (by have := HN.out; omega)
 have c2 := fun wx => nameV m.name wx hs
 have c3 := fun wx => nameV m.to wx ht
 rw [hno] at c2
 obtain ⟨mk, mn, mt, mi⟩ := m
 simp only at *
 unfold movV
 simp only
 subst hk
 have i1 : (mi == 0) = false := by simpa using hid
 clear hno hs ht hn hB
 generalize hln : l.length = n at *
 go_enter Tryz.func49, Tryz.ntmps49
 go_wp2_with fail
 have hb0 : Below w.heap.size w (w.alloc (.cells #[.int .i64 2, .string mn, .string mt, .int .i64 mi] 94)) := (Below.refl _ _).alloc (Nat.le_refl _) _
 have K0 := Blk.new w #[.int .i64 2, .string mn, .string mt, .int .i64 mi] 94
 generalize w.alloc (.cells #[.int .i64 2, .string mn, .string mt, .int .i64 mi] 94) = W at *
 have B0 : Hid (Below w.heap.size w W) := hb0
 have x0 := K0.cell 0 _ rfl
 have x1 := K0.cell 1 _ rfl
 have x2 := K0.cell 2 _ rfl
 have x3 := K0.cell 3 _ rfl
 have KK : Hid (Blk W w.heap.size #[.int .i64 2, .string mn, .string mt, .int .i64 mi] 94) := K0
 clear hb0 K0
 have hV1 := HV.out.on (B0.out.mono HB.out)
 refine (c1 W hV1).mono ?_
 rintro e w1 ⟨rfl, rfl⟩
 generalize idxV (linkAt l mn) = ix at *
 go_wp2_with fail
 refine (c2 W).mono ?_
 rintro e w1 ⟨rfl, rfl⟩
 go_wp2_with fail
 go_ret2
 exact ⟨rfl, B0.out⟩
set_option maxRecDepth 20000 in
set_option maxHeartbeats 1000000 in
theorem apply_e4 (l : List Lnk) (v : Value) (m : Mov) (w : World) (B : Nat) (hv : Lies w B 2 v (lnkR l)) (hn : l.length ≤ 1048575) (hB : B ≤ w.heap.size) (hs : m.name.size ≤ 9223372036854775807) (ht : m.to.size ≤ 9223372036854775807) (hno : nameOk m.name = true) (hk : m.kind = 2) (hat : linkAt l m.name = none) (hid : m.id = 0) :
  Calls Tryz.prog 49 #[v, movV m] w fun e w' => e = .returned (.tuple #[v, .bool false]) ∧ Below w.heap.size w w' := by
 have HV : Hid (Lies w B 2 v (lnkR l)) := hv
 have HB : Hid (B ≤ w.heap.size) := hB
 have HN : Hid (l.length ≤ 1048575) := hn
 obtain ⟨A0, c0, hv0⟩ : ∃ A c, v = .slice A l.length c := by
  obtain ⟨A, c, e, _⟩ := HV.out
  exact ⟨A, c, by rw [e, lnkR_length]⟩
 subst hv0
 have c1 := fun wx hx => atV4 l (.slice A0 l.length c0) m.name wx B hx (by have := HN.out; omega)
 have c2 := fun wx => nameV m.name wx hs
 have c3 := fun wx => nameV m.to wx ht
 rw [hno] at c2
 rw [hat] at c1
 have e1 : idxV none = -1 := rfl
 rw [e1] at c1
 obtain ⟨mk, mn, mt, mi⟩ := m
 simp only at *
 unfold movV
 simp only
 subst hk
 subst hid
 clear hno hs ht hn hB
 generalize hln : l.length = n at *
 go_enter Tryz.func49, Tryz.ntmps49
 go_wp2_with fail
 have hb0 : Below w.heap.size w (w.alloc (.cells #[.int .i64 2, .string mn, .string mt, .int .i64 0] 94)) := (Below.refl _ _).alloc (Nat.le_refl _) _
 have K0 := Blk.new w #[.int .i64 2, .string mn, .string mt, .int .i64 0] 94
 generalize w.alloc (.cells #[.int .i64 2, .string mn, .string mt, .int .i64 0] 94) = W at *
 have B0 : Hid (Below w.heap.size w W) := hb0
 have x0 := K0.cell 0 _ rfl
 have x1 := K0.cell 1 _ rfl
 have x2 := K0.cell 2 _ rfl
 have x3 := K0.cell 3 _ rfl
 have KK : Hid (Blk W w.heap.size #[.int .i64 2, .string mn, .string mt, .int .i64 0] 94) := K0
 clear hb0 K0
 have hV1 := HV.out.on (B0.out.mono HB.out)
 refine (c1 W hV1).mono ?_
 rintro e w1 ⟨rfl, rfl⟩
 go_wp2_with fail
 refine (c2 W).mono ?_
 rintro e w1 ⟨rfl, rfl⟩
 go_wp2_with fail
 go_ret2
 exact ⟨rfl, B0.out⟩
set_option maxRecDepth 20000 in
set_option maxHeartbeats 1000000 in
theorem apply_e5 (l : List Lnk) (v : Value) (m : Mov) (w : World) (B : Nat) (hv : Lies w B 2 v (lnkR l)) (hn : l.length ≤ 1048575) (hB : B ≤ w.heap.size) (hs : m.name.size ≤ 9223372036854775807) (ht : m.to.size ≤ 9223372036854775807) (hno : nameOk m.name = true) (hk : m.kind = 2) (i : Nat) (hat : linkAt l m.name = some i) (hid : m.id = 0) (htn : nameOk m.to = false) :
  Calls Tryz.prog 49 #[v, movV m] w fun e w' => e = .returned (.tuple #[v, .bool false]) ∧ Below w.heap.size w w' := by
 have HV : Hid (Lies w B 2 v (lnkR l)) := hv
 have HB : Hid (B ≤ w.heap.size) := hB
 have HN : Hid (l.length ≤ 1048575) := hn
 obtain ⟨A0, c0, hv0⟩ : ∃ A c, v = .slice A l.length c := by
  obtain ⟨A, c, e, _⟩ := HV.out
  exact ⟨A, c, by rw [e, lnkR_length]⟩
 subst hv0
 have c1 := fun wx hx => atV4 l (.slice A0 l.length c0) m.name wx B hx (by have := HN.out; omega)
 have c2 := fun wx => nameV m.name wx hs
 have c3 := fun wx => nameV m.to wx ht
 rw [hno] at c2
 rw [hat] at c1
 have e1 : idxV (some i) = (i : Int) := rfl
 rw [e1] at c1
 have HI : Hid (i < l.length) := idx_lt hat
 rw [htn] at c3
 obtain ⟨mk, mn, mt, mi⟩ := m
 simp only at *
 unfold movV
 simp only
 subst hk
 subst hid
 have j1 : decide ((i : Int) < 0) = false := decide_eq_false (by omega)
 have j2 : decide ((0 : Int) ≤ (i : Int)) = true := decide_eq_true (by omega)
 clear hno hs ht hn hB
 generalize hln : l.length = n at *
 go_enter Tryz.func49, Tryz.ntmps49
 go_wp2_with fail
 have hb0 : Below w.heap.size w (w.alloc (.cells #[.int .i64 2, .string mn, .string mt, .int .i64 0] 94)) := (Below.refl _ _).alloc (Nat.le_refl _) _
 have K0 := Blk.new w #[.int .i64 2, .string mn, .string mt, .int .i64 0] 94
 generalize w.alloc (.cells #[.int .i64 2, .string mn, .string mt, .int .i64 0] 94) = W at *
 have B0 : Hid (Below w.heap.size w W) := hb0
 have x0 := K0.cell 0 _ rfl
 have x1 := K0.cell 1 _ rfl
 have x2 := K0.cell 2 _ rfl
 have x3 := K0.cell 3 _ rfl
 have KK : Hid (Blk W w.heap.size #[.int .i64 2, .string mn, .string mt, .int .i64 0] 94) := K0
 clear hb0 K0
 have hV1 := HV.out.on (B0.out.mono HB.out)
 refine (c1 W hV1).mono ?_
 rintro e w1 ⟨rfl, rfl⟩
 go_wp2_with fail
 refine (c2 W).mono ?_
 rintro e w1 ⟨rfl, rfl⟩
 go_wp2_with fail
 refine (c3 W).mono ?_
 rintro e w1 ⟨rfl, rfl⟩
 go_wp2_with fail
 go_ret2
 exact ⟨rfl, B0.out⟩
set_option maxRecDepth 20000 in
set_option maxHeartbeats 1000000 in
theorem apply_e6 (l : List Lnk) (v : Value) (m : Mov) (w : World) (B : Nat) (hv : Lies w B 2 v (lnkR l)) (hn : l.length ≤ 1048575) (hB : B ≤ w.heap.size) (hs : m.name.size ≤ 9223372036854775807) (ht : m.to.size ≤ 9223372036854775807) (hno : nameOk m.name = true) (hk : m.kind = 2) (i : Nat) (hat : linkAt l m.name = some i) (hid : m.id = 0) (htn : nameOk m.to = true) (hte : m.to = m.name) :
  Calls Tryz.prog 49 #[v, movV m] w fun e w' => e = .returned (.tuple #[v, .bool false]) ∧ Below w.heap.size w w' := by
 have HV : Hid (Lies w B 2 v (lnkR l)) := hv
 have HB : Hid (B ≤ w.heap.size) := hB
 have HN : Hid (l.length ≤ 1048575) := hn
 obtain ⟨A0, c0, hv0⟩ : ∃ A c, v = .slice A l.length c := by
  obtain ⟨A, c, e, _⟩ := HV.out
  exact ⟨A, c, by rw [e, lnkR_length]⟩
 subst hv0
 have c1 := fun wx hx => atV4 l (.slice A0 l.length c0) m.name wx B hx (by have := HN.out; omega)
 have c2 := fun wx => nameV m.name wx hs
 have c3 := fun wx => nameV m.to wx ht
 rw [hno] at c2
 rw [hat] at c1
 have e1 : idxV (some i) = (i : Int) := rfl
 rw [e1] at c1
 have HI : Hid (i < l.length) := idx_lt hat
 rw [htn] at c3
 obtain ⟨mk, mn, mt, mi⟩ := m
 simp only at *
 unfold movV
 simp only
 subst hk
 subst hid
 have b1 := toList_beq mt mn
 rw [decide_eq_true hte] at b1
 clear hte
 have j1 : decide ((i : Int) < 0) = false := decide_eq_false (by omega)
 have j2 : decide ((0 : Int) ≤ (i : Int)) = true := decide_eq_true (by omega)
 clear hno hs ht hn hB
 generalize hln : l.length = n at *
 go_enter Tryz.func49, Tryz.ntmps49
 go_wp2_with fail
 have hb0 : Below w.heap.size w (w.alloc (.cells #[.int .i64 2, .string mn, .string mt, .int .i64 0] 94)) := (Below.refl _ _).alloc (Nat.le_refl _) _
 have K0 := Blk.new w #[.int .i64 2, .string mn, .string mt, .int .i64 0] 94
 generalize w.alloc (.cells #[.int .i64 2, .string mn, .string mt, .int .i64 0] 94) = W at *
 have B0 : Hid (Below w.heap.size w W) := hb0
 have x0 := K0.cell 0 _ rfl
 have x1 := K0.cell 1 _ rfl
 have x2 := K0.cell 2 _ rfl
 have x3 := K0.cell 3 _ rfl
 have KK : Hid (Blk W w.heap.size #[.int .i64 2, .string mn, .string mt, .int .i64 0] 94) := K0
 clear hb0 K0
 have hV1 := HV.out.on (B0.out.mono HB.out)
 refine (c1 W hV1).mono ?_
 rintro e w1 ⟨rfl, rfl⟩
 go_wp2_with fail
 refine (c2 W).mono ?_
 rintro e w1 ⟨rfl, rfl⟩
 go_wp2_with fail
 refine (c3 W).mono ?_
 rintro e w1 ⟨rfl, rfl⟩
 go_wp2_with fail
 go_ret2
 exact ⟨rfl, B0.out⟩
set_option maxRecDepth 20000 in
set_option maxHeartbeats 1000000 in
theorem apply_c (l : List Lnk) (v : Value) (m : Mov) (w : World) (B : Nat) (hv : Lies w B 2 v (lnkR l)) (hn : l.length ≤ 1048575) (hB : B ≤ w.heap.size) (hs : m.name.size ≤ 9223372036854775807) (ht : m.to.size ≤ 9223372036854775807) (hno : nameOk m.name = true) (hk : m.kind = 2) (i : Nat) (hat : linkAt l m.name = some i) (hid : m.id = 0) (htn : nameOk m.to = true) (hte : ¬ m.to = m.name) :
  Calls Tryz.prog 49 #[v, movV m] w fun e w' => ∃ u, e = .returned (.tuple #[u, .bool true]) ∧ Owns w' w.heap.size 93 2 u (lnkR (withL (without l m.name) ⟨m.to, (l.getD i default).id⟩)) ∧ Below w.heap.size w w' := by
 have HV : Hid (Lies w B 2 v (lnkR l)) := hv
 have HB : Hid (B ≤ w.heap.size) := hB
 have HN : Hid (l.length ≤ 1048575) := hn
 obtain ⟨A0, c0, hv0⟩ : ∃ A c, v = .slice A l.length c := by
  obtain ⟨A, c, e, _⟩ := HV.out
  exact ⟨A, c, by rw [e, lnkR_length]⟩
 subst hv0
 have c1 := fun wx hx => atV4 l (.slice A0 l.length c0) m.name wx B hx (by have := HN.out; omega)
 have c2 := fun wx => nameV m.name wx hs
 have c3 := fun wx => nameV m.to wx ht
 rw [hno] at c2
 rw [hat] at c1
 have e1 : idxV (some i) = (i : Int) := rfl
 rw [e1] at c1
 have HI : Hid (i < l.length) := idx_lt hat
 rw [htn] at c3
 have hlk := (lnk_look HV.out)
 obtain ⟨mk, mn, mt, mi⟩ := m
 simp only at *
 unfold movV
 simp only
 subst hk
 subst hid
 have b1 := toList_beq mt mn
 rw [decide_eq_false hte] at b1
 clear hte
 have j1 : decide ((i : Int) < 0) = false := decide_eq_false (by omega)
 have j2 : decide ((0 : Int) ≤ (i : Int)) = true := decide_eq_true (by omega)
 clear hno hs ht hn hB
 generalize hln : l.length = n at *
 go_enter Tryz.func49, Tryz.ntmps49
 go_wp2_with fail
 have hb0 : Below w.heap.size w (w.alloc (.cells #[.int .i64 2, .string mn, .string mt, .int .i64 0] 94)) := (Below.refl _ _).alloc (Nat.le_refl _) _
 have K0 := Blk.new w #[.int .i64 2, .string mn, .string mt, .int .i64 0] 94
 generalize w.alloc (.cells #[.int .i64 2, .string mn, .string mt, .int .i64 0] 94) = W at *
 have B0 : Hid (Below w.heap.size w W) := hb0
 have x0 := K0.cell 0 _ rfl
 have x1 := K0.cell 1 _ rfl
 have x2 := K0.cell 2 _ rfl
 have x3 := K0.cell 3 _ rfl
 have KK : Hid (Blk W w.heap.size #[.int .i64 2, .string mn, .string mt, .int .i64 0] 94) := K0
 clear hb0 K0
 have hV1 := HV.out.on (B0.out.mono HB.out)
 refine (c1 W hV1).mono ?_
 rintro e w1 ⟨rfl, rfl⟩
 go_wp2_with fail
 refine (c2 W).mono ?_
 rintro e w1 ⟨rfl, rfl⟩
 go_wp2_with fail
 refine (c3 W).mono ?_
 rintro e w1 ⟨rfl, rfl⟩
 go_wp2_with fail
 obtain ⟨A, cap, e5, hl5⟩ := hlk
 injection e5 with h1 h2 h3
 subst h1
 obtain ⟨g, off, rfl, hg, hc0, hc1⟩ := hl5 i HI.out
 have hgw : g < w.heap.size := Nat.lt_of_lt_of_le hg HB.out
 rw [← B0.out.cell (p := ⟨_, _, none⟩) hgw] at hc1
 have q4 : (i : Int) < (n : Int) := by have := HI.out; omega
 have HW : Hid (w.heap.size < W.heap.size) := KK.out.lt
 have HG : Hid (g < W.heap.size) := Nat.lt_of_lt_of_le hgw B0.out.size
 have y2 : W.cell? ⟨w.heap.size, 2, none⟩ = some (.string mt) := x2
 have y1 : W.cell? ⟨w.heap.size, 1, none⟩ = some (.string mn) := x1
 have q5 : (n : Int) ≤ 1048575 := by have := HN.out; omega
 clear x0 x1 x2 x3 hl5 hc0 h2 h3 hv hat htn b1 j1 j2 c1 c2 c3
 generalize hli : (l.getD i default).id = li at *
 have hVd : Lies W.drew B 2 (.slice (some ⟨g, off, none⟩) n c0) (lnkR l) := hV1
 have hBd : B ≤ W.drew.heap.size := Nat.le_trans HB.out B0.out.size
 have cA := withoutV l (.slice (some ⟨g, off, none⟩) n c0) mn W.drew B hVd (by rw [hln]; have := HN.out; omega) hBd
 have cB := fun (u : Value) (w2 : World) (h : Lies w2 w2.heap.size 2 u (lnkR (without l mn))) => withV (without l mn) u ⟨mt, li⟩ w2 w2.heap.size h (Nat.le_trans (List.length_filter_le _ _) (by rw [hln]; exact HN.out)) (Nat.le_refl _)
 unfold vLnk at cB
 simp only at cB
 have S0 : Hid (W.drew.cell? ⟨w.heap.size, 1, none⟩ = some (.string mn) ∧ W.drew.cell? ⟨w.heap.size, 2, none⟩ = some (.string mt) ∧ W.drew.cell? ⟨g, off + i * 2 + 1, none⟩ = some (.int .i64 li)) := ⟨y1, y2, hc1⟩
 have HWd : w.heap.size < W.drew.heap.size := HW.out
 have HGd : g < W.drew.heap.size := HG.out
 clear hVd hBd hV1
 go_region_held3 (fun w' => w'.cell? ⟨w.heap.size, 1, none⟩ = some (.string mn) ∧ w'.cell? ⟨w.heap.size, 2, none⟩ = some (.string mt) ∧ w'.cell? ⟨g, off + i * 2 + 1, none⟩ = some (.int .i64 li)) (first | exact S3.out | exact S2.out | exact S0.out) ((first
  | (go_at_call 79; refine cA.mono ?_; rintro e w2 ⟨u, rfl, hO, hb⟩; have S2 : Hid (w2.cell? ⟨w.heap.size, 1, none⟩ = some (.string mn) ∧ w2.cell? ⟨w.heap.size, 2, none⟩ = some (.string mt) ∧ w2.cell? ⟨g, off + i * 2 + 1, none⟩ = some (.int .i64 li)) := ⟨(hb.cell (p := ⟨w.heap.size, 1, none⟩) HWd).trans S0.out.1, (hb.cell (p := ⟨w.heap.size, 2, none⟩) HWd).trans S0.out.2.1, (hb.cell (p := ⟨g, off + i * 2 + 1, none⟩) HGd).trans S0.out.2.2⟩)
  | (go_at_call 78; refine (cB u w2 hO.lies).mono ?_; rintro e w3 ⟨u3, rfl, hO3, hb3⟩; have S3 : Hid (w3.cell? ⟨w.heap.size, 1, none⟩ = some (.string mn) ∧ w3.cell? ⟨w.heap.size, 2, none⟩ = some (.string mt) ∧ w3.cell? ⟨g, off + i * 2 + 1, none⟩ = some (.int .i64 li)) := ⟨(hb3.cell (p := ⟨w.heap.size, 1, none⟩) (Nat.lt_of_lt_of_le HWd hb.size)).trans S2.out.1, (hb3.cell (p := ⟨w.heap.size, 2, none⟩) (Nat.lt_of_lt_of_le HWd hb.size)).trans S2.out.2.1, (hb3.cell (p := ⟨g, off + i * 2 + 1, none⟩) (Nat.lt_of_lt_of_le HGd hb.size)).trans S2.out.2.2⟩)))
 go_wp2_with fail
 have B2 : Below w.heap.size w w2 := B0.out.trans (((below_drewN' W 1).mono B0.out.size).trans (hb.mono B0.out.size))
 have B3 : Below w.heap.size w w3 := B2.trans (hb3.mono B2.size)
 have O3 := hO3.mono B2.size
 rw [← hli] at O3
 go_ret2
 exact ⟨u3, rfl, O3, B3⟩
set_option maxRecDepth 20000 in
set_option maxHeartbeats 1000000 in
theorem apply_e7 (l : List Lnk) (v : Value) (m : Mov) (w : World) (B : Nat) (hv : Lies w B 2 v (lnkR l)) (hn : l.length ≤ 1048575) (hB : B ≤ w.heap.size) (hs : m.name.size ≤ 9223372036854775807) (ht : m.to.size ≤ 9223372036854775807) (hno : nameOk m.name = true) (hk : m.kind = 3) (hid : ¬ m.id = 0) :
  Calls Tryz.prog 49 #[v, movV m] w fun e w' => e = .returned (.tuple #[v, .bool false]) ∧ Below w.heap.size w w' := by
 have HV : Hid (Lies w B 2 v (lnkR l)) := hv
 have HB : Hid (B ≤ w.heap.size) := hB
 have HN : Hid (l.length ≤ 1048575) := hn
 obtain ⟨A0, c0, hv0⟩ : ∃ A c, v = .slice A l.length c := by
  obtain ⟨A, c, e, _⟩ := HV.out
  exact ⟨A, c, by rw [e, lnkR_length]⟩
 subst hv0
 have c1 := fun wx hx => atV4 l (.slice A0 l.length c0) m.name wx B hx (by have := HN.out; omega)
 have c2 := fun wx => nameV m.name wx hs
 have c3 := fun wx => nameV m.to wx ht
 rw [hno] at c2
 obtain ⟨mk, mn, mt, mi⟩ := m
 simp only at *
 unfold movV
 simp only
 subst hk
 have i1 : (mi == 0) = false := by simpa using hid
 clear hno hs ht hn hB
 generalize hln : l.length = n at *
 go_enter Tryz.func49, Tryz.ntmps49
 go_wp2_with fail
 have hb0 : Below w.heap.size w (w.alloc (.cells #[.int .i64 3, .string mn, .string mt, .int .i64 mi] 94)) := (Below.refl _ _).alloc (Nat.le_refl _) _
 have K0 := Blk.new w #[.int .i64 3, .string mn, .string mt, .int .i64 mi] 94
 generalize w.alloc (.cells #[.int .i64 3, .string mn, .string mt, .int .i64 mi] 94) = W at *
 have B0 : Hid (Below w.heap.size w W) := hb0
 have x0 := K0.cell 0 _ rfl
 have x1 := K0.cell 1 _ rfl
 have x2 := K0.cell 2 _ rfl
 have x3 := K0.cell 3 _ rfl
 have KK : Hid (Blk W w.heap.size #[.int .i64 3, .string mn, .string mt, .int .i64 mi] 94) := K0
 clear hb0 K0
 have hV1 := HV.out.on (B0.out.mono HB.out)
 refine (c1 W hV1).mono ?_
 rintro e w1 ⟨rfl, rfl⟩
 generalize idxV (linkAt l mn) = ix at *
 go_wp2_with fail
 refine (c2 W).mono ?_
 rintro e w1 ⟨rfl, rfl⟩
 go_wp2_with fail
 go_ret2
 exact ⟨rfl, B0.out⟩
set_option maxRecDepth 20000 in
set_option maxHeartbeats 1000000 in
theorem apply_e8 (l : List Lnk) (v : Value) (m : Mov) (w : World) (B : Nat) (hv : Lies w B 2 v (lnkR l)) (hn : l.length ≤ 1048575) (hB : B ≤ w.heap.size) (hs : m.name.size ≤ 9223372036854775807) (ht : m.to.size ≤ 9223372036854775807) (hno : nameOk m.name = true) (hk : m.kind = 3) (hto : ¬ m.to.size = 0) (hid : m.id = 0) :
  Calls Tryz.prog 49 #[v, movV m] w fun e w' => e = .returned (.tuple #[v, .bool false]) ∧ Below w.heap.size w w' := by
 have HV : Hid (Lies w B 2 v (lnkR l)) := hv
 have HB : Hid (B ≤ w.heap.size) := hB
 have HN : Hid (l.length ≤ 1048575) := hn
 obtain ⟨A0, c0, hv0⟩ : ∃ A c, v = .slice A l.length c := by
  obtain ⟨A, c, e, _⟩ := HV.out
  exact ⟨A, c, by rw [e, lnkR_length]⟩
 subst hv0
 have c1 := fun wx hx => atV4 l (.slice A0 l.length c0) m.name wx B hx (by have := HN.out; omega)
 have c2 := fun wx => nameV m.name wx hs
 have c3 := fun wx => nameV m.to wx ht
 rw [hno] at c2
 obtain ⟨mk, mn, mt, mi⟩ := m
 simp only at *
 unfold movV
 simp only
 subst hk
 have t1 := isEmpty_no mt hto
 have t2 : ¬ mt.toList = [] := fun h => by rw [h] at t1; cases t1
 subst hid
 clear hno hs ht hn hB
 generalize hln : l.length = n at *
 go_enter Tryz.func49, Tryz.ntmps49
 go_wp2_with fail
 have hb0 : Below w.heap.size w (w.alloc (.cells #[.int .i64 3, .string mn, .string mt, .int .i64 0] 94)) := (Below.refl _ _).alloc (Nat.le_refl _) _
 have K0 := Blk.new w #[.int .i64 3, .string mn, .string mt, .int .i64 0] 94
 generalize w.alloc (.cells #[.int .i64 3, .string mn, .string mt, .int .i64 0] 94) = W at *
 have B0 : Hid (Below w.heap.size w W) := hb0
 have x0 := K0.cell 0 _ rfl
 have x1 := K0.cell 1 _ rfl
 have x2 := K0.cell 2 _ rfl
 have x3 := K0.cell 3 _ rfl
 have KK : Hid (Blk W w.heap.size #[.int .i64 3, .string mn, .string mt, .int .i64 0] 94) := K0
 clear hb0 K0
 have hV1 := HV.out.on (B0.out.mono HB.out)
 refine (c1 W hV1).mono ?_
 rintro e w1 ⟨rfl, rfl⟩
 generalize idxV (linkAt l mn) = ix at *
 go_wp2_with fail
 refine (c2 W).mono ?_
 rintro e w1 ⟨rfl, rfl⟩
 go_wp2_with fail
 go_ret2
 exact ⟨rfl, B0.out⟩
set_option maxRecDepth 20000 in
set_option maxHeartbeats 1000000 in
theorem apply_e9 (l : List Lnk) (v : Value) (m : Mov) (w : World) (B : Nat) (hv : Lies w B 2 v (lnkR l)) (hn : l.length ≤ 1048575) (hB : B ≤ w.heap.size) (hs : m.name.size ≤ 9223372036854775807) (ht : m.to.size ≤ 9223372036854775807) (hno : nameOk m.name = true) (hk : m.kind = 3) (hto : m.to.size = 0) (hat : linkAt l m.name = none) (hid : m.id = 0) :
  Calls Tryz.prog 49 #[v, movV m] w fun e w' => e = .returned (.tuple #[v, .bool false]) ∧ Below w.heap.size w w' := by
 have HV : Hid (Lies w B 2 v (lnkR l)) := hv
 have HB : Hid (B ≤ w.heap.size) := hB
 have HN : Hid (l.length ≤ 1048575) := hn
 obtain ⟨A0, c0, hv0⟩ : ∃ A c, v = .slice A l.length c := by
  obtain ⟨A, c, e, _⟩ := HV.out
  exact ⟨A, c, by rw [e, lnkR_length]⟩
 subst hv0
 have c1 := fun wx hx => atV4 l (.slice A0 l.length c0) m.name wx B hx (by have := HN.out; omega)
 have c2 := fun wx => nameV m.name wx hs
 have c3 := fun wx => nameV m.to wx ht
 rw [hno] at c2
 rw [hat] at c1
 have e1 : idxV none = -1 := rfl
 rw [e1] at c1
 obtain ⟨mk, mn, mt, mi⟩ := m
 simp only at *
 unfold movV
 simp only
 subst hk
 obtain rfl := empty_of mt hto
 subst hid
 clear hno hs ht hn hB
 generalize hln : l.length = n at *
 go_enter Tryz.func49, Tryz.ntmps49
 go_wp2_with fail
 have hb0 : Below w.heap.size w (w.alloc (.cells #[.int .i64 3, .string mn, .string ⟨#[]⟩, .int .i64 0] 94)) := (Below.refl _ _).alloc (Nat.le_refl _) _
 have K0 := Blk.new w #[.int .i64 3, .string mn, .string ⟨#[]⟩, .int .i64 0] 94
 generalize w.alloc (.cells #[.int .i64 3, .string mn, .string ⟨#[]⟩, .int .i64 0] 94) = W at *
 have B0 : Hid (Below w.heap.size w W) := hb0
 have x0 := K0.cell 0 _ rfl
 have x1 := K0.cell 1 _ rfl
 have x2 := K0.cell 2 _ rfl
 have x3 := K0.cell 3 _ rfl
 have KK : Hid (Blk W w.heap.size #[.int .i64 3, .string mn, .string ⟨#[]⟩, .int .i64 0] 94) := K0
 clear hb0 K0
 have hV1 := HV.out.on (B0.out.mono HB.out)
 refine (c1 W hV1).mono ?_
 rintro e w1 ⟨rfl, rfl⟩
 go_wp2_with fail
 refine (c2 W).mono ?_
 rintro e w1 ⟨rfl, rfl⟩
 go_wp2_with fail
 go_ret2
 exact ⟨rfl, B0.out⟩
set_option maxRecDepth 20000 in
set_option maxHeartbeats 1000000 in
theorem apply_d (l : List Lnk) (v : Value) (m : Mov) (w : World) (B : Nat) (hv : Lies w B 2 v (lnkR l)) (hn : l.length ≤ 1048575) (hB : B ≤ w.heap.size) (hs : m.name.size ≤ 9223372036854775807) (ht : m.to.size ≤ 9223372036854775807) (hno : nameOk m.name = true) (hk : m.kind = 3) (hto : m.to.size = 0) (i : Nat) (hat : linkAt l m.name = some i) (hid : m.id = 0) :
  Calls Tryz.prog 49 #[v, movV m] w fun e w' => ∃ u, e = .returned (.tuple #[u, .bool true]) ∧ Owns w' w.heap.size 93 2 u (lnkR (without l m.name)) ∧ Below w.heap.size w w' := by
 have HV : Hid (Lies w B 2 v (lnkR l)) := hv
 have HB : Hid (B ≤ w.heap.size) := hB
 have HN : Hid (l.length ≤ 1048575) := hn
 obtain ⟨A0, c0, hv0⟩ : ∃ A c, v = .slice A l.length c := by
  obtain ⟨A, c, e, _⟩ := HV.out
  exact ⟨A, c, by rw [e, lnkR_length]⟩
 subst hv0
 have c1 := fun wx hx => atV4 l (.slice A0 l.length c0) m.name wx B hx (by have := HN.out; omega)
 have c2 := fun wx => nameV m.name wx hs
 have c3 := fun wx => nameV m.to wx ht
 rw [hno] at c2
 rw [hat] at c1
 have e1 : idxV (some i) = (i : Int) := rfl
 rw [e1] at c1
 have HI : Hid (i < l.length) := idx_lt hat
 obtain ⟨mk, mn, mt, mi⟩ := m
 simp only at *
 unfold movV
 simp only
 subst hk
 obtain rfl := empty_of mt hto
 subst hid
 have j1 : decide ((i : Int) < 0) = false := decide_eq_false (by omega)
 have j2 : decide ((0 : Int) ≤ (i : Int)) = true := decide_eq_true (by omega)
 clear hno hs ht hn hB
 generalize hln : l.length = n at *
 go_enter Tryz.func49, Tryz.ntmps49
 go_wp2_with fail
 have hb0 : Below w.heap.size w (w.alloc (.cells #[.int .i64 3, .string mn, .string ⟨#[]⟩, .int .i64 0] 94)) := (Below.refl _ _).alloc (Nat.le_refl _) _
 have K0 := Blk.new w #[.int .i64 3, .string mn, .string ⟨#[]⟩, .int .i64 0] 94
 generalize w.alloc (.cells #[.int .i64 3, .string mn, .string ⟨#[]⟩, .int .i64 0] 94) = W at *
 have B0 : Hid (Below w.heap.size w W) := hb0
 have x0 := K0.cell 0 _ rfl
 have x1 := K0.cell 1 _ rfl
 have x2 := K0.cell 2 _ rfl
 have x3 := K0.cell 3 _ rfl
 have KK : Hid (Blk W w.heap.size #[.int .i64 3, .string mn, .string ⟨#[]⟩, .int .i64 0] 94) := K0
 clear hb0 K0
 have hV1 := HV.out.on (B0.out.mono HB.out)
 refine (c1 W hV1).mono ?_
 rintro e w1 ⟨rfl, rfl⟩
 go_wp2_with fail
 refine (c2 W).mono ?_
 rintro e w1 ⟨rfl, rfl⟩
 go_wp2_with fail
 refine (withoutV l (.slice A0 n c0) mn W B hV1 (by rw [hln]; have := HN.out; omega) (Nat.le_trans HB.out B0.out.size)).mono ?_
 rintro e w2 ⟨u, rfl, hO, hb⟩
 have O2 : Hid (Owns w2 w.heap.size 93 2 u (lnkR (without l mn))) := hO.mono B0.out.size
 have B2 : Hid (Below w.heap.size w w2) := B0.out.trans (hb.mono B0.out.size)
 clear hO hb
 go_wp2_with fail
 go_ret2
 exact ⟨u, rfl, O2.out, B2.out⟩
set_option maxRecDepth 20000 in
set_option maxHeartbeats 1000000 in
theorem apply_e0 (l : List Lnk) (v : Value) (m : Mov) (w : World) (B : Nat) (hv : Lies w B 2 v (lnkR l)) (hn : l.length ≤ 1048575) (hB : B ≤ w.heap.size) (hs : m.name.size ≤ 9223372036854775807) (ht : m.to.size ≤ 9223372036854775807) (hno : nameOk m.name = true) (hk : m.kind ≠ 1 ∧ m.kind ≠ 2 ∧ m.kind ≠ 3) :
  Calls Tryz.prog 49 #[v, movV m] w fun e w' => e = .returned (.tuple #[v, .bool false]) ∧ Below w.heap.size w w' := by
 have HV : Hid (Lies w B 2 v (lnkR l)) := hv
 have HB : Hid (B ≤ w.heap.size) := hB
 have HN : Hid (l.length ≤ 1048575) := hn
 obtain ⟨A0, c0, hv0⟩ : ∃ A c, v = .slice A l.length c := by
  obtain ⟨A, c, e, _⟩ := HV.out
  exact ⟨A, c, by rw [e, lnkR_length]⟩
 subst hv0
 have c1 := fun wx hx => atV4 l (.slice A0 l.length c0) m.name wx B hx (by have := HN.out; omega)
 have c2 := fun wx => nameV m.name wx hs
 have c3 := fun wx => nameV m.to wx ht
 rw [hno] at c2
 obtain ⟨mk, mn, mt, mi⟩ := m
 simp only at *
 unfold movV
 simp only
 have k1 : (mk == 1) = false := by simpa using hk.1
 have k2 : (mk == 2) = false := by simpa using hk.2.1
 have k3 : (mk == 3) = false := by simpa using hk.2.2
 clear hk
 clear hno hs ht hn hB
 generalize hln : l.length = n at *
 go_enter Tryz.func49, Tryz.ntmps49
 go_wp2_with fail
 have hb0 : Below w.heap.size w (w.alloc (.cells #[.int .i64 mk, .string mn, .string mt, .int .i64 mi] 94)) := (Below.refl _ _).alloc (Nat.le_refl _) _
 have K0 := Blk.new w #[.int .i64 mk, .string mn, .string mt, .int .i64 mi] 94
 generalize w.alloc (.cells #[.int .i64 mk, .string mn, .string mt, .int .i64 mi] 94) = W at *
 have B0 : Hid (Below w.heap.size w W) := hb0
 have x0 := K0.cell 0 _ rfl
 have x1 := K0.cell 1 _ rfl
 have x2 := K0.cell 2 _ rfl
 have x3 := K0.cell 3 _ rfl
 have KK : Hid (Blk W w.heap.size #[.int .i64 mk, .string mn, .string mt, .int .i64 mi] 94) := K0
 clear hb0 K0
 have hV1 := HV.out.on (B0.out.mono HB.out)
 refine (c1 W hV1).mono ?_
 rintro e w1 ⟨rfl, rfl⟩
 generalize idxV (linkAt l mn) = ix at *
 go_wp2_with fail
 refine (c2 W).mono ?_
 rintro e w1 ⟨rfl, rfl⟩
 go_wp2_with fail
 go_ret2
 exact ⟨rfl, B0.out⟩
def Applied (w : World) (l : List Lnk) (v : Value) (m : Mov) (e : Ending) (w' : World) : Prop :=
 (match apply l m with
  | some r => ∃ u, e = .returned (.tuple #[u, .bool true]) ∧ Owns w' w.heap.size 93 2 u (lnkR r)
  | none => e = .returned (.tuple #[v, .bool false])) ∧ Below w.heap.size w w'
theorem Applied.no {w : World} {l : List Lnk} {v : Value} {m : Mov} (h : apply l m = none) {e : Ending} {w' : World} (x : e = .returned (.tuple #[v, .bool false]) ∧ Below w.heap.size w w') : Applied w l v m e w' := by
 unfold Applied
 rw [h]
 exact x
theorem Applied.yes {w : World} {l : List Lnk} {v : Value} {m : Mov} {r : List Lnk} (h : apply l m = some r) {e : Ending} {w' : World} (x : ∃ u, e = .returned (.tuple #[u, .bool true]) ∧ Owns w' w.heap.size 93 2 u (lnkR r) ∧ Below w.heap.size w w') : Applied w l v m e w' := by
 obtain ⟨u, e1, e2, e3⟩ := x
 unfold Applied
 rw [h]
 exact ⟨⟨u, e1, e2⟩, e3⟩
theorem applyV (l : List Lnk) (v : Value) (m : Mov) (w : World) (B : Nat) (hv : Lies w B 2 v (lnkR l)) (hn : l.length ≤ 1048575) (hB : B ≤ w.heap.size) (hs : m.name.size ≤ 9223372036854775807) (ht : m.to.size ≤ 9223372036854775807) :
  Calls Tryz.prog 49 #[v, movV m] w fun e w' => Applied w l v m e w' := by
 cases hno : nameOk m.name with
 | false => exact (apply_a l v m w B hv hn hB hs ht hno).mono fun e w' h => .no (by unfold apply; rw [if_pos hno]) h
 | true =>
  have hno' : ¬ nameOk m.name = false := by rw [hno]; simp
  by_cases k1 : m.kind = 1
  ·by_cases hto : m.to.size = 0
   ·cases hat : linkAt l m.name with
    | none => exact (apply_b l v m w B hv hn hB hs ht hno k1 hto hat).mono fun e w' h => .yes (by unfold apply; rw [if_neg hno', if_pos ⟨k1, hto, hat⟩]) h
    | some i => exact (apply_e2 l v m w B hv hn hB hs ht hno k1 hto i hat).mono fun e w' h => .no (by unfold apply; rw [if_neg hno', hat]; simp [k1]) h
   ·exact (apply_e1 l v m w B hv hn hB hs ht hno k1 hto).mono fun e w' h => .no (by unfold apply; rw [if_neg hno', if_neg (fun h => hto h.2.1)]; split <;> simp [k1]) h
  ·have n1 : ¬ (m.kind = 1 ∧ m.to.size = 0 ∧ linkAt l m.name = none) := fun h => k1 h.1
   by_cases k2 : m.kind = 2
   ·by_cases hid : m.id = 0
    ·cases hat : linkAt l m.name with
     | none => exact (apply_e4 l v m w B hv hn hB hs ht hno k2 hat hid).mono fun e w' h => .no (by unfold apply; rw [if_neg hno', if_neg n1, hat]) h
     | some i =>
      cases htn : nameOk m.to with
      | false => exact (apply_e5 l v m w B hv hn hB hs ht hno k2 i hat hid htn).mono fun e w' h => .no (by unfold apply; rw [if_neg hno', if_neg n1, hat]; simp [k2, htn]) h
      | true =>
       by_cases hte : m.to = m.name
       ·exact (apply_e6 l v m w B hv hn hB hs ht hno k2 i hat hid htn hte).mono fun e w' h => .no (by unfold apply; rw [if_neg hno', if_neg n1, hat]; simp [k2, hte]) h
       ·exact (apply_c l v m w B hv hn hB hs ht hno k2 i hat hid htn hte).mono fun e w' h => .yes (by unfold apply; rw [if_neg hno', if_neg n1, hat]; simp [k2, hid, htn, hte]) h
    ·exact (apply_e3 l v m w B hv hn hB hs ht hno k2 hid).mono fun e w' h => .no (by unfold apply; rw [if_neg hno', if_neg n1]; split <;> simp [k2, hid]) h
   ·by_cases k3 : m.kind = 3
    ·by_cases hid : m.id = 0
     ·by_cases hto : m.to.size = 0
      ·cases hat : linkAt l m.name with
       | none => exact (apply_e9 l v m w B hv hn hB hs ht hno k3 hto hat hid).mono fun e w' h => .no (by unfold apply; rw [if_neg hno', if_neg n1, hat]) h
       | some i => exact (apply_d l v m w B hv hn hB hs ht hno k3 hto i hat hid).mono fun e w' h => .yes (by unfold apply; rw [if_neg hno', if_neg n1, hat]; simp [k3, hid, hto]) h
      ·exact (apply_e8 l v m w B hv hn hB hs ht hno k3 hto hid).mono fun e w' h => .no (by unfold apply; rw [if_neg hno', if_neg n1]; split <;> simp [k3, hto]) h
     ·exact (apply_e7 l v m w B hv hn hB hs ht hno k3 hid).mono fun e w' h => .no (by unfold apply; rw [if_neg hno', if_neg n1]; split <;> simp [k3, hid]) h
    ·exact (apply_e0 l v m w B hv hn hB hs ht hno ⟨k1, k2, k3⟩).mono fun e w' h => .no (by unfold apply; rw [if_neg hno', if_neg n1]; split <;> simp [k2, k3]) h
end Go.Proofs.YtdimaoloapbeoaaGreatDoor
namespace Go.Proofs.YtdimaoloapbeoaaGreatDoor
open Go.ChangeShapes Go.WideShapes Go.ChangeAt Go.RowKit Go.PlainAid
set_option linter.unusedVariables false
theorem without_len (l : List Lnk) (name : ByteArray) : (without l name).length ≤ l.length := List.length_filter_le _ _
theorem apply_len (l : List Lnk) (m : Mov) : ((apply l m).getD l).length ≤ l.length + 1 := by
 unfold apply
 split
 ·simp
 ·split
  ·simp only [Option.getD_some, withL, ins_length]
   exact Nat.succ_le_succ (without_len _ _)
  ·split
   ·split
    ·simp only [Option.getD_some, withL, ins_length]
     exact Nat.succ_le_succ (Nat.le_trans (without_len _ _) (without_len _ _))
    ·split
     ·exact Nat.le_succ_of_le (without_len _ _)
     ·simp
   ·simp
theorem names_snoc (l : List Lnk) (ms : List Mov) (m : Mov) : names l (ms ++ [m]) = (apply (names l ms) m).getD (names l ms) := by
 induction ms generalizing l with
 | nil => rfl
 | cons x r ih => exact ih _
theorem names_len (l : List Lnk) (ms : List Mov) : (names l ms).length ≤ l.length + ms.length := by
 induction ms generalizing l with
 | nil => simp [names]
 | cons x r ih =>
  have h1 := ih ((apply l x).getD l)
  have h2 := apply_len l x
  rw [names, List.length_cons]
  omega
theorem names_take (l : List Lnk) (ms : List Mov) (k : Nat) (h : k < ms.length) : names l (ms.take (k + 1)) = (apply (names l (ms.take k)) (ms.getD k default)).getD (names l (ms.take k)) := by
 rw [take_getD ms k h, names_snoc]
set_option maxRecDepth 20000 in
set_option maxHeartbeats 1000000 in
theorem namesV (d : Dsk) (v : Value) (n : Int) (w : World) (B : Nat) (hv : DiskV w B v d) (hf : Fits d) (hn : d.dir.length + d.movs.length ≤ 1048575) (hB : B ≤ w.heap.size) :
  Calls Tryz.prog 80 #[v, .int .i64 n] w fun e w' => ∃ u, e = .returned u ∧ Owns w' w.heap.size 93 2 u (lnkR (names d.dir (d.movs.take n.toNat))) ∧ Below w.heap.size w w' := by
 obtain ⟨v1, v2, v3, rfl, h1, h2, h3⟩ := hv
 have HL : Hid (Lies w B 2 v2 (lnkR d.dir)) := h2
 have HB : Hid (B ≤ w.heap.size) := hB
 have HN : Hid (d.dir.length + d.movs.length ≤ 1048575) := hn
 have HX : Hid (∀ j, j < d.movs.length → (d.movs.getD j default).name.size ≤ 9223372036854775807 ∧ (d.movs.getD j default).to.size ≤ 9223372036854775807) := fun j hj => hf.mx _ (getD_mem _ _ hj)
 obtain ⟨A3, c3, rfl, h3'⟩ := mov_look h3
 have HM : Hid (∀ j, j < d.movs.length → ∃ g off, A3 = some ⟨g, off, none⟩ ∧ g < B ∧ _) := h3'
 obtain ⟨A2, c2, rfl, _⟩ := lnk_look h2
 clear h1 h2 h3 h3' hf hB hn
 have q1 : (d.movs.length : Int) ≤ 1048575 := by have := HN.out; omega
 have HT : Hid (∀ k, k < d.movs.length → names d.dir (d.movs.take (k + 1)) = (apply (names d.dir (d.movs.take k)) (d.movs.getD k default)).getD (names d.dir (d.movs.take k))) := fun k hk => names_take _ _ k hk
 have HK : Hid (∀ k, (names d.dir (d.movs.take k)).length ≤ 1048575) := fun k => by
  have h4 := names_len d.dir (d.movs.take k)
  rw [List.length_take] at h4
  have := HN.out
  omega
 generalize hM : d.movs.length = M at *
 generalize hD : d.dir.length = D at *
 have B0 : Hid (Below w.heap.size w ((w.alloc (.cells #[.int .i64 d.room, .int .i64 d.next, v1, .slice A2 D c2, .slice A3 M c3] 41)).alloc (.cells #[] 93))) := below_alloc2' w _ _
 have K0 : Hid (Blk ((w.alloc (.cells #[.int .i64 d.room, .int .i64 d.next, v1, .slice A2 D c2, .slice A3 M c3] 41)).alloc (.cells #[] 93)) w.heap.size #[.int .i64 d.room, .int .i64 d.next, v1, .slice A2 D c2, .slice A3 M c3] 41) := (Blk.new w #[.int .i64 d.room, .int .i64 d.next, v1, .slice A2 D c2, .slice A3 M c3] 41).alloc (.cells #[] 93)
 have hE := Owns.empty (w.alloc (.cells #[.int .i64 d.room, .int .i64 d.next, v1, .slice A2 D c2, .slice A3 M c3] 41)) (w.heap.size + 1) 93 2 (by simp)
 simp only [World.size_alloc] at hE
 have hL2 := HL.out.on (B0.out.mono HB.out)
 have s1 : ([] : List (List Value)).length + (lnkR d.dir).length ≤ 2097152 := by rw [lnkR_length, hD]; have := HN.out; simp; omega
 have s2 : w.heap.size + 1 ≤ ((w.alloc (.cells #[.int .i64 d.room, .int .i64 d.next, v1, .slice A2 D c2, .slice A3 M c3] 41)).alloc (.cells #[] 93)).heap.size := by simp
 have s3 := lnk_one d.dir
 go_enter Tryz.func80, Tryz.ntmps80
 go_wp2_with (at_builtin; refine wpList_append_all (w := (w.alloc (.cells #[.int .i64 d.room, .int .i64 d.next, v1, .slice A2 D c2, .slice A3 M c3] 41)).alloc (.cells #[] 93)) rfl (.tmp 7) (.tmp 9) 38 93 (.agg #[.string ⟨#[]⟩, .int .i64 0]) 2 24 rfl Tryz.underlying38 Tryz.infoLnk rfl (by omega) (w.heap.size + 1) (.slice (some ⟨w.heap.size + 1, 0, none⟩) 0 0) (.slice A2 D c2) [] (lnkR d.dir) B rfl hE hL2 s3 rfl s1 (by omega) s2 ?_; intro v' w2 hO2 hb2 _ _)
 have K2 : Hid (Blk w2 w.heap.size #[.int .i64 d.room, .int .i64 d.next, v1, .slice A2 D c2, .slice A3 M c3] 41) := K0.out.on hb2 (Nat.lt_succ_self _)
 have B2 : Hid (Below w.heap.size w w2) := B0.out.trans (hb2.mono (Nat.le_succ _))
 have O2 : Hid (Owns w2 (w.heap.size + 1) 93 2 v' (lnkR d.dir)) := hO2
 clear hE hL2 s1 s2 s3 hO2 hb2 K0 B0
 go_loopw [5, 6] (fun v5 v6 wr => ∃ k : Nat, k ≤ M ∧ k ≤ n.toNat ∧ v6 = .int .i64 (k : Int) ∧ Owns wr (w.heap.size + 1) 93 2 v5 (lnkR (names d.dir (d.movs.take k))) ∧ Blk wr w.heap.size #[.int .i64 d.room, .int .i64 d.next, v1, .slice A2 D c2, .slice A3 M c3] 41 ∧ Below w.heap.size w wr) (fun _ i _ => M - (intOf i).toNat)
 case atStart => exact ⟨0, by omega, by omega, rfl, O2.out, K2.out, B2.out⟩
 case round =>
  obtain ⟨k, hk, hk2, rfl, hO, hX, hb⟩ := hrel
  have HO : Hid (Owns wr (w.heap.size + 1) 93 2 u5 (lnkR (names d.dir (d.movs.take k)))) := hO
  have HXX : Hid (Blk wr w.heap.size #[.int .i64 d.room, .int .i64 d.next, v1, .slice A2 D c2, .slice A3 M c3] 41) := hX
  have HBB : Hid (Below w.heap.size w wr) := hb
  have x4 := HXX.out.cell 4 _ rfl
  clear hO hX hb
  by_cases hlt : (k : Int) < n
  ·by_cases hlm : k < M
   ·have q4 : (k : Int) < (M : Int) := by omega
    obtain ⟨g, off, rfl, hg, hc0, hc1, hc2, hc3⟩ := HM.out k hlm
    have hgw : g < w.heap.size := Nat.lt_of_lt_of_le hg HB.out
    rw [← HBB.out.cell (p := ⟨_, _, none⟩) hgw] at hc0 hc1 hc2 hc3
    have hx := HX.out k hlm
    have c1 := applyV (names d.dir (d.movs.take k)) u5 (d.movs.getD k default) wr wr.heap.size HO.out.lies (HK.out k) (Nat.le_refl _) hx.1 hx.2
    unfold movV at c1
    have T1 := HT.out k hlm
    obtain ⟨A5, n5, c5, rfl⟩ := HO.out.shape
    generalize d.movs.getD k default = m at *
    generalize m.kind = m1 at *
    generalize m.name = m2 at *
    generalize m.to = m3 at *
    generalize m.id = m4 at *
    generalize hw0 : w.heap.size = ws at *
    go_wp2_with fail
    refine c1.mono ?_
    rintro e w3 ⟨ha, hb3⟩
    have X3 : Hid (Blk w3 ws #[.int .i64 d.room, .int .i64 d.next, v1, .slice A2 D c2, .slice (some ⟨g, off, none⟩) M c3] 41) := HXX.out.on hb3 HXX.out.lt
    have S3 : Hid (ws + 1 ≤ wr.heap.size) := Nat.succ_le_of_lt HXX.out.lt
    have B3 : Hid (Below ws w w3) := HBB.out.trans (hb3.mono (Nat.le_of_lt HXX.out.lt))
    have O3 : Hid (Owns w3 (ws + 1) 93 2 (.slice A5 n5 c5) (lnkR (names d.dir (d.movs.take k)))) := HO.out.on hb3
    rcases hap : apply (names d.dir (d.movs.take k)) m with _ | r
    ·rw [hap] at ha
     subst ha
     go_wp2_with fail
     go_roundw
     case rel => exact ⟨k + 1, by omega, by omega, by go_num, by rw [T1, hap]; exact O3.out, X3.out, B3.out⟩
     case measure => simp [intOf]; omega
    ·rw [hap] at ha
     obtain ⟨u, rfl, hO3⟩ := ha
     have O4 : Hid (Owns w3 (ws + 1) 93 2 u (lnkR r)) := hO3.mono S3.out
     clear hO3
     go_wp2_with fail
     go_roundw
     case rel => exact ⟨k + 1, by omega, by omega, by go_num, by rw [T1, hap]; exact O4.out, X3.out, B3.out⟩
     case measure => simp [intOf]; omega
   ·obtain rfl : k = M := by omega
    go_wp2_with fail
    go_ret
    refine ⟨_, rfl, ?_, HBB.out⟩
    have h5 := HO.out
    rw [← hM, List.take_length] at h5
    rw [List.take_of_length_le (by omega)]
    exact h5.mono (Nat.le_succ _)
  ·have hd : decide ((k : Int) < n) = false := decide_eq_false hlt
   have hkn : k = n.toNat := by omega
   go_wp2_with fail
   go_ret
   refine ⟨_, rfl, ?_, HBB.out⟩
   rw [← hkn]
   exact HO.out.mono (Nat.le_succ _)
end Go.Proofs.YtdimaoloapbeoaaGreatDoor
namespace Go.Proofs.YtdimaoloapbeoaaGreatDoor
open Go.ChangeShapes Go.WideShapes Go.ChangeAt Go.RowKit Go.PlainAid
set_option linter.unusedVariables false
def now (d : Dsk) : List Lnk := names d.dir d.movs
def find (d : Dsk) (name : ByteArray) : Option Nat :=
 match linkAt (now d) name with
 | none => none
 | some i => nodAt d.nods ((now d).getD i default).id
theorem find_no {d : Dsk} {name : ByteArray} (h : linkAt (now d) name = none) : find d name = none := by unfold find; rw [h]
theorem find_yes {d : Dsk} {name : ByteArray} {i : Nat} (h : linkAt (now d) name = some i) : find d name = nodAt d.nods ((now d).getD i default).id := by unfold find; rw [h]
theorem now_len (d : Dsk) : (now d).length ≤ d.dir.length + d.movs.length := names_len _ _
set_option maxRecDepth 20000 in
set_option maxHeartbeats 1000000 in
theorem findV (d : Dsk) (v : Value) (name : ByteArray) (w : World) (B : Nat) (hv : DiskV w B v d) (hf : Fits d) (hn : d.dir.length + d.movs.length ≤ 1048575) (hnn : d.nods.length ≤ 1048576) (hB : B ≤ w.heap.size) :
  Calls Tryz.prog 50 #[v, .string name] w fun e w' => e = .returned (.int .i64 (idxV (find d name))) ∧ Below w.heap.size w w' := by
 have HV : Hid (DiskV w B v d) := hv
 have HF : Hid (Fits d) := hf
 have HB : Hid (B ≤ w.heap.size) := hB
 have HN : Hid (d.dir.length + d.movs.length ≤ 1048575) := hn
 have HNN : Hid (d.nods.length ≤ 1048576) := hnn
 obtain ⟨v1, v2, v3, rfl, h1, h2, h3⟩ := hv
 obtain ⟨A3, c3, rfl, _⟩ := mov_look h3
 clear h1 h2 h3 hf hB hn hnn
 have HL : Hid ((now d).length ≤ 1048575) := Nat.le_trans (now_len d) HN.out
 have HT : Hid (d.movs.take (d.movs.length : Int).toNat = d.movs) := List.take_length
 have cN := fun wx hx hb => namesV d (.agg #[.int .i64 d.room, .int .i64 d.next, v1, v2, .slice A3 d.movs.length c3]) (d.movs.length : Int) wx B hx HF.out HN.out hb
 rw [HT.out] at cN
 go_enter Tryz.func50, Tryz.ntmps50
 go_wp2_with fail
 have hb0 : Below w.heap.size w (w.alloc (.cells #[.int .i64 d.room, .int .i64 d.next, v1, v2, .slice A3 d.movs.length c3] 41)) := (Below.refl _ _).alloc (Nat.le_refl _) _
 have kA := Blk.new w #[.int .i64 d.room, .int .i64 d.next, v1, v2, .slice A3 d.movs.length c3] 41
 generalize w.alloc (.cells #[.int .i64 d.room, .int .i64 d.next, v1, v2, .slice A3 d.movs.length c3] 41) = W at *
 have B0 : Hid (Below w.heap.size w W) := hb0
 have K0 : Hid (Blk W w.heap.size #[.int .i64 d.room, .int .i64 d.next, v1, v2, .slice A3 d.movs.length c3] 41) := kA
 clear hb0 kA
 refine (cN W (HV.out.on (B0.out.mono HB.out)) (Nat.le_trans HB.out B0.out.size)).mono ?_
 rintro e w2 ⟨u, rfl, hO, hb⟩
 have O2 : Hid (Owns w2 W.heap.size 93 2 u (lnkR (now d))) := hO
 have K2 : Hid (Blk w2 w.heap.size #[.int .i64 d.room, .int .i64 d.next, v1, v2, .slice A3 d.movs.length c3] 41) := K0.out.on hb K0.out.lt
 have B2 : Hid (Below w.heap.size w w2) := B0.out.trans (hb.mono B0.out.size)
 clear hO hb cN
 obtain ⟨A, cap, rfl, hlk⟩ := lnk_look O2.out.lies
 have HK : Hid (∀ j, j < (now d).length → ∃ g off, A = some ⟨g, off, none⟩ ∧ g < w2.heap.size ∧ _) := hlk
 have cA := atV4 (now d) (.slice A (now d).length cap) name w2 w2.heap.size O2.out.lies (by have := HL.out; omega)
 clear hlk
 go_wp2_with fail
 refine cA.mono ?_
 rintro e w1 ⟨rfl, rfl⟩
 clear cA
 rcases hat : linkAt (now d) name with _ | i
 ·have e1 : idxV (none : Option Nat) = -1 := rfl
  rw [e1]
  go_wp2_with fail
  go_ret
  exact ⟨by rw [find_no hat]; rfl, B2.out⟩
 ·have e1 : idxV (some i) = (i : Int) := rfl
  rw [e1]
  have hi := idx_lt hat
  obtain ⟨g, off, rfl, hg, hc0, hc1⟩ := HK.out i hi
  have HY : Hid (find d name = nodAt d.nods ((now d).getD i default).id) := find_yes hat
  have q4 : (i : Int) < ((now d).length : Int) := by omega
  have j1 : decide ((i : Int) < 0) = false := decide_eq_false (by omega)
  have y0 := K2.out.cell 0 _ rfl
  have y1 := K2.out.cell 1 _ rfl
  have y2 := K2.out.cell 2 _ rfl
  have y3 := K2.out.cell 3 _ rfl
  have y4 := K2.out.cell 4 _ rfl
  have hVd : DiskV w2.drew B (.agg #[.int .i64 d.room, .int .i64 d.next, v1, v2, .slice A3 d.movs.length c3]) d := HV.out.on ((B2.out.trans ((below_drewN' w2 1).mono B2.out.size)).mono HB.out)
  have hBd : B ≤ w2.drew.heap.size := Nat.le_trans HB.out B2.out.size
  have cI := inodeV d (.agg #[.int .i64 d.room, .int .i64 d.next, v1, v2, .slice A3 d.movs.length c3]) ((now d).getD i default).id w2.drew B hVd HNN.out hBd
  have q5 : ((now d).length : Int) ≤ 1048575 := by have := HL.out; omega
  have HG : Hid (g < w2.heap.size) := hg
  have HW : Hid (w.heap.size < w2.heap.size) := K2.out.lt
  clear hat hVd hBd hc0 hg hi
  generalize ((now d).getD i default).id = li at *
  generalize (now d).length = nn at *
  generalize d.movs.length = M at *
  have Z2 : Hid (w.heap.size ≤ w2.heap.size) := B2.out.size
  generalize hws : w.heap.size = ws at *
  go_wp2_with fail
  have S0 : Hid (w2.drew.cell? ⟨ws, 0, none⟩ = some (.int .i64 d.room) ∧ w2.drew.cell? ⟨ws, 1, none⟩ = some (.int .i64 d.next) ∧ w2.drew.cell? ⟨ws, 2, none⟩ = some v1 ∧ w2.drew.cell? ⟨ws, 3, none⟩ = some v2 ∧ w2.drew.cell? ⟨ws, 4, none⟩ = some (.slice A3 M c3) ∧ w2.drew.cell? ⟨g, off + i * 2 + 1, none⟩ = some (.int .i64 li)) := ⟨y0, y1, y2, y3, y4, hc1⟩
  go_region_held3 (fun w' => w'.cell? ⟨ws, 0, none⟩ = some (.int .i64 d.room) ∧ w'.cell? ⟨ws, 1, none⟩ = some (.int .i64 d.next) ∧ w'.cell? ⟨ws, 2, none⟩ = some v1 ∧ w'.cell? ⟨ws, 3, none⟩ = some v2 ∧ w'.cell? ⟨ws, 4, none⟩ = some (.slice A3 M c3) ∧ w'.cell? ⟨g, off + i * 2 + 1, none⟩ = some (.int .i64 li)) (first | exact S2.out | exact S0.out)
   ((go_at_call 48; refine cI.mono ?_; rintro e w3 ⟨rfl, hb⟩; have S2 : Hid (w3.cell? ⟨ws, 0, none⟩ = some (.int .i64 d.room) ∧ w3.cell? ⟨ws, 1, none⟩ = some (.int .i64 d.next) ∧ w3.cell? ⟨ws, 2, none⟩ = some v1 ∧ w3.cell? ⟨ws, 3, none⟩ = some v2 ∧ w3.cell? ⟨ws, 4, none⟩ = some (.slice A3 M c3) ∧ w3.cell? ⟨g, off + i * 2 + 1, none⟩ = some (.int .i64 li)) := ⟨(hb.cell (p := ⟨ws, 0, none⟩) HW.out).trans y0, (hb.cell (p := ⟨ws, 1, none⟩) HW.out).trans y1, (hb.cell (p := ⟨ws, 2, none⟩) HW.out).trans y2, (hb.cell (p := ⟨ws, 3, none⟩) HW.out).trans y3, (hb.cell (p := ⟨ws, 4, none⟩) HW.out).trans y4, (hb.cell (p := ⟨g, off + i * 2 + 1, none⟩) HG.out).trans hc1⟩))
  go_wp2_with fail
  have B3 : Below ws w w3 := B2.out.trans (((below_drewN' w2 1).mono Z2.out).trans (hb.mono Z2.out))
  go_ret
  exact ⟨by rw [HY.out]; rfl, hws ▸ B3⟩
end Go.Proofs.YtdimaoloapbeoaaGreatDoor
