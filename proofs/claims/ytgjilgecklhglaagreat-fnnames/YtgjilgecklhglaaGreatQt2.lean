/- DkApply DkNames ImApply -/
import Derived.Test.YtgjilgecklhglaaGreatRows
import Derived.Test.YtgjilgecklhglaaGreatQt1
import Derived.Deep.RegionHeld3
import Derived.Test.YtgjilgecklhglaaGreatQt0
namespace Go.Proofs.YtgjilgecklhglaaGreat
open Go.ChangeShapes Go.WideShapes Go.ChangeAt Go.RowKit Go.PlainAid
set_option linter.unusedVariables false
def movV (x : Mov) : Value := .agg #[.int .i64 x.kind, .string x.name, .string x.to, .int .i64 x.id]
theorem empty_of (b : ByteArray) (h : b.size = 0) : b = ⟨#[]⟩ := by
 apply ByteArray.ext
 exact Array.eq_empty_of_size_eq_zero h
theorem isEmpty_no (b : ByteArray) (h : ¬ b.size = 0) : b.toList.isEmpty = false := by
 rw [Lib.toList_data]
 rcases e : b.data.toList with _ | ⟨x, l⟩
 ·exact absurd (by rw [Lib.size_eq, e]; rfl) h
 ·rfl
theorem idx_lt {l : List Lnk} {name : ByteArray} {i : Nat} (h : linkAt l name = some i) : i < l.length := by
 unfold linkAt at h
 rw [List.findIdx?_eq_some_iff_getElem] at h
 exact h.1
set_option maxRecDepth 20000 in
set_option maxHeartbeats 1000000 in
theorem apply_a (l : List Lnk) (v : Value) (m : Mov) (w : World) (B : Nat) (hv : Lies w B 2 v (lnkR l)) (hn : l.length ≤ 1048575) (hB : B ≤ w.heap.size) (hs : m.name.size ≤ 9223372036854775807) (ht : m.to.size ≤ 9223372036854775807) (hno : nameOk m.name = false) :
  Calls Tryz.prog 57 #[v, movV m] w fun e w' => e = .returned (.tuple #[v, .bool false]) ∧ Below w.heap.size w w' := by
 have HV : Hid (Lies w B 2 v (lnkR l)) := hv
 have HB : Hid (B ≤ w.heap.size) := hB
 have HN : Hid (l.length ≤ 1048575) := hn
 obtain ⟨A0, c0, hv0⟩ : ∃ A c, v = .slice A l.length c := by
  obtain ⟨A, c, e, _⟩ := HV.out
  exact ⟨A, c, by rw [e, lnkR_length]⟩
 subst hv0
 have c1 := fun wx hx => atV4 l (.slice A0 l.length c0) m.name wx B hx (by have := HN.out; omega)
 have c2 := fun wx => nameV m.name wx hs
 have c3 := fun wx => nameV m.to wx ht
 rw [hno] at c2
 obtain ⟨mk, mn, mt, mi⟩ := m
 simp only at *
 unfold movV
 simp only
 clear hno hs ht hn hB
 generalize hln : l.length = n at *
 go_enter Tryz.func57, Tryz.ntmps57
 go_wp2_with fail
 have hb0 : Below w.heap.size w (w.alloc (.cells #[.int .i64 mk, .string mn, .string mt, .int .i64 mi] 51)) := (Below.refl _ _).alloc (Nat.le_refl _) _
 have K0 := Blk.new w #[.int .i64 mk, .string mn, .string mt, .int .i64 mi] 51
 generalize w.alloc (.cells #[.int .i64 mk, .string mn, .string mt, .int .i64 mi] 51) = W at *
 have B0 : Hid (Below w.heap.size w W) := hb0
 have x0 := K0.cell 0 _ rfl
 have x1 := K0.cell 1 _ rfl
 have x2 := K0.cell 2 _ rfl
 have x3 := K0.cell 3 _ rfl
 have KK : Hid (Blk W w.heap.size #[.int .i64 mk, .string mn, .string mt, .int .i64 mi] 51) := K0
 clear hb0 K0
 have hV1 := HV.out.on (B0.out.mono HB.out)
 refine (c1 W hV1).mono ?_
 rintro e w1 ⟨rfl, rfl⟩
 generalize idxV (linkAt l mn) = ix at *
 go_wp2_with fail
 refine (c2 W).mono ?_
 rintro e w1 ⟨rfl, rfl⟩
 go_wp2_with fail
 go_ret2
 exact ⟨rfl, B0.out⟩
set_option maxRecDepth 20000 in
set_option maxHeartbeats 1000000 in
theorem apply_b (l : List Lnk) (v : Value) (m : Mov) (w : World) (B : Nat) (hv : Lies w B 2 v (lnkR l)) (hn : l.length ≤ 1048575) (hB : B ≤ w.heap.size) (hs : m.name.size ≤ 9223372036854775807) (ht : m.to.size ≤ 9223372036854775807) (hno : nameOk m.name = true) (hk : m.kind = 1) (hto : m.to.size = 0) (hat : linkAt l m.name = none) :
  Calls Tryz.prog 57 #[v, movV m] w fun e w' => ∃ u, e = .returned (.tuple #[u, .bool true]) ∧ Owns w' w.heap.size 49 2 u (lnkR (withL l ⟨m.name, m.id⟩)) ∧ Below w.heap.size w w' := by
 have HV : Hid (Lies w B 2 v (lnkR l)) := hv
 have HB : Hid (B ≤ w.heap.size) := hB
 have HN : Hid (l.length ≤ 1048575) := hn
 obtain ⟨A0, c0, hv0⟩ : ∃ A c, v = .slice A l.length c := by
  obtain ⟨A, c, e, _⟩ := HV.out
  exact ⟨A, c, by rw [e, lnkR_length]⟩
 subst hv0
 have c1 := fun wx hx => atV4 l (.slice A0 l.length c0) m.name wx B hx (by have := HN.out; omega)
 have c2 := fun wx => nameV m.name wx hs
 have c3 := fun wx => nameV m.to wx ht
 rw [hno] at c2
 rw [hat] at c1
 have e1 : idxV none = -1 := rfl
 rw [e1] at c1
 obtain ⟨mk, mn, mt, mi⟩ := m
 simp only at *
 unfold movV
 simp only
 subst hk
 obtain rfl := empty_of mt hto
 clear hno hs ht hn hB
 generalize hln : l.length = n at *
 go_enter Tryz.func57, Tryz.ntmps57
 go_wp2_with fail
 have hb0 : Below w.heap.size w (w.alloc (.cells #[.int .i64 1, .string mn, .string ⟨#[]⟩, .int .i64 mi] 51)) := (Below.refl _ _).alloc (Nat.le_refl _) _
 have K0 := Blk.new w #[.int .i64 1, .string mn, .string ⟨#[]⟩, .int .i64 mi] 51
 generalize w.alloc (.cells #[.int .i64 1, .string mn, .string ⟨#[]⟩, .int .i64 mi] 51) = W at *
 have B0 : Hid (Below w.heap.size w W) := hb0
 have x0 := K0.cell 0 _ rfl
 have x1 := K0.cell 1 _ rfl
 have x2 := K0.cell 2 _ rfl
 have x3 := K0.cell 3 _ rfl
 have KK : Hid (Blk W w.heap.size #[.int .i64 1, .string mn, .string ⟨#[]⟩, .int .i64 mi] 51) := K0
 clear hb0 K0
 have hV1 := HV.out.on (B0.out.mono HB.out)
 refine (c1 W hV1).mono ?_
 rintro e w1 ⟨rfl, rfl⟩
 go_wp2_with fail
 refine (c2 W).mono ?_
 rintro e w1 ⟨rfl, rfl⟩
 go_wp2_with fail
 have c4 := withV l (.slice A0 n c0) ⟨mn, mi⟩ W B hV1 (by rw [hln]; exact HN.out) (Nat.le_trans HB.out B0.out.size)
 unfold vLnk at c4
 refine c4.mono ?_
 rintro e w2 ⟨u, rfl, hO, hb⟩
 have O2 : Hid (Owns w2 w.heap.size 49 2 u (lnkR (withL l ⟨mn, mi⟩))) := hO.mono B0.out.size
 have B2 : Hid (Below w.heap.size w w2) := B0.out.trans (hb.mono B0.out.size)
 clear hO hb
 go_wp2_with fail
 go_ret2
 exact ⟨u, rfl, O2.out, B2.out⟩
set_option maxRecDepth 20000 in
set_option maxHeartbeats 1000000 in
theorem apply_e1 (l : List Lnk) (v : Value) (m : Mov) (w : World) (B : Nat) (hv : Lies w B 2 v (lnkR l)) (hn : l.length ≤ 1048575) (hB : B ≤ w.heap.size) (hs : m.name.size ≤ 9223372036854775807) (ht : m.to.size ≤ 9223372036854775807) (hno : nameOk m.name = true) (hk : m.kind = 1) (hto : ¬ m.to.size = 0) :
  Calls Tryz.prog 57 #[v, movV m] w fun e w' => e = .returned (.tuple #[v, .bool false]) ∧ Below w.heap.size w w' := by
 have HV : Hid (Lies w B 2 v (lnkR l)) := hv
 have HB : Hid (B ≤ w.heap.size) := hB
 have HN : Hid (l.length ≤ 1048575) := hn
 obtain ⟨A0, c0, hv0⟩ : ∃ A c, v = .slice A l.length c := by
  obtain ⟨A, c, e, _⟩ := HV.out
  exact ⟨A, c, by rw [e, lnkR_length]⟩
 subst hv0
 have c1 := fun wx hx => atV4 l (.slice A0 l.length c0) m.name wx B hx (by have := HN.out; omega)
 have c2 := fun wx => nameV m.name wx hs
 have c3 := fun wx => nameV m.to wx ht
 rw [hno] at c2
 obtain ⟨mk, mn, mt, mi⟩ := m
 simp only at *
 unfold movV
 simp only
 subst hk
 have t1 := isEmpty_no mt hto
 have t2 : ¬ mt.toList = [] := fun h => by rw [h] at t1; cases t1
 clear hno hs ht hn hB
 generalize hln : l.length = n at *
 go_enter Tryz.func57, Tryz.ntmps57
 go_wp2_with fail
 have hb0 : Below w.heap.size w (w.alloc (.cells #[.int .i64 1, .string mn, .string mt, .int .i64 mi] 51)) := (Below.refl _ _).alloc (Nat.le_refl _) _
 have K0 := Blk.new w #[.int .i64 1, .string mn, .string mt, .int .i64 mi] 51
 generalize w.alloc (.cells #[.int .i64 1, .string mn, .string mt, .int .i64 mi] 51) = W at *
 have B0 : Hid (Below w.heap.size w W) := hb0
 have x0 := K0.cell 0 _ rfl
 have x1 := K0.cell 1 _ rfl
 have x2 := K0.cell 2 _ rfl
 have x3 := K0.cell 3 _ rfl
 have KK : Hid (Blk W w.heap.size #[.int .i64 1, .string mn, .string mt, .int .i64 mi] 51) := K0
 clear hb0 K0
 have hV1 := HV.out.on (B0.out.mono HB.out)
 refine (c1 W hV1).mono ?_
 rintro e w1 ⟨rfl, rfl⟩
 generalize idxV (linkAt l mn) = ix at *
 go_wp2_with fail
 refine (c2 W).mono ?_
 rintro e w1 ⟨rfl, rfl⟩
 go_wp2_with fail
 go_ret2
 exact ⟨rfl, B0.out⟩
set_option maxRecDepth 20000 in
set_option maxHeartbeats 1000000 in
theorem apply_e2 (l : List Lnk) (v : Value) (m : Mov) (w : World) (B : Nat) (hv : Lies w B 2 v (lnkR l)) (hn : l.length ≤ 1048575) (hB : B ≤ w.heap.size) (hs : m.name.size ≤ 9223372036854775807) (ht : m.to.size ≤ 9223372036854775807) (hno : nameOk m.name = true) (hk : m.kind = 1) (hto : m.to.size = 0) (i : Nat) (hat : linkAt l m.name = some i) :
  Calls Tryz.prog 57 #[v, movV m] w fun e w' => e = .returned (.tuple #[v, .bool false]) ∧ Below w.heap.size w w' := by
 have HV : Hid (Lies w B 2 v (lnkR l)) := hv
 have HB : Hid (B ≤ w.heap.size) := hB
 have HN : Hid (l.length ≤ 1048575) := hn
 obtain ⟨A0, c0, hv0⟩ : ∃ A c, v = .slice A l.length c := by
  obtain ⟨A, c, e, _⟩ := HV.out
  exact ⟨A, c, by rw [e, lnkR_length]⟩
 subst hv0
 have c1 := fun wx hx => atV4 l (.slice A0 l.length c0) m.name wx B hx (by have := HN.out; omega)
 have c2 := fun wx => nameV m.name wx hs
 have c3 := fun wx => nameV m.to wx ht
 rw [hno] at c2
 rw [hat] at c1
 have e1 : idxV (some i) = (i : Int) := rfl
 rw [e1] at c1
 have HI : Hid (i < l.length) := idx_lt hat
 obtain ⟨mk, mn, mt, mi⟩ := m
 simp only at *
 unfold movV
 simp only
 subst hk
 obtain rfl := empty_of mt hto
 have j1 : decide ((i : Int) < 0) = false := decide_eq_false (by omega)
 have j2 : decide ((0 : Int) ≤ (i : Int)) = true := decide_eq_true (by omega)
 clear hno hs ht hn hB
 generalize hln : l.length = n at *
 go_enter Tryz.func57, Tryz.ntmps57
 go_wp2_with fail
 have hb0 : Below w.heap.size w (w.alloc (.cells #[.int .i64 1, .string mn, .string ⟨#[]⟩, .int .i64 mi] 51)) := (Below.refl _ _).alloc (Nat.le_refl _) _
 have K0 := Blk.new w #[.int .i64 1, .string mn, .string ⟨#[]⟩, .int .i64 mi] 51
 generalize w.alloc (.cells #[.int .i64 1, .string mn, .string ⟨#[]⟩, .int .i64 mi] 51) = W at *
 have B0 : Hid (Below w.heap.size w W) := hb0
 have x0 := K0.cell 0 _ rfl
 have x1 := K0.cell 1 _ rfl
 have x2 := K0.cell 2 _ rfl
 have x3 := K0.cell 3 _ rfl
 have KK : Hid (Blk W w.heap.size #[.int .i64 1, .string mn, .string ⟨#[]⟩, .int .i64 mi] 51) := K0
 clear hb0 K0
 have hV1 := HV.out.on (B0.out.mono HB.out)
 refine (c1 W hV1).mono ?_
 rintro e w1 ⟨rfl, rfl⟩
 go_wp2_with fail
 refine (c2 W).mono ?_
 rintro e w1 ⟨rfl, rfl⟩
 go_wp2_with fail
 go_ret2
 exact ⟨rfl, B0.out⟩
set_option maxRecDepth 20000 in
set_option maxHeartbeats 1000000 in
theorem apply_e3 (l : List Lnk) (v : Value) (m : Mov) (w : World) (B : Nat) (hv : Lies w B 2 v (lnkR l)) (hn : l.length ≤ 1048575) (hB : B ≤ w.heap.size) (hs : m.name.size ≤ 9223372036854775807) (ht : m.to.size ≤ 9223372036854775807) (hno : nameOk m.name = true) (hk : m.kind = 2) (hid : ¬ m.id = 0) :
  Calls Tryz.prog 57 #[v, movV m] w fun e w' => e = .returned (.tuple #[v, .bool false]) ∧ Below w.heap.size w w' := by
 have HV : Hid (Lies w B 2 v (lnkR l)) := hv
 have HB : Hid (B ≤ w.heap.size) := hB
 have HN : Hid (l.length ≤ 1048575) := hn
 obtain ⟨A0, c0, hv0⟩ : ∃ A c, v = .slice A l.length c := by
  obtain ⟨A, c, e, _⟩ := HV.out
  exact ⟨A, c, by rw [e, lnkR_length]⟩
 subst hv0
 have c1 := fun wx hx => atV4 l (.slice A0 l.length c0) m.name wx B hx (by have := HN.out; omega)
 have c2 := fun wx => nameV m.name wx hs
 have c3 := fun wx => nameV m.to wx ht
 rw [hno] at c2
 obtain ⟨mk, mn, mt, mi⟩ := m
 simp only at *
 unfold movV
 simp only
 subst hk
 have i1 : (mi == 0) = false := by simpa using hid
 clear hno hs ht hn hB
 generalize hln : l.length = n at *
 go_enter Tryz.func57, Tryz.ntmps57
 go_wp2_with fail
 have hb0 : Below w.heap.size w (w.alloc (.cells #[.int .i64 2, .string mn, .string mt, .int .i64 mi] 51)) := (Below.refl _ _).alloc (Nat.le_refl _) _
 have K0 := Blk.new w #[.int .i64 2, .string mn, .string mt, .int .i64 mi] 51
 generalize w.alloc (.cells #[.int .i64 2, .string mn, .string mt, .int .i64 mi] 51) = W at *
 have B0 : Hid (Below w.heap.size w W) := hb0
 have x0 := K0.cell 0 _ rfl
 have x1 := K0.cell 1 _ rfl
 have x2 := K0.cell 2 _ rfl
 have x3 := K0.cell 3 _ rfl
 have KK : Hid (Blk W w.heap.size #[.int .i64 2, .string mn, .string mt, .int .i64 mi] 51) := K0
 clear hb0 K0
 have hV1 := HV.out.on (B0.out.mono HB.out)
 refine (c1 W hV1).mono ?_
 rintro e w1 ⟨rfl, rfl⟩
 generalize idxV (linkAt l mn) = ix at *
 go_wp2_with fail
 refine (c2 W).mono ?_
 rintro e w1 ⟨rfl, rfl⟩
 go_wp2_with fail
 go_ret2
 exact ⟨rfl, B0.out⟩
set_option maxRecDepth 20000 in
set_option maxHeartbeats 1000000 in
theorem apply_e4 (l : List Lnk) (v : Value) (m : Mov) (w : World) (B : Nat) (hv : Lies w B 2 v (lnkR l)) (hn : l.length ≤ 1048575) (hB : B ≤ w.heap.size) (hs : m.name.size ≤ 9223372036854775807) (ht : m.to.size ≤ 9223372036854775807) (hno : nameOk m.name = true) (hk : m.kind = 2) (hat : linkAt l m.name = none) (hid : m.id = 0) :
  Calls Tryz.prog 57 #[v, movV m] w fun e w' => e = .returned (.tuple #[v, .bool false]) ∧ Below w.heap.size w w' := by
 have HV : Hid (Lies w B 2 v (lnkR l)) := hv
 have HB : Hid (B ≤ w.heap.size) := hB
 have HN : Hid (l.length ≤ 1048575) := hn
 obtain ⟨A0, c0, hv0⟩ : ∃ A c, v = .slice A l.length c := by
  obtain ⟨A, c, e, _⟩ := HV.out
  exact ⟨A, c, by rw [e, lnkR_length]⟩
 subst hv0
 have c1 := fun wx hx => atV4 l (.slice A0 l.length c0) m.name wx B hx (by have := HN.out; omega)
 have c2 := fun wx => nameV m.name wx hs
 have c3 := fun wx => nameV m.to wx ht
 rw [hno] at c2
 rw [hat] at c1
 have e1 : idxV none = -1 := rfl
 rw [e1] at c1
 obtain ⟨mk, mn, mt, mi⟩ := m
 simp only at *
 unfold movV
 simp only
 subst hk
 subst hid
 clear hno hs ht hn hB
 generalize hln : l.length = n at *
 go_enter Tryz.func57, Tryz.ntmps57
 go_wp2_with fail
 have hb0 : Below w.heap.size w (w.alloc (.cells #[.int .i64 2, .string mn, .string mt, .int .i64 0] 51)) := (Below.refl _ _).alloc (Nat.le_refl _) _
 have K0 := Blk.new w #[.int .i64 2, .string mn, .string mt, .int .i64 0] 51
 generalize w.alloc (.cells #[.int .i64 2, .string mn, .string mt, .int .i64 0] 51) = W at *
 have B0 : Hid (Below w.heap.size w W) := hb0
 have x0 := K0.cell 0 _ rfl
 have x1 := K0.cell 1 _ rfl
 have x2 := K0.cell 2 _ rfl
 have x3 := K0.cell 3 _ rfl
 have KK : Hid (Blk W w.heap.size #[.int .i64 2, .string mn, .string mt, .int .i64 0] 51) := K0
 clear hb0 K0
 have hV1 := HV.out.on (B0.out.mono HB.out)
 refine (c1 W hV1).mono ?_
 rintro e w1 ⟨rfl, rfl⟩
 go_wp2_with fail
 refine (c2 W).mono ?_
 rintro e w1 ⟨rfl, rfl⟩
 go_wp2_with fail
 go_ret2
 exact ⟨rfl, B0.out⟩
set_option maxRecDepth 20000 in
set_option maxHeartbeats 1000000 in
theorem apply_e5 (l : List Lnk) (v : Value) (m : Mov) (w : World) (B : Nat) (hv : Lies w B 2 v (lnkR l)) (hn : l.length ≤ 1048575) (hB : B ≤ w.heap.size) (hs : m.name.size ≤ 9223372036854775807) (ht : m.to.size ≤ 9223372036854775807) (hno : nameOk m.name = true) (hk : m.kind = 2) (i : Nat) (hat : linkAt l m.name = some i) (hid : m.id = 0) (htn : nameOk m.to = false) :
  Calls Tryz.prog 57 #[v, movV m] w fun e w' => e = .returned (.tuple #[v, .bool false]) ∧ Below w.heap.size w w' := by
 have HV : Hid (Lies w B 2 v (lnkR l)) := hv
 have HB : Hid (B ≤ w.heap.size) := hB
 have HN : Hid (l.length ≤ 1048575) := hn
 obtain ⟨A0, c0, hv0⟩ : ∃ A c, v = .slice A l.length c := by
  obtain ⟨A, c, e, _⟩ := HV.out
  exact ⟨A, c, by rw [e, lnkR_length]⟩
 subst hv0
 have c1 := fun wx hx => atV4 l (.slice A0 l.length c0) m.name wx B hx (by have := HN.out; omega)
 have c2 := fun wx => nameV m.name wx hs
 have c3 := fun wx => nameV m.to wx ht
 rw [hno] at c2
 rw [hat] at c1
 have e1 : idxV (some i) = (i : Int) := rfl
 rw [e1] at c1
 have HI : Hid (i < l.length) := idx_lt hat
 rw [htn] at c3
 obtain ⟨mk, mn, mt, mi⟩ := m
 simp only at *
 unfold movV
 simp only
 subst hk
 subst hid
 have j1 : decide ((i : Int) < 0) = false := decide_eq_false (by omega)
 have j2 : decide ((0 : Int) ≤ (i : Int)) = true := decide_eq_true (by omega)
 clear hno hs ht hn hB
 generalize hln : l.length = n at *
 go_enter Tryz.func57, Tryz.ntmps57
 go_wp2_with fail
 have hb0 : Below w.heap.size w (w.alloc (.cells #[.int .i64 2, .string mn, .string mt, .int .i64 0] 51)) := (Below.refl _ _).alloc (Nat.le_refl _) _
 have K0 := Blk.new w #[.int .i64 2, .string mn, .string mt, .int .i64 0] 51
 generalize w.alloc (.cells #[.int .i64 2, .string mn, .string mt, .int .i64 0] 51) = W at *
 have B0 : Hid (Below w.heap.size w W) := hb0
 have x0 := K0.cell 0 _ rfl
 have x1 := K0.cell 1 _ rfl
 have x2 := K0.cell 2 _ rfl
 have x3 := K0.cell 3 _ rfl
 have KK : Hid (Blk W w.heap.size #[.int .i64 2, .string mn, .string mt, .int .i64 0] 51) := K0
 clear hb0 K0
 have hV1 := HV.out.on (B0.out.mono HB.out)
 refine (c1 W hV1).mono ?_
 rintro e w1 ⟨rfl, rfl⟩
 go_wp2_with fail
 refine (c2 W).mono ?_
 rintro e w1 ⟨rfl, rfl⟩
 go_wp2_with fail
 refine (c3 W).mono ?_
 rintro e w1 ⟨rfl, rfl⟩
 go_wp2_with fail
 go_ret2
 exact ⟨rfl, B0.out⟩
set_option maxRecDepth 20000 in
set_option maxHeartbeats 1000000 in
theorem apply_e6 (l : List Lnk) (v : Value) (m : Mov) (w : World) (B : Nat) (hv : Lies w B 2 v (lnkR l)) (hn : l.length ≤ 1048575) (hB : B ≤ w.heap.size) (hs : m.name.size ≤ 9223372036854775807) (ht : m.to.size ≤ 9223372036854775807) (hno : nameOk m.name = true) (hk : m.kind = 2) (i : Nat) (hat : linkAt l m.name = some i) (hid : m.id = 0) (htn : nameOk m.to = true) (hte : m.to = m.name) :
  Calls Tryz.prog 57 #[v, movV m] w fun e w' => e = .returned (.tuple #[v, .bool false]) ∧ Below w.heap.size w w' := by
 have HV : Hid (Lies w B 2 v (lnkR l)) := hv
 have HB : Hid (B ≤ w.heap.size) := hB
 have HN : Hid (l.length ≤ 1048575) := hn
 obtain ⟨A0, c0, hv0⟩ : ∃ A c, v = .slice A l.length c := by
  obtain ⟨A, c, e, _⟩ := HV.out
  exact ⟨A, c, by rw [e, lnkR_length]⟩
 subst hv0
 have c1 := fun wx hx => atV4 l (.slice A0 l.length c0) m.name wx B hx (by have := HN.out; omega)
 have c2 := fun wx => nameV m.name wx hs
 have c3 := fun wx => nameV m.to wx ht
 rw [hno] at c2
 rw [hat] at c1
 have e1 : idxV (some i) = (i : Int) := rfl
 rw [e1] at c1
 have HI : Hid (i < l.length) := idx_lt hat
 rw [htn] at c3
 obtain ⟨mk, mn, mt, mi⟩ := m
 simp only at *
 unfold movV
 simp only
 subst hk
 subst hid
 have b1 := toList_beq mt mn
 rw [decide_eq_true hte] at b1
 clear hte
 have j1 : decide ((i : Int) < 0) = false := decide_eq_false (by omega)
 have j2 : decide ((0 : Int) ≤ (i : Int)) = true := decide_eq_true (by omega)
 clear hno hs ht hn hB
 generalize hln : l.length = n at *
 go_enter Tryz.func57, Tryz.ntmps57
 go_wp2_with fail
 have hb0 : Below w.heap.size w (w.alloc (.cells #[.int .i64 2, .string mn, .string mt, .int .i64 0] 51)) := (Below.refl _ _).alloc (Nat.le_refl _) _
 have K0 := Blk.new w #[.int .i64 2, .string mn, .string mt, .int .i64 0] 51
 generalize w.alloc (.cells #[.int .i64 2, .string mn, .string mt, .int .i64 0] 51) = W at *
 have B0 : Hid (Below w.heap.size w W) := hb0
 have x0 := K0.cell 0 _ rfl
 have x1 := K0.cell 1 _ rfl
 have x2 := K0.cell 2 _ rfl
 have x3 := K0.cell 3 _ rfl
 have KK : Hid (Blk W w.heap.size #[.int .i64 2, .string mn, .string mt, .int .i64 0] 51) := K0
 clear hb0 K0
 have hV1 := HV.out.on (B0.out.mono HB.out)
 refine (c1 W hV1).mono ?_
 rintro e w1 ⟨rfl, rfl⟩
 go_wp2_with fail
 refine (c2 W).mono ?_
 rintro e w1 ⟨rfl, rfl⟩
 go_wp2_with fail
 refine (c3 W).mono ?_
 rintro e w1 ⟨rfl, rfl⟩
 go_wp2_with fail
 go_ret2
 exact ⟨rfl, B0.out⟩
set_option maxRecDepth 20000 in
set_option maxHeartbeats 1000000 in
theorem apply_c (l : List Lnk) (v : Value) (m : Mov) (w : World) (B : Nat) (hv : Lies w B 2 v (lnkR l)) (hn : l.length ≤ 1048575) (hB : B ≤ w.heap.size) (hs : m.name.size ≤ 9223372036854775807) (ht : m.to.size ≤ 9223372036854775807) (hno : nameOk m.name = true) (hk : m.kind = 2) (i : Nat) (hat : linkAt l m.name = some i) (hid : m.id = 0) (htn : nameOk m.to = true) (hte : ¬ m.to = m.name) :
  Calls Tryz.prog 57 #[v, movV m] w fun e w' => ∃ u, e = .returned (.tuple #[u, .bool true]) ∧ Owns w' w.heap.size 49 2 u (lnkR (withL (without l m.name) ⟨m.to, (l.getD i default).id⟩)) ∧ Below w.heap.size w w' := by
 have HV : Hid (Lies w B 2 v (lnkR l)) := hv
 have HB : Hid (B ≤ w.heap.size) := hB
 have HN : Hid (l.length ≤ 1048575) := hn
 obtain ⟨A0, c0, hv0⟩ : ∃ A c, v = .slice A l.length c := by
  obtain ⟨A, c, e, _⟩ := HV.out
  exact ⟨A, c, by rw [e, lnkR_length]⟩
 subst hv0
 have c1 := fun wx hx => atV4 l (.slice A0 l.length c0) m.name wx B hx (by have := HN.out; omega)
 have c2 := fun wx => nameV m.name wx hs
 have c3 := fun wx => nameV m.to wx ht
 rw [hno] at c2
 rw [hat] at c1
 have e1 : idxV (some i) = (i : Int) := rfl
 rw [e1] at c1
 have HI : Hid (i < l.length) := idx_lt hat
 rw [htn] at c3
 have hlk := (lnk_look HV.out)
 obtain ⟨mk, mn, mt, mi⟩ := m
 simp only at *
 unfold movV
 simp only
 subst hk
 subst hid
 have b1 := toList_beq mt mn
 rw [decide_eq_false hte] at b1
 clear hte
 have j1 : decide ((i : Int) < 0) = false := decide_eq_false (by omega)
 have j2 : decide ((0 : Int) ≤ (i : Int)) = true := decide_eq_true (by omega)
 clear hno hs ht hn hB
 generalize hln : l.length = n at *
 go_enter Tryz.func57, Tryz.ntmps57
 go_wp2_with fail
 have hb0 : Below w.heap.size w (w.alloc (.cells #[.int .i64 2, .string mn, .string mt, .int .i64 0] 51)) := (Below.refl _ _).alloc (Nat.le_refl _) _
 have K0 := Blk.new w #[.int .i64 2, .string mn, .string mt, .int .i64 0] 51
 generalize w.alloc (.cells #[.int .i64 2, .string mn, .string mt, .int .i64 0] 51) = W at *
 have B0 : Hid (Below w.heap.size w W) := hb0
 have x0 := K0.cell 0 _ rfl
 have x1 := K0.cell 1 _ rfl
 have x2 := K0.cell 2 _ rfl
 have x3 := K0.cell 3 _ rfl
 have KK : Hid (Blk W w.heap.size #[.int .i64 2, .string mn, .string mt, .int .i64 0] 51) := K0
 clear hb0 K0
 have hV1 := HV.out.on (B0.out.mono HB.out)
 refine (c1 W hV1).mono ?_
 rintro e w1 ⟨rfl, rfl⟩
 go_wp2_with fail
 refine (c2 W).mono ?_
 rintro e w1 ⟨rfl, rfl⟩
 go_wp2_with fail
 refine (c3 W).mono ?_
 rintro e w1 ⟨rfl, rfl⟩
 go_wp2_with fail
 obtain ⟨A, cap, e5, hl5⟩ := hlk
 injection e5 with h1 h2 h3
 subst h1
 obtain ⟨g, off, rfl, hg, hc0, hc1⟩ := hl5 i HI.out
 have hgw : g < w.heap.size := Nat.lt_of_lt_of_le hg HB.out
 rw [← B0.out.cell (p := ⟨_, _, none⟩) hgw] at hc1
 have q4 : (i : Int) < (n : Int) := by have := HI.out; omega
 have HW : Hid (w.heap.size < W.heap.size) := KK.out.lt
 have HG : Hid (g < W.heap.size) := Nat.lt_of_lt_of_le hgw B0.out.size
 have y2 : W.cell? ⟨w.heap.size, 2, none⟩ = some (.string mt) := x2
 have y1 : W.cell? ⟨w.heap.size, 1, none⟩ = some (.string mn) := x1
 have q5 : (n : Int) ≤ 1048575 := by have := HN.out; omega
 clear x0 x1 x2 x3 hl5 hc0 h2 h3 hv hat htn b1 j1 j2 c1 c2 c3
 generalize hli : (l.getD i default).id = li at *
 have hVd : Lies W.drew B 2 (.slice (some ⟨g, off, none⟩) n c0) (lnkR l) := hV1
 have hBd : B ≤ W.drew.heap.size := Nat.le_trans HB.out B0.out.size
 have cA := withoutV l (.slice (some ⟨g, off, none⟩) n c0) mn W.drew B hVd (by rw [hln]; have := HN.out; omega) hBd
 have cB := fun (u : Value) (w2 : World) (h : Lies w2 w2.heap.size 2 u (lnkR (without l mn))) => withV (without l mn) u ⟨mt, li⟩ w2 w2.heap.size h (Nat.le_trans (List.length_filter_le _ _) (by rw [hln]; exact HN.out)) (Nat.le_refl _)
 unfold vLnk at cB
 simp only at cB
 have S0 : Hid (W.drew.cell? ⟨w.heap.size, 1, none⟩ = some (.string mn) ∧ W.drew.cell? ⟨w.heap.size, 2, none⟩ = some (.string mt) ∧ W.drew.cell? ⟨g, off + i * 2 + 1, none⟩ = some (.int .i64 li)) := ⟨y1, y2, hc1⟩
 have HWd : w.heap.size < W.drew.heap.size := HW.out
 have HGd : g < W.drew.heap.size := HG.out
 clear hVd hBd hV1
 go_region_held3 (fun w' => w'.cell? ⟨w.heap.size, 1, none⟩ = some (.string mn) ∧ w'.cell? ⟨w.heap.size, 2, none⟩ = some (.string mt) ∧ w'.cell? ⟨g, off + i * 2 + 1, none⟩ = some (.int .i64 li)) (first | exact S3.out | exact S2.out | exact S0.out) ((first
  | (go_at_call 83; refine cA.mono ?_; rintro e w2 ⟨u, rfl, hO, hb⟩; have S2 : Hid (w2.cell? ⟨w.heap.size, 1, none⟩ = some (.string mn) ∧ w2.cell? ⟨w.heap.size, 2, none⟩ = some (.string mt) ∧ w2.cell? ⟨g, off + i * 2 + 1, none⟩ = some (.int .i64 li)) := ⟨(hb.cell (p := ⟨w.heap.size, 1, none⟩) HWd).trans S0.out.1, (hb.cell (p := ⟨w.heap.size, 2, none⟩) HWd).trans S0.out.2.1, (hb.cell (p := ⟨g, off + i * 2 + 1, none⟩) HGd).trans S0.out.2.2⟩)
  | (go_at_call 82; refine (cB u w2 hO.lies).mono ?_; rintro e w3 ⟨u3, rfl, hO3, hb3⟩; have S3 : Hid (w3.cell? ⟨w.heap.size, 1, none⟩ = some (.string mn) ∧ w3.cell? ⟨w.heap.size, 2, none⟩ = some (.string mt) ∧ w3.cell? ⟨g, off + i * 2 + 1, none⟩ = some (.int .i64 li)) := ⟨(hb3.cell (p := ⟨w.heap.size, 1, none⟩) (Nat.lt_of_lt_of_le HWd hb.size)).trans S2.out.1, (hb3.cell (p := ⟨w.heap.size, 2, none⟩) (Nat.lt_of_lt_of_le HWd hb.size)).trans S2.out.2.1, (hb3.cell (p := ⟨g, off + i * 2 + 1, none⟩) (Nat.lt_of_lt_of_le HGd hb.size)).trans S2.out.2.2⟩)))
 go_wp2_with fail
 have B2 : Below w.heap.size w w2 := B0.out.trans (((below_drewN' W 1).mono B0.out.size).trans (hb.mono B0.out.size))
 have B3 : Below w.heap.size w w3 := B2.trans (hb3.mono B2.size)
 have O3 := hO3.mono B2.size
 rw [← hli] at O3
 go_ret2
 exact ⟨u3, rfl, O3, B3⟩
set_option maxRecDepth 20000 in
set_option maxHeartbeats 1000000 in
theorem apply_e7 (l : List Lnk) (v : Value) (m : Mov) (w : World) (B : Nat) (hv : Lies w B 2 v (lnkR l)) (hn : l.length ≤ 1048575) (hB : B ≤ w.heap.size) (hs : m.name.size ≤ 9223372036854775807) (ht : m.to.size ≤ 9223372036854775807) (hno : nameOk m.name = true) (hk : m.kind = 3) (hid : ¬ m.id = 0) :
  Calls Tryz.prog 57 #[v, movV m] w fun e w' => e = .returned (.tuple #[v, .bool false]) ∧ Below w.heap.size w w' := by
 have HV : Hid (Lies w B 2 v (lnkR l)) := hv
 have HB : Hid (B ≤ w.heap.size) := hB
 have HN : Hid (l.length ≤ 1048575) := hn
 obtain ⟨A0, c0, hv0⟩ : ∃ A c, v = .slice A l.length c := by
  obtain ⟨A, c, e, _⟩ := HV.out
  exact ⟨A, c, by rw [e, lnkR_length]⟩
 subst hv0
 have c1 := fun wx hx => atV4 l (.slice A0 l.length c0) m.name wx B hx (by have := HN.out; omega)
 have c2 := fun wx => nameV m.name wx hs
 have c3 := fun wx => nameV m.to wx ht
 rw [hno] at c2
 obtain ⟨mk, mn, mt, mi⟩ := m
 simp only at *
 unfold movV
 simp only
 subst hk
 have i1 : (mi == 0) = false := by simpa using hid
 clear hno hs ht hn hB
 generalize hln : l.length = n at *
 go_enter Tryz.func57, Tryz.ntmps57
 go_wp2_with fail
 have hb0 : Below w.heap.size w (w.alloc (.cells #[.int .i64 3, .string mn, .string mt, .int .i64 mi] 51)) := (Below.refl _ _).alloc (Nat.le_refl _) _
 have K0 := Blk.new w #[.int .i64 3, .string mn, .string mt, .int .i64 mi] 51
 generalize w.alloc (.cells #[.int .i64 3, .string mn, .string mt, .int .i64 mi] 51) = W at *
 have B0 : Hid (Below w.heap.size w W) := hb0
 have x0 := K0.cell 0 _ rfl
 have x1 := K0.cell 1 _ rfl
 have x2 := K0.cell 2 _ rfl
 have x3 := K0.cell 3 _ rfl
 have KK : Hid (Blk W w.heap.size #[.int .i64 3, .string mn, .string mt, .int .i64 mi] 51) := K0
 clear hb0 K0
 have hV1 := HV.out.on (B0.out.mono HB.out)
 refine (c1 W hV1).mono ?_
 rintro e w1 ⟨rfl, rfl⟩
 generalize idxV (linkAt l mn) = ix at *
 go_wp2_with fail
 refine (c2 W).mono ?_
 rintro e w1 ⟨rfl, rfl⟩
 go_wp2_with fail
 go_ret2
 exact ⟨rfl, B0.out⟩
set_option maxRecDepth 20000 in
set_option maxHeartbeats 1000000 in
theorem apply_e8 (l : List Lnk) (v : Value) (m : Mov) (w : World) (B : Nat) (hv : Lies w B 2 v (lnkR l)) (hn : l.length ≤ 1048575) (hB : B ≤ w.heap.size) (hs : m.name.size ≤ 9223372036854775807) (ht : m.to.size ≤ 9223372036854775807) (hno : nameOk m.name = true) (hk : m.kind = 3) (hto : ¬ m.to.size = 0) (hid : m.id = 0) :
  Calls Tryz.prog 57 #[v, movV m] w fun e w' => e = .returned (.tuple #[v, .bool false]) ∧ Below w.heap.size w w' := by
 have HV : Hid (Lies w B 2 v (lnkR l)) := hv
 have HB : Hid (B ≤ w.heap.size) := hB
 have HN : Hid (l.length ≤ 1048575) := hn
 obtain ⟨A0, c0, hv0⟩ : ∃ A c, v = .slice A l.length c := by
  obtain ⟨A, c, e, _⟩ := HV.out
  exact ⟨A, c, by rw [e, lnkR_length]⟩
 subst hv0
 have c1 := fun wx hx => atV4 l (.slice A0 l.length c0) m.name wx B hx (by have := HN.out; omega)
 have c2 := fun wx => nameV m.name wx hs
 have c3 := fun wx => nameV m.to wx ht
 rw [hno] at c2
 obtain ⟨mk, mn, mt, mi⟩ := m
 simp only at *
 unfold movV
 simp only
 subst hk
 have t1 := isEmpty_no mt hto
 have t2 : ¬ mt.toList = [] := fun h => by rw [h] at t1; cases t1
 subst hid
 clear hno hs ht hn hB
 generalize hln : l.length = n at *
 go_enter Tryz.func57, Tryz.ntmps57
 go_wp2_with fail
 have hb0 : Below w.heap.size w (w.alloc (.cells #[.int .i64 3, .string mn, .string mt, .int .i64 0] 51)) := (Below.refl _ _).alloc (Nat.le_refl _) _
 have K0 := Blk.new w #[.int .i64 3, .string mn, .string mt, .int .i64 0] 51
 generalize w.alloc (.cells #[.int .i64 3, .string mn, .string mt, .int .i64 0] 51) = W at *
 have B0 : Hid (Below w.heap.size w W) := hb0
 have x0 := K0.cell 0 _ rfl
 have x1 := K0.cell 1 _ rfl
 have x2 := K0.cell 2 _ rfl
 have x3 := K0.cell 3 _ rfl
 have KK : Hid (Blk W w.heap.size #[.int .i64 3, .string mn, .string mt, .int .i64 0] 51) := K0
 clear hb0 K0
 have hV1 := HV.out.on (B0.out.mono HB.out)
 refine (c1 W hV1).mono ?_
 rintro e w1 ⟨rfl, rfl⟩
 generalize idxV (linkAt l mn) = ix at *
 go_wp2_with fail
 refine (c2 W).mono ?_
 rintro e w1 ⟨rfl, rfl⟩
 go_wp2_with fail
 go_ret2
 exact ⟨rfl, B0.out⟩
set_option maxRecDepth 20000 in
set_option maxHeartbeats 1000000 in
theorem apply_e9 (l : List Lnk) (v : Value) (m : Mov) (w : World) (B : Nat) (hv : Lies w B 2 v (lnkR l)) (hn : l.length ≤ 1048575) (hB : B ≤ w.heap.size) (hs : m.name.size ≤ 9223372036854775807) (ht : m.to.size ≤ 9223372036854775807) (hno : nameOk m.name = true) (hk : m.kind = 3) (hto : m.to.size = 0) (hat : linkAt l m.name = none) (hid : m.id = 0) :
  Calls Tryz.prog 57 #[v, movV m] w fun e w' => e = .returned (.tuple #[v, .bool false]) ∧ Below w.heap.size w w' := by
 have HV : Hid (Lies w B 2 v (lnkR l)) := hv
 have HB : Hid (B ≤ w.heap.size) := hB
 have HN : Hid (l.length ≤ 1048575) := hn
 obtain ⟨A0, c0, hv0⟩ : ∃ A c, v = .slice A l.length c := by
  obtain ⟨A, c, e, _⟩ := HV.out
  exact ⟨A, c, by rw [e, lnkR_length]⟩
 subst hv0
 have c1 := fun wx hx => atV4 l (.slice A0 l.length c0) m.name wx B hx (by have := HN.out; omega)
 have c2 := fun wx => nameV m.name wx hs
 have c3 := fun wx => nameV m.to wx ht
 rw [hno] at c2
 rw [hat] at c1
 have e1 : idxV none = -1 := rfl
 rw [e1] at c1
 obtain ⟨mk, mn, mt, mi⟩ := m
 simp only at *
 unfold movV
 simp only
 subst hk
 obtain rfl := empty_of mt hto
 subst hid
 clear hno hs ht hn hB
 generalize hln : l.length = n at *
 go_enter Tryz.func57, Tryz.ntmps57
 go_wp2_with fail
 have hb0 : Below w.heap.size w (w.alloc (.cells #[.int .i64 3, .string mn, .string ⟨#[]⟩, .int .i64 0] 51)) := (Below.refl _ _).alloc (Nat.le_refl _) _
 have K0 := Blk.new w #[.int .i64 3, .string mn, .string ⟨#[]⟩, .int .i64 0] 51
 generalize w.alloc (.cells #[.int .i64 3, .string mn, .string ⟨#[]⟩, .int .i64 0] 51) = W at *
 have B0 : Hid (Below w.heap.size w W) := hb0
 have x0 := K0.cell 0 _ rfl
 have x1 := K0.cell 1 _ rfl
 have x2 := K0.cell 2 _ rfl
 have x3 := K0.cell 3 _ rfl
 have KK : Hid (Blk W w.heap.size #[.int .i64 3, .string mn, .string ⟨#[]⟩, .int .i64 0] 51) := K0
 clear hb0 K0
 have hV1 := HV.out.on (B0.out.mono HB.out)
 refine (c1 W hV1).mono ?_
 rintro e w1 ⟨rfl, rfl⟩
 go_wp2_with fail
 refine (c2 W).mono ?_
 rintro e w1 ⟨rfl, rfl⟩
 go_wp2_with fail
 go_ret2
 exact ⟨rfl, B0.out⟩
set_option maxRecDepth 20000 in
set_option maxHeartbeats 1000000 in
theorem apply_d (l : List Lnk) (v : Value) (m : Mov) (w : World) (B : Nat) (hv : Lies w B 2 v (lnkR l)) (hn : l.length ≤ 1048575) (hB : B ≤ w.heap.size) (hs : m.name.size ≤ 9223372036854775807) (ht : m.to.size ≤ 9223372036854775807) (hno : nameOk m.name = true) (hk : m.kind = 3) (hto : m.to.size = 0) (i : Nat) (hat : linkAt l m.name = some i) (hid : m.id = 0) :
  Calls Tryz.prog 57 #[v, movV m] w fun e w' => ∃ u, e = .returned (.tuple #[u, .bool true]) ∧ Owns w' w.heap.size 49 2 u (lnkR (without l m.name)) ∧ Below w.heap.size w w' := by
 have HV : Hid (Lies w B 2 v (lnkR l)) := hv
 have HB : Hid (B ≤ w.heap.size) := hB
 have HN : Hid (l.length ≤ 1048575) := hn
 obtain ⟨A0, c0, hv0⟩ : ∃ A c, v = .slice A l.length c := by
  obtain ⟨A, c, e, _⟩ := HV.out
  exact ⟨A, c, by rw [e, lnkR_length]⟩
 subst hv0
 have c1 := fun wx hx => atV4 l (.slice A0 l.length c0) m.name wx B hx (by have := HN.out; omega)
 have c2 := fun wx => nameV m.name wx hs
 have c3 := fun wx => nameV m.to wx ht
 rw [hno] at c2
 rw [hat] at c1
 have e1 : idxV (some i) = (i : Int) := rfl
 rw [e1] at c1
 have HI : Hid (i < l.length) := idx_lt hat
 obtain ⟨mk, mn, mt, mi⟩ := m
 simp only at *
 unfold movV
 simp only
 subst hk
 obtain rfl := empty_of mt hto
 subst hid
 have j1 : decide ((i : Int) < 0) = false := decide_eq_false (by omega)
 have j2 : decide ((0 : Int) ≤ (i : Int)) = true := decide_eq_true (by omega)
 clear hno hs ht hn hB
 generalize hln : l.length = n at *
 go_enter Tryz.func57, Tryz.ntmps57
 go_wp2_with fail
 have hb0 : Below w.heap.size w (w.alloc (.cells #[.int .i64 3, .string mn, .string ⟨#[]⟩, .int .i64 0] 51)) := (Below.refl _ _).alloc (Nat.le_refl _) _
 have K0 := Blk.new w #[.int .i64 3, .string mn, .string ⟨#[]⟩, .int .i64 0] 51
 generalize w.alloc (.cells #[.int .i64 3, .string mn, .string ⟨#[]⟩, .int .i64 0] 51) = W at *
 have B0 : Hid (Below w.heap.size w W) := hb0
 have x0 := K0.cell 0 _ rfl
 have x1 := K0.cell 1 _ rfl
 have x2 := K0.cell 2 _ rfl
 have x3 := K0.cell 3 _ rfl
 have KK : Hid (Blk W w.heap.size #[.int .i64 3, .string mn, .string ⟨#[]⟩, .int .i64 0] 51) := K0
 clear hb0 K0
 have hV1 := HV.out.on (B0.out.mono HB.out)
 refine (c1 W hV1).mono ?_
 rintro e w1 ⟨rfl, rfl⟩
 go_wp2_with fail
 refine (c2 W).mono ?_
 rintro e w1 ⟨rfl, rfl⟩
 go_wp2_with fail
 refine (withoutV l (.slice A0 n c0) mn W B hV1 (by rw [hln]; have := HN.out; omega) (Nat.le_trans HB.out B0.out.size)).mono ?_
 rintro e w2 ⟨u, rfl, hO, hb⟩
 have O2 : Hid (Owns w2 w.heap.size 49 2 u (lnkR (without l mn))) := hO.mono B0.out.size
 have B2 : Hid (Below w.heap.size w w2) := B0.out.trans (hb.mono B0.out.size)
 clear hO hb
 go_wp2_with fail
 go_ret2
 exact ⟨u, rfl, O2.out, B2.out⟩
set_option maxRecDepth 20000 in
set_option maxHeartbeats 1000000 in
theorem apply_e0 (l : List Lnk) (v : Value) (m : Mov) (w : World) (B : Nat) (hv : Lies w B 2 v (lnkR l)) (hn : l.length ≤ 1048575) (hB : B ≤ w.heap.size) (hs : m.name.size ≤ 9223372036854775807) (ht : m.to.size ≤ 9223372036854775807) (hno : nameOk m.name = true) (hk : m.kind ≠ 1 ∧ m.kind ≠ 2 ∧ m.kind ≠ 3) :
  Calls Tryz.prog 57 #[v, movV m] w fun e w' => e = .returned (.tuple #[v, .bool false]) ∧ Below w.heap.size w w' := by
 have HV : Hid (Lies w B 2 v (lnkR l)) := hv
 have HB : Hid (B ≤ w.heap.size) := hB
 have HN : Hid (l.length ≤ 1048575) := hn
 obtain ⟨A0, c0, hv0⟩ : ∃ A c, v = .slice A l.length c := by
  obtain ⟨A, c, e, _⟩ := HV.out
  exact ⟨A, c, by rw [e, lnkR_length]⟩
 subst hv0
 have c1 := fun wx hx => atV4 l (.slice A0 l.length c0) m.name wx B hx (by have := HN.out; omega)
 have c2 := fun wx => nameV m.name wx hs
 have c3 := fun wx => nameV m.to wx ht
 rw [hno] at c2
 obtain ⟨mk, mn, mt, mi⟩ := m
 simp only at *
 unfold movV
 simp only
 have k1 : (mk == 1) = false := by simpa using hk.1
 have k2 : (mk == 2) = false := by simpa using hk.2.1
 have k3 : (mk == 3) = false := by simpa using hk.2.2
 clear hk
 clear hno hs ht hn hB
 generalize hln : l.length = n at *
 go_enter Tryz.func57, Tryz.ntmps57
 go_wp2_with fail
 have hb0 : Below w.heap.size w (w.alloc (.cells #[.int .i64 mk, .string mn, .string mt, .int .i64 mi] 51)) := (Below.refl _ _).alloc (Nat.le_refl _) _
 have K0 := Blk.new w #[.int .i64 mk, .string mn, .string mt, .int .i64 mi] 51
 generalize w.alloc (.cells #[.int .i64 mk, .string mn, .string mt, .int .i64 mi] 51) = W at *
 have B0 : Hid (Below w.heap.size w W) := hb0
 have x0 := K0.cell 0 _ rfl
 have x1 := K0.cell 1 _ rfl
 have x2 := K0.cell 2 _ rfl
 have x3 := K0.cell 3 _ rfl
 have KK : Hid (Blk W w.heap.size #[.int .i64 mk, .string mn, .string mt, .int .i64 mi] 51) := K0
 clear hb0 K0
 have hV1 := HV.out.on (B0.out.mono HB.out)
 refine (c1 W hV1).mono ?_
 rintro e w1 ⟨rfl, rfl⟩
 generalize idxV (linkAt l mn) = ix at *
 go_wp2_with fail
 refine (c2 W).mono ?_
 rintro e w1 ⟨rfl, rfl⟩
 go_wp2_with fail
 go_ret2
 exact ⟨rfl, B0.out⟩
def Applied (w : World) (l : List Lnk) (v : Value) (m : Mov) (e : Ending) (w' : World) : Prop :=
 (match apply l m with
  | some r => ∃ u, e = .returned (.tuple #[u, .bool true]) ∧ Owns w' w.heap.size 49 2 u (lnkR r)
  | none => e = .returned (.tuple #[v, .bool false])) ∧ Below w.heap.size w w'
theorem Applied.no {w : World} {l : List Lnk} {v : Value} {m : Mov} (h : apply l m = none) {e : Ending} {w' : World} (x : e = .returned (.tuple #[v, .bool false]) ∧ Below w.heap.size w w') : Applied w l v m e w' := by
 unfold Applied
 rw [h]
 exact x
theorem Applied.yes {w : World} {l : List Lnk} {v : Value} {m : Mov} {r : List Lnk} (h : apply l m = some r) {e : Ending} {w' : World} (x : ∃ u, e = .returned (.tuple #[u, .bool true]) ∧ Owns w' w.heap.size 49 2 u (lnkR r) ∧ Below w.heap.size w w') : Applied w l v m e w' := by
 obtain ⟨u, e1, e2, e3⟩ := x
 unfold Applied
 rw [h]
 exact ⟨⟨u, e1, e2⟩, e3⟩
theorem applyV (l : List Lnk) (v : Value) (m : Mov) (w : World) (B : Nat) (hv : Lies w B 2 v (lnkR l)) (hn : l.length ≤ 1048575) (hB : B ≤ w.heap.size) (hs : m.name.size ≤ 9223372036854775807) (ht : m.to.size ≤ 9223372036854775807) :
  Calls Tryz.prog 57 #[v, movV m] w fun e w' => Applied w l v m e w' := by
 cases hno : nameOk m.name with
 | false => exact (apply_a l v m w B hv hn hB hs ht hno).mono fun e w' h => .no (by unfold apply; rw [if_pos hno]) h
 | true =>
  have hno' : ¬ nameOk m.name = false := by rw [hno]; simp
  by_cases k1 : m.kind = 1
  ·by_cases hto : m.to.size = 0
   ·cases hat : linkAt l m.name with
    | none => exact (apply_b l v m w B hv hn hB hs ht hno k1 hto hat).mono fun e w' h => .yes (by unfold apply; rw [if_neg hno', if_pos ⟨k1, hto, hat⟩]) h
    | some i => exact (apply_e2 l v m w B hv hn hB hs ht hno k1 hto i hat).mono fun e w' h => .no (by unfold apply; rw [if_neg hno', hat]; simp [k1]) h
   ·exact (apply_e1 l v m w B hv hn hB hs ht hno k1 hto).mono fun e w' h => .no (by unfold apply; rw [if_neg hno', if_neg (fun h => hto h.2.1)]; split <;> simp [k1]) h
  ·have n1 : ¬ (m.kind = 1 ∧ m.to.size = 0 ∧ linkAt l m.name = none) := fun h => k1 h.1
   by_cases k2 : m.kind = 2
   ·by_cases hid : m.id = 0
    ·cases hat : linkAt l m.name with
     | none => exact (apply_e4 l v m w B hv hn hB hs ht hno k2 hat hid).mono fun e w' h => .no (by unfold apply; rw [if_neg hno', if_neg n1, hat]) h
     | some i =>
      cases htn : nameOk m.to with
      | false => exact (apply_e5 l v m w B hv hn hB hs ht hno k2 i hat hid htn).mono fun e w' h => .no (by unfold apply; rw [if_neg hno', if_neg n1, hat]; simp [k2, htn]) h
      | true =>
       by_cases hte : m.to = m.name
       ·exact (apply_e6 l v m w B hv hn hB hs ht hno k2 i hat hid htn hte).mono fun e w' h => .no (by unfold apply; rw [if_neg hno', if_neg n1, hat]; simp [k2, hte]) h
       ·exact (apply_c l v m w B hv hn hB hs ht hno k2 i hat hid htn hte).mono fun e w' h => .yes (by unfold apply; rw [if_neg hno', if_neg n1, hat]; simp [k2, hid, htn, hte]) h
    ·exact (apply_e3 l v m w B hv hn hB hs ht hno k2 hid).mono fun e w' h => .no (by unfold apply; rw [if_neg hno', if_neg n1]; split <;> simp [k2, hid]) h
   ·by_cases k3 : m.kind = 3
    ·by_cases hid : m.id = 0
     ·by_cases hto : m.to.size = 0
      ·cases hat : linkAt l m.name with
       | none => exact (apply_e9 l v m w B hv hn hB hs ht hno k3 hto hat hid).mono fun e w' h => .no (by unfold apply; rw [if_neg hno', if_neg n1, hat]) h
       | some i => exact (apply_d l v m w B hv hn hB hs ht hno k3 hto i hat hid).mono fun e w' h => .yes (by unfold apply; rw [if_neg hno', if_neg n1, hat]; simp [k3, hid, hto]) h
      ·exact (apply_e8 l v m w B hv hn hB hs ht hno k3 hto hid).mono fun e w' h => .no (by unfold apply; rw [if_neg hno', if_neg n1]; split <;> simp [k3, hto]) h
     ·exact (apply_e7 l v m w B hv hn hB hs ht hno k3 hid).mono fun e w' h => .no (by unfold apply; rw [if_neg hno', if_neg n1]; split <;> simp [k3, hid]) h
    ·exact (apply_e0 l v m w B hv hn hB hs ht hno ⟨k1, k2, k3⟩).mono fun e w' h => .no (by unfold apply; rw [if_neg hno', if_neg n1]; split <;> simp [k2, k3]) h
end Go.Proofs.YtgjilgecklhglaaGreat
namespace Go.Proofs.YtgjilgecklhglaaGreat
open Go.ChangeShapes Go.WideShapes Go.ChangeAt Go.RowKit Go.PlainAid
set_option linter.unusedVariables false
theorem without_len (l : List Lnk) (name : ByteArray) : (without l name).length ≤ l.length := List.length_filter_le _ _
theorem apply_len (l : List Lnk) (m : Mov) : ((apply l m).getD l).length ≤ l.length + 1 := by
 unfold apply
 split
 ·simp
 ·split
  ·simp only [Option.getD_some, withL, ins_length]
   exact Nat.succ_le_succ (without_len _ _)
  ·split
   ·split
    ·simp only [Option.getD_some, withL, ins_length]
     exact Nat.succ_le_succ (Nat.le_trans (without_len _ _) (without_len _ _))
    ·split
     ·exact Nat.le_succ_of_le (without_len _ _)
     ·simp
   ·simp
theorem names_snoc (l : List Lnk) (ms : List Mov) (m : Mov) : names l (ms ++ [m]) = (apply (names l ms) m).getD (names l ms) := by
 induction ms generalizing l with
 | nil => rfl
 | cons x r ih => exact ih _
theorem names_len (l : List Lnk) (ms : List Mov) : (names l ms).length ≤ l.length + ms.length := by
 induction ms generalizing l with
 | nil => simp [names]
 | cons x r ih =>
  have h1 := ih ((apply l x).getD l)
  have h2 := apply_len l x
  rw [names, List.length_cons]
  omega
theorem names_take (l : List Lnk) (ms : List Mov) (k : Nat) (h : k < ms.length) : names l (ms.take (k + 1)) = (apply (names l (ms.take k)) (ms.getD k default)).getD (names l (ms.take k)) := by
 rw [take_getD ms k h, names_snoc]
set_option maxRecDepth 20000 in
set_option maxHeartbeats 1000000 in
theorem namesV (d : Dsk) (v : Value) (n : Int) (w : World) (B : Nat) (hv : DiskV w B v d) (hf : Fits d) (hn : d.dir.length + d.movs.length ≤ 1048575) (hB : B ≤ w.heap.size) :
  Calls Tryz.prog 35 #[v, .int .i64 n] w fun e w' => ∃ u, e = .returned u ∧ Owns w' w.heap.size 49 2 u (lnkR (names d.dir (d.movs.take n.toNat))) ∧ Below w.heap.size w w' := by
 obtain ⟨v1, v2, v3, rfl, h1, h2, h3⟩ := hv
 have HL : Hid (Lies w B 2 v2 (lnkR d.dir)) := h2
 have HB : Hid (B ≤ w.heap.size) := hB
 have HN : Hid (d.dir.length + d.movs.length ≤ 1048575) := hn
 have HX : Hid (∀ j, j < d.movs.length → (d.movs.getD j default).name.size ≤ 9223372036854775807 ∧ (d.movs.getD j default).to.size ≤ 9223372036854775807) := fun j hj => hf.mx _ (getD_mem _ _ hj)
 obtain ⟨A3, c3, rfl, h3'⟩ := mov_look h3
 have HM : Hid (∀ j, j < d.movs.length → ∃ g off, A3 = some ⟨g, off, none⟩ ∧ g < B ∧ _) := h3'
 obtain ⟨A2, c2, rfl, _⟩ := lnk_look h2
 clear h1 h2 h3 h3' hf hB hn
 have q1 : (d.movs.length : Int) ≤ 1048575 := by have := HN.out; omega
 have HT : Hid (∀ k, k < d.movs.length → names d.dir (d.movs.take (k + 1)) = (apply (names d.dir (d.movs.take k)) (d.movs.getD k default)).getD (names d.dir (d.movs.take k))) := fun k hk => names_take _ _ k hk
 have HK : Hid (∀ k, (names d.dir (d.movs.take k)).length ≤ 1048575) := fun k => by
  have h4 := names_len d.dir (d.movs.take k)
  rw [List.length_take] at h4
  have := HN.out
  omega
 generalize hM : d.movs.length = M at *
 generalize hD : d.dir.length = D at *
 have B0 : Hid (Below w.heap.size w ((w.alloc (.cells #[.int .i64 d.room, .int .i64 d.next, v1, .slice A2 D c2, .slice A3 M c3] 28)).alloc (.cells #[] 49))) := below_alloc2' w _ _
 have K0 : Hid (Blk ((w.alloc (.cells #[.int .i64 d.room, .int .i64 d.next, v1, .slice A2 D c2, .slice A3 M c3] 28)).alloc (.cells #[] 49)) w.heap.size #[.int .i64 d.room, .int .i64 d.next, v1, .slice A2 D c2, .slice A3 M c3] 28) := (Blk.new w #[.int .i64 d.room, .int .i64 d.next, v1, .slice A2 D c2, .slice A3 M c3] 28).alloc (.cells #[] 49)
 have hE := Owns.empty (w.alloc (.cells #[.int .i64 d.room, .int .i64 d.next, v1, .slice A2 D c2, .slice A3 M c3] 28)) (w.heap.size + 1) 49 2 (by simp)
 simp only [World.size_alloc] at hE
 have hL2 := HL.out.on (B0.out.mono HB.out)
 have s1 : ([] : List (List Value)).length + (lnkR d.dir).length ≤ 2097152 := by rw [lnkR_length, hD]; have := HN.out; simp; omega
 have s2 : w.heap.size + 1 ≤ ((w.alloc (.cells #[.int .i64 d.room, .int .i64 d.next, v1, .slice A2 D c2, .slice A3 M c3] 28)).alloc (.cells #[] 49)).heap.size := by simp
 have s3 := lnk_one d.dir
 go_enter Tryz.func35, Tryz.ntmps35
 go_wp2_with (at_builtin; refine wpList_append_all (w := (w.alloc (.cells #[.int .i64 d.room, .int .i64 d.next, v1, .slice A2 D c2, .slice A3 M c3] 28)).alloc (.cells #[] 49)) rfl (.tmp 7) (.tmp 9) 25 49 (.agg #[.string ⟨#[]⟩, .int .i64 0]) 2 24 rfl Tryz.underlying25 Tryz.infoLnk rfl (by omega) (w.heap.size + 1) (.slice (some ⟨w.heap.size + 1, 0, none⟩) 0 0) (.slice A2 D c2) [] (lnkR d.dir) B rfl hE hL2 s3 rfl s1 (by omega) s2 ?_; intro v' w2 hO2 hb2 _ _)
 have K2 : Hid (Blk w2 w.heap.size #[.int .i64 d.room, .int .i64 d.next, v1, .slice A2 D c2, .slice A3 M c3] 28) := K0.out.on hb2 (Nat.lt_succ_self _)
 have B2 : Hid (Below w.heap.size w w2) := B0.out.trans (hb2.mono (Nat.le_succ _))
 have O2 : Hid (Owns w2 (w.heap.size + 1) 49 2 v' (lnkR d.dir)) := hO2
 clear hE hL2 s1 s2 s3 hO2 hb2 K0 B0
 go_loopw [5, 6] (fun v5 v6 wr => ∃ k : Nat, k ≤ M ∧ k ≤ n.toNat ∧ v6 = .int .i64 (k : Int) ∧ Owns wr (w.heap.size + 1) 49 2 v5 (lnkR (names d.dir (d.movs.take k))) ∧ Blk wr w.heap.size #[.int .i64 d.room, .int .i64 d.next, v1, .slice A2 D c2, .slice A3 M c3] 28 ∧ Below w.heap.size w wr) (fun _ i _ => M - (intOf i).toNat)
 case atStart => exact ⟨0, by omega, by omega, rfl, O2.out, K2.out, B2.out⟩
 case round =>
  obtain ⟨k, hk, hk2, rfl, hO, hX, hb⟩ := hrel
  have HO : Hid (Owns wr (w.heap.size + 1) 49 2 u5 (lnkR (names d.dir (d.movs.take k)))) := hO
  have HXX : Hid (Blk wr w.heap.size #[.int .i64 d.room, .int .i64 d.next, v1, .slice A2 D c2, .slice A3 M c3] 28) := hX
  have HBB : Hid (Below w.heap.size w wr) := hb
  have x4 := HXX.out.cell 4 _ rfl
  clear hO hX hb
  by_cases hlt : (k : Int) < n
  ·by_cases hlm : k < M
   ·have q4 : (k : Int) < (M : Int) := by omega
    obtain ⟨g, off, rfl, hg, hc0, hc1, hc2, hc3⟩ := HM.out k hlm
    have hgw : g < w.heap.size := Nat.lt_of_lt_of_le hg HB.out
    rw [← HBB.out.cell (p := ⟨_, _, none⟩) hgw] at hc0 hc1 hc2 hc3
    have hx := HX.out k hlm
    have c1 := applyV (names d.dir (d.movs.take k)) u5 (d.movs.getD k default) wr wr.heap.size HO.out.lies (HK.out k) (Nat.le_refl _) hx.1 hx.2
    unfold movV at c1
    have T1 := HT.out k hlm
    obtain ⟨A5, n5, c5, rfl⟩ := HO.out.shape
    generalize d.movs.getD k default = m at *
    generalize m.kind = m1 at *
    generalize m.name = m2 at *
    generalize m.to = m3 at *
    generalize m.id = m4 at *
    generalize hw0 : w.heap.size = ws at *
    go_wp2_with fail
    refine c1.mono ?_
    rintro e w3 ⟨ha, hb3⟩
    have X3 : Hid (Blk w3 ws #[.int .i64 d.room, .int .i64 d.next, v1, .slice A2 D c2, .slice (some ⟨g, off, none⟩) M c3] 28) := HXX.out.on hb3 HXX.out.lt
    have S3 : Hid (ws + 1 ≤ wr.heap.size) := Nat.succ_le_of_lt HXX.out.lt
    have B3 : Hid (Below ws w w3) := HBB.out.trans (hb3.mono (Nat.le_of_lt HXX.out.lt))
    have O3 : Hid (Owns w3 (ws + 1) 49 2 (.slice A5 n5 c5) (lnkR (names d.dir (d.movs.take k)))) := HO.out.on hb3
    rcases hap : apply (names d.dir (d.movs.take k)) m with _ | r
    ·rw [hap] at ha
     subst ha
     go_wp2_with fail
     go_roundw
     case rel => exact ⟨k + 1, by omega, by omega, by go_num, by rw [T1, hap]; exact O3.out, X3.out, B3.out⟩
     case measure => simp [intOf]; omega
    ·rw [hap] at ha
     obtain ⟨u, rfl, hO3⟩ := ha
     have O4 : Hid (Owns w3 (ws + 1) 49 2 u (lnkR r)) := hO3.mono S3.out
     clear hO3
     go_wp2_with fail
     go_roundw
     case rel => exact ⟨k + 1, by omega, by omega, by go_num, by rw [T1, hap]; exact O4.out, X3.out, B3.out⟩
     case measure => simp [intOf]; omega
   ·obtain rfl : k = M := by omega
    go_wp2_with fail
    go_ret
    refine ⟨_, rfl, ?_, HBB.out⟩
    have h5 := HO.out
    rw [← hM, List.take_length] at h5
    rw [List.take_of_length_le (by omega)]
    exact h5.mono (Nat.le_succ _)
  ·have hd : decide ((k : Int) < n) = false := decide_eq_false hlt
   have hkn : k = n.toNat := by omega
   go_wp2_with fail
   go_ret
   refine ⟨_, rfl, ?_, HBB.out⟩
   rw [← hkn]
   exact HO.out.mono (Nat.le_succ _)
end Go.Proofs.YtgjilgecklhglaaGreat
namespace Go.Proofs.YtgjilgecklhglaaGreat
open Go.ChangeShapes Go.WideShapes Go.ChangeAt Go.RowKit Go.PlainAid
set_option linter.unusedVariables false
def NamesOk (l : List Lnk) : Prop := ∀ x ∈ l, nameOk x.name = true
theorem linkAt_name {l : List Lnk} {s : ByteArray} {i : Nat} (h : linkAt l s = some i) : (l.getD i default).name = s ∧ l.getD i default ∈ l := by
 unfold linkAt at h
 rw [List.findIdx?_eq_some_iff_getElem] at h
 obtain ⟨hi, hp, _⟩ := h
 rw [← getD_at l i hi]
 exact ⟨of_decide_eq_true hp, List.getElem_mem hi⟩
theorem NamesOk.at {l : List Lnk} (h : NamesOk l) {s : ByteArray} {i : Nat} (hi : linkAt l s = some i) : nameOk s = true := by
 obtain ⟨e, hm⟩ := linkAt_name hi
 rw [← e]
 exact h _ hm
theorem ins_mem {x y : Lnk} : ∀ {l : List Lnk}, y ∈ ins x l → y = x ∨ y ∈ l
 | [], h => by
  rw [ins, List.mem_singleton] at h
  exact .inl h
 | z :: r, h => by
  unfold ins at h
  split at h
  ·rcases List.mem_cons.1 h with h | h
   ·exact .inl h
   ·exact .inr h
  ·rcases List.mem_cons.1 h with h | h
   ·exact .inr (h ▸ List.mem_cons_self)
   ·rcases ins_mem h with h | h
    ·exact .inl h
    ·exact .inr (List.mem_cons_of_mem _ h)
theorem NamesOk.without {l : List Lnk} (h : NamesOk l) (s : ByteArray) : NamesOk (without l s) := fun x hx => h x (List.mem_filter.1 hx).1
theorem NamesOk.withL {l : List Lnk} (h : NamesOk l) (x : Lnk) (hx : nameOk x.name = true) : NamesOk (withL l x) := fun y hy => by
 rcases ins_mem hy with rfl | hy
 ·exact hx
 ·exact h.without x.name y hy
theorem apply_make {l : List Lnk} {n t : ByteArray} {i : Int} (hn : nameOk n = true) (ht : t.size = 0) (hat : linkAt l n = none) : apply l ⟨1, n, t, i⟩ = some (withL l ⟨n, i⟩) := by
 unfold apply
 rw [if_neg (by simp [hn]), if_pos ⟨rfl, ht, hat⟩]
theorem apply_bad {l : List Lnk} {m : Mov} (hn : nameOk m.name = false) : apply l m = none := by
 unfold apply
 rw [if_pos hn]
theorem apply_none {l : List Lnk} {m : Mov} (hat : linkAt l m.name = none) (h : ¬ (m.kind = 1 ∧ m.to.size = 0)) : apply l m = none := by
 unfold apply
 by_cases hn : nameOk m.name = false
 ·rw [if_pos hn]
 ·rw [if_neg hn, if_neg (fun k => h ⟨k.1, k.2.1⟩), hat]
theorem apply_some {l : List Lnk} {m : Mov} {j : Nat} (hat : linkAt l m.name = some j) (h2 : ¬ (m.kind = 2 ∧ m.id = 0 ∧ nameOk m.to = true ∧ m.to ≠ m.name)) (h3 : ¬ (m.kind = 3 ∧ m.id = 0 ∧ m.to.size = 0)) : apply l m = none := by
 unfold apply
 by_cases hn : nameOk m.name = false
 ·rw [if_pos hn]
 ·rw [if_neg hn, if_neg (fun k => by rw [hat] at k; exact absurd k.2.2 (by simp)), hat]
  simp only
  rw [if_neg h2, if_neg h3]
theorem apply_name {l : List Lnk} {n t : ByteArray} {j : Nat} (hn : nameOk n = true) (hat : linkAt l n = some j) (ht : nameOk t = true) (hne : t ≠ n) : apply l ⟨2, n, t, 0⟩ = some (withL (without l n) ⟨t, (l.getD j default).id⟩) := by
 unfold apply
 rw [if_neg (by simp [hn]), if_neg (fun k => absurd k.1 (by simp)), hat]
 simp [ht, hne]
theorem apply_drop {l : List Lnk} {n t : ByteArray} {j : Nat} (hn : nameOk n = true) (hat : linkAt l n = some j) (ht : t.size = 0) : apply l ⟨3, n, t, 0⟩ = some (without l n) := by
 unfold apply
 rw [if_neg (by simp [hn]), if_neg (fun k => absurd k.1 (by simp)), hat]
 simp [ht]
theorem NamesOk.apply {l : List Lnk} (h : NamesOk l) {m : Mov} {r : List Lnk} (he : apply l m = some r) : NamesOk r := by
 by_cases hn : nameOk m.name = false
 ·rw [apply_bad hn] at he; cases he
 ·have hn' : nameOk m.name = true := by simpa using hn
  rcases hat : linkAt l m.name with _ | j
  ·by_cases h1 : m.kind = 1 ∧ m.to.size = 0
   ·obtain ⟨k, n, t, i⟩ := m
    simp only at h1 hn' hat
    obtain ⟨rfl, h1⟩ := h1
    rw [apply_make hn' h1 hat] at he
    cases he
    exact h.withL _ hn'
   ·rw [apply_none hat h1] at he; cases he
  ·by_cases h2 : m.kind = 2 ∧ m.id = 0 ∧ nameOk m.to = true ∧ m.to ≠ m.name
   ·obtain ⟨k, n, t, i⟩ := m
    simp only at h2 hn' hat
    obtain ⟨rfl, rfl, h2, h3⟩ := h2
    rw [apply_name hn' hat h2 h3] at he
    cases he
    exact (h.without _).withL _ h2
   ·by_cases h3 : m.kind = 3 ∧ m.id = 0 ∧ m.to.size = 0
    ·obtain ⟨k, n, t, i⟩ := m
     simp only at h3 hn' hat
     obtain ⟨rfl, rfl, h3⟩ := h3
     rw [apply_drop hn' hat h3] at he
     cases he
     exact h.without _
    ·rw [apply_some hat h2 h3] at he; cases he
set_option maxRecDepth 20000 in
set_option maxHeartbeats 1000000 in
theorem iap_1a (l : List Lnk) (b : Nat) (mn mt : ByteArray) (mi : Int) (w : World) (h : NT w b l) (hl : l.length ≤ 1000) (hs : mn.size ≤ maxLen) (ht : mt.size ≤ maxLen) (j : Nat) (hat : linkAt l mn = some j) :
  Calls Tryz.prog 48 #[.map (some b), .agg #[.int .i64 1, .string mn, .string mt, .int .i64 mi]] w fun e w' => e = .returned (.bool false) ∧ NT w' b l ∧ But (fun i => i = b) w w' := by
 have HH : Hid (NT w b l) := h
 have hW : NT (w.alloc (.cells #[.int .i64 1, .string mn, .string mt, .int .i64 mi] 51)) b l := h.on ((Below.refl _ w).alloc (Nat.le_refl _) _) h.lt
 have B0 : Hid (But (fun i => i = b) w (w.alloc (.cells #[.int .i64 1, .string mn, .string mt, .int .i64 mi] 51))) := (But.refl _ w).alloc _
 have r1 := (hW.look mn hs).2 j hat
 have HW : Hid (NT (w.alloc (.cells #[.int .i64 1, .string mn, .string mt, .int .i64 mi] 51)) b l) := hW
 clear h hW
 clear hs ht hl hat
 go_enter Tryz.func48, Tryz.ntmps48
 go_wp2_with fail
 go_ret
 exact ⟨rfl, HW.out, B0.out⟩
set_option maxRecDepth 20000 in
set_option maxHeartbeats 1000000 in
theorem iap_1b (l : List Lnk) (b : Nat) (mn mt : ByteArray) (mi : Int) (w : World) (h : NT w b l) (hl : l.length ≤ 1000) (hs : mn.size ≤ maxLen) (ht : mt.size ≤ maxLen) (hat : linkAt l mn = none) (hno : nameOk mn = false) :
  Calls Tryz.prog 48 #[.map (some b), .agg #[.int .i64 1, .string mn, .string mt, .int .i64 mi]] w fun e w' => e = .returned (.bool false) ∧ NT w' b l ∧ But (fun i => i = b) w w' := by
 have HH : Hid (NT w b l) := h
 have hW : NT (w.alloc (.cells #[.int .i64 1, .string mn, .string mt, .int .i64 mi] 51)) b l := h.on ((Below.refl _ w).alloc (Nat.le_refl _) _) h.lt
 have B0 : Hid (But (fun i => i = b) w (w.alloc (.cells #[.int .i64 1, .string mn, .string mt, .int .i64 mi] 51))) := (But.refl _ w).alloc _
 have r1 := (hW.look mn hs).1 hat
 have c1 := fun wx => isNameV mn wx (by unfold maxLen at hs; omega)
 rw [hno] at c1
 have HW : Hid (NT (w.alloc (.cells #[.int .i64 1, .string mn, .string mt, .int .i64 mi] 51)) b l) := hW
 clear h hW
 clear hs ht hl hat hno
 go_enter Tryz.func48, Tryz.ntmps48
 go_wp2_with fail
 refine (c1 _).mono ?_
 rintro e w1 ⟨rfl, rfl⟩
 go_wp2_with fail
 go_ret
 exact ⟨rfl, HW.out, B0.out⟩
set_option maxRecDepth 20000 in
set_option maxHeartbeats 1000000 in
theorem iap_1c (l : List Lnk) (b : Nat) (mn mt : ByteArray) (mi : Int) (w : World) (h : NT w b l) (hl : l.length ≤ 1000) (hs : mn.size ≤ maxLen) (ht : mt.size ≤ maxLen) (hat : linkAt l mn = none) (hno : nameOk mn = true) (hto : ¬ mt.size = 0) :
  Calls Tryz.prog 48 #[.map (some b), .agg #[.int .i64 1, .string mn, .string mt, .int .i64 mi]] w fun e w' => e = .returned (.bool false) ∧ NT w' b l ∧ But (fun i => i = b) w w' := by
 have HH : Hid (NT w b l) := h
 have hW : NT (w.alloc (.cells #[.int .i64 1, .string mn, .string mt, .int .i64 mi] 51)) b l := h.on ((Below.refl _ w).alloc (Nat.le_refl _) _) h.lt
 have B0 : Hid (But (fun i => i = b) w (w.alloc (.cells #[.int .i64 1, .string mn, .string mt, .int .i64 mi] 51))) := (But.refl _ w).alloc _
 have r1 := (hW.look mn hs).1 hat
 have c1 := fun wx => isNameV mn wx (by unfold maxLen at hs; omega)
 rw [hno] at c1
 have t1 := isEmpty_no mt hto
 have t2 : ¬ mt.toList = [] := fun h => by rw [h] at t1; cases t1
 have HW : Hid (NT (w.alloc (.cells #[.int .i64 1, .string mn, .string mt, .int .i64 mi] 51)) b l) := hW
 clear h hW
 clear hs ht hl hat hno hto
 go_enter Tryz.func48, Tryz.ntmps48
 go_wp2_with fail
 refine (c1 _).mono ?_
 rintro e w1 ⟨rfl, rfl⟩
 go_wp2_with fail
 go_ret
 exact ⟨rfl, HW.out, B0.out⟩
set_option maxRecDepth 20000 in
set_option maxHeartbeats 1000000 in
theorem iap_1d (l : List Lnk) (b : Nat) (mn : ByteArray) (mi : Int) (w : World) (h : NT w b l) (hl : l.length ≤ 1000) (hs : mn.size ≤ maxLen) (hat : linkAt l mn = none) (hno : nameOk mn = true) :
  Calls Tryz.prog 48 #[.map (some b), .agg #[.int .i64 1, .string mn, .string ⟨#[]⟩, .int .i64 mi]] w fun e w' => e = .returned (.bool true) ∧ NT w' b (withL l ⟨mn, mi⟩) ∧ But (fun i => i = b) w w' := by
 have HH : Hid (NT w b l) := h
 have hW : NT (w.alloc (.cells #[.int .i64 1, .string mn, .string ⟨#[]⟩, .int .i64 mi] 51)) b l := h.on ((Below.refl _ w).alloc (Nat.le_refl _) _) h.lt
 have B0 : Hid (But (fun i => i = b) w (w.alloc (.cells #[.int .i64 1, .string mn, .string ⟨#[]⟩, .int .i64 mi] 51))) := (But.refl _ w).alloc _
 have r1 := (hW.look mn hs).1 hat
 have c1 := fun wx => isNameV mn wx (by unfold maxLen at hs; omega)
 rw [hno] at c1
 obtain ⟨w2, r2, hN, hB, _⟩ := hW.put mn mi hs (by unfold maxLen; omega)
 have B1 : Hid (But (fun i => i = b) w w2) := B0.out.trans hB (fun _ _ k => k)
 have N1 : Hid (NT w2 b (withL l ⟨mn, mi⟩)) := hN
 clear h hW hB hN hs hl hat hno
 go_enter Tryz.func48, Tryz.ntmps48
 go_wp2_with fail
 refine (c1 _).mono ?_
 rintro e w1 ⟨rfl, rfl⟩
 go_wp2_with fail
 go_ret
 exact ⟨rfl, N1.out, B1.out⟩
set_option maxRecDepth 20000 in
set_option maxHeartbeats 1000000 in
theorem iap_2a (l : List Lnk) (b : Nat) (mn mt : ByteArray) (mi : Int) (w : World) (h : NT w b l) (hl : l.length ≤ 1000) (hs : mn.size ≤ maxLen) (ht : mt.size ≤ maxLen) (hat : linkAt l mn = none) :
  Calls Tryz.prog 48 #[.map (some b), .agg #[.int .i64 2, .string mn, .string mt, .int .i64 mi]] w fun e w' => e = .returned (.bool false) ∧ NT w' b l ∧ But (fun i => i = b) w w' := by
 have HH : Hid (NT w b l) := h
 have hW : NT (w.alloc (.cells #[.int .i64 2, .string mn, .string mt, .int .i64 mi] 51)) b l := h.on ((Below.refl _ w).alloc (Nat.le_refl _) _) h.lt
 have B0 : Hid (But (fun i => i = b) w (w.alloc (.cells #[.int .i64 2, .string mn, .string mt, .int .i64 mi] 51))) := (But.refl _ w).alloc _
 have r1 := (hW.look mn hs).1 hat
 have HW : Hid (NT (w.alloc (.cells #[.int .i64 2, .string mn, .string mt, .int .i64 mi] 51)) b l) := hW
 clear h hW
 clear hs ht hl hat
 go_enter Tryz.func48, Tryz.ntmps48
 go_wp2_with fail
 go_ret
 exact ⟨rfl, HW.out, B0.out⟩
set_option maxRecDepth 20000 in
set_option maxHeartbeats 1000000 in
theorem iap_2b (l : List Lnk) (b : Nat) (mn mt : ByteArray) (mi : Int) (w : World) (h : NT w b l) (hl : l.length ≤ 1000) (hs : mn.size ≤ maxLen) (ht : mt.size ≤ maxLen) (j : Nat) (hat : linkAt l mn = some j) (hno : nameOk mt = false) :
  Calls Tryz.prog 48 #[.map (some b), .agg #[.int .i64 2, .string mn, .string mt, .int .i64 mi]] w fun e w' => e = .returned (.bool false) ∧ NT w' b l ∧ But (fun i => i = b) w w' := by
 have HH : Hid (NT w b l) := h
 have hW : NT (w.alloc (.cells #[.int .i64 2, .string mn, .string mt, .int .i64 mi] 51)) b l := h.on ((Below.refl _ w).alloc (Nat.le_refl _) _) h.lt
 have B0 : Hid (But (fun i => i = b) w (w.alloc (.cells #[.int .i64 2, .string mn, .string mt, .int .i64 mi] 51))) := (But.refl _ w).alloc _
 have r1 := (hW.look mn hs).2 j hat
 have c1 := fun wx => isNameV mt wx (by unfold maxLen at ht; omega)
 rw [hno] at c1
 have HW : Hid (NT (w.alloc (.cells #[.int .i64 2, .string mn, .string mt, .int .i64 mi] 51)) b l) := hW
 clear h hW
 clear hs ht hl hat hno
 go_enter Tryz.func48, Tryz.ntmps48
 go_wp2_with fail
 refine (c1 _).mono ?_
 rintro e w1 ⟨rfl, rfl⟩
 go_wp2_with fail
 go_ret
 exact ⟨rfl, HW.out, B0.out⟩
set_option maxRecDepth 20000 in
set_option maxHeartbeats 1000000 in
theorem iap_2c (l : List Lnk) (b : Nat) (mn mt : ByteArray) (mi : Int) (w : World) (h : NT w b l) (hl : l.length ≤ 1000) (hs : mn.size ≤ maxLen) (ht : mt.size ≤ maxLen) (j : Nat) (hat : linkAt l mn = some j) (hno : nameOk mt = true) (heq : mt = mn) :
  Calls Tryz.prog 48 #[.map (some b), .agg #[.int .i64 2, .string mn, .string mt, .int .i64 mi]] w fun e w' => e = .returned (.bool false) ∧ NT w' b l ∧ But (fun i => i = b) w w' := by
 have HH : Hid (NT w b l) := h
 have hW : NT (w.alloc (.cells #[.int .i64 2, .string mn, .string mt, .int .i64 mi] 51)) b l := h.on ((Below.refl _ w).alloc (Nat.le_refl _) _) h.lt
 have B0 : Hid (But (fun i => i = b) w (w.alloc (.cells #[.int .i64 2, .string mn, .string mt, .int .i64 mi] 51))) := (But.refl _ w).alloc _
 have r1 := (hW.look mn hs).2 j hat
 have c1 := fun wx => isNameV mt wx (by unfold maxLen at ht; omega)
 rw [hno] at c1
 have hbq := toList_beq mt mn
 rw [decide_eq_true heq] at hbq
 have HW : Hid (NT (w.alloc (.cells #[.int .i64 2, .string mn, .string mt, .int .i64 mi] 51)) b l) := hW
 clear h hW
 clear hs ht hl hat hno heq
 go_enter Tryz.func48, Tryz.ntmps48
 go_wp2_with fail
 refine (c1 _).mono ?_
 rintro e w1 ⟨rfl, rfl⟩
 go_wp2_with fail
 go_ret
 exact ⟨rfl, HW.out, B0.out⟩
set_option maxRecDepth 20000 in
set_option maxHeartbeats 1000000 in
theorem iap_2d (l : List Lnk) (b : Nat) (mn mt : ByteArray) (mi : Int) (w : World) (h : NT w b l) (hl : l.length ≤ 1000) (hs : mn.size ≤ maxLen) (ht : mt.size ≤ maxLen) (j : Nat) (hat : linkAt l mn = some j) (hno : nameOk mt = true) (hne : ¬ mt = mn) (hi : ¬ mi = 0) :
  Calls Tryz.prog 48 #[.map (some b), .agg #[.int .i64 2, .string mn, .string mt, .int .i64 mi]] w fun e w' => e = .returned (.bool false) ∧ NT w' b l ∧ But (fun i => i = b) w w' := by
 have HH : Hid (NT w b l) := h
 have hW : NT (w.alloc (.cells #[.int .i64 2, .string mn, .string mt, .int .i64 mi] 51)) b l := h.on ((Below.refl _ w).alloc (Nat.le_refl _) _) h.lt
 have B0 : Hid (But (fun i => i = b) w (w.alloc (.cells #[.int .i64 2, .string mn, .string mt, .int .i64 mi] 51))) := (But.refl _ w).alloc _
 have r1 := (hW.look mn hs).2 j hat
 have c1 := fun wx => isNameV mt wx (by unfold maxLen at ht; omega)
 rw [hno] at c1
 have hbq := toList_beq mt mn
 rw [decide_eq_false hne] at hbq
 have z6 : (mi != 0) = true := by simp only [bne_iff_ne, ne_eq]; exact hi
 have z5 : (mi == 0) = false := by simp only [beq_eq_false_iff_ne, ne_eq]; exact hi
 have HW : Hid (NT (w.alloc (.cells #[.int .i64 2, .string mn, .string mt, .int .i64 mi] 51)) b l) := hW
 clear h hW
 clear hs ht hl hat hno hne hi
 go_enter Tryz.func48, Tryz.ntmps48
 go_wp2_with fail
 refine (c1 _).mono ?_
 rintro e w1 ⟨rfl, rfl⟩
 go_wp2_with fail
 go_ret
 exact ⟨rfl, HW.out, B0.out⟩
set_option maxRecDepth 20000 in
set_option maxHeartbeats 1000000 in
theorem iap_2e (l : List Lnk) (b : Nat) (mn mt : ByteArray) (w : World) (h : NT w b l) (hl : l.length ≤ 1000) (hs : mn.size ≤ maxLen) (ht : mt.size ≤ maxLen) (j : Nat) (hat : linkAt l mn = some j) (hno : nameOk mt = true) (hne : ¬ mt = mn) :
  Calls Tryz.prog 48 #[.map (some b), .agg #[.int .i64 2, .string mn, .string mt, .int .i64 0]] w fun e w' => e = .returned (.bool true) ∧ NT w' b (withL (without l mn) ⟨mt, (l.getD j default).id⟩) ∧ But (fun i => i = b) w w' := by
 have HH : Hid (NT w b l) := h
 have hW : NT (w.alloc (.cells #[.int .i64 2, .string mn, .string mt, .int .i64 0] 51)) b l := h.on ((Below.refl _ w).alloc (Nat.le_refl _) _) h.lt
 have B0 : Hid (But (fun i => i = b) w (w.alloc (.cells #[.int .i64 2, .string mn, .string mt, .int .i64 0] 51))) := (But.refl _ w).alloc _
 have r1 := (hW.look mn hs).2 j hat
 have c1 := fun wx => isNameV mt wx (by unfold maxLen at ht; omega)
 rw [hno] at c1
 have hbq := toList_beq mt mn
 rw [decide_eq_false hne] at hbq
 have r2 := fun ty => hW.del mn hs ty
 have hwl := without_len l mn
 have XX : Hid (∀ w3, NT w3 b (without l mn) → ∃ w4, (Instr.mapUpdate 84 (.map (some b)) (.string mt) (.int .i64 (l.getD j default).id)).run Tryz.prog w3 = .ok () w4 ∧ NT w4 b (withL (without l mn) ⟨mt, (l.getD j default).id⟩) ∧ But (fun i => i = b) w3 w4 ∧ w4.heap.size = w3.heap.size) := fun w3 h3 => h3.put mt _ ht (by unfold maxLen; omega)
 have kb := (Blk.new w #[.int .i64 2, .string mn, .string mt, .int .i64 0] 51)
 have hne2 : w.heap.size ≠ b := fun e => by have := HH.out.lt; omega
 generalize (l.getD j default).id = li at *
 clear h hs ht hl hat hno hne hwl
 obtain ⟨w3, r3, hN, hB, _⟩ := r2 0
 obtain ⟨w4, r4, hN4, hB4, _⟩ := XX.out w3 hN
 have k3 := hB.blk kb hne2
 have x2 := k3.cell 2 _ rfl
 have B1 : Hid (But (fun i => i = b) w w4) := (B0.out.trans hB (fun _ _ k => k)).trans hB4 (fun _ _ k => k)
 have N1 : Hid (NT w4 b (withL (without l mn) ⟨mt, li⟩)) := hN4
 clear r2 hB hN hB4 hN4 k3 kb hne2 XX HH hW
 go_enter Tryz.func48, Tryz.ntmps48
 go_wp2_with fail
 refine (c1 _).mono ?_
 rintro e w1 ⟨rfl, rfl⟩
 go_wp2_with fail
 go_ret
 exact ⟨rfl, N1.out, B1.out⟩
set_option maxRecDepth 20000 in
set_option maxHeartbeats 1000000 in
theorem iap_3a (l : List Lnk) (b : Nat) (mn mt : ByteArray) (mi : Int) (w : World) (h : NT w b l) (hl : l.length ≤ 1000) (hs : mn.size ≤ maxLen) (ht : mt.size ≤ maxLen) (hat : linkAt l mn = none) :
  Calls Tryz.prog 48 #[.map (some b), .agg #[.int .i64 3, .string mn, .string mt, .int .i64 mi]] w fun e w' => e = .returned (.bool false) ∧ NT w' b l ∧ But (fun i => i = b) w w' := by
 have HH : Hid (NT w b l) := h
 have hW : NT (w.alloc (.cells #[.int .i64 3, .string mn, .string mt, .int .i64 mi] 51)) b l := h.on ((Below.refl _ w).alloc (Nat.le_refl _) _) h.lt
 have B0 : Hid (But (fun i => i = b) w (w.alloc (.cells #[.int .i64 3, .string mn, .string mt, .int .i64 mi] 51))) := (But.refl _ w).alloc _
 have r1 := (hW.look mn hs).1 hat
 have HW : Hid (NT (w.alloc (.cells #[.int .i64 3, .string mn, .string mt, .int .i64 mi] 51)) b l) := hW
 clear h hW
 clear hs ht hl hat
 go_enter Tryz.func48, Tryz.ntmps48
 go_wp2_with fail
 go_ret
 exact ⟨rfl, HW.out, B0.out⟩
set_option maxRecDepth 20000 in
set_option maxHeartbeats 1000000 in
theorem iap_3b (l : List Lnk) (b : Nat) (mn mt : ByteArray) (mi : Int) (w : World) (h : NT w b l) (hl : l.length ≤ 1000) (hs : mn.size ≤ maxLen) (ht : mt.size ≤ maxLen) (j : Nat) (hat : linkAt l mn = some j) (hto : ¬ mt.size = 0) :
  Calls Tryz.prog 48 #[.map (some b), .agg #[.int .i64 3, .string mn, .string mt, .int .i64 mi]] w fun e w' => e = .returned (.bool false) ∧ NT w' b l ∧ But (fun i => i = b) w w' := by
 have HH : Hid (NT w b l) := h
 have hW : NT (w.alloc (.cells #[.int .i64 3, .string mn, .string mt, .int .i64 mi] 51)) b l := h.on ((Below.refl _ w).alloc (Nat.le_refl _) _) h.lt
 have B0 : Hid (But (fun i => i = b) w (w.alloc (.cells #[.int .i64 3, .string mn, .string mt, .int .i64 mi] 51))) := (But.refl _ w).alloc _
 have r1 := (hW.look mn hs).2 j hat
 have t1 := isEmpty_no mt hto
 have t2 : ¬ mt.toList = [] := fun h => by rw [h] at t1; cases t1
 have HW : Hid (NT (w.alloc (.cells #[.int .i64 3, .string mn, .string mt, .int .i64 mi] 51)) b l) := hW
 clear h hW
 clear hs ht hl hat hto
 go_enter Tryz.func48, Tryz.ntmps48
 go_wp2_with fail
 go_ret
 exact ⟨rfl, HW.out, B0.out⟩
set_option maxRecDepth 20000 in
set_option maxHeartbeats 1000000 in
theorem iap_3c (l : List Lnk) (b : Nat) (mn : ByteArray) (mi : Int) (w : World) (h : NT w b l) (hl : l.length ≤ 1000) (hs : mn.size ≤ maxLen) (j : Nat) (hat : linkAt l mn = some j) (hi : ¬ mi = 0) :
  Calls Tryz.prog 48 #[.map (some b), .agg #[.int .i64 3, .string mn, .string ⟨#[]⟩, .int .i64 mi]] w fun e w' => e = .returned (.bool false) ∧ NT w' b l ∧ But (fun i => i = b) w w' := by
 have HH : Hid (NT w b l) := h
 have hW : NT (w.alloc (.cells #[.int .i64 3, .string mn, .string ⟨#[]⟩, .int .i64 mi] 51)) b l := h.on ((Below.refl _ w).alloc (Nat.le_refl _) _) h.lt
 have B0 : Hid (But (fun i => i = b) w (w.alloc (.cells #[.int .i64 3, .string mn, .string ⟨#[]⟩, .int .i64 mi] 51))) := (But.refl _ w).alloc _
 have r1 := (hW.look mn hs).2 j hat
 have z6 : (mi != 0) = true := by simp only [bne_iff_ne, ne_eq]; exact hi
 have z5 : (mi == 0) = false := by simp only [beq_eq_false_iff_ne, ne_eq]; exact hi
 have HW : Hid (NT (w.alloc (.cells #[.int .i64 3, .string mn, .string ⟨#[]⟩, .int .i64 mi] 51)) b l) := hW
 clear h hW
 clear hs hl hat hi
 go_enter Tryz.func48, Tryz.ntmps48
 go_wp2_with fail
 go_ret
 exact ⟨rfl, HW.out, B0.out⟩
set_option maxRecDepth 20000 in
set_option maxHeartbeats 1000000 in
theorem iap_3d (l : List Lnk) (b : Nat) (mn : ByteArray) (w : World) (h : NT w b l) (hl : l.length ≤ 1000) (hs : mn.size ≤ maxLen) (j : Nat) (hat : linkAt l mn = some j) :
  Calls Tryz.prog 48 #[.map (some b), .agg #[.int .i64 3, .string mn, .string ⟨#[]⟩, .int .i64 0]] w fun e w' => e = .returned (.bool true) ∧ NT w' b (without l mn) ∧ But (fun i => i = b) w w' := by
 have HH : Hid (NT w b l) := h
 have hW : NT (w.alloc (.cells #[.int .i64 3, .string mn, .string ⟨#[]⟩, .int .i64 0] 51)) b l := h.on ((Below.refl _ w).alloc (Nat.le_refl _) _) h.lt
 have B0 : Hid (But (fun i => i = b) w (w.alloc (.cells #[.int .i64 3, .string mn, .string ⟨#[]⟩, .int .i64 0] 51))) := (But.refl _ w).alloc _
 have r1 := (hW.look mn hs).2 j hat
 obtain ⟨w3, r3, hN, hB, _⟩ := hW.del mn hs 0
 have B1 : Hid (But (fun i => i = b) w w3) := B0.out.trans hB (fun _ _ k => k)
 have N1 : Hid (NT w3 b (without l mn)) := hN
 clear h hW hB hN hs hl hat
 go_enter Tryz.func48, Tryz.ntmps48
 go_wp2_with fail
 go_ret
 exact ⟨rfl, N1.out, B1.out⟩
set_option maxRecDepth 20000 in
set_option maxHeartbeats 1000000 in
theorem iap_0 (l : List Lnk) (b : Nat) (mn mt : ByteArray) (mk : Int) (mi : Int) (w : World) (h : NT w b l) (hl : l.length ≤ 1000) (hs : mn.size ≤ maxLen) (ht : mt.size ≤ maxLen) (h1 : ¬ mk = 1) (h2 : ¬ mk = 2) (h3 : ¬ mk = 3) :
  Calls Tryz.prog 48 #[.map (some b), .agg #[.int .i64 mk, .string mn, .string mt, .int .i64 mi]] w fun e w' => e = .returned (.bool false) ∧ NT w' b l ∧ But (fun i => i = b) w w' := by
 have HH : Hid (NT w b l) := h
 have hW : NT (w.alloc (.cells #[.int .i64 mk, .string mn, .string mt, .int .i64 mi] 51)) b l := h.on ((Below.refl _ w).alloc (Nat.le_refl _) _) h.lt
 have B0 : Hid (But (fun i => i = b) w (w.alloc (.cells #[.int .i64 mk, .string mn, .string mt, .int .i64 mi] 51))) := (But.refl _ w).alloc _
 have r0 : ∃ c q, (Instr.lookup 84 (.map (some b)) (.string mn) true).run Tryz.prog (w.alloc (.cells #[.int .i64 mk, .string mn, .string mt, .int .i64 mi] 51)) = .ok (.tuple #[.int .i64 c, .bool q]) (w.alloc (.cells #[.int .i64 mk, .string mn, .string mt, .int .i64 mi] 51)) := by
  rcases hat : linkAt l mn with _ | j
  ·exact ⟨_, _, (hW.look mn hs).1 hat⟩
  ·exact ⟨_, _, (hW.look mn hs).2 j hat⟩
 obtain ⟨c, q, r1⟩ := r0
 have z1 : (mk == 1) = false := by simp only [beq_eq_false_iff_ne, ne_eq]; exact h1
 have z2 : (mk == 2) = false := by simp only [beq_eq_false_iff_ne, ne_eq]; exact h2
 have z3 : (mk == 3) = false := by simp only [beq_eq_false_iff_ne, ne_eq]; exact h3
 have HW : Hid (NT (w.alloc (.cells #[.int .i64 mk, .string mn, .string mt, .int .i64 mi] 51)) b l) := hW
 clear h hW
 clear hs ht hl h1 h2 h3
 go_enter Tryz.func48, Tryz.ntmps48
 go_wp2_with fail
 go_ret
 exact ⟨rfl, HW.out, B0.out⟩
theorem applyI (l : List Lnk) (b : Nat) (m : Mov) (w : World) (h : NT w b l) (hl : l.length ≤ 1000) (hok : NamesOk l) (hs : m.name.size ≤ maxLen) (ht : m.to.size ≤ maxLen) :
  Calls Tryz.prog 48 #[.map (some b), movV m] w fun e w' => e = .returned (.bool (apply l m).isSome) ∧ NT w' b ((apply l m).getD l) ∧ But (fun i => i = b) w w' := by
 obtain ⟨mk, mn, mt, mi⟩ := m
 simp only at hs ht
 unfold movV
 simp only
 by_cases h1 : mk = 1
 ·subst h1
  rcases hat : linkAt l mn with _ | j
  ·cases hno : nameOk mn with
   | false => rw [apply_bad (m := ⟨1, mn, mt, mi⟩) hno]; exact iap_1b l b mn mt mi w h hl hs ht hat hno
   | true =>
    by_cases hto : mt.size = 0
    ·rw [apply_make hno hto hat]
     obtain rfl := empty_of mt hto
     exact iap_1d l b mn mi w h hl hs hat hno
    ·rw [apply_none (m := ⟨1, mn, mt, mi⟩) hat (fun k => hto k.2)]; exact iap_1c l b mn mt mi w h hl hs ht hat hno hto
  ·rw [apply_some (m := ⟨1, mn, mt, mi⟩) hat (fun k => absurd k.1 (by simp)) (fun k => absurd k.1 (by simp))]; exact iap_1a l b mn mt mi w h hl hs ht j hat
 ·by_cases h2 : mk = 2
  ·subst h2
   rcases hat : linkAt l mn with _ | j
   ·rw [apply_none (m := ⟨2, mn, mt, mi⟩) hat (fun k => absurd k.1 (by simp))]; exact iap_2a l b mn mt mi w h hl hs ht hat
   ·have hnm := hok.at hat
    cases hno : nameOk mt with
    | false => rw [apply_some (m := ⟨2, mn, mt, mi⟩) hat (fun k => by rw [hno] at k; exact absurd k.2.2.1 (by simp)) (fun k => absurd k.1 (by simp))]; exact iap_2b l b mn mt mi w h hl hs ht j hat hno
    | true =>
     by_cases heq : mt = mn
     ·rw [apply_some (m := ⟨2, mn, mt, mi⟩) hat (fun k => k.2.2.2 heq) (fun k => absurd k.1 (by simp))]; exact iap_2c l b mn mt mi w h hl hs ht j hat hno heq
     ·by_cases hi : mi = 0
      ·subst hi
       rw [apply_name hnm hat hno heq]
       exact iap_2e l b mn mt w h hl hs ht j hat hno heq
      ·rw [apply_some (m := ⟨2, mn, mt, mi⟩) hat (fun k => hi k.2.1) (fun k => absurd k.1 (by simp))]; exact iap_2d l b mn mt mi w h hl hs ht j hat hno heq hi
  ·by_cases h3 : mk = 3
   ·subst h3
    rcases hat : linkAt l mn with _ | j
    ·rw [apply_none (m := ⟨3, mn, mt, mi⟩) hat (fun k => absurd k.1 (by simp))]; exact iap_3a l b mn mt mi w h hl hs ht hat
    ·have hnm := hok.at hat
     by_cases hto : mt.size = 0
     ·by_cases hi : mi = 0
      ·subst hi
       rw [apply_drop hnm hat hto]
       obtain rfl := empty_of mt hto
       exact iap_3d l b mn w h hl hs j hat
      ·rw [apply_some (m := ⟨3, mn, mt, mi⟩) hat (fun k => absurd k.1 (by simp)) (fun k => hi k.2.1)]
       obtain rfl := empty_of mt hto
       exact iap_3c l b mn mi w h hl hs j hat hi
     ·rw [apply_some (m := ⟨3, mn, mt, mi⟩) hat (fun k => absurd k.1 (by simp)) (fun k => hto k.2.2)]; exact iap_3b l b mn mt mi w h hl hs ht j hat hto
   ·rcases hat : linkAt l mn with _ | j
    ·rw [apply_none (m := ⟨mk, mn, mt, mi⟩) hat (fun k => h1 k.1)]; exact iap_0 l b mn mt mk mi w h hl hs ht h1 h2 h3
    ·rw [apply_some (m := ⟨mk, mn, mt, mi⟩) hat (fun k => h2 k.1) (fun k => h3 k.1)]; exact iap_0 l b mn mt mk mi w h hl hs ht h1 h2 h3
end Go.Proofs.YtgjilgecklhglaaGreat
