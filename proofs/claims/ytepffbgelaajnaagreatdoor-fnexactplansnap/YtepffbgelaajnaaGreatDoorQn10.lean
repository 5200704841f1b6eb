/- DkMkD WkTo WkEq WkMk WkHd SpRow SpEq SpMk SpHd -/
import Derived.Test.YtepffbgelaajnaaGreatDoorRows
import Derived.Test.YtepffbgelaajnaaGreatDoorQn9
import Derived.Lib.OwnKind
import Derived.Test.YtepffbgelaajnaaGreatDoorQn2
import Derived.Test.YtepffbgelaajnaaGreatDoorQn8
import Derived.Deep.RegionWith
namespace Go.Proofs.YtepffbgelaajnaaGreatDoor
open Go.ChangeShapes Go.WideShapes Go.ChangeAt Go.RowKit Go.PlainAid
set_option linter.unusedVariables false
theorem Owns.apart {w : World} {b b' : Nat} {e e' : TypeId} {sz sz' : Nat} {v u : Value} {R R' : List (List Value)} (h : Owns w b e sz v R) (k : Owns w b' e' sz' u R') (hne : e ≠ e') (g : Nat) (hg : v.ownBlock = some g) : u.ownBlock ≠ some g := by
 intro hu
 obtain ⟨c, fz, e1⟩ := Lib.ownsRow_kind h.2 g hg
 obtain ⟨c', fz', e2⟩ := Lib.ownsRow_kind k.2 g hu
 rw [e1] at e2
 cases e2
 exact hne rfl
structure Rows3 (w : World) (base C : Nat) (v1 v2 v3 : Value) (R1 R2 R3 : List (List Value)) : Prop where
 o1 : Owns w base 101 3 v1 R1
 o2 : Owns w base 104 2 v2 R2
 o3 : Owns w base 106 4 v3 R3
 c1 : ∀ g, v1.ownBlock = some g → g < C
 c2 : ∀ g, v2.ownBlock = some g → g < C
 c3 : ∀ g, v3.ownBlock = some g → g < C
theorem Rows3.on {w w' : World} {base C : Nat} {v1 v2 v3 : Value} {R1 R2 R3 : List (List Value)} (h : Rows3 w base C v1 v2 v3 R1 R2 R3) (hb : Below w.heap.size w w') : Rows3 w' base C v1 v2 v3 R1 R2 R3 :=
 ⟨h.o1.on hb, h.o2.on hb, h.o3.on hb, h.c1, h.c2, h.c3⟩
set_option maxHeartbeats 2000000 in
theorem markDisk (k base C : Nat) (a b : Int) (v1 v2 v3 : Value) (R1 R2 R3 : List (List Value)) (w : World) (h : Rows3 w base C v1 v2 v3 R1 R2 R3) (l1 : R1.length ≤ 1048576) (l2 : R2.length ≤ 1048576) (l3 : R3.length ≤ 1048576) (h1 : 1 ≤ k) (h2 : k ≤ 1000) (hbase : base ≤ w.heap.size) :
  Calls Tryz.prog 14 #[.agg #[.int .i64 a, .int .i64 b, v1, v2, v3], .int .i64 (k : Int)] w fun e w' => e = .returned (.int .i64 ((k + 3 * R1.length + 2 * R2.length + 4 * R3.length : Nat) : Int)) ∧
   Rows3 w' base C v1 v2 v3 (newR (mkNod k) R1.length) (newR (mkLnk (k + 3 * R1.length)) R2.length) (newR (mkMov (k + 3 * R1.length + 2 * R2.length)) R3.length) ∧ Below base w w' ∧ (∀ g, C ≤ g → g < w.heap.size → w'.heap[g]? = w.heap[g]?) := by
 have H : Hid (Rows3 w base C v1 v2 v3 R1 R2 R3) := h
 have HB : Hid (base ≤ w.heap.size) := hbase
 clear h hbase
 go_enter Tryz.func14, Tryz.ntmps14
 go_wp2_with fail
 have hb0 : Below w.heap.size w (w.alloc (.cells #[.int .i64 a, .int .i64 b, v1, v2, v3] 38)) := (Below.refl _ _).alloc (Nat.le_refl _) _
 have kA := Blk.new w #[.int .i64 a, .int .i64 b, v1, v2, v3] 38
 generalize w.alloc (.cells #[.int .i64 a, .int .i64 b, v1, v2, v3] 38) = W at *
 have B0 : Hid (Below w.heap.size w W) := hb0
 have K0 : Hid (Blk W w.heap.size #[.int .i64 a, .int .i64 b, v1, v2, v3] 38) := kA
 have H0 : Hid (Rows3 W base C v1 v2 v3 R1 R2 R3) := H.out.on hb0
 clear hb0 kA
 have N1 : ∀ v : Value, (∀ g, v.ownBlock = some g → g < w.heap.size) → v.ownBlock ≠ some w.heap.size := fun v hv e => by have := hv _ e; omega
 have Z1 : Hid (v1.ownBlock ≠ some w.heap.size) := N1 _ fun g e => (H.out.o1.lt g e).2
 have Z2 : Hid (v2.ownBlock ≠ some w.heap.size) := N1 _ fun g e => (H.out.o2.lt g e).2
 have Z3 : Hid (v3.ownBlock ≠ some w.heap.size) := N1 _ fun g e => (H.out.o3.lt g e).2
 clear N1
 refine (markInodeS k base v1 R1 W H0.out.o1 l1 h1 (by omega) (Nat.le_trans HB.out B0.out.size)).mono ?_
 rintro e w2 ⟨rfl, hO, hb, hk⟩
 have O1 : Hid (Owns w2 base 101 3 v1 (newR (mkNod k) R1.length)) := hO
 have O2 : Hid (Owns w2 base 104 2 v2 R2) := H0.out.o2.kept fun g hg e => hk g hg fun e1 => H0.out.o1.apart H0.out.o2 (by decide) g e1 e
 have O3 : Hid (Owns w2 base 106 4 v3 R3) := H0.out.o3.kept fun g hg e => hk g hg fun e1 => H0.out.o1.apart H0.out.o3 (by decide) g e1 e
 have K2 : Hid (Blk w2 w.heap.size #[.int .i64 a, .int .i64 b, v1, v2, v3] 38) := by unfold Hid Blk; rw [hk _ K0.out.lt Z1.out]; exact K0.out
 have B2 : Hid (Below base w w2) := (B0.out.mono HB.out).trans hb
 have C2 : Hid (∀ g, C ≤ g → g < w.heap.size → w2.heap[g]? = w.heap[g]?) := fun g hc hg => (hk g (Nat.lt_of_lt_of_le hg B0.out.size) fun e => by have := H.out.c1 g e; omega).trans (B0.out.block g hg)
 have e2 := K2.out.cell 3 v2 rfl
 clear hO hb hk
 have q1 : ((k + 3 * R1.length : Nat) : Int) ≤ 10000000 := by omega
 have M1 : Hid (1 ≤ k + 3 * R1.length) := by unfold Hid; omega
 have M2 : Hid (k + 3 * R1.length ≤ 10000000) := by unfold Hid; omega
 have M3 : Hid (k + 3 * R1.length + 2 * R2.length ≤ 10000000) := by unfold Hid; omega
 generalize hk2 : k + 3 * R1.length = k2 at *
 go_wp2_with fail
 refine (markLinkS k2 base v2 R2 w2 O2.out l2 M1.out M2.out (Nat.le_trans HB.out B2.out.size)).mono ?_
 rintro e w3 ⟨rfl, hO, hb, hk⟩
 have P2 : Hid (Owns w3 base 104 2 v2 (newR (mkLnk k2) R2.length)) := hO
 have P1 : Hid (Owns w3 base 101 3 v1 (newR (mkNod k) R1.length)) := O1.out.kept fun g hg e => hk g hg fun e1 => O2.out.apart O1.out (by decide) g e1 e
 have P3 : Hid (Owns w3 base 106 4 v3 R3) := O3.out.kept fun g hg e => hk g hg fun e1 => O2.out.apart O3.out (by decide) g e1 e
 have K3 : Hid (Blk w3 w.heap.size #[.int .i64 a, .int .i64 b, v1, v2, v3] 38) := by unfold Hid Blk; rw [hk _ K2.out.lt Z2.out]; exact K2.out
 have B3 : Hid (Below base w w3) := B2.out.trans hb
 have C3 : Hid (∀ g, C ≤ g → g < w.heap.size → w3.heap[g]? = w.heap[g]?) := fun g hc hg => (hk g (Nat.lt_of_lt_of_le hg B2.out.size) fun e => by have := H.out.c2 g e; omega).trans (C2.out g hc hg)
 have e3 := K3.out.cell 4 v3 rfl
 clear hO hb hk e2
 have q2 : ((k2 + 2 * R2.length : Nat) : Int) ≤ 10000000 := by have := M3.out; omega
 have M4 : Hid (1 ≤ k2 + 2 * R2.length) := by unfold Hid; have := M1.out; omega
 generalize hk3 : k2 + 2 * R2.length = k3 at *
 go_wp2_with fail
 refine (markMoveS k3 base v3 R3 w3 P3.out l3 M4.out M3.out (Nat.le_trans HB.out B3.out.size)).mono ?_
 rintro e w4 ⟨rfl, hO, hb, hk⟩
 have S3 : Hid (Owns w4 base 106 4 v3 (newR (mkMov k3) R3.length)) := hO
 have S1 : Hid (Owns w4 base 101 3 v1 (newR (mkNod k) R1.length)) := P1.out.kept fun g hg e => hk g hg fun e1 => P3.out.apart P1.out (by decide) g e1 e
 have S2 : Hid (Owns w4 base 104 2 v2 (newR (mkLnk k2) R2.length)) := P2.out.kept fun g hg e => hk g hg fun e1 => P3.out.apart P2.out (by decide) g e1 e
 have B4 : Hid (Below base w w4) := B3.out.trans hb
 have C4 : Hid (∀ g, C ≤ g → g < w.heap.size → w4.heap[g]? = w.heap[g]?) := fun g hc hg => (hk g (Nat.lt_of_lt_of_le hg B3.out.size) fun e => by have := H.out.c3 g e; omega).trans (C3.out g hc hg)
 clear hO hb hk e3
 generalize hk4 : k3 + 4 * R3.length = k4 at *
 go_wp2_with fail
 go_ret
 rw [hk2, hk3, hk4]
 exact ⟨rfl, ⟨S1.out, S2.out, S3.out, H.out.c1, H.out.c2, H.out.c3⟩, B4.out, C4.out⟩
end Go.Proofs.YtepffbgelaajnaaGreatDoor
namespace Go.Proofs.YtepffbgelaajnaaGreatDoor
open Go.ChangeShapes Go.WideShapes Go.ChangeAt Go.RowKit Go.PlainAid
set_option linter.unusedVariables false
set_option maxHeartbeats 400000 in
theorem toEntry (x : Ent) (w : World) : Calls Tryz.prog 70 #[vEnt x] w fun e w' => e = .returned (vEnt x) ∧ Below w.heap.size w w' := by
 unfold vEnt
 go_enter Tryz.func70, Tryz.ntmps70
 go_wp2
 exact bodyPost_ret (v := .agg #[.int .i64 x.term, .string x.data]) (by simp [results, go_sem]) rfl ⟨rfl, below_alloc3 _ _ _ _⟩
theorem Tryz.infoEnt : (Tryz.prog.info? 110).map (fun i => (i.zero, i.size, i.bytes)) = some (some (.agg #[.int .i64 0, .string ⟨#[]⟩]), 2, 24) := by kernel_rfl
def entZ : List Value := [.int .i64 0, .string ⟨#[]⟩]
theorem ent_made (n : Nat) : madeCells #[.int .i64 0, .string ⟨#[]⟩] (n * 2) = (List.replicate n entZ).flatten.toArray := by
 apply Array.ext'
 rw [List.toList_toArray]
 apply List.ext_getElem?
 intro k
 have hz : ∀ r ∈ List.replicate n entZ, r.length = 2 := fun r hr => by rw [List.eq_of_mem_replicate hr]; rfl
 by_cases hk : k < n * 2
 ·have e : k = k / 2 * 2 + k % 2 := by omega
  have hf : k % 2 < 2 := Nat.mod_lt _ (by omega)
  have hj : k / 2 < n := Nat.div_lt_of_lt_mul (by omega)
  have := flat_at 2 (List.replicate n entZ) hz (k / 2) (k % 2) (by simpa using hj) hf
  rw [← e] at this
  have hr : (List.replicate n entZ)[k / 2]'(by simpa using hj) = entZ := by simp
  rw [this, hr]
  have hs : (madeCells #[.int .i64 0, .string ⟨#[]⟩] (n * 2)).toList[k]? = some (#[.int .i64 0, .string ⟨#[]⟩].getD (k % 2) default) := by simp [madeCells, hk]
  rw [hs]
  have : k % 2 = 0 ∨ k % 2 = 1 := by omega
  rcases this with h | h <;> rw [h] <;> rfl
 ·have hl : (List.replicate n entZ).flatten.length = n * 2 := by rw [flat_length 2 _ hz]; simp
  have hr : (List.replicate n entZ).flatten[k]? = none := List.getElem?_eq_none (by omega)
  rw [hr]
  apply List.getElem?_eq_none
  rw [Array.length_toList, size_madeCells]
  omega
set_option maxHeartbeats 1000000 in
theorem toEntryS (l : List Ent) (v : Value) (w : World) (B : Nat) (hv : Lies w B 2 v (entR l)) (hn : l.length ≤ 1048576) (hB : B ≤ w.heap.size) :
  Calls Tryz.prog 33 #[v] w fun e w' => ∃ u, e = .returned u ∧ Owns w' w.heap.size 110 2 u (entR l) ∧ Below w.heap.size w w' := by
 obtain ⟨A, cap, rfl, hl⟩ := ent_look hv
 have HL : Hid (∀ j, j < l.length → ∃ g off, A = some ⟨g, off, none⟩ ∧ g < B ∧ _) := hl
 have HB : Hid (B ≤ w.heap.size) := hB
 clear hl hB hv
 have q1 : (l.length : Int) ≤ 1048576 := by omega
 generalize hN : l.length = n at *
 obtain ⟨i0, hi, hz0, hz1, hz2⟩ := info_parts Tryz.infoEnt
 have hmk : ∀ wx : World, (Instr.makeSlice 40 (.int .i64 (n : Int)) (.int .i64 (n : Int))).run Tryz.prog wx = .ok (.slice (some ⟨wx.heap.size, 0, none⟩) n n) (wx.alloc (.cells (List.replicate n entZ).flatten.toArray 110)) := fun wx => by
  have h := run_make (P := Tryz.prog) wx 40 110 i0 _ Tryz.underlying40 hi hz0 .i64 .i64 (n : Int) (n : Int) (by omega) (by omega) (by rw [hz2]; omega) (by omega)
  rw [hz1] at h
  have e : (Value.agg #[.int .i64 0, .string ⟨#[]⟩]).cells = #[.int .i64 0, .string ⟨#[]⟩] := rfl
  rw [e, Int.toNat_natCast, ent_made] at h
  exact h
 clear hi hz0 hz1 hz2
 go_enter Tryz.func33, Tryz.ntmps33
 go_wp2_with fail
 go_loopw [4] (fun v4 wr => ∃ k : Nat, k ≤ n ∧ v4 = .int .i64 (k : Int) ∧ Owns wr w.heap.size 110 2 (.slice (some ⟨w.heap.size, 0, none⟩) n n) (entR (l.take k) ++ List.replicate (n - k) entZ) ∧ Below w.heap.size w wr) (fun i _ => n - (intOf i).toNat)
 case atStart =>
  refine ⟨0, by omega, rfl, ?_, (Below.refl _ _).alloc (Nat.le_refl _) _⟩
  rw [List.take_zero, Nat.sub_zero, show entR [] = [] from rfl, List.nil_append]
  refine ⟨fun r hr => by rw [List.eq_of_mem_replicate hr]; rfl, ?_⟩
  have hz : ∀ r ∈ List.replicate n entZ, r.length = 2 := fun r hr => by rw [List.eq_of_mem_replicate hr]; rfl
  have hl := flat_length 2 (List.replicate n entZ) hz
  rw [List.length_replicate] at hl ⊢
  exact World.ownsRow_lit w (List.replicate n entZ).flatten.toArray n (Nat.le_refl _) (by unfold maxLen; omega) (by simpa using hl)
 case round =>
  obtain ⟨k, hk, rfl, hO, hb⟩ := hrel
  have HO : Hid (Owns wr w.heap.size 110 2 (.slice (some ⟨w.heap.size, 0, none⟩) n n) (entR (l.take k) ++ List.replicate (n - k) entZ)) := hO
  have HB1 : Hid (Below w.heap.size w wr) := hb
  clear hO hb
  by_cases hlt : k < n
  ·have q4 : (k : Int) < (n : Int) := by omega
   obtain ⟨g, off, rfl, hg, hc0, hc1⟩ := HL.out k (by omega)
   have hgw : g < w.heap.size := Nat.lt_of_lt_of_le hg HB.out
   rw [← HB1.out.cell (p := ⟨_, _, none⟩) hgw] at hc0
   rw [← HB1.out.cell (p := ⟨_, _, none⟩) hgw] at hc1
   have c1 := fun wx => toEntry (l.getD k default) wx
   unfold vEnt at c1
   generalize hx : l.getD k default = x at *
   have HX : Hid (l.getD k default = x) := hx
   clear hx
   go_wp2_with fail
   refine (c1 _).mono ?_
   rintro e w2 ⟨rfl, hb2⟩
   have hlen : (entR (l.take k) ++ List.replicate (n - k) entZ).length = n := by rw [List.length_append, List.length_replicate]; simp [entR]; omega
   have hdl : (entR (l.take k)).length = k := by simp [entR]; omega
   have hO2 := HO.out.on hb2
   have hO3 := hO2
   rw [show (Value.slice (some ⟨w.heap.size, 0, none⟩) n n) = .slice (some ⟨w.heap.size, 0, none⟩) (entR (l.take k) ++ List.replicate (n - k) entZ).length n by rw [hlen]] at hO2
   obtain ⟨y0, d0⟩ := hO2.cellX k 0 (by rw [hlen]; exact hlt) (by omega)
   have f0 := hO2.free (k * 2)
   obtain ⟨y1, d1⟩ := hO2.cellX k 1 (by rw [hlen]; exact hlt) (by omega)
   have f1 := hO2.free (k * 2 + 1)
   rw [Nat.add_zero] at d0
   have hP := hO2.put2 k (by rw [hlen]; exact hlt) (.int .i64 x.term) (.string x.data)
   rw [hlen, fill_step _ _ _ n k hdl hlt, show entR (l.take k) ++ [[.int .i64 x.term, .string x.data]] = entR (l.take (k + 1)) by rw [entR_snoc l k (by omega), HX.out]; rfl] at hP
   have HP : Hid (Owns (((w2).setCell ⟨w.heap.size, k * 2, none⟩ (.int .i64 x.term)).setCell ⟨w.heap.size, k * 2 + 1, none⟩ (.string x.data)) w.heap.size 110 2 (.slice (some ⟨w.heap.size, 0, none⟩) n n) (entR (l.take (k + 1)) ++ List.replicate (n - (k + 1)) entZ)) := hP
   have HB2 : Hid (Below w.heap.size w w2) := HB1.out.trans (hb2.mono HB1.out.size)
   clear hO2 hO3 hP hb2 hlen hdl
   go_wp2_with fail
   go_roundw
   case rel => exact ⟨k + 1, by omega, by go_num, HP.out, ((HB2.out).setCell (Nat.le_refl _) _).setCell (Nat.le_refl _) _⟩
   case measure => simp [intOf]; omega
  ·obtain rfl : k = n := by omega
   go_wp2_with fail
   go_ret
   refine ⟨_, rfl, ?_, HB1.out⟩
   have := HO.out
   rw [← hN, List.take_length, Nat.sub_self, List.replicate_zero, List.append_nil] at this
   rw [← hN]
   exact this
set_option maxHeartbeats 2000000 in
theorem toWal (x : Wl) (v : Value) (w : World) (B : Nat) (hv : WalV w B v x) (hw : wtW x ≤ 1048576) (hB : B ≤ w.heap.size) :
  Calls Tryz.prog 9 #[v] w fun e w' => ∃ u, e = .returned u ∧ WalO w' w.heap.size u x ∧ Below w.heap.size w w' := by
 obtain ⟨u, rfl, hl⟩ := hv
 unfold wtW at hw
 have HB : Hid (B ≤ w.heap.size) := hB
 have HL : Hid (Lies w B 2 u (entR x.ents)) := hl
 have L1 : Hid (x.ents.length ≤ 1048576) := by unfold Hid; omega
 clear hl hw hB
 go_enter Tryz.func9, Tryz.ntmps9
 go_wp2_with fail
 have hb0 := below_alloc3 w (.cells #[.int .i64 x.term, .int .i64 x.vote, .int .i64 x.base, .int .i64 x.bterm, u] 29) (.cells #[.int .i64 0, .int .i64 0, .int .i64 0, .int .i64 0, .slice none 0 0] 42) (.cells #[.int .i64 x.term, .int .i64 x.vote, .int .i64 x.base, .int .i64 x.bterm, .slice none 0 0] 42)
 have bR := (Blk.new (w.alloc (.cells #[.int .i64 x.term, .int .i64 x.vote, .int .i64 x.base, .int .i64 x.bterm, u] 29)) #[.int .i64 0, .int .i64 0, .int .i64 0, .int .i64 0, .slice none 0 0] 42).alloc (.cells #[.int .i64 x.term, .int .i64 x.vote, .int .i64 x.base, .int .i64 x.bterm, .slice none 0 0] 42)
 have bO := Blk.new ((w.alloc (.cells #[.int .i64 x.term, .int .i64 x.vote, .int .i64 x.base, .int .i64 x.bterm, u] 29)).alloc (.cells #[.int .i64 0, .int .i64 0, .int .i64 0, .int .i64 0, .slice none 0 0] 42)) #[.int .i64 x.term, .int .i64 x.vote, .int .i64 x.base, .int .i64 x.bterm, .slice none 0 0] 42
 simp only [World.size_alloc] at bR bO
 generalize ((w.alloc (.cells #[.int .i64 x.term, .int .i64 x.vote, .int .i64 x.base, .int .i64 x.bterm, u] 29)).alloc (.cells #[.int .i64 0, .int .i64 0, .int .i64 0, .int .i64 0, .slice none 0 0] 42)).alloc (.cells #[.int .i64 x.term, .int .i64 x.vote, .int .i64 x.base, .int .i64 x.bterm, .slice none 0 0] 42) = W at *
 have B0 : Hid (Below w.heap.size w W) := hb0
 have hlt := bO.lt
 clear hb0
 refine (toEntryS x.ents u W B (HL.out.on (B0.out.mono HB.out)) L1.out (Nat.le_trans HB.out B0.out.size)).mono ?_
 rintro e w2 ⟨u1, rfl, hO1, hb2⟩
 obtain ⟨A1, m1, k1, hu1⟩ := hO1.shape
 have B2 : Hid (Below w.heap.size w w2) := B0.out.trans (hb2.mono B0.out.size)
 have hR2 : Hid (Blk w2 (w.heap.size + 1) #[.int .i64 0, .int .i64 0, .int .i64 0, .int .i64 0, .slice none 0 0] 42) := bR.on hb2 (by omega)
 have hO2 : Hid (Blk w2 (w.heap.size + 1 + 1) #[.int .i64 x.term, .int .i64 x.vote, .int .i64 x.base, .int .i64 x.bterm, .slice none 0 0] 42) := bO.on hb2 hlt
 have O1 : Hid (Owns w2 (w.heap.size + 1 + 1 + 1) 110 2 u1 (entR x.ents)) := hO1.mono hlt
 clear bR bO hb2 hO1 hlt
 have c0 := hO2.out.cell 0 _ rfl
 have c1 := hO2.out.cell 1 _ rfl
 have c2 := hO2.out.cell 2 _ rfl
 have c3 := hO2.out.cell 3 _ rfl
 have c4 := hO2.out.cell 4 _ rfl
 have f4 := hO2.out.free 4
 have r0 := hR2.out.cell 0 _ rfl
 have r1 := hR2.out.cell 1 _ rfl
 have r2 := hR2.out.cell 2 _ rfl
 have r3 := hR2.out.cell 3 _ rfl
 have r4 := hR2.out.cell 4 _ rfl
 have g0 := hR2.out.free 0
 have g1 := hR2.out.free 1
 have g2 := hR2.out.free 2
 have g3 := hR2.out.free 3
 have g4 := hR2.out.free 4
 subst hu1
 go_wp2_with fail
 have hF := ((((((hR2.out.other (show w.heap.size + 1 ≠ w.heap.size + 1 + 1 by omega) 4 (.slice A1 m1 k1)).set 0 (.int .i64 x.term)).set 1 (.int .i64 x.vote)).set 2 (.int .i64 x.base)).set 3 (.int .i64 x.bterm)).set 4 (.slice A1 m1 k1))
 have F1 := ((((((O1.out.other (O1.out.below (show w.heap.size + 1 + 1 < _ by omega)) 4 (.slice A1 m1 k1)).other (O1.out.below (show w.heap.size + 1 < _ by omega)) 0 (.int .i64 x.term)).other (O1.out.below (show w.heap.size + 1 < _ by omega)) 1 (.int .i64 x.vote)).other (O1.out.below (show w.heap.size + 1 < _ by omega)) 2 (.int .i64 x.base)).other (O1.out.below (show w.heap.size + 1 < _ by omega)) 3 (.int .i64 x.bterm)).other (O1.out.below (show w.heap.size + 1 < _ by omega)) 4 (.slice A1 m1 k1))
 have FB := ((((((B2.out.setCell (show w.heap.size ≤ w.heap.size + 1 + 1 by omega) (.slice A1 m1 k1) (p := ⟨_, 4, none⟩)).setCell (show w.heap.size ≤ w.heap.size + 1 by omega) (.int .i64 x.term) (p := ⟨_, 0, none⟩)).setCell (show w.heap.size ≤ w.heap.size + 1 by omega) (.int .i64 x.vote) (p := ⟨_, 1, none⟩)).setCell (show w.heap.size ≤ w.heap.size + 1 by omega) (.int .i64 x.base) (p := ⟨_, 2, none⟩)).setCell (show w.heap.size ≤ w.heap.size + 1 by omega) (.int .i64 x.bterm) (p := ⟨_, 3, none⟩)).setCell (show w.heap.size ≤ w.heap.size + 1 by omega) (.slice A1 m1 k1) (p := ⟨_, 4, none⟩))
 generalize ((((((w2.setCell ⟨w.heap.size + 1 + 1, 4, none⟩ (.slice A1 m1 k1)).setCell ⟨w.heap.size + 1, 0, none⟩ (.int .i64 x.term)).setCell ⟨w.heap.size + 1, 1, none⟩ (.int .i64 x.vote)).setCell ⟨w.heap.size + 1, 2, none⟩ (.int .i64 x.base)).setCell ⟨w.heap.size + 1, 3, none⟩ (.int .i64 x.bterm)).setCell ⟨w.heap.size + 1, 4, none⟩ (.slice A1 m1 k1)) = WF at *
 have hG : Blk WF (w.heap.size + 1) #[.int .i64 x.term, .int .i64 x.vote, .int .i64 x.base, .int .i64 x.bterm, .slice A1 m1 k1] 42 := hF
 have k0 := hG.cell 0 (.int .i64 x.term) rfl
 have k1' := hG.cell 1 (.int .i64 x.vote) rfl
 have k2' := hG.cell 2 (.int .i64 x.base) rfl
 have k3' := hG.cell 3 (.int .i64 x.bterm) rfl
 have k4' := hG.cell 4 (.slice A1 m1 k1) rfl
 exact bodyPost_ret (v := .agg #[.int .i64 x.term, .int .i64 x.vote, .int .i64 x.base, .int .i64 x.bterm, .slice A1 m1 k1]) (by simp [results, go_sem, k0, k1', k2', k3', k4']) rfl ⟨_, rfl, ⟨_, rfl, F1.mono (by omega)⟩, FB⟩
end Go.Proofs.YtepffbgelaajnaaGreatDoor
namespace Go.Proofs.YtepffbgelaajnaaGreatDoor
open Go.ChangeShapes Go.WideShapes Go.ChangeAt Go.RowKit Go.PlainAid
set_option linter.unusedVariables false
set_option maxHeartbeats 400000 in
theorem eqEntry (x : Ent) (w : World) : Calls Tryz.prog 86 #[vEnt x, vEnt x] w fun e w' => e = .returned (.bool true) ∧ Below w.heap.size w w' := by
 unfold vEnt
 go_enter Tryz.func86, Tryz.ntmps86
 go_wp2
 go_ret
 exact ⟨rfl, below_alloc2 _ _ _⟩
set_option maxHeartbeats 1000000 in
theorem eqEntryS (l : List Ent) (va vb : Value) (w : World) (B : Nat) (ha : Lies w B 2 va (entR l)) (hb : Lies w B 2 vb (entR l)) (hn : l.length ≤ 1048576) (hB : B ≤ w.heap.size) :
  Calls Tryz.prog 42 #[va, vb] w fun e w' => e = .returned (.bool true) ∧ Below w.heap.size w w' := by
 obtain ⟨A, cap, rfl, hl⟩ := ent_look ha
 obtain ⟨A', cap', rfl, hl'⟩ := ent_look hb
 have HL : Hid (∀ j, j < l.length → ∃ g off, A = some ⟨g, off, none⟩ ∧ g < B ∧ _) := hl
 have HL' : Hid (∀ j, j < l.length → ∃ g off, A' = some ⟨g, off, none⟩ ∧ g < B ∧ _) := hl'
 have HB : Hid (B ≤ w.heap.size) := hB
 clear hl hl' hB ha hb
 have q1 : (l.length : Int) ≤ 1048576 := by omega
 generalize hN : l.length = n at *
 go_enter Tryz.func42, Tryz.ntmps42
 go_wp2_with fail
 go_loopw [5] (fun v5 wr => ∃ k : Nat, k ≤ n ∧ v5 = .int .i64 (k : Int) ∧ Below w.heap.size w wr) (fun i _ => n - (intOf i).toNat)
 case atStart => exact ⟨0, by omega, rfl, Below.refl _ _⟩
 case round =>
  obtain ⟨k, hk, rfl, hb⟩ := hrel
  have HB1 : Hid (Below w.heap.size w wr) := hb
  clear hb
  by_cases hlt : k < n
  ·have q4 : (k : Int) < (n : Int) := by omega
   obtain ⟨g, off, rfl, hg, ha0, ha1⟩ := HL.out k hlt
   obtain ⟨g', off', rfl, hg', hb0, hb1⟩ := HL'.out k hlt
   have hgw : g < w.heap.size := Nat.lt_of_lt_of_le hg HB.out
   have hgw' : g' < w.heap.size := Nat.lt_of_lt_of_le hg' HB.out
   rw [← HB1.out.cell (p := ⟨_, _, none⟩) hgw] at ha0
   rw [← HB1.out.cell (p := ⟨_, _, none⟩) hgw'] at hb0
   rw [← HB1.out.cell (p := ⟨_, _, none⟩) hgw] at ha1
   rw [← HB1.out.cell (p := ⟨_, _, none⟩) hgw'] at hb1
   have c1 := fun wx => eqEntry (l.getD k default) wx
   unfold vEnt at c1
   generalize l.getD k default = x at *
   have hsz := HB1.out.size
   go_wp2_with fail
   go_region_with (go_at_call 86; refine (c1 _).mono ?_; rintro e w1 ⟨rfl, hb1⟩)
   all_goals go_wp2_with fail
   all_goals exact ⟨⟨k + 1, by omega, by go_num, HB1.out.trans (((Below.refl _ wr).drew.trans hb1).mono hsz)⟩, by simp [intOf]; omega⟩
  ·obtain rfl : k = n := by omega
   go_wp2_with fail
   go_ret
   exact ⟨rfl, HB1.out⟩
set_option maxHeartbeats 1000000 in
theorem eqWal (x : Wl) (va vb : Value) (w : World) (B : Nat) (ha : WalV w B va x) (hb : WalV w B vb x) (hn : x.ents.length ≤ 1048576) (hB : B ≤ w.heap.size) :
  Calls Tryz.prog 13 #[va, vb] w fun e w' => e = .returned (.bool true) ∧ Below w.heap.size w w' := by
 obtain ⟨ua, rfl, al⟩ := ha
 obtain ⟨ub, rfl, bl⟩ := hb
 have HB : Hid (B ≤ w.heap.size) := hB
 have AL : Hid (Lies w B 2 ua (entR x.ents)) := al
 have BL : Hid (Lies w B 2 ub (entR x.ents)) := bl
 have L1 : Hid (x.ents.length ≤ 1048576) := hn
 clear al bl hn hB
 go_enter Tryz.func13, Tryz.ntmps13
 go_wp2_with fail
 have hb0 := below_alloc2 w (.cells #[.int .i64 x.term, .int .i64 x.vote, .int .i64 x.base, .int .i64 x.bterm, ua] 42) (.cells #[.int .i64 x.term, .int .i64 x.vote, .int .i64 x.base, .int .i64 x.bterm, ub] 42)
 generalize (w.alloc (.cells #[.int .i64 x.term, .int .i64 x.vote, .int .i64 x.base, .int .i64 x.bterm, ua] 42)).alloc (.cells #[.int .i64 x.term, .int .i64 x.vote, .int .i64 x.base, .int .i64 x.bterm, ub] 42) = W at *
 have B0 : Hid (Below w.heap.size w W) := hb0
 clear hb0
 refine (eqEntryS x.ents ua ub W B (AL.out.on (B0.out.mono HB.out)) (BL.out.on (B0.out.mono HB.out)) L1.out (Nat.le_trans HB.out B0.out.size)).mono ?_
 rintro e w2 ⟨rfl, hb2⟩
 have B2 : Hid (Below w.heap.size w w2) := B0.out.trans (hb2.mono B0.out.size)
 clear hb2
 go_wp2_with fail
 go_ret
 exact ⟨rfl, B2.out⟩
end Go.Proofs.YtepffbgelaajnaaGreatDoor
namespace Go.Proofs.YtepffbgelaajnaaGreatDoor
open Go.ChangeShapes Go.WideShapes Go.ChangeAt Go.RowKit Go.PlainAid
set_option linter.unusedVariables false
def mkEnt (k j : Nat) : List Value := [.int .i64 (((k + 2 * j : Nat) : Int)), .string (mark (k + 2 * j + 1))]
set_option maxHeartbeats 2000000 in
theorem markEntryS (k base : Nat) (v : Value) (R : List (List Value)) (w : World) (hv : Owns w base 110 2 v R) (hl : R.length ≤ 1048576) (h1 : 1 ≤ k) (h2 : k ≤ 10000000) (hbase : base ≤ w.heap.size) :
  Calls Tryz.prog 46 #[v, .int .i64 (k : Int)] w fun e w' => e = .returned (.int .i64 ((k + 2 * R.length : Nat) : Int)) ∧ Owns w' base 110 2 v (newR (mkEnt k) R.length) ∧ Below base w w' ∧ (∀ g, g < w.heap.size → v.ownBlock ≠ some g → w'.heap[g]? = w.heap[g]?) := by
 obtain ⟨A, ca, rfl⟩ : ∃ A ca, v = .slice A R.length ca := by
  rcases hv.2.2 with ⟨rfl, h0⟩ | ⟨g, c, cur, rfl, _⟩
  ·exact ⟨none, 0, by rw [h0]⟩
  ·exact ⟨_, _, rfl⟩
 have HV : Hid (Owns w base 110 2 (.slice A R.length ca) R) := hv
 have q1 : (R.length : Int) ≤ 1048576 := by omega
 have q3 : (k : Int) ≤ 10000000 := by omega
 clear hv hl
 generalize hn : R.length = n at *
 go_enter Tryz.func46, Tryz.ntmps46
 go_wp2_with fail
 go_loopw [1, 5] (fun v1 v5 wr => ∃ j : Nat, j ≤ n ∧ v5 = .int .i64 (j : Int) ∧ v1 = .int .i64 ((k + 2 * j : Nat) : Int) ∧ Owns wr base 110 2 (.slice A n ca) (partR (mkEnt k) R j) ∧ Below base w wr ∧ (∀ g, g < w.heap.size → (Value.slice A n ca).ownBlock ≠ some g → wr.heap[g]? = w.heap[g]?)) (fun _ i _ => n - (intOf i).toNat)
 case atStart => exact ⟨0, by omega, rfl, by simp, by rw [partR_zero]; exact HV.out, Below.refl _ _, fun _ _ _ => rfl⟩
 case round =>
  obtain ⟨j, hj, rfl, rfl, hS, hB, hK⟩ := hrel
  have HS : Hid (Owns wr base 110 2 (.slice A n ca) (partR (mkEnt k) R j)) := hS
  have HB : Hid (Below base w wr) := hB
  have HK : Hid (∀ g, g < w.heap.size → (Value.slice A n ca).ownBlock ≠ some g → wr.heap[g]? = w.heap[g]?) := hK
  clear hS hB hK
  by_cases hlt : j < n
  ·have q2 : (j : Int) < (n : Int) := by omega
   obtain ⟨g, rfl, hgb⟩ : ∃ g, A = some ⟨g, 0, none⟩ ∧ base ≤ g := by
    rcases HS.out.2.2 with ⟨e, h0⟩ | ⟨g, c, cur, e, hg, _⟩
    ·rw [partR_length _ _ _ (by omega), hn] at h0; omega
    ·cases e; exact ⟨g, rfl, hg⟩
   have HG : Hid (base ≤ g) := hgb
   have hpl : (partR (mkEnt k) R j).length = n := by rw [partR_length _ _ _ (by omega), hn]
   have HN2 : Hid ((partR (mkEnt k) R j).length = n) := hpl
   have hO0 : Owns wr base 110 2 (.slice (some ⟨g, 0, none⟩) n ca) ((partR (mkEnt k) R j).set j ((partR (mkEnt k) R j)[j]'(by omega))) := by rw [set_self]; exact HS.out
   have hrl : ((partR (mkEnt k) R j)[j]'(by omega)).length = 2 := HS.out.1 _ (List.getElem_mem _)
   have HF : Hid ((partR (mkEnt k) R j).set j (mkEnt k j) = partR (mkEnt k) R (j + 1)) := partR_set _ _ _ (by omega)
   obtain ⟨y0, y1, hy⟩ : ∃ y0 y1, (partR (mkEnt k) R j)[j]'(by omega) = [y0, y1] := by
    match hh : (partR (mkEnt k) R j)[j]'(by omega), hrl with
    | [y0, y1], _ => exact ⟨y0, y1, rfl⟩
   rw [hy] at hO0
   have hmk : mkEnt k j = [.int .i64 (((k + 2 * j : Nat) : Int)), .string (mark (k + 2 * j + 1))] := rfl
   rw [hmk] at HF
   have HM : Hid (((k + 2 * (j + 1) : Nat) : Int) = ((k + 2 * j : Nat) : Int) + 2) := by unfold Hid; omega
   have q4 : ((k + 2 * j : Nat) : Int) ≤ 20000000 := by omega
   have HM1 : Hid (1 ≤ k + 2 * j) := by unfold Hid; omega
   have HM2 : Hid (k + 2 * j ≤ 20000000) := by unfold Hid; omega
   clear hmk hpl hrl hy
   generalize k + 2 * j = m at *
   generalize partR (mkEnt k) R j = P at *
   have hsz := HB.out.size
   have hgw : g < wr.heap.size := (hO0.lt g rfl).2
   obtain ⟨z0, d0⟩ := hO0.cellAt2 HN2.out hlt 0 (by omega)
   have f0 := hO0.free2 HN2.out (j * 2)
   rw [Nat.add_zero] at d0
   have p0 := (hO0).pokeAt HN2.out hlt 0 (by omega) (.int .i64 ((m : Int)))
   rw [Nat.add_zero] at p0
   have Q0 : Hid (Owns ((wr).setCell ⟨g, j * 2, none⟩ (.int .i64 ((m : Int)))) base 110 2 (.slice (some ⟨g, 0, none⟩) n ca) (P.set j [.int .i64 ((m : Int)), y1])) := p0
   have D0 : Hid (Below base w ((wr).setCell ⟨g, j * 2, none⟩ (.int .i64 ((m : Int))))) := (HB.out).setCell (show base ≤ g from HG.out) _
   have E0 : Hid (∀ b, b < w.heap.size → (Value.slice (some ⟨g, 0, none⟩) n ca).ownBlock ≠ some b → ((wr).setCell ⟨g, j * 2, none⟩ (.int .i64 ((m : Int)))).heap[b]? = w.heap[b]?) := fun b hb hne => by rw [Below.heap_setCell _ _ _ _ (show b ≠ g from fun e => hne (by rw [e]; rfl))]; exact HK.out b hb hne
   clear p0
   have hsz0 : base ≤ ((wr).setCell ⟨g, j * 2, none⟩ (.int .i64 ((m : Int)))).heap.size := Nat.le_trans hbase D0.out.size
   have hwz0 : w.heap.size ≤ ((wr).setCell ⟨g, j * 2, none⟩ (.int .i64 ((m : Int)))).heap.size := D0.out.size
   have c1 : Calls Tryz.prog 47 #[.int .i64 ((m : Int) + 1)] ((wr).setCell ⟨g, j * 2, none⟩ (.int .i64 ((m : Int)))) fun e w' => e = .returned (.string (mark (m + 1))) ∧ Below ((wr).setCell ⟨g, j * 2, none⟩ (.int .i64 ((m : Int)))).heap.size ((wr).setCell ⟨g, j * 2, none⟩ (.int .i64 ((m : Int)))) w' := by
    have h := markText (m + 1) ((wr).setCell ⟨g, j * 2, none⟩ (.int .i64 ((m : Int)))) (by have := HM1.out; omega) (by have := HM2.out; omega)
    rw [show ((m + 1 : Nat) : Int) = (m : Int) + 1 by omega] at h
    exact h
   go_wp2_with fail
   refine c1.mono ?_
   rintro e x1 ⟨rfl, hx1⟩
   have O1 : Hid (Owns x1 base 110 2 (.slice (some ⟨g, 0, none⟩) n ca) (P.set j [.int .i64 ((m : Int)), y1])) := Q0.out.on hx1
   have B1 : Hid (Below base w x1) := (D0.out).trans (hx1.mono hsz0)
   have K1 : Hid (∀ b, b < w.heap.size → (Value.slice (some ⟨g, 0, none⟩) n ca).ownBlock ≠ some b → x1.heap[b]? = w.heap[b]?) := fun b hb hne => (hx1.block b (Nat.lt_of_lt_of_le hb hwz0)).trans (E0.out b hb hne)
   have hwz : w.heap.size ≤ x1.heap.size := B1.out.size
   clear hx1 c1
   obtain ⟨z1, d1⟩ := O1.out.cellAt2 HN2.out hlt 1 (by omega)
   have f1 := O1.out.free2 HN2.out (j * 2 + 1)
   have p1 := (O1.out).pokeAt HN2.out hlt 1 (by omega) (.string (mark (m + 1)))
   have Q1 : Hid (Owns ((x1).setCell ⟨g, j * 2 + 1, none⟩ (.string (mark (m + 1)))) base 110 2 (.slice (some ⟨g, 0, none⟩) n ca) (P.set j [.int .i64 ((m : Int)), .string (mark (m + 1))])) := p1
   have D1 : Hid (Below base w ((x1).setCell ⟨g, j * 2 + 1, none⟩ (.string (mark (m + 1))))) := (B1.out).setCell (show base ≤ g from HG.out) _
   have E1 : Hid (∀ b, b < w.heap.size → (Value.slice (some ⟨g, 0, none⟩) n ca).ownBlock ≠ some b → ((x1).setCell ⟨g, j * 2 + 1, none⟩ (.string (mark (m + 1)))).heap[b]? = w.heap[b]?) := fun b hb hne => by rw [Below.heap_setCell _ _ _ _ (show b ≠ g from fun e => hne (by rw [e]; rfl))]; exact K1.out b hb hne
   clear p1
   go_wp2_with fail
   go_roundw
   case rel => exact ⟨j + 1, by omega, by go_num, by rw [HM.out]; go_num, by rw [← HF.out]; exact Q1.out, D1.out, E1.out⟩
   case measure => simp [intOf]; omega
  ·obtain rfl : j = n := by omega
   go_wp2_with fail
   go_ret
   refine ⟨rfl, ?_, HB.out, HK.out⟩
   have := HS.out
   rw [← hn, partR_all] at this
   rw [← hn]
   exact this
end Go.Proofs.YtepffbgelaajnaaGreatDoor
namespace Go.Proofs.YtepffbgelaajnaaGreatDoor
open Go.ChangeShapes Go.WideShapes Go.ChangeAt Go.RowKit Go.PlainAid
set_option linter.unusedVariables false
set_option maxHeartbeats 1000000 in
theorem markWal (k base : Nat) (a b c t : Int) (u : Value) (R : List (List Value)) (w : World) (hv : Owns w base 110 2 u R) (hl : R.length ≤ 1048576) (h1 : 1 ≤ k) (h2 : k ≤ 10000000) (hbase : base ≤ w.heap.size) :
  Calls Tryz.prog 15 #[.agg #[.int .i64 a, .int .i64 b, .int .i64 c, .int .i64 t, u], .int .i64 (k : Int)] w fun e w' => e = .returned (.int .i64 ((k + 2 * R.length : Nat) : Int)) ∧ Owns w' base 110 2 u (newR (mkEnt k) R.length) ∧ Below base w w' ∧ (∀ g, g < w.heap.size → u.ownBlock ≠ some g → w'.heap[g]? = w.heap[g]?) := by
 have HV : Hid (Owns w base 110 2 u R) := hv
 have HB : Hid (base ≤ w.heap.size) := hbase
 have HL : Hid (R.length ≤ 1048576) := hl
 clear hv hbase hl
 go_enter Tryz.func15, Tryz.ntmps15
 go_wp2_with fail
 have hb0 : Below w.heap.size w (w.alloc (.cells #[.int .i64 a, .int .i64 b, .int .i64 c, .int .i64 t, u] 42)) := (Below.refl _ _).alloc (Nat.le_refl _) _
 generalize w.alloc (.cells #[.int .i64 a, .int .i64 b, .int .i64 c, .int .i64 t, u] 42) = W at *
 have B0 : Hid (Below w.heap.size w W) := hb0
 clear hb0
 refine (markEntryS k base u R W (HV.out.on B0.out) HL.out h1 h2 (Nat.le_trans HB.out B0.out.size)).mono ?_
 rintro e w2 ⟨rfl, hO, hB, hK⟩
 have O2 : Hid (Owns w2 base 110 2 u (newR (mkEnt k) R.length)) := hO
 have B2 : Hid (Below base W w2) := hB
 have K2 : Hid (∀ g, g < W.heap.size → u.ownBlock ≠ some g → w2.heap[g]? = W.heap[g]?) := hK
 clear hO hB hK
 go_wp2_with fail
 go_ret
 exact ⟨rfl, O2.out, (B0.out.mono HB.out).trans B2.out, fun g hg hne => (K2.out g (Nat.lt_of_lt_of_le hg B0.out.size) hne).trans (B0.out.block g hg)⟩
end Go.Proofs.YtepffbgelaajnaaGreatDoor
namespace Go.Proofs.YtepffbgelaajnaaGreatDoor
open Go.ChangeShapes Go.WideShapes Go.ChangeAt Go.RowKit Go.PlainAid
set_option linter.unusedVariables false
structure Stp where
 kind : Int
 name : ByteArray
 dest : ByteArray
 data : ByteArray
deriving Inhabited
def stpC (x : Stp) : List Value := [.int .i64 x.kind, .string x.name, .string x.dest, .string x.data]
def stpR (l : List Stp) : List (List Value) := l.map stpC
theorem stpR_length (l : List Stp) : (stpR l).length = l.length := by simp [stpR]
theorem stpR_append (l m : List Stp) : stpR (l ++ m) = stpR l ++ stpR m := by simp [stpR]
theorem stp_look {w : World} {B : Nat} {v : Value} {l : List Stp} (h : Lies w B 4 v (stpR l)) : ∃ A cap, v = .slice A l.length cap ∧ ∀ j, j < l.length → ∃ g off, A = some ⟨g, off, none⟩ ∧ g < B ∧
  w.cell? ⟨g, off + j * 4, none⟩ = some (.int .i64 (l.getD j default).kind) ∧ w.cell? ⟨g, off + j * 4 + 1, none⟩ = some (.string (l.getD j default).name) ∧ w.cell? ⟨g, off + j * 4 + 2, none⟩ = some (.string (l.getD j default).dest) ∧ w.cell? ⟨g, off + j * 4 + 3, none⟩ = some (.string (l.getD j default).data) := by
 obtain ⟨A, cap, e, h⟩ := h.look
 refine ⟨A, cap, by rw [e]; simp [stpR], fun j hj => ?_⟩
 rw [← getD_at l j hj]
 obtain ⟨g, off, e, hg, hc⟩ := h j (by simpa [stpR] using hj)
 refine ⟨g, off, e, hg, ?_, ?_, ?_, ?_⟩
 ·have := hc 0 _ (by omega) (by simp [stpR, stpC]; rfl); simpa [Nat.add_assoc] using this
 ·have := hc 1 _ (by omega) (by simp [stpR, stpC]; rfl); simpa [Nat.add_assoc] using this
 ·have := hc 2 _ (by omega) (by simp [stpR, stpC]; rfl); simpa [Nat.add_assoc] using this
 ·have := hc 3 _ (by omega) (by simp [stpR, stpC]; rfl); simpa [Nat.add_assoc] using this
def vStp (x : Stp) : Value := .agg #[.int .i64 x.kind, .string x.name, .string x.dest, .string x.data]
end Go.Proofs.YtepffbgelaajnaaGreatDoor
namespace Go.Proofs.YtepffbgelaajnaaGreatDoor
open Go.ChangeShapes Go.WideShapes Go.ChangeAt Go.RowKit Go.PlainAid
set_option linter.unusedVariables false
set_option maxHeartbeats 400000 in
theorem eqStep (x : Stp) (w : World) : Calls Tryz.prog 38 #[vStp x, vStp x] w fun e w' => e = .returned (.bool true) ∧ Below w.heap.size w w' := by
 unfold vStp
 go_enter Tryz.func38, Tryz.ntmps38
 go_wp2
 go_ret
 exact ⟨rfl, below_alloc2 _ _ _⟩
set_option maxHeartbeats 1000000 in
theorem eqStepS (l : List Stp) (va vb : Value) (w : World) (B : Nat) (ha : Lies w B 4 va (stpR l)) (hb : Lies w B 4 vb (stpR l)) (hn : l.length ≤ 1048576) (hB : B ≤ w.heap.size) :
  Calls Tryz.prog 11 #[va, vb] w fun e w' => e = .returned (.bool true) ∧ Below w.heap.size w w' := by
 obtain ⟨A, cap, rfl, hl⟩ := stp_look ha
 obtain ⟨A', cap', rfl, hl'⟩ := stp_look hb
 have HL : Hid (∀ j, j < l.length → ∃ g off, A = some ⟨g, off, none⟩ ∧ g < B ∧ _) := hl
 have HL' : Hid (∀ j, j < l.length → ∃ g off, A' = some ⟨g, off, none⟩ ∧ g < B ∧ _) := hl'
 have HB : Hid (B ≤ w.heap.size) := hB
 clear hl hl' hB ha hb
 have q1 : (l.length : Int) ≤ 1048576 := by omega
 generalize hN : l.length = n at *
 go_enter Tryz.func11, Tryz.ntmps11
 go_wp2_with fail
 go_loopw [5] (fun v5 wr => ∃ k : Nat, k ≤ n ∧ v5 = .int .i64 (k : Int) ∧ Below w.heap.size w wr) (fun i _ => n - (intOf i).toNat)
 case atStart => exact ⟨0, by omega, rfl, Below.refl _ _⟩
 case round =>
  obtain ⟨k, hk, rfl, hb⟩ := hrel
  have HB1 : Hid (Below w.heap.size w wr) := hb
  clear hb
  by_cases hlt : k < n
  ·have q4 : (k : Int) < (n : Int) := by omega
   obtain ⟨g, off, rfl, hg, ha0, ha1, ha2, ha3⟩ := HL.out k hlt
   obtain ⟨g', off', rfl, hg', hb0, hb1, hb2, hb3⟩ := HL'.out k hlt
   have hgw : g < w.heap.size := Nat.lt_of_lt_of_le hg HB.out
   have hgw' : g' < w.heap.size := Nat.lt_of_lt_of_le hg' HB.out
   rw [← HB1.out.cell (p := ⟨_, _, none⟩) hgw] at ha0
   rw [← HB1.out.cell (p := ⟨_, _, none⟩) hgw'] at hb0
   rw [← HB1.out.cell (p := ⟨_, _, none⟩) hgw] at ha1
   rw [← HB1.out.cell (p := ⟨_, _, none⟩) hgw'] at hb1
   rw [← HB1.out.cell (p := ⟨_, _, none⟩) hgw] at ha2
   rw [← HB1.out.cell (p := ⟨_, _, none⟩) hgw'] at hb2
   rw [← HB1.out.cell (p := ⟨_, _, none⟩) hgw] at ha3
   rw [← HB1.out.cell (p := ⟨_, _, none⟩) hgw'] at hb3
   have c1 := fun wx => eqStep (l.getD k default) wx
   unfold vStp at c1
   generalize l.getD k default = x at *
   have hsz := HB1.out.size
   go_wp2_with fail
   go_region_with (go_at_call 38; refine (c1 _).mono ?_; rintro e w1 ⟨rfl, hb1⟩)
   all_goals go_wp2_with fail
   all_goals exact ⟨⟨k + 1, by omega, by go_num, HB1.out.trans (((Below.refl _ wr).drew.trans hb1).mono hsz)⟩, by simp [intOf]; omega⟩
  ·obtain rfl : k = n := by omega
   go_wp2_with fail
   go_ret
   exact ⟨rfl, HB1.out⟩
end Go.Proofs.YtepffbgelaajnaaGreatDoor
namespace Go.Proofs.YtepffbgelaajnaaGreatDoor
open Go.ChangeShapes Go.WideShapes Go.ChangeAt Go.RowKit Go.PlainAid
set_option linter.unusedVariables false
def mkStp (k j : Nat) : List Value := [.int .i64 (((k + 4 * j : Nat) : Int)), .string (mark (k + 4 * j + 1)), .string (mark (k + 4 * j + 2)), .string (mark (k + 4 * j + 3))]
set_option maxHeartbeats 2000000 in
theorem markStepS (k base : Nat) (v : Value) (R : List (List Value)) (w : World) (hv : Owns w base 75 4 v R) (hl : R.length ≤ 1048576) (h1 : 1 ≤ k) (h2 : k ≤ 10000000) (hbase : base ≤ w.heap.size) :
  Calls Tryz.prog 16 #[v, .int .i64 (k : Int)] w fun e w' => e = .returned (.int .i64 ((k + 4 * R.length : Nat) : Int)) ∧ Owns w' base 75 4 v (newR (mkStp k) R.length) ∧ Below base w w' ∧ (∀ g, g < w.heap.size → v.ownBlock ≠ some g → w'.heap[g]? = w.heap[g]?) := by
 obtain ⟨A, ca, rfl⟩ : ∃ A ca, v = .slice A R.length ca := by
  rcases hv.2.2 with ⟨rfl, h0⟩ | ⟨g, c, cur, rfl, _⟩
  ·exact ⟨none, 0, by rw [h0]⟩
  ·exact ⟨_, _, rfl⟩
 have HV : Hid (Owns w base 75 4 (.slice A R.length ca) R) := hv
 have q1 : (R.length : Int) ≤ 1048576 := by omega
 have q3 : (k : Int) ≤ 10000000 := by omega
 clear hv hl
 generalize hn : R.length = n at *
 go_enter Tryz.func16, Tryz.ntmps16
 go_wp2_with fail
 go_loopw [1, 5] (fun v1 v5 wr => ∃ j : Nat, j ≤ n ∧ v5 = .int .i64 (j : Int) ∧ v1 = .int .i64 ((k + 4 * j : Nat) : Int) ∧ Owns wr base 75 4 (.slice A n ca) (partR (mkStp k) R j) ∧ Below base w wr ∧ (∀ g, g < w.heap.size → (Value.slice A n ca).ownBlock ≠ some g → wr.heap[g]? = w.heap[g]?)) (fun _ i _ => n - (intOf i).toNat)
 case atStart => exact ⟨0, by omega, rfl, by simp, by rw [partR_zero]; exact HV.out, Below.refl _ _, fun _ _ _ => rfl⟩
 case round =>
  obtain ⟨j, hj, rfl, rfl, hS, hB, hK⟩ := hrel
  have HS : Hid (Owns wr base 75 4 (.slice A n ca) (partR (mkStp k) R j)) := hS
  have HB : Hid (Below base w wr) := hB
  have HK : Hid (∀ g, g < w.heap.size → (Value.slice A n ca).ownBlock ≠ some g → wr.heap[g]? = w.heap[g]?) := hK
  clear hS hB hK
  by_cases hlt : j < n
  ·have q2 : (j : Int) < (n : Int) := by omega
   obtain ⟨g, rfl, hgb⟩ : ∃ g, A = some ⟨g, 0, none⟩ ∧ base ≤ g := by
    rcases HS.out.2.2 with ⟨e, h0⟩ | ⟨g, c, cur, e, hg, _⟩
    ·rw [partR_length _ _ _ (by omega), hn] at h0; omega
    ·cases e; exact ⟨g, rfl, hg⟩
   have HG : Hid (base ≤ g) := hgb
   have hpl : (partR (mkStp k) R j).length = n := by rw [partR_length _ _ _ (by omega), hn]
   have HN2 : Hid ((partR (mkStp k) R j).length = n) := hpl
   have hO0 : Owns wr base 75 4 (.slice (some ⟨g, 0, none⟩) n ca) ((partR (mkStp k) R j).set j ((partR (mkStp k) R j)[j]'(by omega))) := by rw [set_self]; exact HS.out
   have hrl : ((partR (mkStp k) R j)[j]'(by omega)).length = 4 := HS.out.1 _ (List.getElem_mem _)
   have HF : Hid ((partR (mkStp k) R j).set j (mkStp k j) = partR (mkStp k) R (j + 1)) := partR_set _ _ _ (by omega)
   obtain ⟨y0, y1, y2, y3, hy⟩ : ∃ y0 y1 y2 y3, (partR (mkStp k) R j)[j]'(by omega) = [y0, y1, y2, y3] := by
    match hh : (partR (mkStp k) R j)[j]'(by omega), hrl with
    | [y0, y1, y2, y3], _ => exact ⟨y0, y1, y2, y3, rfl⟩
   rw [hy] at hO0
   have hmk : mkStp k j = [.int .i64 (((k + 4 * j : Nat) : Int)), .string (mark (k + 4 * j + 1)), .string (mark (k + 4 * j + 2)), .string (mark (k + 4 * j + 3))] := rfl
   rw [hmk] at HF
   have HM : Hid (((k + 4 * (j + 1) : Nat) : Int) = ((k + 4 * j : Nat) : Int) + 4) := by unfold Hid; omega
   have q4 : ((k + 4 * j : Nat) : Int) ≤ 20000000 := by omega
   have HM1 : Hid (1 ≤ k + 4 * j) := by unfold Hid; omega
   have HM2 : Hid (k + 4 * j ≤ 20000000) := by unfold Hid; omega
   clear hmk hpl hrl hy
   generalize k + 4 * j = m at *
   generalize partR (mkStp k) R j = P at *
   have hsz := HB.out.size
   have hgw : g < wr.heap.size := (hO0.lt g rfl).2
   obtain ⟨z0, d0⟩ := hO0.cellAt2 HN2.out hlt 0 (by omega)
   have f0 := hO0.free2 HN2.out (j * 4)
   rw [Nat.add_zero] at d0
   have p0 := (hO0).pokeAt HN2.out hlt 0 (by omega) (.int .i64 ((m : Int)))
   rw [Nat.add_zero] at p0
   have Q0 : Hid (Owns ((wr).setCell ⟨g, j * 4, none⟩ (.int .i64 ((m : Int)))) base 75 4 (.slice (some ⟨g, 0, none⟩) n ca) (P.set j [.int .i64 ((m : Int)), y1, y2, y3])) := p0
   have D0 : Hid (Below base w ((wr).setCell ⟨g, j * 4, none⟩ (.int .i64 ((m : Int))))) := (HB.out).setCell (show base ≤ g from HG.out) _
   have E0 : Hid (∀ b, b < w.heap.size → (Value.slice (some ⟨g, 0, none⟩) n ca).ownBlock ≠ some b → ((wr).setCell ⟨g, j * 4, none⟩ (.int .i64 ((m : Int)))).heap[b]? = w.heap[b]?) := fun b hb hne => by rw [Below.heap_setCell _ _ _ _ (show b ≠ g from fun e => hne (by rw [e]; rfl))]; exact HK.out b hb hne
   clear p0
   have hsz0 : base ≤ ((wr).setCell ⟨g, j * 4, none⟩ (.int .i64 ((m : Int)))).heap.size := Nat.le_trans hbase D0.out.size
   have hwz0 : w.heap.size ≤ ((wr).setCell ⟨g, j * 4, none⟩ (.int .i64 ((m : Int)))).heap.size := D0.out.size
   have c1 : Calls Tryz.prog 47 #[.int .i64 ((m : Int) + 1)] ((wr).setCell ⟨g, j * 4, none⟩ (.int .i64 ((m : Int)))) fun e w' => e = .returned (.string (mark (m + 1))) ∧ Below ((wr).setCell ⟨g, j * 4, none⟩ (.int .i64 ((m : Int)))).heap.size ((wr).setCell ⟨g, j * 4, none⟩ (.int .i64 ((m : Int)))) w' := by
    have h := markText (m + 1) ((wr).setCell ⟨g, j * 4, none⟩ (.int .i64 ((m : Int)))) (by have := HM1.out; omega) (by have := HM2.out; omega)
    rw [show ((m + 1 : Nat) : Int) = (m : Int) + 1 by omega] at h
    exact h
   go_wp2_with fail
   refine c1.mono ?_
   rintro e x1 ⟨rfl, hx1⟩
   have O1 : Hid (Owns x1 base 75 4 (.slice (some ⟨g, 0, none⟩) n ca) (P.set j [.int .i64 ((m : Int)), y1, y2, y3])) := Q0.out.on hx1
   have B1 : Hid (Below base w x1) := (D0.out).trans (hx1.mono hsz0)
   have K1 : Hid (∀ b, b < w.heap.size → (Value.slice (some ⟨g, 0, none⟩) n ca).ownBlock ≠ some b → x1.heap[b]? = w.heap[b]?) := fun b hb hne => (hx1.block b (Nat.lt_of_lt_of_le hb hwz0)).trans (E0.out b hb hne)
   have hwz : w.heap.size ≤ x1.heap.size := B1.out.size
   clear hx1 c1
   obtain ⟨z1, d1⟩ := O1.out.cellAt2 HN2.out hlt 1 (by omega)
   have f1 := O1.out.free2 HN2.out (j * 4 + 1)
   have p1 := (O1.out).pokeAt HN2.out hlt 1 (by omega) (.string (mark (m + 1)))
   have Q1 : Hid (Owns ((x1).setCell ⟨g, j * 4 + 1, none⟩ (.string (mark (m + 1)))) base 75 4 (.slice (some ⟨g, 0, none⟩) n ca) (P.set j [.int .i64 ((m : Int)), .string (mark (m + 1)), y2, y3])) := p1
   have D1 : Hid (Below base w ((x1).setCell ⟨g, j * 4 + 1, none⟩ (.string (mark (m + 1))))) := (B1.out).setCell (show base ≤ g from HG.out) _
   have E1 : Hid (∀ b, b < w.heap.size → (Value.slice (some ⟨g, 0, none⟩) n ca).ownBlock ≠ some b → ((x1).setCell ⟨g, j * 4 + 1, none⟩ (.string (mark (m + 1)))).heap[b]? = w.heap[b]?) := fun b hb hne => by rw [Below.heap_setCell _ _ _ _ (show b ≠ g from fun e => hne (by rw [e]; rfl))]; exact K1.out b hb hne
   clear p1
   have hsz2 : base ≤ ((x1).setCell ⟨g, j * 4 + 1, none⟩ (.string (mark (m + 1)))).heap.size := Nat.le_trans hbase D1.out.size
   have hwz2 : w.heap.size ≤ ((x1).setCell ⟨g, j * 4 + 1, none⟩ (.string (mark (m + 1)))).heap.size := D1.out.size
   have c2 : Calls Tryz.prog 47 #[.int .i64 ((m : Int) + 1 + 1)] ((x1).setCell ⟨g, j * 4 + 1, none⟩ (.string (mark (m + 1)))) fun e w' => e = .returned (.string (mark (m + 2))) ∧ Below ((x1).setCell ⟨g, j * 4 + 1, none⟩ (.string (mark (m + 1)))).heap.size ((x1).setCell ⟨g, j * 4 + 1, none⟩ (.string (mark (m + 1)))) w' := by
    have h := markText (m + 2) ((x1).setCell ⟨g, j * 4 + 1, none⟩ (.string (mark (m + 1)))) (by have := HM1.out; omega) (by have := HM2.out; omega)
    rw [show ((m + 2 : Nat) : Int) = (m : Int) + 1 + 1 by omega] at h
    exact h
   go_wp2_with fail
   refine c2.mono ?_
   rintro e x2 ⟨rfl, hx2⟩
   have O2 : Hid (Owns x2 base 75 4 (.slice (some ⟨g, 0, none⟩) n ca) (P.set j [.int .i64 ((m : Int)), .string (mark (m + 1)), y2, y3])) := Q1.out.on hx2
   have B2 : Hid (Below base w x2) := (D1.out).trans (hx2.mono hsz2)
   have K2 : Hid (∀ b, b < w.heap.size → (Value.slice (some ⟨g, 0, none⟩) n ca).ownBlock ≠ some b → x2.heap[b]? = w.heap[b]?) := fun b hb hne => (hx2.block b (Nat.lt_of_lt_of_le hb hwz2)).trans (E1.out b hb hne)
   have hwz : w.heap.size ≤ x2.heap.size := B2.out.size
   clear hx2 c2
   obtain ⟨z2, d2⟩ := O2.out.cellAt2 HN2.out hlt 2 (by omega)
   have f2 := O2.out.free2 HN2.out (j * 4 + 2)
   have p2 := (O2.out).pokeAt HN2.out hlt 2 (by omega) (.string (mark (m + 2)))
   have Q2 : Hid (Owns ((x2).setCell ⟨g, j * 4 + 2, none⟩ (.string (mark (m + 2)))) base 75 4 (.slice (some ⟨g, 0, none⟩) n ca) (P.set j [.int .i64 ((m : Int)), .string (mark (m + 1)), .string (mark (m + 2)), y3])) := p2
   have D2 : Hid (Below base w ((x2).setCell ⟨g, j * 4 + 2, none⟩ (.string (mark (m + 2))))) := (B2.out).setCell (show base ≤ g from HG.out) _
   have E2 : Hid (∀ b, b < w.heap.size → (Value.slice (some ⟨g, 0, none⟩) n ca).ownBlock ≠ some b → ((x2).setCell ⟨g, j * 4 + 2, none⟩ (.string (mark (m + 2)))).heap[b]? = w.heap[b]?) := fun b hb hne => by rw [Below.heap_setCell _ _ _ _ (show b ≠ g from fun e => hne (by rw [e]; rfl))]; exact K2.out b hb hne
   clear p2
   have hsz3 : base ≤ ((x2).setCell ⟨g, j * 4 + 2, none⟩ (.string (mark (m + 2)))).heap.size := Nat.le_trans hbase D2.out.size
   have hwz3 : w.heap.size ≤ ((x2).setCell ⟨g, j * 4 + 2, none⟩ (.string (mark (m + 2)))).heap.size := D2.out.size
   have c3 : Calls Tryz.prog 47 #[.int .i64 ((m : Int) + 1 + 1 + 1)] ((x2).setCell ⟨g, j * 4 + 2, none⟩ (.string (mark (m + 2)))) fun e w' => e = .returned (.string (mark (m + 3))) ∧ Below ((x2).setCell ⟨g, j * 4 + 2, none⟩ (.string (mark (m + 2)))).heap.size ((x2).setCell ⟨g, j * 4 + 2, none⟩ (.string (mark (m + 2)))) w' := by
    have h := markText (m + 3) ((x2).setCell ⟨g, j * 4 + 2, none⟩ (.string (mark (m + 2)))) (by have := HM1.out; omega) (by have := HM2.out; omega)
    rw [show ((m + 3 : Nat) : Int) = (m : Int) + 1 + 1 + 1 by omega] at h
    exact h
   go_wp2_with fail
   refine c3.mono ?_
   rintro e x3 ⟨rfl, hx3⟩
   have O3 : Hid (Owns x3 base 75 4 (.slice (some ⟨g, 0, none⟩) n ca) (P.set j [.int .i64 ((m : Int)), .string (mark (m + 1)), .string (mark (m + 2)), y3])) := Q2.out.on hx3
   have B3 : Hid (Below base w x3) := (D2.out).trans (hx3.mono hsz3)
   have K3 : Hid (∀ b, b < w.heap.size → (Value.slice (some ⟨g, 0, none⟩) n ca).ownBlock ≠ some b → x3.heap[b]? = w.heap[b]?) := fun b hb hne => (hx3.block b (Nat.lt_of_lt_of_le hb hwz3)).trans (E2.out b hb hne)
   have hwz : w.heap.size ≤ x3.heap.size := B3.out.size
   clear hx3 c3
   obtain ⟨z3, d3⟩ := O3.out.cellAt2 HN2.out hlt 3 (by omega)
   have f3 := O3.out.free2 HN2.out (j * 4 + 3)
   have p3 := (O3.out).pokeAt HN2.out hlt 3 (by omega) (.string (mark (m + 3)))
   have Q3 : Hid (Owns ((x3).setCell ⟨g, j * 4 + 3, none⟩ (.string (mark (m + 3)))) base 75 4 (.slice (some ⟨g, 0, none⟩) n ca) (P.set j [.int .i64 ((m : Int)), .string (mark (m + 1)), .string (mark (m + 2)), .string (mark (m + 3))])) := p3
   have D3 : Hid (Below base w ((x3).setCell ⟨g, j * 4 + 3, none⟩ (.string (mark (m + 3))))) := (B3.out).setCell (show base ≤ g from HG.out) _
   have E3 : Hid (∀ b, b < w.heap.size → (Value.slice (some ⟨g, 0, none⟩) n ca).ownBlock ≠ some b → ((x3).setCell ⟨g, j * 4 + 3, none⟩ (.string (mark (m + 3)))).heap[b]? = w.heap[b]?) := fun b hb hne => by rw [Below.heap_setCell _ _ _ _ (show b ≠ g from fun e => hne (by rw [e]; rfl))]; exact K3.out b hb hne
   clear p3
   go_wp2_with fail
   go_roundw
   case rel => exact ⟨j + 1, by omega, by go_num, by rw [HM.out]; go_num, by rw [← HF.out]; exact Q3.out, D3.out, E3.out⟩
   case measure => simp [intOf]; omega
  ·obtain rfl : j = n := by omega
   go_wp2_with fail
   go_ret
   refine ⟨rfl, ?_, HB.out, HK.out⟩
   have := HS.out
   rw [← hn, partR_all] at this
   rw [← hn]
   exact this
end Go.Proofs.YtepffbgelaajnaaGreatDoor
namespace Go.Proofs.YtepffbgelaajnaaGreatDoor
open Go.ChangeShapes Go.WideShapes Go.ChangeAt Go.RowKit Go.PlainAid
set_option linter.unusedVariables false
theorem mkStp_look {w : World} {B k n : Nat} {v : Value} (h : Lies w B 4 v (newR (mkStp k) n)) : ∃ A cap, v = .slice A n cap ∧ ∀ j, j < n → ∃ g off, A = some ⟨g, off, none⟩ ∧ g < B ∧ w.cell? ⟨g, off + j * 4, none⟩ = some (.int .i64 (((k + 4 * j : Nat) : Int))) ∧ w.cell? ⟨g, off + j * 4 + 1, none⟩ = some (.string (mark (k + 4 * j + 1))) ∧ w.cell? ⟨g, off + j * 4 + 2, none⟩ = some (.string (mark (k + 4 * j + 2))) ∧ w.cell? ⟨g, off + j * 4 + 3, none⟩ = some (.string (mark (k + 4 * j + 3))) := by
 obtain ⟨A, cap, e, h⟩ := h.look
 rw [newR_length] at e
 refine ⟨A, cap, e, fun j hj => ?_⟩
 obtain ⟨g, off, e, hg, hc⟩ := h j (by rw [newR_length]; exact hj)
 have hr : (newR (mkStp k) n)[j]'(by rw [newR_length]; exact hj) = mkStp k j := by simp [newR]
 rw [hr] at hc
 refine ⟨g, off, e, hg, ?_, ?_, ?_, ?_⟩
 ·have := hc 0 _ (by omega) rfl; simpa [Nat.add_assoc] using this
 ·have := hc 1 _ (by omega) rfl; simpa [Nat.add_assoc] using this
 ·have := hc 2 _ (by omega) rfl; simpa [Nat.add_assoc] using this
 ·have := hc 3 _ (by omega) rfl; simpa [Nat.add_assoc] using this
set_option maxHeartbeats 2000000 in
theorem heldStepS (k n : Nat) (v : Value) (w : World) (B : Nat) (hv : Lies w B 4 v (newR (mkStp k) n)) (hl : n ≤ 1048576) (h1 : 1 ≤ k) (h2 : k ≤ 10000000) (hB : B ≤ w.heap.size) :
  Calls Tryz.prog 17 #[v, .int .i64 (k : Int)] w fun e w' => e = .returned (.int .i64 ((k + 4 * n : Nat) : Int)) ∧ Below w.heap.size w w' := by
 obtain ⟨A, ca, rfl, hl'⟩ := mkStp_look hv
 have HL : Hid (∀ j, j < n → ∃ g off, A = some ⟨g, off, none⟩ ∧ g < B ∧ _) := hl'
 have HB : Hid (B ≤ w.heap.size) := hB
 have q1 : (n : Int) ≤ 1048576 := by omega
 have q3 : (k : Int) ≤ 10000000 := by omega
 clear hv hl hl' hB
 go_enter Tryz.func17, Tryz.ntmps17
 go_wp2_with fail
 go_loopw [1, 5] (fun v1 v5 wr => ∃ j : Nat, j ≤ n ∧ v5 = .int .i64 (j : Int) ∧ v1 = .int .i64 ((k + 4 * j : Nat) : Int) ∧ Below w.heap.size w wr) (fun _ i _ => n - (intOf i).toNat)
 case atStart => exact ⟨0, by omega, rfl, by simp, Below.refl _ _⟩
 case round =>
  obtain ⟨j, hj, rfl, rfl, hb⟩ := hrel
  have HB1 : Hid (Below w.heap.size w wr) := hb
  clear hb
  by_cases hlt : j < n
  ·have q2 : (j : Int) < (n : Int) := by omega
   obtain ⟨g, off, rfl, hg, d0, d1, d2, d3⟩ := HL.out j hlt
   have hgw : g < w.heap.size := Nat.lt_of_lt_of_le hg HB.out
   rw [← HB1.out.cell (p := ⟨_, _, none⟩) hgw] at d0
   rw [← HB1.out.cell (p := ⟨_, _, none⟩) hgw] at d1
   rw [← HB1.out.cell (p := ⟨_, _, none⟩) hgw] at d2
   rw [← HB1.out.cell (p := ⟨_, _, none⟩) hgw] at d3
   have HM : Hid (((k + 4 * (j + 1) : Nat) : Int) = ((k + 4 * j : Nat) : Int) + 4) := by unfold Hid; omega
   have q4 : ((k + 4 * j : Nat) : Int) ≤ 20000000 := by omega
   have HM1 : Hid (1 ≤ k + 4 * j) := by unfold Hid; omega
   have HM2 : Hid (k + 4 * j ≤ 20000000) := by unfold Hid; omega
   generalize k + 4 * j = m at *
   have hsz := HB1.out.size
   have hgl : Hid (g < wr.heap.size) := Nat.lt_of_lt_of_le hgw hsz
   have c1 : ∀ wx : World, Calls Tryz.prog 47 #[.int .i64 ((m : Int) + 1)] wx fun e w' => e = .returned (.string (mark (m + 1))) ∧ Below wx.heap.size wx w' := fun wx => by
    have h := markText (m + 1) wx (by have := HM1.out; omega) (by have := HM2.out; omega)
    rw [show ((m + 1 : Nat) : Int) = (m : Int) + 1 by omega] at h
    exact h
   have c2 : ∀ wx : World, Calls Tryz.prog 47 #[.int .i64 ((m : Int) + 1 + 1)] wx fun e w' => e = .returned (.string (mark (m + 2))) ∧ Below wx.heap.size wx w' := fun wx => by
    have h := markText (m + 2) wx (by have := HM1.out; omega) (by have := HM2.out; omega)
    rw [show ((m + 2 : Nat) : Int) = (m : Int) + 1 + 1 by omega] at h
    exact h
   have c3 : ∀ wx : World, Calls Tryz.prog 47 #[.int .i64 ((m : Int) + 1 + 1 + 1)] wx fun e w' => e = .returned (.string (mark (m + 3))) ∧ Below wx.heap.size wx w' := fun wx => by
    have h := markText (m + 3) wx (by have := HM1.out; omega) (by have := HM2.out; omega)
    rw [show ((m + 3 : Nat) : Int) = (m : Int) + 1 + 1 + 1 by omega] at h
    exact h
   clear hgw HL
   go_wp2_with fail
   (go_region_with (go_at_call 47; refine (c1 _).mono ?_; rintro e x0 ⟨rfl, hx0⟩; have a1 := (hx0.cell (p := ⟨g, off + j * 4 + 1, none⟩) hgl.out).trans d1; have a2 := (hx0.cell (p := ⟨g, off + j * 4 + 2, none⟩) hgl.out).trans d2; have a3 := (hx0.cell (p := ⟨g, off + j * 4 + 3, none⟩) hgl.out).trans d3; have hg0 : Hid (g < x0.heap.size) := Nat.lt_of_lt_of_le hgl.out hx0.size))
   all_goals go_wp2_with fail
   all_goals (go_region_with (go_at_call 47; refine (c2 _).mono ?_; rintro e x1 ⟨rfl, hx1⟩; have b2 := (hx1.cell (p := ⟨g, off + j * 4 + 2, none⟩) hg0.out).trans a2; have b3 := (hx1.cell (p := ⟨g, off + j * 4 + 3, none⟩) hg0.out).trans a3; have hg1 : Hid (g < x1.heap.size) := Nat.lt_of_lt_of_le hg0.out hx1.size))
   all_goals go_wp2_with fail
   all_goals (go_region_with (go_at_call 47; refine (c3 _).mono ?_; rintro e x2 ⟨rfl, hx2⟩; have c3 := (hx2.cell (p := ⟨g, off + j * 4 + 3, none⟩) hg1.out).trans b3; have hg2 : Hid (g < x2.heap.size) := Nat.lt_of_lt_of_le hg1.out hx2.size))
   all_goals go_wp2_with fail
   all_goals exact ⟨⟨j + 1, by omega, by go_num, by rw [HM.out]; go_num, (((HB1.out).trans (((Below.refl _ wr).drew.trans hx0).mono hsz)).trans (((Below.refl _ x0).drew.trans hx1).mono (Nat.le_trans hsz hx0.size))).trans (((Below.refl _ x1).drew.trans hx2).mono (Nat.le_trans (Nat.le_trans hsz hx0.size) hx1.size))⟩, by simp [intOf]; omega⟩
  ·obtain rfl : j = n := by omega
   go_wp2_with fail
   go_ret
   exact ⟨rfl, HB1.out⟩
end Go.Proofs.YtepffbgelaajnaaGreatDoor
