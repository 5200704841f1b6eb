/-
  Contracts of the laws' own copies of what came in: toEntry, toEntryS, toRec, toWal.
-/
import Derived.Test.YtjejcpieajeflaaRows
import Derived.Test.YtjejcpieajeflaaWkSz
import Derived.Test.YtjejcpieajeflaaWkPut
namespace Go.Proofs.Ytjejcpieajeflaa
open Go.ChangeShapes Go.WideShapes Go.ChangeAt Go.RowKit Go.PlainAid
set_option linter.unusedVariables false

theorem below_alloc3 (w : World) (a b c : Obj) : Below w.heap.size w (((w.alloc a).alloc b).alloc c) := (((Below.refl _ w).alloc (Nat.le_refl _) a).alloc (by simp) b).alloc (by simp; omega) c
set_option maxHeartbeats 400000 in
theorem toEntry (x : Ent) (w : World) : Calls Try.prog 77 #[vEnt x] w fun e w' => e = .returned (vEnt x) ∧ Below w.heap.size w w' := by
  unfold vEnt
  go_enter Try.func77, Try.ntmps77
  go_wp2
  exact bodyPost_ret (v := .agg #[.int .i64 x.term, .string x.data]) (by simp [results, go_sem]) rfl ⟨rfl, below_alloc3 _ _ _ _⟩
theorem Try.infoEnt : (Try.prog.info? 88).map (fun i => (i.zero, i.size, i.bytes)) = some (some (.agg #[.int .i64 0, .string ⟨#[]⟩]), 2, 24) := by kernel_rfl
/-- A row of noughts. -/
def entZ : List Value := [.int .i64 0, .string ⟨#[]⟩]
theorem ent_made (n : Nat) : madeCells #[.int .i64 0, .string ⟨#[]⟩] (n * 2) = (List.replicate n entZ).flatten.toArray := by
  apply Array.ext'
  rw [List.toList_toArray]
  apply List.ext_getElem?
  intro k
  have hz : ∀ r ∈ List.replicate n entZ, r.length = 2 := fun r hr => by rw [List.eq_of_mem_replicate hr]; rfl
  by_cases hk : k < n * 2
  · have e : k = k / 2 * 2 + k % 2 := by omega
    have hf : k % 2 < 2 := Nat.mod_lt _ (by omega)
    have hj : k / 2 < n := Nat.div_lt_of_lt_mul (by omega)
    have := flat_at 2 (List.replicate n entZ) hz (k / 2) (k % 2) (by simpa using hj) hf
    rw [← e] at this
    have hr : (List.replicate n entZ)[k / 2]'(by simpa using hj) = entZ := by simp
    rw [this, hr]
    have hs : (madeCells #[.int .i64 0, .string ⟨#[]⟩] (n * 2)).toList[k]? = some (#[.int .i64 0, .string ⟨#[]⟩].getD (k % 2) default) := by simp [madeCells, hk]
    rw [hs]
    have : k % 2 = 0 ∨ k % 2 = 1 := by omega
    rcases this with h | h <;> rw [h] <;> rfl
  · have hl : (List.replicate n entZ).flatten.length = n * 2 := by rw [flat_length 2 _ hz]; simp
    have hr : (List.replicate n entZ).flatten[k]? = none := List.getElem?_eq_none (by omega)
    rw [hr]
    apply List.getElem?_eq_none
    rw [Array.length_toList, size_madeCells]
    omega

set_option maxHeartbeats 1000000 in
theorem toEntryS (l : List Ent) (v : Value) (w : World) (B : Nat) (hv : Lies w B 2 v (entR l)) (hn : l.length ≤ 1048576) (hB : B ≤ w.heap.size) :
    Calls Try.prog 44 #[v] w fun e w' => ∃ u, e = .returned u ∧ Owns w' w.heap.size 88 2 u (entR l) ∧ Below w.heap.size w w' := by
  obtain ⟨A, cap, rfl, hl⟩ := ent_look hv
  have HL : Hid (∀ j, j < l.length → ∃ g off, A = some ⟨g, off, none⟩ ∧ g < B ∧ _) := hl
  have HB : Hid (B ≤ w.heap.size) := hB
  clear hl hB hv
  have q1 : (l.length : Int) ≤ 1048576 := by omega
  generalize hN : l.length = n at *
  obtain ⟨i0, hi, hz0, hz1, hz2⟩ := info_parts Try.infoEnt
  have hmk : ∀ wx : World, (Instr.makeSlice 28 (.int .i64 (n : Int)) (.int .i64 (n : Int))).run Try.prog wx = .ok (.slice (some ⟨wx.heap.size, 0, none⟩) n n) (wx.alloc (.cells (List.replicate n entZ).flatten.toArray 88)) := fun wx => by
    have h := run_make (P := Try.prog) wx 28 88 i0 _ Try.underlying28 hi hz0 .i64 .i64 (n : Int) (n : Int) (by omega) (by omega) (by rw [hz2]; omega) (by omega)
    rw [hz1] at h
    have e : (Value.agg #[.int .i64 0, .string ⟨#[]⟩]).cells = #[.int .i64 0, .string ⟨#[]⟩] := rfl
    rw [e, Int.toNat_natCast, ent_made] at h
    exact h
  clear hi hz0 hz1 hz2
  go_enter Try.func44, Try.ntmps44
  go_wp2_with fail
  go_loopw [4] (fun v4 wr => ∃ k : Nat, k ≤ n ∧ v4 = .int .i64 (k : Int) ∧ Owns wr w.heap.size 88 2 (.slice (some ⟨w.heap.size, 0, none⟩) n n) (entR (l.take k) ++ List.replicate (n - k) entZ) ∧ Below w.heap.size w wr) (fun i _ => n - (intOf i).toNat)
  case atStart =>
    refine ⟨0, by omega, rfl, ?_, (Below.refl _ _).alloc (Nat.le_refl _) _⟩
    rw [List.take_zero, Nat.sub_zero, show entR [] = [] from rfl, List.nil_append]
    refine ⟨fun r hr => by rw [List.eq_of_mem_replicate hr]; rfl, ?_⟩
    have hz : ∀ r ∈ List.replicate n entZ, r.length = 2 := fun r hr => by rw [List.eq_of_mem_replicate hr]; rfl
    have hl := flat_length 2 (List.replicate n entZ) hz
    rw [List.length_replicate] at hl ⊢
    exact World.ownsRow_lit w (List.replicate n entZ).flatten.toArray n (Nat.le_refl _) (by unfold maxLen; omega) (by simpa using hl)
  case round =>
    obtain ⟨k, hk, rfl, hO, hb⟩ := hrel
    have HO : Hid (Owns wr w.heap.size 88 2 (.slice (some ⟨w.heap.size, 0, none⟩) n n) (entR (l.take k) ++ List.replicate (n - k) entZ)) := hO
    have HB1 : Hid (Below w.heap.size w wr) := hb
    clear hO hb
    by_cases hlt : k < n
    · have q4 : (k : Int) < (n : Int) := by omega
      obtain ⟨g, off, rfl, hg, hc0, hc1⟩ := HL.out k (by omega)
      have hgw : g < w.heap.size := Nat.lt_of_lt_of_le hg HB.out
      rw [← HB1.out.cell (p := ⟨_, _, none⟩) hgw] at hc0
      rw [← HB1.out.cell (p := ⟨_, _, none⟩) hgw] at hc1
      have c1 := fun wx => toEntry (l.getD k default) wx
      unfold vEnt at c1
      generalize hx : l.getD k default = x at *
      have HX : Hid (l.getD k default = x) := hx
      clear hx
      go_wp2_with fail
      refine (c1 _).mono ?_
      rintro e w2 ⟨rfl, hb2⟩
      have hlen : (entR (l.take k) ++ List.replicate (n - k) entZ).length = n := by rw [List.length_append, List.length_replicate]; simp [entR]; omega
      have hdl : (entR (l.take k)).length = k := by simp [entR]; omega
      have hO2 := HO.out.on hb2
      have hO3 := hO2
      rw [show (Value.slice (some ⟨w.heap.size, 0, none⟩) n n) = .slice (some ⟨w.heap.size, 0, none⟩) (entR (l.take k) ++ List.replicate (n - k) entZ).length n by rw [hlen]] at hO2
      obtain ⟨y0, d0⟩ := hO2.cellX k 0 (by rw [hlen]; exact hlt) (by omega)
      have f0 := hO2.free (k * 2)
      obtain ⟨y1, d1⟩ := hO2.cellX k 1 (by rw [hlen]; exact hlt) (by omega)
      have f1 := hO2.free (k * 2 + 1)
      rw [Nat.add_zero] at d0
      have hP := hO2.put2 k (by rw [hlen]; exact hlt) (.int .i64 x.term) (.string x.data)
      rw [hlen, fill_step _ _ _ n k hdl hlt, show entR (l.take k) ++ [[.int .i64 x.term, .string x.data]] = entR (l.take (k + 1)) by rw [entR_snoc l k (by omega), HX.out]; rfl] at hP
      have HP : Hid (Owns (((w2).setCell ⟨w.heap.size, k * 2, none⟩ (.int .i64 x.term)).setCell ⟨w.heap.size, k * 2 + 1, none⟩ (.string x.data)) w.heap.size 88 2 (.slice (some ⟨w.heap.size, 0, none⟩) n n) (entR (l.take (k + 1)) ++ List.replicate (n - (k + 1)) entZ)) := hP
      have HB2 : Hid (Below w.heap.size w w2) := HB1.out.trans (hb2.mono HB1.out.size)
      clear hO2 hO3 hP hb2 hlen hdl
      go_wp2_with fail
      go_roundw
      case rel => exact ⟨k + 1, by omega, by go_num, HP.out, ((HB2.out).setCell (Nat.le_refl _) _).setCell (Nat.le_refl _) _⟩
      case measure => simp [intOf]; omega
    · obtain rfl : k = n := by omega
      go_wp2_with fail
      go_ret
      refine ⟨_, rfl, ?_, HB1.out⟩
      have := HO.out
      rw [← hN, List.take_length, Nat.sub_self, List.replicate_zero, List.append_nil] at this
      rw [← hN]
      exact this
set_option maxHeartbeats 2000000 in
theorem toWal (x : Wl) (v : Value) (w : World) (B : Nat) (hv : WalV w B v x) (hw : wtW x ≤ 1048576) (hB : B ≤ w.heap.size) :
    Calls Try.prog 23 #[v] w fun e w' => ∃ u, e = .returned u ∧ WalO w' w.heap.size u x ∧ Below w.heap.size w w' := by
  obtain ⟨u, rfl, hl⟩ := hv
  unfold wtW at hw
  have HB : Hid (B ≤ w.heap.size) := hB
  have HL : Hid (Lies w B 2 u (entR x.ents)) := hl
  have L1 : Hid (x.ents.length ≤ 1048576) := by unfold Hid; omega
  clear hl hw hB
  go_enter Try.func23, Try.ntmps23
  go_wp2_with fail
  have hb0 := below_alloc3 w (.cells #[.int .i64 x.term, .int .i64 x.vote, .int .i64 x.base, .int .i64 x.bterm, u] 41) (.cells #[.int .i64 0, .int .i64 0, .int .i64 0, .int .i64 0, .slice none 0 0] 35) (.cells #[.int .i64 x.term, .int .i64 x.vote, .int .i64 x.base, .int .i64 x.bterm, .slice none 0 0] 35)
  have bR := (Blk.new (w.alloc (.cells #[.int .i64 x.term, .int .i64 x.vote, .int .i64 x.base, .int .i64 x.bterm, u] 41)) #[.int .i64 0, .int .i64 0, .int .i64 0, .int .i64 0, .slice none 0 0] 35).alloc (.cells #[.int .i64 x.term, .int .i64 x.vote, .int .i64 x.base, .int .i64 x.bterm, .slice none 0 0] 35)
  have bO := Blk.new ((w.alloc (.cells #[.int .i64 x.term, .int .i64 x.vote, .int .i64 x.base, .int .i64 x.bterm, u] 41)).alloc (.cells #[.int .i64 0, .int .i64 0, .int .i64 0, .int .i64 0, .slice none 0 0] 35)) #[.int .i64 x.term, .int .i64 x.vote, .int .i64 x.base, .int .i64 x.bterm, .slice none 0 0] 35
  simp only [World.size_alloc] at bR bO
  generalize ((w.alloc (.cells #[.int .i64 x.term, .int .i64 x.vote, .int .i64 x.base, .int .i64 x.bterm, u] 41)).alloc (.cells #[.int .i64 0, .int .i64 0, .int .i64 0, .int .i64 0, .slice none 0 0] 35)).alloc (.cells #[.int .i64 x.term, .int .i64 x.vote, .int .i64 x.base, .int .i64 x.bterm, .slice none 0 0] 35) = W at *
  have B0 : Hid (Below w.heap.size w W) := hb0
  have hlt := bO.lt
  clear hb0
  refine (toEntryS x.ents u W B (HL.out.on (B0.out.mono HB.out)) L1.out (Nat.le_trans HB.out B0.out.size)).mono ?_
  rintro e w2 ⟨u1, rfl, hO1, hb2⟩
  obtain ⟨A1, m1, k1, hu1⟩ := hO1.shape
  have B2 : Hid (Below w.heap.size w w2) := B0.out.trans (hb2.mono B0.out.size)
  have hR2 : Hid (Blk w2 (w.heap.size + 1) #[.int .i64 0, .int .i64 0, .int .i64 0, .int .i64 0, .slice none 0 0] 35) := bR.on hb2 (by omega)
  have hO2 : Hid (Blk w2 (w.heap.size + 1 + 1) #[.int .i64 x.term, .int .i64 x.vote, .int .i64 x.base, .int .i64 x.bterm, .slice none 0 0] 35) := bO.on hb2 hlt
  have O1 : Hid (Owns w2 (w.heap.size + 1 + 1 + 1) 88 2 u1 (entR x.ents)) := hO1.mono hlt
  clear bR bO hb2 hO1 hlt
  have c0 := hO2.out.cell 0 _ rfl
  have c1 := hO2.out.cell 1 _ rfl
  have c2 := hO2.out.cell 2 _ rfl
  have c3 := hO2.out.cell 3 _ rfl
  have c4 := hO2.out.cell 4 _ rfl
  have f4 := hO2.out.free 4
  have r0 := hR2.out.cell 0 _ rfl
  have r1 := hR2.out.cell 1 _ rfl
  have r2 := hR2.out.cell 2 _ rfl
  have r3 := hR2.out.cell 3 _ rfl
  have r4 := hR2.out.cell 4 _ rfl
  have g0 := hR2.out.free 0
  have g1 := hR2.out.free 1
  have g2 := hR2.out.free 2
  have g3 := hR2.out.free 3
  have g4 := hR2.out.free 4
  subst hu1
  go_wp2_with fail
  have hF := ((((((hR2.out.other (show w.heap.size + 1 ≠ w.heap.size + 1 + 1 by omega) 4 (.slice A1 m1 k1)).set 0 (.int .i64 x.term)).set 1 (.int .i64 x.vote)).set 2 (.int .i64 x.base)).set 3 (.int .i64 x.bterm)).set 4 (.slice A1 m1 k1))
  have F1 := ((((((O1.out.other (O1.out.below (show w.heap.size + 1 + 1 < _ by omega)) 4 (.slice A1 m1 k1)).other (O1.out.below (show w.heap.size + 1 < _ by omega)) 0 (.int .i64 x.term)).other (O1.out.below (show w.heap.size + 1 < _ by omega)) 1 (.int .i64 x.vote)).other (O1.out.below (show w.heap.size + 1 < _ by omega)) 2 (.int .i64 x.base)).other (O1.out.below (show w.heap.size + 1 < _ by omega)) 3 (.int .i64 x.bterm)).other (O1.out.below (show w.heap.size + 1 < _ by omega)) 4 (.slice A1 m1 k1))
  have FB := ((((((B2.out.setCell (show w.heap.size ≤ w.heap.size + 1 + 1 by omega) (.slice A1 m1 k1) (p := ⟨_, 4, none⟩)).setCell (show w.heap.size ≤ w.heap.size + 1 by omega) (.int .i64 x.term) (p := ⟨_, 0, none⟩)).setCell (show w.heap.size ≤ w.heap.size + 1 by omega) (.int .i64 x.vote) (p := ⟨_, 1, none⟩)).setCell (show w.heap.size ≤ w.heap.size + 1 by omega) (.int .i64 x.base) (p := ⟨_, 2, none⟩)).setCell (show w.heap.size ≤ w.heap.size + 1 by omega) (.int .i64 x.bterm) (p := ⟨_, 3, none⟩)).setCell (show w.heap.size ≤ w.heap.size + 1 by omega) (.slice A1 m1 k1) (p := ⟨_, 4, none⟩))
  generalize ((((((w2.setCell ⟨w.heap.size + 1 + 1, 4, none⟩ (.slice A1 m1 k1)).setCell ⟨w.heap.size + 1, 0, none⟩ (.int .i64 x.term)).setCell ⟨w.heap.size + 1, 1, none⟩ (.int .i64 x.vote)).setCell ⟨w.heap.size + 1, 2, none⟩ (.int .i64 x.base)).setCell ⟨w.heap.size + 1, 3, none⟩ (.int .i64 x.bterm)).setCell ⟨w.heap.size + 1, 4, none⟩ (.slice A1 m1 k1)) = WF at *
  have hG : Blk WF (w.heap.size + 1) #[.int .i64 x.term, .int .i64 x.vote, .int .i64 x.base, .int .i64 x.bterm, .slice A1 m1 k1] 35 := hF
  have k0 := hG.cell 0 (.int .i64 x.term) rfl
  have k1' := hG.cell 1 (.int .i64 x.vote) rfl
  have k2' := hG.cell 2 (.int .i64 x.base) rfl
  have k3' := hG.cell 3 (.int .i64 x.bterm) rfl
  have k4' := hG.cell 4 (.slice A1 m1 k1) rfl
  exact bodyPost_ret (v := .agg #[.int .i64 x.term, .int .i64 x.vote, .int .i64 x.base, .int .i64 x.bterm, .slice A1 m1 k1]) (by simp [results, go_sem, k0, k1', k2', k3', k4']) rfl ⟨_, rfl, ⟨_, rfl, F1.mono (by omega)⟩, FB⟩
end Go.Proofs.Ytjejcpieajeflaa
