/-
  The contracts of spec.List and impl.List.
-/
import Derived.Test.YtljpakpokjpemaaRows
import Derived.Test.YtljpakpokjpemaaDkOkD
import Derived.Test.YtljpakpokjpemaaImTold
import Derived.Test.YtljpakpokjpemaaImFind
import Derived.Test.YtljpakpokjpemaaStrEq
import Derived.Test.YtljpakpokjpemaaRowAid
import Derived.Lib.OwnKind
import Derived.Deep.Cut
namespace Go.Proofs.Ytljpakpokjpemaa
open Go.ChangeShapes Go.WideShapes Go.ChangeAt Go.RowKit Go.PlainAid
set_option linter.unusedVariables false

theorem Try.infoStr : (Try.prog.info? 9).map (fun i => (i.zero, i.size, i.bytes)) = some (some (.string ⟨#[]⟩), 1, 16) := by kernel_rfl
theorem strs_apart {w : World} {b b' : Nat} {e : TypeId} {sz : Nat} {v u : Value} {l : List ByteArray} {R : List (List Value)} (h : Strs w b v l) (k : Owns w b' e sz u R) (hne : e ≠ 9) (g : Nat) (hg : u.ownBlock = some g) : v.ownBlock ≠ some g := by
  intro hu
  obtain ⟨c, fz, e1⟩ := Lib.ownsRow_kind h g hu
  obtain ⟨c', fz', e2⟩ := Lib.ownsRow_kind k.2 g hg
  rw [e1] at e2
  cases e2
  exact hne rfl
/-- The names of a disk now. -/
def listR (d : Dsk) : List ByteArray := if diskOk d = false then [] else (now d).map (·.name)
theorem listR_no {d : Dsk} (h : diskOk d = false) : listR d = [] := by unfold listR; rw [if_pos h]
theorem listR_yes {d : Dsk} (h : diskOk d = true) : listR d = (now d).map (·.name) := by unfold listR; rw [if_neg (by rw [h]; simp)]
theorem names_snoc_map (l : List Lnk) (k : Nat) (h : k < l.length) : (l.take (k + 1)).map (·.name) = (l.take k).map (·.name) ++ [(l.getD k default).name] := by
  rw [take_getD l k h, List.map_append]
  rfl

set_option maxRecDepth 20000 in
set_option maxHeartbeats 2000000 in
theorem specListV (d : Dsk) (v : Value) (w : World) (B : Nat) (hv : DiskV w B v d) (hf : Fits d) (hw : wtD d ≤ 1048576) (hB : B ≤ w.heap.size) :
    Calls Try.prog 16 #[v] w fun e w' => ∃ u, e = .returned u ∧ Strs w' w.heap.size u (listR d) ∧ Below w.heap.size w w' := by
  have HV : Hid (DiskV w B v d) := hv
  have HF : Hid (Fits d) := hf
  have HB : Hid (B ≤ w.heap.size) := hB
  have HW : Hid (wtD d ≤ 1048576) := hw
  obtain ⟨v1, v2, v3, rfl, h1, h2, h3⟩ := hv
  obtain ⟨A3, c3, rfl, _⟩ := mov_look h3
  clear h1 h2 h3 hf hB hw
  go_enter Try.func16, Try.ntmps16
  go_wp2_with fail
  have hb0 : Below w.heap.size w ((w.alloc (.cells #[.int .i64 d.room, .int .i64 d.next, v1, v2, .slice A3 d.movs.length c3] 26)).alloc (.cells #[] 9)) := below_alloc2' w _ _
  have k0 := (Blk.new w #[.int .i64 d.room, .int .i64 d.next, v1, v2, .slice A3 d.movs.length c3] 26).alloc (.cells #[] 9)
  have s0 := Strs.empty (w.alloc (.cells #[.int .i64 d.room, .int .i64 d.next, v1, v2, .slice A3 d.movs.length c3] 26)) (w.heap.size + 1) (by simp)
  simp only [World.size_alloc] at s0
  generalize (w.alloc (.cells #[.int .i64 d.room, .int .i64 d.next, v1, v2, .slice A3 d.movs.length c3] 26)).alloc (.cells #[] 9) = W at *
  have B0 : Hid (Below w.heap.size w W) := hb0
  have K0 : Hid (Blk W w.heap.size #[.int .i64 d.room, .int .i64 d.next, v1, v2, .slice A3 d.movs.length c3] 26) := k0
  have S0 : Hid (Strs W (w.heap.size + 1) (.slice (some ⟨w.heap.size + 1, 0, none⟩) 0 0) []) := s0
  clear hb0 k0 s0
  refine (specOkV d _ W B (HV.out.on (B0.out.mono HB.out)) HF.out HW.out (Nat.le_trans HB.out B0.out.size)).mono ?_
  rintro e w1 ⟨rfl, hb1⟩
  have B1 : Hid (Below w.heap.size w w1) := B0.out.trans (hb1.mono B0.out.size)
  have K1 : Hid (Blk w1 w.heap.size #[.int .i64 d.room, .int .i64 d.next, v1, v2, .slice A3 d.movs.length c3] 26) := K0.out.on hb1 K0.out.lt
  have S1 : Hid (Strs w1 (w.heap.size + 1) (.slice (some ⟨w.heap.size + 1, 0, none⟩) 0 0) []) := S0.out.on hb1
  clear hb1 K0 S0
  cases hok : diskOk d with
  | false =>
    have HR : Hid (listR d = []) := listR_no hok
    go_wp2_with fail
    go_ret
    exact ⟨_, rfl, by rw [HR.out]; exact S1.out.mono (Nat.le_succ _), B1.out⟩
  | true =>
    have hR := (sizeOk_iff d).1 ((whole_iff d).1 hok).size
    have HR : Hid (listR d = (now d).map (·.name)) := listR_yes hok
    have HT : Hid (d.movs.take (d.movs.length : Int).toNat = d.movs) := List.take_length
    have q1 : (d.movs.length : Int) ≤ 20 := by have := hR.m; omega
    have HNL : Hid ((now d).length ≤ 30) := by unfold Hid; have := now_len d; have := hR.l; have := hR.m; omega
    have cN := namesV d (.agg #[.int .i64 d.room, .int .i64 d.next, v1, v2, .slice A3 d.movs.length c3]) (d.movs.length : Int) w1 B (HV.out.on (B1.out.mono HB.out)) HF.out (by have := hR.l; have := hR.m; omega) (Nat.le_trans HB.out B1.out.size)
    rw [HT.out] at cN
    have y0 := K1.out.cell 0 _ rfl
    have y1 := K1.out.cell 1 _ rfl
    have y2 := K1.out.cell 2 _ rfl
    have y3 := K1.out.cell 3 _ rfl
    have y4 := K1.out.cell 4 _ rfl
    clear hR hok
    go_wp2_with fail
    refine cN.mono ?_
    rintro e w2 ⟨u, rfl, hO, hb2⟩
    have hO' : Owns w2 w1.heap.size 64 2 u (lnkR (now d)) := hO
    have B2 : Hid (Below w.heap.size w w2) := B1.out.trans (hb2.mono B1.out.size)
    have S2 : Hid (Strs w2 (w.heap.size + 1) (.slice (some ⟨w.heap.size + 1, 0, none⟩) 0 0) []) := S1.out.on hb2
    have O2 : Hid (Owns w2 w1.heap.size 64 2 u (lnkR (now d))) := hO'
    have K2 : Hid (w.heap.size < w2.heap.size) := (K1.out.on hb2 K1.out.lt).lt
    have Z12 : Hid (w1.heap.size ≤ w2.heap.size) := hb2.size
    have ZL : Hid (w.heap.size + 1 < w1.heap.size) := by
      rcases S1.out.form with ⟨e, _⟩ | ⟨g, cap, e, _, hg⟩
      · cases e
      · cases e; exact hg
    obtain ⟨A, cap, rfl, hlk⟩ := lnk_look hO'.lies
    have HK : Hid (∀ j, j < (now d).length → ∃ g off, A = some ⟨g, off, none⟩ ∧ g < w2.heap.size ∧ _) := hlk
    clear cN hO hO' hlk hb2 y0 y1 y2 y3 y4 K1 S1
    generalize hnn : now d = nl at *
    have q2 : (nl.length : Int) ≤ 30 := by have := HNL.out; omega
    generalize hN : nl.length = N at *
    go_wp2_with fail
    go_loopw [3, 5] (fun v3 v5 wr => ∃ k : Nat, k ≤ N ∧ v5 = .int .i64 (k : Int) ∧ Strs wr (w.heap.size + 1) v3 ((nl.take k).map (·.name)) ∧ Owns wr w1.heap.size 64 2 (.slice A N cap) (lnkR nl) ∧ Below w.heap.size w wr ∧ w1.heap.size ≤ wr.heap.size) (fun _ i _ => N - (intOf i).toNat)
    case atStart => exact ⟨0, by omega, rfl, S2.out, O2.out, B2.out, Z12.out⟩
    case round =>
      obtain ⟨k, hk, rfl, hS, hL, hb, hz⟩ := hrel
      have HS : Hid (Strs wr (w.heap.size + 1) u3 ((nl.take k).map (·.name))) := hS
      have HBB : Hid (Below w.heap.size w wr) := hb
      have HLL : Hid (Owns wr w1.heap.size 64 2 (.slice A N cap) (lnkR nl)) := hL
      have HZ : Hid (w1.heap.size ≤ wr.heap.size) := hz
      by_cases hlt : k < N
      · have q4 : (k : Int) < (N : Int) := by omega
        obtain ⟨A', cap', e', hlk⟩ := lnk_look hL.lies
        cases e'
        obtain ⟨g, off, rfl, hg, hc0, hc1⟩ := hlk k (by omega)
        have HSN : Hid ((nl.take (k + 1)).map (·.name) = (nl.take k).map (·.name) ++ [(nl.getD k default).name]) := names_snoc_map nl k (by omega)
        have hlen : ((nl.take k).map (·.name)).length ≤ 1048576 := by rw [List.length_map, List.length_take]; omega
        have hsz : w.heap.size + 1 ≤ wr.heap.size := by have := ZL.out; have := HZ.out; omega
        have HAP : Hid (∀ g', (Value.slice (some ⟨g, off, none⟩) nl.length cap).ownBlock = some g' → u3.ownBlock ≠ some g') := fun g' hg' => strs_apart hS hL (by decide) g' hg'
        have HGL : Hid (∀ g', (Value.slice (some ⟨g, off, none⟩) nl.length cap).ownBlock = some g' → g' < wr.heap.size) := fun g' hg' => (hL.lt g' hg').2
        clear hS hL hb hz hlk hc1
        generalize (nl.getD k default).name = xn at *
        generalize hTT : (nl.take k).map (·.name) = TT at *
        have hV := HS.out
        go_wp2_with (at_builtin; refine wpList_append_str2 rfl (.tmp 22) (.tmp 28) 41 rfl Try.underlying41 Try.infoStr (w.heap.size + 1) _ TT rfl hV xn rfl (by omega) hsz ?_; intro v' w5 S5 hb5 hk5)
        go_roundw
        case rel => exact ⟨k + 1, by omega, by go_num, by rw [HSN.out]; exact S5, HLL.out.kept (fun g' hg' ho => hk5 g' (HGL.out g' ho) (HAP.out g' ho)), HBB.out.trans (hb5.mono (Nat.le_succ _)), Nat.le_trans HZ.out hb5.size⟩
        case measure => simp [intOf]; omega
      · obtain rfl : k = N := by omega
        clear hS hL hb hz
        go_wp2_with fail
        go_ret
        refine ⟨_, rfl, ?_, HBB.out⟩
        have := HS.out
        rw [← hN, List.take_length] at this
        rw [HR.out]
        exact this.mono (Nat.le_succ _)

set_option maxRecDepth 20000 in
set_option maxHeartbeats 2000000 in
theorem implListV (d : Dsk) (v : Value) (w : World) (B : Nat) (hv : DiskV w B v d) (hf : Fits d) (hi : IntsOk d) (hw : wtD d ≤ 1048576) (hB : B ≤ w.heap.size) :
    Calls Try.prog 17 #[v] w fun e w' => ∃ u, e = .returned u ∧ Strs w' w.heap.size u (listR d) ∧ Below w.heap.size w w' := by
  have HV : Hid (DiskV w B v d) := hv
  have HB : Hid (B ≤ w.heap.size) := hB
  obtain ⟨v1, v2, v3, rfl, h1, h2, h3⟩ := hv
  have cO := fun wx hx hb => openedV d (.agg #[.int .i64 d.room, .int .i64 d.next, v1, v2, v3]) wx B hx hf hi hw hb
  clear h1 h2 h3 hB hf hi hw
  go_enter Try.func17, Try.ntmps17
  go_wp2_with fail
  have hb0 : Below w.heap.size w (w.alloc (.cells #[.int .i64 d.room, .int .i64 d.next, v1, v2, v3] 26)) := (Below.refl _ _).alloc (Nat.le_refl _) _
  generalize w.alloc (.cells #[.int .i64 d.room, .int .i64 d.next, v1, v2, v3] 26) = W at *
  have B0 : Hid (Below w.heap.size w W) := hb0
  clear hb0
  refine (cO W (HV.out.on (B0.out.mono HB.out)) (Nat.le_trans HB.out B0.out.size)).mono ?_
  rintro e w1 ⟨hb, h⟩
  have B1 : Hid (Below w.heap.size w w1) := B0.out.trans (hb.mono B0.out.size)
  clear hb cO
  rcases h with ⟨hn, rfl⟩ | ⟨hy, p, bi, bd, bw, gs, u, rfl, hO⟩
  · have HR : Hid (listR d = []) := listR_no hn
    clear hn
    go_wp2_with fail
    go_ret
    exact ⟨_, rfl, by rw [HR.out]; exact Strs.nil _ _, B1.out⟩
  · have hwh := (whole_iff d).1 hy
    have hlk := now_linked hwh
    have hR := (sizeOk_iff d).1 hwh.size
    have HR : Hid (listR d = (now d).map (·.name)) := listR_yes hy
    have HNL : Hid ((now d).length ≤ 30) := by unfold Hid; have := now_len d; have := hR.l; have := hR.m; omega
    have cT := toldN w1 bw (now d) hO.nw hlk.sorted hlk.ok (by have := HNL.out; omega)
    have y5 := hO.blk.cell 5 _ rfl
    clear hy hO hwh hR hlk
    go_wp2_with fail
    refine cT.mono ?_
    rintro e w2 ⟨x, rfl, hL, hb2⟩
    have B2 : Hid (Below w.heap.size w w2) := B1.out.trans (hb2.mono B1.out.size)
    obtain ⟨A, cap, rfl, hlk⟩ := lnk_look hL.lies
    have HK : Hid (∀ j, j < (now d).length → ∃ g off, A = some ⟨g, off, none⟩ ∧ g < w2.heap.size ∧ _) := hlk
    clear cT hL hlk hb2 y5
    generalize hnn : now d = nl at *
    have q2 : (nl.length : Int) ≤ 30 := by have := HNL.out; omega
    generalize hN : nl.length = N at *
    go_wp2_with fail
    go_loopw [4, 17] (fun v4 v17 wr => ∃ k : Nat, k ≤ N ∧ v17 = .int .i64 (k : Int) ∧ Strs wr w2.heap.size v4 ((nl.take k).map (·.name)) ∧ Below w2.heap.size w2 wr) (fun _ i _ => N - (intOf i).toNat)
    case atStart => exact ⟨0, by omega, rfl, Strs.nil _ _, Below.refl _ _⟩
    case round =>
      obtain ⟨k, hk, rfl, hS, hb⟩ := hrel
      have HS : Hid (Strs wr w2.heap.size u4 ((nl.take k).map (·.name))) := hS
      have HBB : Hid (Below w2.heap.size w2 wr) := hb
      by_cases hlt : k < N
      · have q4 : (k : Int) < (N : Int) := by omega
        obtain ⟨g, off, rfl, hg, hc0, hc1⟩ := HK.out k hlt
        rw [← HBB.out.cell (p := ⟨_, _, none⟩) hg] at hc0 hc1
        have HSN : Hid ((nl.take (k + 1)).map (·.name) = (nl.take k).map (·.name) ++ [(nl.getD k default).name]) := names_snoc_map nl k (by omega)
        have hlen : ((nl.take k).map (·.name)).length ≤ 1048576 := by rw [List.length_map, List.length_take]; omega
        have ZZ : Hid (w2.heap.size ≤ wr.heap.size) := HBB.out.size
        clear hS hb hg
        generalize (nl.getD k default).name = xn at *
        generalize (nl.getD k default).id = xi at *
        generalize hTT : (nl.take k).map (·.name) = TT at *
        go_upto_region 8 with fail
        have kZ := Blk.new wr #[.string xn, .int .i64 xi] 64
        have hV : Strs (wr.alloc (.cells #[.string xn, .int .i64 xi] 64)) w2.heap.size u4 TT := HS.out.alloc _
        have BY : Hid (Below w2.heap.size w2 (wr.alloc (.cells #[.string xn, .int .i64 xi] 64))) := HBB.out.alloc ZZ.out _
        generalize wr.alloc (.cells #[.string xn, .int .i64 xi] 64) = Y at *
        have z0 := kZ.cell 0 _ rfl
        have hsz : w2.heap.size ≤ Y.heap.size := BY.out.size
        clear kZ hc0 hc1
        generalize wr.heap.size = pz at *
        go_wp2_with (at_builtin; refine wpList_append_str (w := Y) rfl (.tmp 21) (.tmp 24) 41 rfl Try.underlying41 Try.infoStr w2.heap.size u4 TT (by rfl) hV xn (by rfl) (by omega) hsz ?_; intro v' w5 S5 hb5)
        go_roundw
        case rel => exact ⟨k + 1, by omega, by go_num, by rw [HSN.out]; exact S5, BY.out.trans hb5⟩
        case measure => simp [intOf]; omega
      · obtain rfl : k = N := by omega
        clear hS hb
        go_wp2_with fail
        go_ret
        refine ⟨_, rfl, ?_, B2.out.trans (HBB.out.mono B2.out.size)⟩
        have := HS.out
        rw [← hN, List.take_length] at this
        rw [HR.out]
        exact this.mono B2.out.size
end Go.Proofs.Ytljpakpokjpemaa
