/- StrEq RowAid DkList KeMath KdUF DkNew CrImpl ImOk -/
import Derived.Test.YtgjilgecklhglaaGreatRows
import Derived.Test.YtgjilgecklhglaaGreatQn4
import Derived.WalkKit
import Derived.ProofKit
import Derived.OpenShut
import Derived.Below
import Derived.WalkSmall
import Derived.WalkLawsBesides
import Derived.Outline
import Derived.BigQuiet
import Derived.Deep.QuietTactic
import Derived.Deep.RegionWith
import Derived.Lib.OwnKind
import Derived.Test.YtgjilgecklhglaaGreatQn5
import Derived.Deep.Cut
import Derived.Test.YtgjilgecklhglaaGreatQn9
import Derived.Test.YtgjilgecklhglaaGreatQt0
import Derived.Test.YtgjilgecklhglaaGreatQt1
import Derived.Test.YtgjilgecklhglaaGreatQt2
import Derived.Test.YtgjilgecklhglaaGreatQt3
import Derived.Test.YtgjilgecklhglaaGreatQt4
import Derived.Test.YtgjilgecklhglaaGreatQt5
import Derived.Test.YtgjilgecklhglaaGreatQt6
import Derived.Test.YtgjilgecklhglaaGreatQt7
import Derived.Test.YtgjilgecklhglaaGreatQt8
import Derived.Test.YtgjilgecklhglaaGreatQt9
import Derived.Test.YtgjilgecklhglaaGreatQt10
import Derived.Test.YtgjilgecklhglaaGreatQt11
import Derived.Test.YtgjilgecklhglaaGreatQt12
open List (setIfInBounds_toArray set_cons_zero set_cons_succ)
namespace Go.Proofs.YtgjilgecklhglaaGreat
open Go.ChangeShapes Go.WideShapes Go.ChangeAt Go.RowKit Go.PlainAid
set_option linter.unusedVariables false
end Go.Proofs.YtgjilgecklhglaaGreat
namespace Go.Proofs.YtgjilgecklhglaaGreat
open Go.RowKit Go.PlainAid
theorem Strs.look {w : World} {base : Nat} {v : Value} {l : List ByteArray} (h : Strs w base v l) : ∃ A ca, v = .slice A l.length ca ∧ ∀ j (hj : j < l.length), ∃ g, A = some ⟨g, 0, none⟩ ∧ w.cell? ⟨g, j, none⟩ = some (.string l[j]) := by
 rcases h.form with ⟨rfl, rfl⟩ | ⟨g, cap, rfl, _⟩
 ·exact ⟨none, 0, rfl, fun j hj => by simp at hj⟩
 ·exact ⟨_, cap, rfl, fun j hj => ⟨g, rfl, h.cell j hj⟩⟩
def intCells (l : List Nat) : List Value := l.map fun (n : Nat) => Value.int .i64 (n : Int)
def Ints (w : World) (base : Nat) (v : Value) (l : List Nat) : Prop := w.ownsRow base 3 1 v l.length (intCells l)
theorem Ints.one (w : World) (base n : Nat) (hb : base ≤ w.heap.size) : Ints (w.alloc (.cells #[.int .i64 (n : Int)] 3)) base (.slice (some ⟨w.heap.size, 0, none⟩) 1 1) [n] :=
 World.ownsRow_lit w #[.int .i64 (n : Int)] 1 hb (by unfold maxLen; omega) rfl
theorem Ints.kept {w w' : World} {base : Nat} {v : Value} {l : List Nat} (h : Ints w base v l) (hk : ∀ g, g < w.heap.size → v.ownBlock = some g → w'.heap[g]? = w.heap[g]?) : Ints w' base v l := by
 have hl := World.ownsRow.lt h
 refine ⟨h.1, h.2.imp id ?_⟩
 rintro ⟨g, cap, cur, rfl, hg, hh, r⟩
 refine ⟨g, cap, cur, rfl, hg, ?_, r⟩
 rw [hk g (hl g rfl).2 rfl]
 exact hh
theorem Ints.on {w w' : World} {base : Nat} {v : Value} {l : List Nat} (h : Ints w base v l) (hb : Below w.heap.size w w') : Ints w' base v l := h.kept fun g hg _ => hb.block g hg
theorem Ints.alloc {w : World} {base : Nat} {v : Value} {l : List Nat} (h : Ints w base v l) (o : Obj) : Ints (w.alloc o) base v l := World.ownsRow.alloc h o
theorem Ints.look {w : World} {base : Nat} {v : Value} {l : List Nat} (h : Ints w base v l) : ∃ A ca, v = .slice A l.length ca ∧ ∀ j (hj : j < l.length), ∃ g, A = some ⟨g, 0, none⟩ ∧ w.cell? ⟨g, j, none⟩ = some (.int .i64 (l[j] : Int)) := by
 rcases h.2 with ⟨rfl, h0⟩ | ⟨g, cap, cur, rfl, r⟩
 ·exact ⟨none, 0, by rw [h0], fun j hj => by omega⟩
 ·refine ⟨_, cap, rfl, fun j hj => ⟨g, rfl, ?_⟩⟩
  have ho : w.ownsRow base 3 1 (.slice (some ⟨g, 0, none⟩) l.length cap) l.length (intCells l) := ⟨h.1, .inr ⟨g, cap, cur, rfl, r⟩⟩
  rw [World.ownsRow.cellAt ho j (by omega)]
  simp [intCells, hj]
theorem wpList_append_str2 {P : Program} {w : World} {ops : Array Oper} {rest : List Oper} {o : Oper} {a : Act} {Q : Exit → Act → World → Prop} (hgd : o.guard = none) (s x : Operand) (t : TypeId)
  (ho : o.op = .call { callee := .builtin .append, args := #[s, x], argTypes := #[t, t] })
  (ht : P.underlying t = some (.slice 9)) (hinfo : (P.info? 9).map (fun i => (i.zero, i.size, i.bytes)) = some (some (.string ⟨#[]⟩), 1, 16))
  (base : Nat) (v : Value) (l : List ByteArray) (hs : a.eval s = v) (hown : Strs w base v l) (b : ByteArray)
  (hx : a.eval x = .slice (some ⟨w.heap.size, 0, none⟩) 1 1) (hlen : l.length ≤ 2097152) (hbase : base ≤ w.heap.size)
  (h : ∀ v' w', Strs w' base v' (l ++ [b]) → Below base w w' → (∀ g, g < w.heap.size → v.ownBlock ≠ some g → w'.heap[g]? = w.heap[g]?) → wpList P ops Q rest (a.put o.dst v') w') : wpList P ops Q (o :: rest) a (w.alloc (.cells #[.string b] 9)) := by
 obtain ⟨i0, hi, hz0, hz1, hz2⟩ := info_parts hinfo
 refine wpList_append_own (w := w.alloc (.cells #[.string b] 9)) hgd s x t ho base 9 i0 (.string ⟨#[]⟩) 1 16 ht hi hz0 hz1 hz2 rfl (by decide) v l.length (strCells l) hs (hown.alloc _) ⟨w.heap.size, 0, none⟩ 1 1 [.string b] hx rfl ?_ ?_ ?_ ?_ ?_ ?_
 ·intro j u hj
  have e : (⟨w.heap.size, 0, none⟩ : Addr).add j = ⟨w.heap.size, j, none⟩ := by cases j <;> simp [Addr.add]
  rw [e, World.cell?_alloc_mark]
  simpa using hj
 ·intro u hu
  simp at hu
  subst hu
  rfl
 ·unfold maxLen; omega
 ·omega
 ·simp; omega
 ·intro v' w' h1 h2 _
  have hb0 : ∀ k, v.ownBlock = some k → base ≤ k := fun k hk => (World.ownsRow.lt hown k hk).1
  refine h v' w' ?_ ?_ ?_
  ·unfold Strs
   rw [List.length_append, strCells, List.map_append]
   exact h1
  ·exact ((Below.refl base w).alloc hbase _).grown h2 (by simp; omega) hb0
  ·intro g hg hne
   rw [h2.block g (by simp; omega) (fun e => hne e.symm)]
   exact Below.heap_alloc w _ g hg
end Go.Proofs.YtgjilgecklhglaaGreat
namespace Go.Proofs.YtgjilgecklhglaaGreat
open Go.ChangeShapes Go.WideShapes Go.ChangeAt Go.RowKit Go.PlainAid
set_option linter.unusedVariables false
theorem Tryz.infoStr : (Tryz.prog.info? 9).map (fun i => (i.zero, i.size, i.bytes)) = some (some (.string ⟨#[]⟩), 1, 16) := by kernel_rfl
theorem strs_apart {w : World} {b b' : Nat} {e : TypeId} {sz : Nat} {v u : Value} {l : List ByteArray} {R : List (List Value)} (h : Strs w b v l) (k : Owns w b' e sz u R) (hne : e ≠ 9) (g : Nat) (hg : u.ownBlock = some g) : v.ownBlock ≠ some g := by
 intro hu
 obtain ⟨c, fz, e1⟩ := Lib.ownsRow_kind h g hu
 obtain ⟨c', fz', e2⟩ := Lib.ownsRow_kind k.2 g hg
 rw [e1] at e2
 cases e2
 exact hne rfl
def listR (d : Dsk) : List ByteArray := if diskOk d = false then [] else (now d).map (·.name)
theorem listR_no {d : Dsk} (h : diskOk d = false) : listR d = [] := by unfold listR; rw [if_pos h]
theorem listR_yes {d : Dsk} (h : diskOk d = true) : listR d = (now d).map (·.name) := by unfold listR; rw [if_neg (by rw [h]; simp)]
theorem names_snoc_map (l : List Lnk) (k : Nat) (h : k < l.length) : (l.take (k + 1)).map (·.name) = (l.take k).map (·.name) ++ [(l.getD k default).name] := by
 rw [take_getD l k h, List.map_append]
 rfl
set_option maxRecDepth 20000 in
set_option maxHeartbeats 2000000 in
theorem specListV (d : Dsk) (v : Value) (w : World) (B : Nat) (hv : DiskV w B v d) (hf : Fits d) (hw : wtD d ≤ 1048576) (hB : B ≤ w.heap.size) :
  Calls Tryz.prog 22 #[v] w fun e w' => ∃ u, e = .returned u ∧ Strs w' w.heap.size u (listR d) ∧ Below w.heap.size w w' := by
 have HV : Hid (DiskV w B v d) := hv
 have HF : Hid (Fits d) := hf
 have HB : Hid (B ≤ w.heap.size) := hB
 have HW : Hid (wtD d ≤ 1048576) := hw
 obtain ⟨v1, v2, v3, rfl, h1, h2, h3⟩ := hv
 obtain ⟨A3, c3, rfl, _⟩ := mov_look h3
 clear h1 h2 h3 hf hB hw
 go_enter Tryz.func22, Tryz.ntmps22
 go_wp2_with fail
 have hb0 : Below w.heap.size w ((w.alloc (.cells #[.int .i64 d.room, .int .i64 d.next, v1, v2, .slice A3 d.movs.length c3] 28)).alloc (.cells #[] 9)) := below_alloc2' w _ _
 have k0 := (Blk.new w #[.int .i64 d.room, .int .i64 d.next, v1, v2, .slice A3 d.movs.length c3] 28).alloc (.cells #[] 9)
 have s0 := Strs.empty (w.alloc (.cells #[.int .i64 d.room, .int .i64 d.next, v1, v2, .slice A3 d.movs.length c3] 28)) (w.heap.size + 1) (by simp)
 simp only [World.size_alloc] at s0
 generalize (w.alloc (.cells #[.int .i64 d.room, .int .i64 d.next, v1, v2, .slice A3 d.movs.length c3] 28)).alloc (.cells #[] 9) = W at *
 have B0 : Hid (Below w.heap.size w W) := hb0
 have K0 : Hid (Blk W w.heap.size #[.int .i64 d.room, .int .i64 d.next, v1, v2, .slice A3 d.movs.length c3] 28) := k0
 have S0 : Hid (Strs W (w.heap.size + 1) (.slice (some ⟨w.heap.size + 1, 0, none⟩) 0 0) []) := s0
 clear hb0 k0 s0
 refine (specOkV d _ W B (HV.out.on (B0.out.mono HB.out)) HF.out HW.out (Nat.le_trans HB.out B0.out.size)).mono ?_
 rintro e w1 ⟨rfl, hb1⟩
 have B1 : Hid (Below w.heap.size w w1) := B0.out.trans (hb1.mono B0.out.size)
 have K1 : Hid (Blk w1 w.heap.size #[.int .i64 d.room, .int .i64 d.next, v1, v2, .slice A3 d.movs.length c3] 28) := K0.out.on hb1 K0.out.lt
 have S1 : Hid (Strs w1 (w.heap.size + 1) (.slice (some ⟨w.heap.size + 1, 0, none⟩) 0 0) []) := S0.out.on hb1
 clear hb1 K0 S0
 cases hok : diskOk d with
 | false =>
  have HR : Hid (listR d = []) := listR_no hok
  go_wp2_with fail
  go_ret
  exact ⟨_, rfl, by rw [HR.out]; exact S1.out.mono (Nat.le_succ _), B1.out⟩
 | true =>
  have hR := (sizeOk_iff d).1 ((whole_iff d).1 hok).size
  have HR : Hid (listR d = (now d).map (·.name)) := listR_yes hok
  have HT : Hid (d.movs.take (d.movs.length : Int).toNat = d.movs) := List.take_length
  have q1 : (d.movs.length : Int) ≤ 20 := by have := hR.m; omega
  have HNL : Hid ((now d).length ≤ 30) := by unfold Hid; have := now_len d; have := hR.l; have := hR.m; omega
  have cN := namesV d (.agg #[.int .i64 d.room, .int .i64 d.next, v1, v2, .slice A3 d.movs.length c3]) (d.movs.length : Int) w1 B (HV.out.on (B1.out.mono HB.out)) HF.out (by have := hR.l; have := hR.m; omega) (Nat.le_trans HB.out B1.out.size)
  rw [HT.out] at cN
  have y0 := K1.out.cell 0 _ rfl
  have y1 := K1.out.cell 1 _ rfl
  have y2 := K1.out.cell 2 _ rfl
  have y3 := K1.out.cell 3 _ rfl
  have y4 := K1.out.cell 4 _ rfl
  clear hR hok
  go_wp2_with fail
  refine cN.mono ?_
  rintro e w2 ⟨u, rfl, hO, hb2⟩
  have hO' : Owns w2 w1.heap.size 49 2 u (lnkR (now d)) := hO
  have B2 : Hid (Below w.heap.size w w2) := B1.out.trans (hb2.mono B1.out.size)
  have S2 : Hid (Strs w2 (w.heap.size + 1) (.slice (some ⟨w.heap.size + 1, 0, none⟩) 0 0) []) := S1.out.on hb2
  have O2 : Hid (Owns w2 w1.heap.size 49 2 u (lnkR (now d))) := hO'
  have K2 : Hid (w.heap.size < w2.heap.size) := (K1.out.on hb2 K1.out.lt).lt
  have Z12 : Hid (w1.heap.size ≤ w2.heap.size) := hb2.size
  have ZL : Hid (w.heap.size + 1 < w1.heap.size) := by
   rcases S1.out.form with ⟨e, _⟩ | ⟨g, cap, e, _, hg⟩
   ·cases e
   ·cases e; exact hg
  obtain ⟨A, cap, rfl, hlk⟩ := lnk_look hO'.lies
  have HK : Hid (∀ j, j < (now d).length → ∃ g off, A = some ⟨g, off, none⟩ ∧ g < w2.heap.size ∧ _) := hlk
  clear cN hO hO' hlk hb2 y0 y1 y2 y3 y4 K1 S1
  generalize hnn : now d = nl at *
  have q2 : (nl.length : Int) ≤ 30 := by have := HNL.out; omega
  generalize hN : nl.length = N at *
  go_wp2_with fail
  go_loopw [3, 5] (fun v3 v5 wr => ∃ k : Nat, k ≤ N ∧ v5 = .int .i64 (k : Int) ∧ Strs wr (w.heap.size + 1) v3 ((nl.take k).map (·.name)) ∧ Owns wr w1.heap.size 49 2 (.slice A N cap) (lnkR nl) ∧ Below w.heap.size w wr ∧ w1.heap.size ≤ wr.heap.size) (fun _ i _ => N - (intOf i).toNat)
  case atStart => exact ⟨0, by omega, rfl, S2.out, O2.out, B2.out, Z12.out⟩
  case round =>
   obtain ⟨k, hk, rfl, hS, hL, hb, hz⟩ := hrel
   have HS : Hid (Strs wr (w.heap.size + 1) u3 ((nl.take k).map (·.name))) := hS
   have HBB : Hid (Below w.heap.size w wr) := hb
   have HLL : Hid (Owns wr w1.heap.size 49 2 (.slice A N cap) (lnkR nl)) := hL
   have HZ : Hid (w1.heap.size ≤ wr.heap.size) := hz
   by_cases hlt : k < N
   ·have q4 : (k : Int) < (N : Int) := by omega
    obtain ⟨A', cap', e', hlk⟩ := lnk_look hL.lies
    cases e'
    obtain ⟨g, off, rfl, hg, hc0, hc1⟩ := hlk k (by omega)
    have HSN : Hid ((nl.take (k + 1)).map (·.name) = (nl.take k).map (·.name) ++ [(nl.getD k default).name]) := names_snoc_map nl k (by omega)
    have hlen : ((nl.take k).map (·.name)).length ≤ 1048576 := by rw [List.length_map, List.length_take]; omega
    have hsz : w.heap.size + 1 ≤ wr.heap.size := by have := ZL.out; have := HZ.out; omega
    have HAP : Hid (∀ g', (Value.slice (some ⟨g, off, none⟩) nl.length cap).ownBlock = some g' → u3.ownBlock ≠ some g') := fun g' hg' => strs_apart hS hL (by decide) g' hg'
    have HGL : Hid (∀ g', (Value.slice (some ⟨g, off, none⟩) nl.length cap).ownBlock = some g' → g' < wr.heap.size) := fun g' hg' => (hL.lt g' hg').2
    clear hS hL hb hz hlk hc1
    generalize (nl.getD k default).name = xn at *
    generalize hTT : (nl.take k).map (·.name) = TT at *
    have hV := HS.out
    go_wp2_with (at_builtin; refine wpList_append_str2 rfl (.tmp 22) (.tmp 28) 52 rfl Tryz.underlying52 Tryz.infoStr (w.heap.size + 1) _ TT rfl hV xn rfl (by omega) hsz ?_; intro v' w5 S5 hb5 hk5)
    go_roundw
    case rel => exact ⟨k + 1, by omega, by go_num, by rw [HSN.out]; exact S5, HLL.out.kept (fun g' hg' ho => hk5 g' (HGL.out g' ho) (HAP.out g' ho)), HBB.out.trans (hb5.mono (Nat.le_succ _)), Nat.le_trans HZ.out hb5.size⟩
    case measure => simp [intOf]; omega
   ·obtain rfl : k = N := by omega
    clear hS hL hb hz
    go_wp2_with fail
    go_ret
    refine ⟨_, rfl, ?_, HBB.out⟩
    have := HS.out
    rw [← hN, List.take_length] at this
    rw [HR.out]
    exact this.mono (Nat.le_succ _)
set_option maxRecDepth 20000 in
set_option maxHeartbeats 2000000 in
theorem implListV (d : Dsk) (v : Value) (w : World) (B : Nat) (hv : DiskV w B v d) (hf : Fits d) (hi : IntsOk d) (hw : wtD d ≤ 1048576) (hB : B ≤ w.heap.size) :
  Calls Tryz.prog 21 #[v] w fun e w' => ∃ u, e = .returned u ∧ Strs w' w.heap.size u (listR d) ∧ Below w.heap.size w w' := by
 have HV : Hid (DiskV w B v d) := hv
 have HB : Hid (B ≤ w.heap.size) := hB
 obtain ⟨v1, v2, v3, rfl, h1, h2, h3⟩ := hv
 have cO := fun wx hx hb => openedV d (.agg #[.int .i64 d.room, .int .i64 d.next, v1, v2, v3]) wx B hx hf hi hw hb
 clear h1 h2 h3 hB hf hi hw
 go_enter Tryz.func21, Tryz.ntmps21
 go_wp2_with fail
 have hb0 : Below w.heap.size w (w.alloc (.cells #[.int .i64 d.room, .int .i64 d.next, v1, v2, v3] 28)) := (Below.refl _ _).alloc (Nat.le_refl _) _
 generalize w.alloc (.cells #[.int .i64 d.room, .int .i64 d.next, v1, v2, v3] 28) = W at *
 have B0 : Hid (Below w.heap.size w W) := hb0
 clear hb0
 refine (cO W (HV.out.on (B0.out.mono HB.out)) (Nat.le_trans HB.out B0.out.size)).mono ?_
 rintro e w1 ⟨hb, h⟩
 have B1 : Hid (Below w.heap.size w w1) := B0.out.trans (hb.mono B0.out.size)
 clear hb cO
 rcases h with ⟨hn, rfl⟩ | ⟨hy, p, bi, bd, bw, gs, u, rfl, hO⟩
 ·have HR : Hid (listR d = []) := listR_no hn
  clear hn
  go_wp2_with fail
  go_ret
  exact ⟨_, rfl, by rw [HR.out]; exact Strs.nil _ _, B1.out⟩
 ·have hwh := (whole_iff d).1 hy
  have hlk := now_linked hwh
  have hR := (sizeOk_iff d).1 hwh.size
  have HR : Hid (listR d = (now d).map (·.name)) := listR_yes hy
  have HNL : Hid ((now d).length ≤ 30) := by unfold Hid; have := now_len d; have := hR.l; have := hR.m; omega
  have cT := toldN w1 bw (now d) hO.nw hlk.sorted hlk.ok (by have := HNL.out; omega)
  have y5 := hO.blk.cell 5 _ rfl
  clear hy hO hwh hR hlk
  go_wp2_with fail
  refine cT.mono ?_
  rintro e w2 ⟨x, rfl, hL, hb2⟩
  have B2 : Hid (Below w.heap.size w w2) := B1.out.trans (hb2.mono B1.out.size)
  obtain ⟨A, cap, rfl, hlk⟩ := lnk_look hL.lies
  have HK : Hid (∀ j, j < (now d).length → ∃ g off, A = some ⟨g, off, none⟩ ∧ g < w2.heap.size ∧ _) := hlk
  clear cT hL hlk hb2 y5
  generalize hnn : now d = nl at *
  have q2 : (nl.length : Int) ≤ 30 := by have := HNL.out; omega
  generalize hN : nl.length = N at *
  go_wp2_with fail
  go_loopw [4, 17] (fun v4 v17 wr => ∃ k : Nat, k ≤ N ∧ v17 = .int .i64 (k : Int) ∧ Strs wr w2.heap.size v4 ((nl.take k).map (·.name)) ∧ Below w2.heap.size w2 wr) (fun _ i _ => N - (intOf i).toNat)
  case atStart => exact ⟨0, by omega, rfl, Strs.nil _ _, Below.refl _ _⟩
  case round =>
   obtain ⟨k, hk, rfl, hS, hb⟩ := hrel
   have HS : Hid (Strs wr w2.heap.size u4 ((nl.take k).map (·.name))) := hS
   have HBB : Hid (Below w2.heap.size w2 wr) := hb
   by_cases hlt : k < N
   ·have q4 : (k : Int) < (N : Int) := by omega
    obtain ⟨g, off, rfl, hg, hc0, hc1⟩ := HK.out k hlt
    rw [← HBB.out.cell (p := ⟨_, _, none⟩) hg] at hc0 hc1
    have HSN : Hid ((nl.take (k + 1)).map (·.name) = (nl.take k).map (·.name) ++ [(nl.getD k default).name]) := names_snoc_map nl k (by omega)
    have hlen : ((nl.take k).map (·.name)).length ≤ 1048576 := by rw [List.length_map, List.length_take]; omega
    have ZZ : Hid (w2.heap.size ≤ wr.heap.size) := HBB.out.size
    clear hS hb hg
    generalize (nl.getD k default).name = xn at *
    generalize (nl.getD k default).id = xi at *
    generalize hTT : (nl.take k).map (·.name) = TT at *
    go_upto_region 8 with fail
    have kZ := Blk.new wr #[.string xn, .int .i64 xi] 49
    have hV : Strs (wr.alloc (.cells #[.string xn, .int .i64 xi] 49)) w2.heap.size u4 TT := HS.out.alloc _
    have BY : Hid (Below w2.heap.size w2 (wr.alloc (.cells #[.string xn, .int .i64 xi] 49))) := HBB.out.alloc ZZ.out _
    generalize wr.alloc (.cells #[.string xn, .int .i64 xi] 49) = Y at *
    have z0 := kZ.cell 0 _ rfl
    have hsz : w2.heap.size ≤ Y.heap.size := BY.out.size
    clear kZ hc0 hc1
    generalize wr.heap.size = pz at *
    go_wp2_with (at_builtin; refine wpList_append_str (w := Y) rfl (.tmp 21) (.tmp 24) 52 rfl Tryz.underlying52 Tryz.infoStr w2.heap.size u4 TT (by rfl) hV xn (by rfl) (by omega) hsz ?_; intro v' w5 S5 hb5)
    go_roundw
    case rel => exact ⟨k + 1, by omega, by go_num, by rw [HSN.out]; exact S5, BY.out.trans hb5⟩
    case measure => simp [intOf]; omega
   ·obtain rfl : k = N := by omega
    clear hS hb
    go_wp2_with fail
    go_ret
    refine ⟨_, rfl, ?_, B2.out.trans (HBB.out.mono B2.out.size)⟩
    have := HS.out
    rw [← hN, List.take_length] at this
    rw [HR.out]
    exact this.mono B2.out.size
end Go.Proofs.YtgjilgecklhglaaGreat
namespace Go.Proofs.YtgjilgecklhglaaGreat
open Go.RowKit Go.PlainAid
set_option linter.unusedVariables false
def keepQ (d : Dsk) (n : Nat) (x : Nod) : Bool := linked d.dir x.id || made (d.movs.take n) x.id
def yD (d : Dsk) (n : Nat) : Dsk := ⟨d.room, d.next, d.nods.filter (keepQ d n), d.dir, d.movs.take n⟩
theorem mem_take_of {α : Type} {l : List α} {n : Nat} {x : α} (h : x ∈ l.take n) : x ∈ l := List.mem_of_mem_take h
theorem RD.firsts {d : Dsk} (h : RD d) (n : Nat) : RD (yD d n) := by
 have hin : ∀ y ∈ d.nods, (linked d.dir y.id = true ∨ made (d.movs.take n) y.id = true) → y ∈ (yD d n).nods := fun y hy hk => by
  show y ∈ d.nods.filter (keepQ d n)
  exact List.mem_filter.2 ⟨hy, by unfold keepQ; rw [Bool.or_eq_true]; exact hk⟩
 have hout : ∀ y ∈ (yD d n).nods, y ∈ d.nods ∧ (linked d.dir y.id = true ∨ made (d.movs.take n) y.id = true) := fun y hy => by
  have := List.mem_filter.1 (show y ∈ d.nods.filter (keepQ d n) from hy)
  exact ⟨this.1, by have h2 := this.2; unfold keepQ at h2; rwa [Bool.or_eq_true] at h2⟩
 have hfit := h.mfit
 rw [← List.take_append_drop n d.movs, FitM.cat] at hfit
 have hb := bytes_filter (keepQ d n) d.nods
 have hl := List.length_filter_le (keepQ d n) d.nods
 have ht := List.length_take_le n d.movs
 exact {
  sz := ⟨h.sz.r0, h.sz.r1, h.sz.x0, h.sz.x1, by show (d.nods.filter (keepQ d n)).length ≤ 10; have := h.sz.n; omega, by show (d.movs.take n).length ≤ 20; have := h.sz.m; rw [List.length_take]; omega, h.sz.l, by show (bytesOf (d.nods.filter (keepQ d n)) : Int) ≤ d.room; have := h.sz.b; omega⟩
  nid := fun x hx => h.nid x (hout x hx).1
  rise := List.Pairwise.filter _ h.rise
  own := fun x hx => (hout x hx).2
  dok := h.dok
  sorted := h.sorted
  dnod := fun x hx => by
   obtain ⟨y, hy, e⟩ := h.dnod x hx
   exact ⟨y, hin y hy (.inl ((linked_iff _ _).2 ⟨x, hx, e.symm⟩)), e⟩
  duniq := h.duniq
  mfit := hfit.1
  mnod := fun m hm hk => by
   obtain ⟨⟨y, hy, e⟩, h2⟩ := h.mnod m (mem_take_of hm) hk
   exact ⟨⟨y, hin y hy (.inr ((made_iff _ _).2 ⟨m, hm, hk, e.symm⟩)), e⟩, h2⟩
  muniq := h.muniq.sublist (List.take_sublist n d.movs) }
theorem firsts_bytes (d : Dsk) (n : Nat) : bytesOf (yD d n).nods ≤ bytesOf d.nods := bytes_filter (keepQ d n) d.nods
theorem crash_now (d : Dsk) (keep : Int) (cuts : List Int) : now (crashD d keep cuts) = crashL d keep := rfl
theorem take_same (d : Dsk) (keep : Int) (n : Nat) (h : n = min keep.toNat d.movs.length) : d.movs.take keep.toNat = d.movs.take n := by
 subst h
 by_cases hk : keep.toNat ≤ d.movs.length
 ·rw [Nat.min_eq_left hk]
 ·rw [Nat.min_eq_right (by omega), List.take_of_length_le (by omega), List.take_of_length_le (by omega)]
theorem firsts_now (d : Dsk) (keep : Int) (n : Nat) (h : n = min keep.toNat d.movs.length) : now (yD d n) = crashL d keep := by
 show names d.dir (d.movs.take n) = names d.dir (d.movs.take keep.toNat)
 rw [take_same d keep n h]
def namesL (d : Dsk) (keep : Int) : List ByteArray := (crashL d keep).map (·.name)
theorem list_crash {d : Dsk} (h : RD d) (keep : Int) (cuts : List Int) : listR (crashD d keep cuts) = namesL d keep := by
 unfold listR
 rw [if_neg (by rw [RD.iff.2 (h.crash keep cuts)]; decide)]
 rfl
theorem list_firsts {d : Dsk} (h : RD d) (keep : Int) (n : Nat) (hn : n = min keep.toNat d.movs.length) : listR (yD d n) = namesL d keep := by
 unfold listR
 rw [if_neg (by rw [RD.iff.2 (h.firsts n)]; decide), firsts_now d keep n hn]
 rfl
theorem load_back {d : Dsk} (h : RD d) (keep : Int) (cuts : List Int) (n : Nat) (hn : n = min keep.toNat d.movs.length) {name : ByteArray} (hm : name ∈ namesL d keep) :
  ∃ p q, loadR (crashD d keep cuts) name = (p, true) ∧ loadR (yD d n) name = (q, true) ∧ p.size ≤ q.size ∧ q.extract 0 p.size = p ∧ q.size ≤ bytesOf d.nods := by
 obtain ⟨x, hx, hxn⟩ := List.mem_map.1 (show name ∈ (crashL d keep).map (·.name) from hm)
 have hc := h.crash keep cuts
 have hy := h.firsts n
 obtain ⟨z, hz, ez⟩ := hc.linksN.ids x (by rw [crash_now]; exact hx)
 obtain ⟨y, hy1, ey⟩ := hy.linksN.ids x (by rw [firsts_now d keep n hn]; exact hx)
 have hyd : y ∈ d.nods := (List.mem_filter.1 (show y ∈ d.nods.filter (keepQ d n) from hy1)).1
 have hzc : z ∈ cutL cuts d.nods := (List.mem_filter.1 (show z ∈ (cutL cuts d.nods).filter (fun x => linked (crashL d keep) x.id) from hz)).1
 obtain ⟨i, hi, ei⟩ := List.mem_iff_getElem.1 hzc
 have hl : (cutL cuts d.nods).length = d.nods.length := mixN_length cuts d.nods _
 have hi2 : i < d.nods.length := by omega
 rw [cutL_at cuts d.nods i hi hi2] at ei
 have hid : d.nods[i].id = y.id := by
  have : z.id = d.nods[i].id := by rw [← ei]; rfl
  omega
 have hyi : d.nods[i] = y := rising_one h.rise (List.getElem_mem hi2) hyd hid
 have l1 : Leads (crashD d keep cuts) name z := ⟨x, by rw [crash_now]; exact hx, hxn, hz, ez⟩
 have l2 : Leads (yD d n) name y := ⟨x, by rw [firsts_now d keep n hn]; exact hx, hxn, hy1, ey⟩
 have hs := (h.nid y hyd).2
 have hcs := cutS_in (n := y.data.size) (more := cuts.getD i 0) hs.1 hs.2
 have hd : z.data = y.data.extract 0 (cutS y.data.size y.sure (cuts.getD i 0)).toNat := by rw [← ei, hyi]; rfl
 have hsz : z.data.size = (cutS y.data.size y.sure (cuts.getD i 0)).toNat := by rw [hd, ByteArray.size_extract]; omega
 exact ⟨z.data, y.data, l1.load hc, l2.load hy, by omega, by rw [hsz]; exact hd.symm, bytes_mem _ y hyd⟩
theorem names_few {d : Dsk} (h : RD d) (keep : Int) (cuts : List Int) : (namesL d keep).length ≤ 10 ∧ ∀ s ∈ namesL d keep, s.size ≤ 12 := by
 have hc := h.crash keep cuts
 refine ⟨?_, fun s hs => ?_⟩
 ·unfold namesL
  rw [List.length_map]
  exact hc.sz.l
 ·obtain ⟨x, hx, e⟩ := List.mem_map.1 (show s ∈ (crashL d keep).map (·.name) from hs)
  rw [← e]
  exact (nameOk_size (hc.dok x hx)).2
theorem filter_snoc (d : Dsk) (n k : Nat) (hk : k < d.nods.length) : (d.nods.take (k + 1)).filter (keepQ d n) = (d.nods.take k).filter (keepQ d n) ++ (if keepQ d n d.nods[k] then [d.nods[k]] else []) := by
 rw [List.take_succ_eq_append_getElem hk, List.filter_append]
 congr 1
 by_cases h : keepQ d n d.nods[k] = true
 ·rw [if_pos h, List.filter_cons_of_pos h]; rfl
 ·rw [if_neg h, List.filter_cons_of_neg h]; rfl
theorem linked_take (l : List Lnk) (id : Int) (k : Nat) (hk : k < l.length) : linked (l.take (k + 1)) id = (linked (l.take k) id || decide (l[k].id = id)) := by
 unfold linked
 rw [List.take_succ_eq_append_getElem hk, List.any_append]
 simp
theorem made_take (l : List Mov) (id : Int) (k : Nat) (hk : k < l.length) : made (l.take (k + 1)) id = (made (l.take k) id || (decide (l[k].kind = 1) && decide (l[k].id = id))) := by
 unfold made
 rw [List.take_succ_eq_append_getElem hk, List.any_append]
 simp
theorem linked_takeD (l : List Lnk) (id : Int) (k : Nat) (hk : k < l.length) : linked (l.take (k + 1)) id = (linked (l.take k) id || ((l.getD k default).id == id)) := by
 rw [linked_take l id k hk, getE _ _ hk]
 congr 1
theorem made_takeD (l : List Mov) (id : Int) (k : Nat) (hk : k < l.length) : made (l.take (k + 1)) id = (made (l.take k) id || (((l.getD k default).kind == 1) && ((l.getD k default).id == id))) := by
 rw [made_take l id k hk, getE _ _ hk]
 congr 1
theorem filter_snocD (d : Dsk) (n k : Nat) (hk : k < d.nods.length) : (d.nods.take (k + 1)).filter (keepQ d n) = (d.nods.take k).filter (keepQ d n) ++ (if keepQ d n (d.nods.getD k default) then [d.nods.getD k default] else []) := by
 rw [getE _ _ hk]
 exact filter_snoc d n k hk
end Go.Proofs.YtgjilgecklhglaaGreat
namespace Go.Proofs.YtgjilgecklhglaaGreat
set_option linter.unusedVariables false
section
variable {P : Program} {Q : Exit → Act → World → Prop} {md : Region.Mode} {S : World → Prop} {T : Nat → Bool}
theorem sF {l : List Oper} (i : Nat) {oi : Oper} {rest : List Oper} {fuel : Nat} {listed : Array Bool} {a b : Act} {w : World} (h : wpUntil P md l.toArray Q S T fuel (listed.setIfInBounds i true) b w) (hd : l.drop i = oi :: rest := by rfl) (hB : pureB md l.toArray listed i = true := by kernel_rfl) (hw : Region.wanted oi (yielded l.toArray a.tmps) = false := by rfl) (hb : a.put oi.dst undef = b := by (try simp only [Act.put, zQ1, zQ2, zQ3]); exact rfl) (hQ : ∀ c a w, Q (.panic c) (a.put oi.dst undef) w → Q (.panic c) a w := by exact fun _ _ _ h => h) : wpUntil P md l.toArray Q S T (fuel + 1) listed a w := until_skip i hd hB hQ hw (hb ▸ h)
end
end Go.Proofs.YtgjilgecklhglaaGreat
namespace Go.Proofs.YtgjilgecklhglaaGreat
open Go.ChangeShapes Go.WideShapes Go.ChangeAt Go.RowKit Go.PlainAid
set_option linter.unusedVariables false
end Go.Proofs.YtgjilgecklhglaaGreat
namespace Go.Proofs.YtgjilgecklhglaaGreat
open Go.ChangeShapes Go.WideShapes Go.ChangeAt Go.RowKit Go.PlainAid
set_option linter.unusedVariables false
end Go.Proofs.YtgjilgecklhglaaGreat
namespace Go.Proofs.YtgjilgecklhglaaGreat
open Go.ChangeShapes Go.WideShapes Go.ChangeAt Go.RowKit Go.PlainAid Go.Maps
set_option linter.unusedVariables false
end Go.Proofs.YtgjilgecklhglaaGreat
