/- KdSpoil KdSome -/
import Derived.Test.YtgjilgecklhglaaGreatRows
import Derived.Test.YtgjilgecklhglaaGreatQt13
import Derived.Test.YtgjilgecklhglaaGreatQt6
import Derived.Test.YtgjilgecklhglaaGreatQt7
import Derived.Test.YtgjilgecklhglaaGreatQt4
import Derived.Test.YtgjilgecklhglaaGreatQt11
import Derived.Test.YtgjilgecklhglaaGreatQt1
import Derived.Lib.OwnKind
import Derived.Deep.Cut
import Derived.Deep.CutRange
import Derived.Deep.CutBlock
import Derived.Handy
import Derived.Test.YtgjilgecklhglaaGreatQt10
import Derived.Test.YtgjilgecklhglaaGreatQt8
import Derived.Test.YtgjilgecklhglaaGreatQt9
open List (setIfInBounds_toArray set_cons_zero set_cons_succ)
namespace Go.Proofs.YtgjilgecklhglaaGreat
open Go.ChangeShapes Go.WideShapes Go.ChangeAt Go.RowKit Go.PlainAid
set_option linter.unusedVariables false
theorem cell_alloc_d {w : World} {a : Addr} {x : Value} (h : w.cell? a = some x) (o : Obj) : (w.alloc o).cell? a = some x := by
 rw [((Below.refl w.heap.size w).alloc (Nat.le_refl _) o).cell (World.block_lt_of_cell? _ _ h)]
 exact h
theorem Owns.lenS {w : World} {base n c sz : Nat} {e : TypeId} {A : Option Addr} {R : List (List Value)} (h : Owns w base e sz (.slice A n c) R) : n = R.length := by
 rcases h.2.2 with ⟨e, h0⟩ | ⟨g, cap, cur, e, _⟩
 ·simp only [Value.slice.injEq] at e
  omega
 ·simp only [Value.slice.injEq] at e
  exact e.2.1
theorem Owns.len3 {w : World} {base n c : Nat} {A : Option Addr} {ns : List Nod} (h : Owns w base 47 3 (.slice A n c) (nodR ns)) : n = ns.length := by have := h.lenS; rwa [nodR_length] at this
theorem Owns.len4 {w : World} {base n c : Nat} {A : Option Addr} {ns : List Mov} (h : Owns w base 51 4 (.slice A n c) (movR ns)) : n = ns.length := by have := h.lenS; rwa [movR_length] at this
theorem Owns.blk {w : World} {base n c sz : Nat} {e : TypeId} {A : Option Addr} {R : List (List Value)} (h : Owns w base e sz (.slice A n c) R) (h0 : 0 < n) : ∃ g, A = some ⟨g, 0, none⟩ ∧ base ≤ g := by
 have hl := h.lenS
 rcases h.2.2 with ⟨e, h1⟩ | ⟨g, cap, cur, e, hg, _⟩
 ·omega
 ·simp only [Value.slice.injEq] at e
  exact ⟨g, e.1, hg⟩
theorem Owns.cells3 {w : World} {base n c g : Nat} {ns : List Nod} (h : Owns w base 47 3 (.slice (some ⟨g, 0, none⟩) n c) (nodR ns)) {k : Nat} (hk : k < ns.length) : w.cell? ⟨g, k * 3, none⟩ = some (.int .i64 (ns.getD k default).id) ∧ w.cell? ⟨g, k * 3 + 2, none⟩ = some (.int .i64 (ns.getD k default).sure) := by
 obtain ⟨A, cp, e, hl⟩ := nod_look h.lies
 obtain ⟨g2, off, e2, _, h0, _, h2⟩ := hl k hk
 cases e
 cases e2
 exact ⟨by simpa using h0, by simpa using h2⟩
theorem Owns.frz {w : World} {base n c g sz : Nat} {e : TypeId} {R : List (List Value)} (h : Owns w base e sz (.slice (some ⟨g, 0, none⟩) n c) R) (j : Nat) : w.frozen? ⟨g, j, none⟩ = false := by
 have hl := h.lenS
 subst hl
 exact World.ownsRow.frozenAt h.2 j
theorem Owns.parted {w : World} {base g n c sz sz' : Nat} {e e' : TypeId} {v : Value} {R R' : List (List Value)} (h : Owns w base e sz v R) (k : Owns w base e' sz' (.slice (some ⟨g, 0, none⟩) n c) R') (hne : e ≠ e') : v.ownBlock ≠ some g := fun hv => by
 obtain ⟨c1, f1, e1⟩ := Lib.ownsRow_kind h.2 g hv
 obtain ⟨c2, f2, e2⟩ := Lib.ownsRow_kind k.2 g rfl
 rw [e1] at e2
 cases e2
 exact hne rfl
theorem Owns.pokeId {w : World} {base g cap : Nat} {ns : List Nod} {j : Nat} (h : Owns w base 47 3 (.slice (some ⟨g, 0, none⟩) ns.length cap) (nodR ns)) (hj : j < ns.length) (s : Int) : Owns (w.setCell ⟨g, j * 3, none⟩ (.int .i64 s)) base 47 3 (.slice (some ⟨g, 0, none⟩) ns.length cap) (nodR (ns.set j ⟨s, (ns.getD j default).data, (ns.getD j default).sure⟩)) := by
 rw [nodR_set]
 exact (h.nodAt hj).pokeAt (nodR_length ns) hj 0 (by omega) (.int .i64 s)
theorem Owns.beside {w w' : World} {base sz sz' : Nat} {e e' : TypeId} {v v' : Value} {R R' : List (List Value)} (h : Owns w base e sz v R) (k : Owns w base e' sz' v' R') (hne : e ≠ e') (hk : ∀ i, i < w.heap.size → v'.ownBlock ≠ some i → w'.heap[i]? = w.heap[i]?) : Owns w' base e sz v R :=
 h.kept fun b hb hu => hk b (h.lt b hu).2 fun hv => by
  obtain ⟨c1, f1, e1⟩ := Lib.ownsRow_kind h.2 b hu
  obtain ⟨c2, f2, e2⟩ := Lib.ownsRow_kind k.2 b hv
  rw [e1] at e2
  cases e2
  exact hne rfl
theorem nodR_app {w : World} {base : Nat} {v : Value} {l : List Nod} {x : Nod} (h : Owns w base 47 3 v (nodR l ++ [[.int .i64 x.id, .string x.data, .int .i64 x.sure]])) : Owns w base 47 3 v (nodR (l ++ [x])) := by unfold nodR; rw [List.map_append]; exact h
theorem lnkR_app {w : World} {base : Nat} {v : Value} {l : List Lnk} {x : Lnk} (h : Owns w base 49 2 v (lnkR l ++ [[.string x.name, .int .i64 x.id]])) : Owns w base 49 2 v (lnkR (l ++ [x])) := by unfold lnkR; rw [List.map_append]; exact h
theorem movR_app {w : World} {base : Nat} {v : Value} {l : List Mov} {x : Mov} (h : Owns w base 51 4 v (movR l ++ [[.int .i64 x.kind, .string x.name, .string x.to, .int .i64 x.id]])) : Owns w base 51 4 v (movR (l ++ [x])) := by unfold movR; rw [List.map_append]; exact h
theorem Tryz.infoNodB : (Tryz.prog.info? 47).map (fun i => (i.zero, i.size, i.bytes)) = some (some (.agg #[.int .i64 0, .string ⟨#[]⟩, .int .i64 0]), 3, 32) := by kernel_rfl
theorem Tryz.infoLinkB : (Tryz.prog.info? 49).map (fun i => (i.zero, i.size, i.bytes)) = some (some (.agg #[.string ⟨#[]⟩, .int .i64 0]), 2, 24) := by kernel_rfl
theorem Tryz.infoMoveB : (Tryz.prog.info? 51).map (fun i => (i.zero, i.size, i.bytes)) = some (some (.agg #[.int .i64 0, .string ⟨#[]⟩, .string ⟨#[]⟩, .int .i64 0]), 4, 48) := by kernel_rfl
theorem Small.set {d : Dsk} (h : Small d) {k : Nat} (x : Nod) (hk : k < d.nods.length) (hx : x.data = (d.nods.getD k default).data) : Small ⟨d.room, d.next, d.nods.set k x, d.dir, d.movs⟩ := by
 refine ⟨by simp only [List.length_set]; exact h.n, h.l, h.m, ?_, h.lx, h.mx⟩
 have := bytes_set d.nods k hk x
 rw [hx, getE _ _ hk] at this
 have := h.b
 show bytesOf (d.nods.set k x) ≤ 200000
 omega
section
variable {w wc : World} {p : Nat} {d : Dsk} {g n1 c1 : Nat} {A2 : Option Addr} {n2 c2 : Nat} {A3 : Option Addr} {n3 c3 : Nat}
theorem DkS.pokeSureS (S : DkS w p w.heap.size (w.heap.size + 1) wc d (some ⟨g, 0, none⟩) n1 c1 A2 n2 c2 A3 n3 c3) {k : Nat} (hk : k < d.nods.length) (h1 : g ≠ w.heap.size) (h2 : g ≠ w.heap.size + 1) (s : Int) : DkS w p w.heap.size (w.heap.size + 1) (wc.setCell ⟨g, k * 3 + 2, none⟩ (.int .i64 s)) ⟨d.room, d.next, d.nods.set k ⟨(d.nods.getD k default).id, (d.nods.getD k default).data, s⟩, d.dir, d.movs⟩ (some ⟨g, 0, none⟩) n1 c1 A2 n2 c2 A3 n3 c3 := by
 have hl := S.o1.len3
 subst hl
 have hg := (S.o1.lt g rfl).1
 have hb : Below w.heap.size wc (wc.setCell ⟨g, k * 3 + 2, none⟩ (.int .i64 s)) := (Below.refl _ wc).setCell hg _
 exact ⟨⟨S.bx.box.other (Ne.symm h1) _ _, S.bx.res.other (Ne.symm h2) _ _, S.bx.a.below hb S.bx.hp, S.bx.m.trans (Mod.of_below (hb.mono (Nat.le_refl _))), S.bx.hp, S.bx.hg, S.bx.hr, S.bx.ne⟩, S.o1.pokeSure hk s,
  S.o2.other (S.o2.parted S.o1 (by decide)) _ _, S.o3.other (S.o3.parted S.o1 (by decide)) _ _⟩
theorem DkS.pokeIdS (S : DkS w p w.heap.size (w.heap.size + 1) wc d (some ⟨g, 0, none⟩) n1 c1 A2 n2 c2 A3 n3 c3) {k : Nat} (hk : k < d.nods.length) (h1 : g ≠ w.heap.size) (h2 : g ≠ w.heap.size + 1) (s : Int) : DkS w p w.heap.size (w.heap.size + 1) (wc.setCell ⟨g, k * 3, none⟩ (.int .i64 s)) ⟨d.room, d.next, d.nods.set k ⟨s, (d.nods.getD k default).data, (d.nods.getD k default).sure⟩, d.dir, d.movs⟩ (some ⟨g, 0, none⟩) n1 c1 A2 n2 c2 A3 n3 c3 := by
 have hl := S.o1.len3
 subst hl
 have hg := (S.o1.lt g rfl).1
 have hb : Below w.heap.size wc (wc.setCell ⟨g, k * 3, none⟩ (.int .i64 s)) := (Below.refl _ wc).setCell hg _
 exact ⟨⟨S.bx.box.other (Ne.symm h1) _ _, S.bx.res.other (Ne.symm h2) _ _, S.bx.a.below hb S.bx.hp, S.bx.m.trans (Mod.of_below (hb.mono (Nat.le_refl _))), S.bx.hp, S.bx.hg, S.bx.hr, S.bx.ne⟩, S.o1.pokeId hk s,
  S.o2.other (S.o2.parted S.o1 (by decide)) _ _, S.o3.other (S.o3.parted S.o1 (by decide)) _ _⟩
end
theorem Small.link {d : Dsk} (h : Small d) (hl : d.dir.length ≤ 11) {nx : ByteArray} {z : Int} (hn : nx.size ≤ 13) (h0 : 0 ≤ z) (h1 : z < 100) : Small ⟨d.room, d.next, d.nods, d.dir ++ [⟨nx, z⟩], d.movs⟩ := by
 refine ⟨h.n, by simp; omega, h.m, h.b, fun x hx => ?_, h.mx⟩
 rcases List.mem_append.1 hx with hx | hx
 ·exact h.lx x hx
 ·rw [List.mem_singleton.1 hx]; exact ⟨hn, by unfold IntOk; simp only; omega⟩
theorem Small.move {d : Dsk} (h : Small d) (hl : d.movs.length ≤ 21) {mk z : Int} {na nb : ByteArray} (hn : na.size ≤ 13) (hm : nb.size ≤ 13) (h0 : 0 ≤ z) (h1 : z < 100) : Small ⟨d.room, d.next, d.nods, d.dir, d.movs ++ [⟨mk, na, nb, z⟩]⟩ := by
 refine ⟨h.n, h.l, by simp; omega, h.b, h.lx, fun x hx => ?_⟩
 rcases List.mem_append.1 hx with hx | hx
 ·exact h.mx x hx
 ·rw [List.mem_singleton.1 hx]; exact ⟨⟨hn, hm⟩, by unfold IntOk; simp only; omega⟩
theorem Small.node {d : Dsk} (h : Small d) (hl : d.nods.length ≤ 11) (hb : bytesOf d.nods ≤ 190000) {i : Int} : Small ⟨d.room, d.next, d.nods ++ [⟨i, ⟨#[120, 121]⟩, 0⟩], d.dir, d.movs⟩ := by
 refine ⟨by simp; omega, h.l, h.m, ?_, h.lx, h.mx⟩
 show bytesOf (d.nods ++ _) ≤ 200000
 rw [bytes_cat]
 have : (⟨#[120, 121]⟩ : ByteArray).size = 2 := rfl
 simp only [bytesOf, this]
 omega
theorem Owns.capOk {w : World} {base n c sz : Nat} {e : TypeId} {A : Option Addr} {R : List (List Value)} (h : Owns w base e sz (.slice A n c) R) : n ≤ c := by
 have hl := h.lenS
 rcases h.2.2 with ⟨e, h0⟩ | ⟨g, cap, cur, e, _, _, hn, _⟩
 ·simp only [Value.slice.injEq] at e
  omega
 ·simp only [Value.slice.injEq] at e
  omega
theorem movR_cut (l : List Mov) (k : Nat) : movR (l.take k ++ l.drop (k + 1)) = (movR l).take k ++ (movR l).drop (k + 1) := by unfold movR; rw [List.map_append, List.map_take, List.map_drop]
theorem Small.cut {d : Dsk} (h : Small d) {k : Nat} (hk : k < d.movs.length) : Small ⟨d.room, d.next, d.nods, d.dir, d.movs.take k ++ d.movs.drop (k + 1)⟩ := by
 have hm := h.m
 refine ⟨h.n, h.l, by simp; omega, h.b, h.lx, fun x hx => ?_⟩
 rcases List.mem_append.1 hx with hx | hx
 ·exact h.mx x (List.mem_of_mem_take hx)
 ·exact h.mx x (List.mem_of_mem_drop hx)
set_option maxRecDepth 20000 in
set_option maxHeartbeats 16000000 in
theorem spoil4 (w : World) (p : Nat) (d : Dsk) (v : Value) (B : Nat) (h : AtS w p) (hd : DiskO w B v d) (hsm : Small d) (hfw : d.nods.length ≤ 10 ∧ d.dir.length ≤ 10 ∧ d.movs.length ≤ 20 ∧ bytesOf d.nods ≤ 100000) : Calls Tryz.prog 72 #[.pointer (some ⟨p, 0, none⟩), v] w (DrawnD w p) := by
 have HD := Hid.mkD hd
 have HSm := Hid.mkD hsm
 have HFw := Hid.mkD hfw
 have HP := Hid.mkD h
 obtain ⟨v1, v2, v3, rfl, h1, h2, h3⟩ := hd
 obtain ⟨A1, n1, c1, rfl⟩ := h1.shape
 obtain ⟨A2, n2, c2, rfl⟩ := h2.shape
 obtain ⟨A3, n3, c3, rfl⟩ := h3.shape
 obtain ⟨X0, hX0⟩ : ∃ X0, X0 = (w.alloc (.cells #[.int .i64 d.room, .int .i64 d.next, .slice A1 n1 c1, .slice A2 n2 c2, .slice A3 n3 c3] 28)).alloc (.cells #[.int .i64 0, .int .i64 0, .slice none 0 0, .slice none 0 0, .slice none 0 0] 28) := ⟨_, rfl⟩
 have B0 : Hid (Below w.heap.size w X0) := by unfold Hid; rw [hX0]; exact ((Below.refl _ w).alloc (Nat.le_refl _) _).alloc (by simp) _
 have K0 : Hid (Blk X0 w.heap.size #[.int .i64 d.room, .int .i64 d.next, .slice A1 n1 c1, .slice A2 n2 c2, .slice A3 n3 c3] 28) := by unfold Hid; rw [hX0]; exact (Blk.new w _ _).alloc _
 have R0 : Hid (Blk X0 (w.heap.size + 1) #[.int .i64 0, .int .i64 0, .slice none 0 0, .slice none 0 0, .slice none 0 0] 28) := by unfold Hid; rw [hX0]; have := Blk.new (w.alloc (.cells #[.int .i64 d.room, .int .i64 d.next, .slice A1 n1 c1, .slice A2 n2 c2, .slice A3 n3 c3] 28)) #[.int .i64 0, .int .i64 0, .slice none 0 0, .slice none 0 0, .slice none 0 0] 28; rw [World.size_alloc] at this; exact this
 have A0 : Hid (AtS X0 p) := HP.out.below B0.out HP.out.lt
 have V0 : Hid (DiskV X0 w.heap.size (.agg #[.int .i64 d.room, .int .i64 d.next, .slice A1 n1 c1, .slice A2 n2 c2, .slice A3 n3 c3]) d) := HD.out.look.on B0.out
 clear h1 h2 h3 h hsm hfw
 go_enter Tryz.func72, Tryz.ntmps72
 go_wp2_with fail
 rw [← hX0]
 clear hX0
 obtain ⟨e0, e1, e2, e3, e4⟩ := cellsC5 K0.out
 go_wp2_with fail
 refine (copyV d (.agg #[.int .i64 d.room, .int .i64 d.next, .slice A1 n1 c1, .slice A2 n2 c2, .slice A3 n3 c3]) X0 w.heap.size V0.out (by have := HSm.out.n; omega) (by have := HSm.out.l; omega) (by have := HSm.out.m; omega) B0.out.size).mono ?_
 rintro e w1 ⟨u, rfl, hO, hb⟩
 obtain ⟨v1, v2, v3, rfl, h1, h2, h3⟩ := hO
 obtain ⟨B1, m1, k1, rfl⟩ := h1.shape
 obtain ⟨B2, m2, k2, rfl⟩ := h2.shape
 obtain ⟨B3, m3, k3, rfl⟩ := h3.shape
 have hS : DkS w p w.heap.size (w.heap.size + 1) w1 d B1 m1 k1 B2 m2 k2 B3 m3 k3 → True := fun _ => trivial
 have hbx : BxD w p w.heap.size (w.heap.size + 1) 28 w1 #[.int .i64 0, .int .i64 0, .slice none 0 0, .slice none 0 0, .slice none 0 0] #[.int .i64 d.room, .int .i64 d.next, .slice A1 n1 c1, .slice A2 n2 c2, .slice A3 n3 c3] := ⟨K0.out.on hb K0.out.lt, R0.out.on hb R0.out.lt, A0.out.below hb A0.out.lt, Mod.of_below (B0.out.trans (hb.mono B0.out.size)), HP.out.lt, Nat.le_refl _, Nat.le_succ _, by omega⟩
 have S1 : Hid (DkS w p w.heap.size (w.heap.size + 1) (((((w1.setCell ⟨w.heap.size, 0, none⟩ (.int .i64 d.room)).setCell ⟨w.heap.size, 1, none⟩ (.int .i64 d.next)).setCell ⟨w.heap.size, 2, none⟩ (.slice B1 m1 k1)).setCell ⟨w.heap.size, 3, none⟩ (.slice B2 m2 k2)).setCell ⟨w.heap.size, 4, none⟩ (.slice B3 m3 k3)) d B1 m1 k1 B2 m2 k2 B3 m3 k3) :=
  ⟨hbx.all5 _ _ _ _ _, ownsC5n (h1.mono B0.out.size) (h1.notBlk hbx.box (by decide)) _ _ _ _ _, ownsC5n (h2.mono B0.out.size) (h2.notBlk hbx.box (by decide)) _ _ _ _ _, ownsC5n (h3.mono B0.out.size) (h3.notBlk hbx.box (by decide)) _ _ _ _ _⟩
 obtain ⟨⟨r0, q0⟩, ⟨r1, q1⟩, ⟨r2, q2⟩, ⟨r3, q3⟩, ⟨r4, q4⟩, _⟩ := resC5 (x0 := .int .i64 d.room) (x1 := .int .i64 d.next) (x2 := .slice B1 m1 k1) (x3 := .slice B2 m2 k2) (x4 := .slice B3 m3 k3) hbx.box
 clear h1 h2 h3 hb hbx hS e0 e1 e2 e3 e4 K0 R0 A0 V0 HD B0 HP
 go_wp2_with fail
 generalize ((((w1.setCell ⟨w.heap.size, 0, none⟩ (.int .i64 d.room)).setCell ⟨w.heap.size, 1, none⟩ (.int .i64 d.next)).setCell ⟨w.heap.size, 2, none⟩ (.slice B1 m1 k1)).setCell ⟨w.heap.size, 3, none⟩ (.slice B2 m2 k2)).setCell ⟨w.heap.size, 4, none⟩ (.slice B3 m3 k3) = w2 at *
 clear r0 r1 r2 r3 r4 q0 q1 q2 q3 q4
 refine (belowS w2 p 8 (by omega) (by omega) S1.out.a).mono ?_
 rintro e w11 ⟨q, rfl, ⟨q0, q1⟩, hA, hm⟩
 have S2 : Hid (DkS w p w.heap.size (w.heap.size + 1) w11 d B1 m1 k1 B2 m2 k2 B3 m3 k3) := S1.out.draw hA hm
 clear hA hm S1
 go_upto_block 0 with fail
 go_cut [] from 12 to 121 (fun wc => ∃ (d : Dsk) (A1 : Option Addr) (n1 c1 : Nat) (A2 : Option Addr) (n2 c2 : Nat) (A3 : Option Addr) (n3 c3 : Nat), Small d ∧ DkS w p w.heap.size (w.heap.size + 1) wc d A1 n1 c1 A2 n2 c2 A3 n3 c3)
 case first =>
  rcases (show q = 0 ∨ q = 1 ∨ q = 2 ∨ q = 3 ∨ q = 4 ∨ q = 5 ∨ q = 6 ∨ q = 7 by omega) with rfl | rfl | rfl | rfl | rfl | rfl | rfl | rfl
  ·have S3 : Hid (DkS w p w.heap.size (w.heap.size + 1) (w11.alloc (.cells #[.int .i64 (-1), .int .i64 0, .int .i64 5, .int .i64 1048576, .int .i64 1048577] 3)) d B1 m1 k1 B2 m2 k2 B3 m3 k3) := S2.out.alloc _
   have K3 : Hid (Blk (w11.alloc (.cells #[.int .i64 (-1), .int .i64 0, .int .i64 5, .int .i64 1048576, .int .i64 1048577] 3)) w11.heap.size #[.int .i64 (-1), .int .i64 0, .int .i64 5, .int .i64 1048576, .int .i64 1048577] 3) := Blk.new _ _ _
   have Z3 : Hid (w11.heap.size ≠ p) := by have := S2.out.a.lt; unfold Hid; omega
   go_wp2_with fail
   generalize w11.alloc (.cells #[.int .i64 (-1), .int .i64 0, .int .i64 5, .int .i64 1048576, .int .i64 1048577] 3) = w12 at *
   refine (pickS w12 p w11.heap.size [-1, 0, 5, 1048576, 1048577] 5 rfl (by omega) (by omega) (fun _ => True) trivial (fun _ _ => trivial) S3.out.a Z3.out K3.out).mono ?_
   rintro e w13 ⟨z, rfl, -, hA, hm⟩
   have S4 : Hid (DkS w p w.heap.size (w.heap.size + 1) w13 d B1 m1 k1 B2 m2 k2 B3 m3 k3) := S3.out.draw hA hm
   clear hA hm S2 S3 K3 Z3
   have e0 := S4.out.bx.box.cell 0 _ rfl
   have x0 := S4.out.bx.box.free 0
   have S5 : Hid (DkS w p w.heap.size (w.heap.size + 1) (w13.setCell ⟨w.heap.size, 0, none⟩ (.int .i64 z)) ⟨z, d.next, d.nods, d.dir, d.movs⟩ B1 m1 k1 B2 m2 k2 B3 m3 k3) := ⟨S4.out.bx.set 0 _, S4.out.o1.other (S4.out.o1.notBlk S4.out.bx.box (by decide)) 0 _, S4.out.o2.other (S4.out.o2.notBlk S4.out.bx.box (by decide)) 0 _, S4.out.o3.other (S4.out.o3.notBlk S4.out.bx.box (by decide)) 0 _⟩
   go_wp2_with fail
   go_meet
   exact ⟨⟨z, d.next, d.nods, d.dir, d.movs⟩, _, _, _, _, _, _, _, _, _, ⟨HSm.out.n, HSm.out.l, HSm.out.m, HSm.out.b, HSm.out.lx, HSm.out.mx⟩, S5.out⟩
  ·have S3 : Hid (DkS w p w.heap.size (w.heap.size + 1) (w11.alloc (.cells #[.int .i64 0, .int .i64 1, .int .i64 2, .int .i64 1000000, .int .i64 1000001] 3)) d B1 m1 k1 B2 m2 k2 B3 m3 k3) := S2.out.alloc _
   have K3 : Hid (Blk (w11.alloc (.cells #[.int .i64 0, .int .i64 1, .int .i64 2, .int .i64 1000000, .int .i64 1000001] 3)) w11.heap.size #[.int .i64 0, .int .i64 1, .int .i64 2, .int .i64 1000000, .int .i64 1000001] 3) := Blk.new _ _ _
   have Z3 : Hid (w11.heap.size ≠ p) := by have := S2.out.a.lt; unfold Hid; omega
   go_wp2_with fail
   generalize w11.alloc (.cells #[.int .i64 0, .int .i64 1, .int .i64 2, .int .i64 1000000, .int .i64 1000001] 3) = w12 at *
   refine (pickS w12 p w11.heap.size [0, 1, 2, 1000000, 1000001] 5 rfl (by omega) (by omega) (fun _ => True) trivial (fun _ _ => trivial) S3.out.a Z3.out K3.out).mono ?_
   rintro e w13 ⟨z, rfl, -, hA, hm⟩
   have S4 : Hid (DkS w p w.heap.size (w.heap.size + 1) w13 d B1 m1 k1 B2 m2 k2 B3 m3 k3) := S3.out.draw hA hm
   clear hA hm S2 S3 K3 Z3
   have e1 := S4.out.bx.box.cell 1 _ rfl
   have x1 := S4.out.bx.box.free 1
   have S5 : Hid (DkS w p w.heap.size (w.heap.size + 1) (w13.setCell ⟨w.heap.size, 1, none⟩ (.int .i64 z)) ⟨d.room, z, d.nods, d.dir, d.movs⟩ B1 m1 k1 B2 m2 k2 B3 m3 k3) := ⟨S4.out.bx.set 1 _, S4.out.o1.other (S4.out.o1.notBlk S4.out.bx.box (by decide)) 1 _, S4.out.o2.other (S4.out.o2.notBlk S4.out.bx.box (by decide)) 1 _, S4.out.o3.other (S4.out.o3.notBlk S4.out.bx.box (by decide)) 1 _⟩
   go_wp2_with fail
   go_meet
   exact ⟨⟨d.room, z, d.nods, d.dir, d.movs⟩, _, _, _, _, _, _, _, _, _, ⟨HSm.out.n, HSm.out.l, HSm.out.m, HSm.out.b, HSm.out.lx, HSm.out.mx⟩, S5.out⟩
  ·obtain ⟨gn, hgn⟩ : ∃ n, n = d.nods.length := ⟨_, rfl⟩
   have hm1 : m1 = d.nods.length := by have := S2.out.o1.len3; exact this
   have e2 := S2.out.bx.box.cell 2 _ rfl
   by_cases h0 : m1 = 0
   ·have z1 : decide ((0 : Int) < (m1 : Int)) = false := decide_eq_false (by omega)
    have z2 : decide (0 < m1) = false := decide_eq_false (by omega)
    clear h0 hm1 hgn
    go_wp2_with fail
    go_meet
    exact ⟨d, _, _, _, _, _, _, _, _, _, HSm.out, S2.out⟩
   ·have z1 : decide ((0 : Int) < (m1 : Int)) = true := decide_eq_true (by omega)
    have z2 : decide (0 < m1) = true := decide_eq_true (by omega)
    have hn12 := HSm.out.n
    have m12 : (m1 : Int) ≤ 12 := by omega
    have HM1 := Hid.mkD hm1
    clear hm1 hgn
    go_wp2_with fail
    clear e2
    refine (belowS w11 p (m1 : Int) (by omega) (by omega) S2.out.a).mono ?_
    rintro e w12 ⟨kk, rfl, ⟨kk0, kk9⟩, hA, hm⟩
    have S3 : Hid (DkS w p w.heap.size (w.heap.size + 1) w12 d B1 m1 k1 B2 m2 k2 B3 m3 k3) := S2.out.draw hA hm
    clear hA hm S2
    obtain ⟨k, rfl⟩ : ∃ k : Nat, kk = (k : Int) := ⟨kk.toNat, by omega⟩
    have hk : k < d.nods.length := by have := HM1.out; omega
    have HK := Hid.mkD hk
    clear hk hn12 h0
    have D0 : Hid (DkS w p w.heap.size (w.heap.size + 1) w12.drew d B1 m1 k1 B2 m2 k2 B3 m3 k3) := S3.out.below (Below.refl _ w12).drew
    go_upto_region 11 with fail
    refine wp_region_until (fun w' => w'.cell? ⟨w.heap.size, 2, none⟩ = some (.slice B1 m1 k1)) (fun i => i == 8) 9 (by rfl) (by kernel_rfl) ?_
    have Q0 := Hid.mkD (D0.out.bx.box.cell 2 _ rfl)
    generalize w12.drew = y0 at *
    refine pF 0 ?_
    refine tF 1 Q0.out ?_
    refine pF 2 ?_
    refine pF 3 ?_
    refine uNe 4 (fun K hK => ?_)
    go_simp
    refine (belowS y0 p 40 (by omega) (by omega) D0.out.a).mono ?_
    rintro e y1 ⟨z, rfl, ⟨z0, z9⟩, hA, hm⟩
    have D1 : Hid (DkS w p w.heap.size (w.heap.size + 1) y1 d B1 m1 k1 B2 m2 k2 B3 m3 k3) := D0.out.draw hA hm
    have Q1 := Hid.mkD (D1.out.bx.box.cell 2 _ rfl)
    clear hA hm D0 Q0 S3
    refine hK.out _ _ (fun _ _ => Q1.out) ?_
    clear hK K
    try simp only [Act.put, zQ1, zQ2, zQ3]
    have zz : IntKind.i64.wrap (z - 2) = z - 2 := by rw [IntKind.wrap_i64]; omega
    refine pUr 5 (v := .int .i64 (z - 2)) ?_ ?_
    ·intro w
     go_simp
     try rw [zz]
    try simp only [Act.put, zQ1, zQ2, zQ3]
    obtain ⟨gb, rfl, hgb⟩ := D1.out.o1.blk (show 0 < m1 by have := HK.out; have := HM1.out; omega)
    have o1 := Hid.mkD D1.out.o1
    have NB : Hid (gb ≠ w.heap.size) := fun e => D1.out.o1.notBlk D1.out.bx.box (by decide) (by rw [← e]; rfl)
    have NR : Hid (gb ≠ w.heap.size + 1) := fun e => D1.out.o1.notBlk D1.out.bx.res (by decide) (by rw [← e]; rfl)
    have kk1 : (k : Int) < (m1 : Int) := by have := HK.out; have := HM1.out; omega
    obtain ⟨cl, cl2⟩ := D1.out.o1.cells3 HK.out
    have fr := D1.out.o1.frz (k * 3)
    have fr2 := D1.out.o1.frz (k * 3 + 2)
    refine pF 6 ?_
    refine pF 7 ?_
    refine uNe 8 (fun K hK => ?_)
    go_simp
    refine hK.out _ _ (fun h => by cases h) ?_
    clear hK K
    try simp only [Act.put, zQ1, zQ2, zQ3]
    refine until_done (by kernel_rfl) ?_ _
    have S90 : Hid (DkS w p w.heap.size (w.heap.size + 1) (y1.setCell ⟨gb, k * 3 + 2, none⟩ (.int .i64 (z - 2))) ⟨d.room, d.next, d.nods.set k ⟨(d.nods.getD k default).id, (d.nods.getD k default).data, z - 2⟩, d.dir, d.movs⟩ (some ⟨gb, 0, none⟩) m1 k1 B2 m2 k2 B3 m3 k3) := D1.out.pokeSureS HK.out NB.out NR.out (z - 2)
    have HS9 := Hid.mkD (HSm.out.set ⟨(d.nods.getD k default).id, (d.nods.getD k default).data, z - 2⟩ HK.out rfl)
    clear o1 cl cl2 fr fr2 D1 Q1
    go_wp2_with fail
    go_meet
    exact ⟨⟨d.room, d.next, d.nods.set k ⟨(d.nods.getD k default).id, (d.nods.getD k default).data, z - 2⟩, d.dir, d.movs⟩, _, _, _, _, _, _, _, _, _, HS9.out, S90.out⟩
  ·obtain ⟨gn, hgn⟩ : ∃ n, n = d.nods.length := ⟨_, rfl⟩
   have hm1 : m1 = d.nods.length := by have := S2.out.o1.len3; exact this
   have e2 := S2.out.bx.box.cell 2 _ rfl
   by_cases h0 : m1 = 0
   ·have z1 : decide ((0 : Int) < (m1 : Int)) = false := decide_eq_false (by omega)
    have z2 : decide (0 < m1) = false := decide_eq_false (by omega)
    clear h0 hm1 hgn
    go_wp2_with fail
    go_meet
    exact ⟨d, _, _, _, _, _, _, _, _, _, HSm.out, S2.out⟩
   ·have z1 : decide ((0 : Int) < (m1 : Int)) = true := decide_eq_true (by omega)
    have z2 : decide (0 < m1) = true := decide_eq_true (by omega)
    have hn12 := HSm.out.n
    have m12 : (m1 : Int) ≤ 12 := by omega
    have HM1 := Hid.mkD hm1
    clear hm1 hgn
    go_wp2_with fail
    clear e2
    refine (belowS w11 p (m1 : Int) (by omega) (by omega) S2.out.a).mono ?_
    rintro e w12 ⟨kk, rfl, ⟨kk0, kk9⟩, hA, hm⟩
    have S3 : Hid (DkS w p w.heap.size (w.heap.size + 1) w12 d B1 m1 k1 B2 m2 k2 B3 m3 k3) := S2.out.draw hA hm
    clear hA hm S2
    obtain ⟨k, rfl⟩ : ∃ k : Nat, kk = (k : Int) := ⟨kk.toNat, by omega⟩
    have hk : k < d.nods.length := by have := HM1.out; omega
    have HK := Hid.mkD hk
    clear hk hn12 h0
    have D0 : Hid (DkS w p w.heap.size (w.heap.size + 1) w12.drew d B1 m1 k1 B2 m2 k2 B3 m3 k3) := S3.out.below (Below.refl _ w12).drew
    go_upto_region 15 with fail
    refine wp_region_until (fun w' => w'.cell? ⟨w.heap.size, 2, none⟩ = some (.slice B1 m1 k1)) (fun i => i == 7) 8 (by rfl) (by kernel_rfl) ?_
    have Q0 := Hid.mkD (D0.out.bx.box.cell 2 _ rfl)
    generalize w12.drew = y0 at *
    refine pF 0 ?_
    refine tF 1 Q0.out ?_
    refine pF 2 ?_
    refine pF 3 ?_
    refine uNe 4 (fun K hK => ?_)
    go_simp
    refine (belowS y0 p 5 (by omega) (by omega) D0.out.a).mono ?_
    rintro e y1 ⟨z, rfl, ⟨z0, z9⟩, hA, hm⟩
    have D1 : Hid (DkS w p w.heap.size (w.heap.size + 1) y1 d B1 m1 k1 B2 m2 k2 B3 m3 k3) := D0.out.draw hA hm
    have Q1 := Hid.mkD (D1.out.bx.box.cell 2 _ rfl)
    clear hA hm D0 Q0 S3
    refine hK.out _ _ (fun _ _ => Q1.out) ?_
    clear hK K
    try simp only [Act.put, zQ1, zQ2, zQ3]
    obtain ⟨gb, rfl, hgb⟩ := D1.out.o1.blk (show 0 < m1 by have := HK.out; have := HM1.out; omega)
    have o1 := Hid.mkD D1.out.o1
    have NB : Hid (gb ≠ w.heap.size) := fun e => D1.out.o1.notBlk D1.out.bx.box (by decide) (by rw [← e]; rfl)
    have NR : Hid (gb ≠ w.heap.size + 1) := fun e => D1.out.o1.notBlk D1.out.bx.res (by decide) (by rw [← e]; rfl)
    have kk1 : (k : Int) < (m1 : Int) := by have := HK.out; have := HM1.out; omega
    obtain ⟨cl, cl2⟩ := D1.out.o1.cells3 HK.out
    have fr := D1.out.o1.frz (k * 3)
    have fr2 := D1.out.o1.frz (k * 3 + 2)
    refine pF 5 ?_
    refine pF 6 ?_
    refine uNe 7 (fun K hK => ?_)
    go_simp
    refine hK.out _ _ (fun h => by cases h) ?_
    clear hK K
    try simp only [Act.put, zQ1, zQ2, zQ3]
    refine until_done (by kernel_rfl) ?_ _
    have S90 : Hid (DkS w p w.heap.size (w.heap.size + 1) (y1.setCell ⟨gb, k * 3, none⟩ (.int .i64 z)) ⟨d.room, d.next, d.nods.set k ⟨z, (d.nods.getD k default).data, (d.nods.getD k default).sure⟩, d.dir, d.movs⟩ (some ⟨gb, 0, none⟩) m1 k1 B2 m2 k2 B3 m3 k3) := D1.out.pokeIdS HK.out NB.out NR.out z
    have HS9 := Hid.mkD (HSm.out.set ⟨z, (d.nods.getD k default).data, (d.nods.getD k default).sure⟩ HK.out rfl)
    clear o1 cl cl2 fr fr2 D1 Q1
    go_wp2_with fail
    go_meet
    exact ⟨⟨d.room, d.next, d.nods.set k ⟨z, (d.nods.getD k default).data, (d.nods.getD k default).sure⟩, d.dir, d.movs⟩, _, _, _, _, _, _, _, _, _, HS9.out, S90.out⟩
  ·have D0 : Hid (DkS w p w.heap.size (w.heap.size + 1) w11.drew d B1 m1 k1 B2 m2 k2 B3 m3 k3) := S2.out.below (Below.refl _ w11).drew
   go_upto_region 17 with fail
   refine wp_region_until (fun w' => w'.cell? ⟨w.heap.size, 3, none⟩ = some (.slice B2 m2 k2)) (fun i => i == 8 || i == 10) 11 (by rfl) (by kernel_rfl) ?_
   have Q0 := Hid.mkD (D0.out.bx.box.cell 3 _ rfl)
   generalize w11.drew = y0 at *
   clear S2
   refine pF 0 ?_
   refine tF 1 Q0.out ?_
   refine pF 2 ?_
   refine pF 4 ?_
   refine uNe 3 (fun K hK => ?_)
   go_simp
   refine (name4_any y0 p D0.out.a).mono ?_
   rintro e y1 ⟨nx, rfl, hnx, hA, hm⟩
   have D1 : Hid (DkS w p w.heap.size (w.heap.size + 1) y1 d B1 m1 k1 B2 m2 k2 B3 m3 k3) := D0.out.draw hA hm
   have Q1 := Hid.mkD (D1.out.bx.box.cell 3 _ rfl)
   clear hA hm D0 Q0
   refine hK.out _ _ (fun _ _ => Q1.out) ?_
   clear hK K
   try simp only [Act.put, zQ1, zQ2, zQ3]
   refine uNe 5 (fun K hK => ?_)
   go_simp
   refine (belowS y1 p 4 (by omega) (by omega) D1.out.a).mono ?_
   rintro e y2 ⟨z, rfl, ⟨z0, z9⟩, hA, hm⟩
   have D2 : Hid (DkS w p w.heap.size (w.heap.size + 1) y2 d B1 m1 k1 B2 m2 k2 B3 m3 k3) := D1.out.draw hA hm
   have Q2 := Hid.mkD (D2.out.bx.box.cell 3 _ rfl)
   clear hA hm D1 Q1
   refine hK.out _ _ (fun _ _ => Q2.out) ?_
   clear hK K
   try simp only [Act.put, zQ1, zQ2, zQ3]
   refine pF 6 ?_
   refine uNe 7 (fun K hK => ?_)
   go_simp
   refine hK.out _ _ (fun _ h => cell_alloc_d h _) ?_
   clear hK K
   try simp only [Act.put, zQ1, zQ2, zQ3]
   have hlen : (lnkR d.dir).length ≤ 1048576 := by rw [lnkR_length]; have h9 := HSm.out.l; omega
   obtain ⟨nA, nm, nc, Y5, r5, hO5, hb5, hk5, -⟩ := run_append_row (P := Tryz.prog) y2 25 25 49 (.agg #[.string ⟨#[]⟩, .int .i64 0]) 2 24 Tryz.underlying25 Tryz.infoLinkB rfl (by omega) w.heap.size (.slice B2 m2 k2) (lnkR d.dir) D2.out.o2 [.string nx, .int .i64 z] rfl (by intro y hy; simp at hy; rcases hy with rfl | rfl <;> rfl) (by omega) (by omega) D2.out.bx.m.size
   refine uNe 8 (fun K hK => ?_)
   refine step_append_run (by rfl) (.tmp 75) (.tmp 81) 25 (by rfl) _ _ _ _ (by rfl) (by rfl) r5 ?_
   refine hK.out _ _ (fun h => by cases h) ?_
   clear hK K
   try simp only [Act.put, zQ1, zQ2, zQ3]
   have hkp : ∀ i, i < y2.heap.size → (.slice B2 m2 k2 : Value).ownBlock ≠ some i → Y5.heap[i]? = y2.heap[i]? := hk5
   have hbx : BxD w p w.heap.size (w.heap.size + 1) 28 Y5 #[.int .i64 0, .int .i64 0, .slice none 0 0, .slice none 0 0, .slice none 0 0] #[.int .i64 d.room, .int .i64 d.next, .slice B1 m1 k1, .slice B2 m2 k2, .slice B3 m3 k3] := ⟨(hk5 _ D2.out.bx.box.lt (D2.out.o2.notBlk D2.out.bx.box (by decide))).trans D2.out.bx.box, (hk5 _ D2.out.bx.res.lt (D2.out.o2.notBlk D2.out.bx.res (by decide))).trans D2.out.bx.res, D2.out.a.below hb5 D2.out.bx.hp, D2.out.bx.m.trans (Mod.of_below hb5), D2.out.bx.hp, D2.out.bx.hg, D2.out.bx.hr, D2.out.bx.ne⟩
   have ho1 := D2.out.o1.beside D2.out.o2 (by decide) hkp
   have ho3 := D2.out.o3.beside D2.out.o2 (by decide) hkp
   have ho2 := hO5
   have S90 : Hid (DkS w p w.heap.size (w.heap.size + 1) (Y5.setCell ⟨w.heap.size, 3, none⟩ (.slice nA nm nc)) ⟨d.room, d.next, d.nods, d.dir ++ [⟨nx, z⟩], d.movs⟩ B1 m1 k1 nA nm nc B3 m3 k3) := ⟨hbx.set 3 _, ho1.other (ho1.notBlk hbx.box (by decide)) 3 _, lnkR_app (ho2.other (ho2.notBlk hbx.box (by decide)) 3 _), ho3.other (ho3.notBlk hbx.box (by decide)) 3 _⟩
   have mc := hbx.box.cell 3 _ rfl
   have mf := hbx.box.free 3
   have HS9 : Hid (Small ⟨d.room, d.next, d.nods, d.dir ++ [⟨nx, z⟩], d.movs⟩) := HSm.out.link (by have := HFw.out.2.1; omega) hnx (by omega) (by omega)
   clear hkp hbx ho1 ho2 ho3 hO5 hb5 hk5 D2 Q2 hlen
   refine pF 9 ?_
   refine uNe 10 (fun K hK => ?_)
   go_simp
   refine hK.out _ _ (fun h => by cases h) ?_
   clear hK K
   try simp only [Act.put, zQ1, zQ2, zQ3]
   refine until_done (by kernel_rfl) ?_ _
   go_wp2_with fail
   go_meet
   exact ⟨⟨d.room, d.next, d.nods, d.dir ++ [⟨nx, z⟩], d.movs⟩, _, _, _, _, _, _, _, _, _, HS9.out, S90.out⟩
  ·have D0 : Hid (DkS w p w.heap.size (w.heap.size + 1) w11.drew d B1 m1 k1 B2 m2 k2 B3 m3 k3) := S2.out.below (Below.refl _ w11).drew
   go_upto_region 19 with fail
   refine wp_region_until (fun w' => w'.cell? ⟨w.heap.size, 4, none⟩ = some (.slice B3 m3 k3)) (fun i => i == 12 || i == 14) 15 (by rfl) (by kernel_rfl) ?_
   have Q0 := Hid.mkD (D0.out.bx.box.cell 4 _ rfl)
   generalize w11.drew = y0 at *
   clear S2
   refine pF 0 ?_
   refine tF 1 Q0.out ?_
   refine pF 2 ?_
   refine pF 4 ?_
   refine pF 6 ?_
   refine pF 8 ?_
   refine uNe 3 (fun K hK => ?_)
   go_simp
   refine (belowS y0 p 5 (by omega) (by omega) D0.out.a).mono ?_
   rintro e y1 ⟨mk, rfl, -, hA, hm⟩
   have D1 : Hid (DkS w p w.heap.size (w.heap.size + 1) y1 d B1 m1 k1 B2 m2 k2 B3 m3 k3) := D0.out.draw hA hm
   have Q1 := Hid.mkD (D1.out.bx.box.cell 4 _ rfl)
   clear hA hm D0 Q0
   refine hK.out _ _ (fun _ _ => Q1.out) ?_
   clear hK K
   try simp only [Act.put, zQ1, zQ2, zQ3]
   refine uNe 5 (fun K hK => ?_)
   go_simp
   refine (name4_any y1 p D1.out.a).mono ?_
   rintro e y2 ⟨na, rfl, hna, hA, hm⟩
   have D2 : Hid (DkS w p w.heap.size (w.heap.size + 1) y2 d B1 m1 k1 B2 m2 k2 B3 m3 k3) := D1.out.draw hA hm
   have Q2 := Hid.mkD (D2.out.bx.box.cell 4 _ rfl)
   clear hA hm D1 Q1
   refine hK.out _ _ (fun _ _ => Q2.out) ?_
   clear hK K
   try simp only [Act.put, zQ1, zQ2, zQ3]
   refine uNe 7 (fun K hK => ?_)
   go_simp
   refine (name4_any y2 p D2.out.a).mono ?_
   rintro e y3 ⟨nb, rfl, hnb, hA, hm⟩
   have D3 : Hid (DkS w p w.heap.size (w.heap.size + 1) y3 d B1 m1 k1 B2 m2 k2 B3 m3 k3) := D2.out.draw hA hm
   have Q3 := Hid.mkD (D3.out.bx.box.cell 4 _ rfl)
   clear hA hm D2 Q2
   refine hK.out _ _ (fun _ _ => Q3.out) ?_
   clear hK K
   try simp only [Act.put, zQ1, zQ2, zQ3]
   refine uNe 9 (fun K hK => ?_)
   go_simp
   refine (belowS y3 p 3 (by omega) (by omega) D3.out.a).mono ?_
   rintro e y4 ⟨z, rfl, ⟨z0, z9⟩, hA, hm⟩
   have D4 : Hid (DkS w p w.heap.size (w.heap.size + 1) y4 d B1 m1 k1 B2 m2 k2 B3 m3 k3) := D3.out.draw hA hm
   have Q4 := Hid.mkD (D4.out.bx.box.cell 4 _ rfl)
   clear hA hm D3 Q3
   refine hK.out _ _ (fun _ _ => Q4.out) ?_
   clear hK K
   try simp only [Act.put, zQ1, zQ2, zQ3]
   refine pF 10 ?_
   refine uNe 11 (fun K hK => ?_)
   go_simp
   refine hK.out _ _ (fun _ h => cell_alloc_d h _) ?_
   clear hK K
   try simp only [Act.put, zQ1, zQ2, zQ3]
   have hlen : (movR d.movs).length ≤ 1048576 := by rw [movR_length]; have h9 := HSm.out.m; omega
   obtain ⟨nA, nm, nc, Y5, r5, hO5, hb5, hk5, -⟩ := run_append_row (P := Tryz.prog) y4 26 26 51 (.agg #[.int .i64 0, .string ⟨#[]⟩, .string ⟨#[]⟩, .int .i64 0]) 4 48 Tryz.underlying26 Tryz.infoMoveB rfl (by omega) w.heap.size (.slice B3 m3 k3) (movR d.movs) D4.out.o3 [.int .i64 mk, .string na, .string nb, .int .i64 z] rfl (by intro y hy; simp at hy; rcases hy with rfl | rfl | rfl | rfl <;> rfl) (by omega) (by omega) D4.out.bx.m.size
   refine uNe 12 (fun K hK => ?_)
   refine step_append_run (by rfl) (.tmp 87) (.tmp 97) 26 (by rfl) _ _ _ _ (by rfl) (by rfl) r5 ?_
   refine hK.out _ _ (fun h => by cases h) ?_
   clear hK K
   try simp only [Act.put, zQ1, zQ2, zQ3]
   have hkp : ∀ i, i < y4.heap.size → (.slice B3 m3 k3 : Value).ownBlock ≠ some i → Y5.heap[i]? = y4.heap[i]? := hk5
   have hbx : BxD w p w.heap.size (w.heap.size + 1) 28 Y5 #[.int .i64 0, .int .i64 0, .slice none 0 0, .slice none 0 0, .slice none 0 0] #[.int .i64 d.room, .int .i64 d.next, .slice B1 m1 k1, .slice B2 m2 k2, .slice B3 m3 k3] := ⟨(hk5 _ D4.out.bx.box.lt (D4.out.o3.notBlk D4.out.bx.box (by decide))).trans D4.out.bx.box, (hk5 _ D4.out.bx.res.lt (D4.out.o3.notBlk D4.out.bx.res (by decide))).trans D4.out.bx.res, D4.out.a.below hb5 D4.out.bx.hp, D4.out.bx.m.trans (Mod.of_below hb5), D4.out.bx.hp, D4.out.bx.hg, D4.out.bx.hr, D4.out.bx.ne⟩
   have ho1 := D4.out.o1.beside D4.out.o3 (by decide) hkp
   have ho2 := D4.out.o2.beside D4.out.o3 (by decide) hkp
   have ho3 := hO5
   have S90 : Hid (DkS w p w.heap.size (w.heap.size + 1) (Y5.setCell ⟨w.heap.size, 4, none⟩ (.slice nA nm nc)) ⟨d.room, d.next, d.nods, d.dir, d.movs ++ [⟨mk, na, nb, z⟩]⟩ B1 m1 k1 B2 m2 k2 nA nm nc) := ⟨hbx.set 4 _, ho1.other (ho1.notBlk hbx.box (by decide)) 4 _, ho2.other (ho2.notBlk hbx.box (by decide)) 4 _, movR_app (ho3.other (ho3.notBlk hbx.box (by decide)) 4 _)⟩
   have mc := hbx.box.cell 4 _ rfl
   have mf := hbx.box.free 4
   have HS9 : Hid (Small ⟨d.room, d.next, d.nods, d.dir, d.movs ++ [⟨mk, na, nb, z⟩]⟩) := HSm.out.move (by have := HFw.out.2.2.1; omega) hna hnb (by omega) (by omega)
   clear hkp hbx ho1 ho2 ho3 hO5 hb5 hk5 D4 Q4 hlen
   refine pF 13 ?_
   refine uNe 14 (fun K hK => ?_)
   go_simp
   refine hK.out _ _ (fun h => by cases h) ?_
   clear hK K
   try simp only [Act.put, zQ1, zQ2, zQ3]
   refine until_done (by kernel_rfl) ?_ _
   go_wp2_with fail
   go_meet
   exact ⟨⟨d.room, d.next, d.nods, d.dir, d.movs ++ [⟨mk, na, nb, z⟩]⟩, _, _, _, _, _, _, _, _, _, HS9.out, S90.out⟩
  ·have hm3 : m3 = d.movs.length := S2.out.o3.len4
   have e4 := S2.out.bx.box.cell 4 _ rfl
   by_cases h0 : m3 = 0
   ·have z1 : decide ((0 : Int) < (m3 : Int)) = false := decide_eq_false (by omega)
    have z2 : decide (0 < m3) = false := decide_eq_false (by omega)
    clear h0 hm3
    go_wp2_with fail
    go_meet
    exact ⟨d, _, _, _, _, _, _, _, _, _, HSm.out, S2.out⟩
   ·have z1 : decide ((0 : Int) < (m3 : Int)) = true := decide_eq_true (by omega)
    have z2 : decide (0 < m3) = true := decide_eq_true (by omega)
    have hn22 := HSm.out.m
    have m22 : (m3 : Int) ≤ 22 := by omega
    have HM3 := Hid.mkD hm3
    clear hm3
    go_wp2_with fail
    clear e4
    refine (belowS w11 p (m3 : Int) (by omega) (by omega) S2.out.a).mono ?_
    rintro e w12 ⟨kk, rfl, ⟨kk0, kk9⟩, hA, hm⟩
    have S3 : Hid (DkS w p w.heap.size (w.heap.size + 1) w12 d B1 m1 k1 B2 m2 k2 B3 m3 k3) := S2.out.draw hA hm
    clear hA hm S2
    obtain ⟨k, rfl⟩ : ∃ k : Nat, kk = (k : Int) := ⟨kk.toNat, by omega⟩
    have hk : k < d.movs.length := by have := HM3.out; omega
    have HK := Hid.mkD hk
    clear hk hn22 h0
    have D0 : Hid (DkS w p w.heap.size (w.heap.size + 1) w12.drew d B1 m1 k1 B2 m2 k2 B3 m3 k3) := S3.out.below (Below.refl _ w12).drew
    obtain ⟨g3, rfl, hg3⟩ := D0.out.o3.blk (by omega)
    have hc3 : Hid (m3 ≤ k3) := D0.out.o3.capOk
    go_upto_region 23 with fail
    refine wp_region_until (fun w' => w'.cell? ⟨w.heap.size, 4, none⟩ = some (.slice (some ⟨g3, 0, none⟩) m3 k3)) (fun i => i == 9 || i == 11) 12 (by rfl) (by kernel_rfl) ?_
    have Q0 := Hid.mkD (D0.out.bx.box.cell 4 _ rfl)
    generalize w12.drew = y0 at *
    clear S3
    have ek : IntKind.i64.wrap ((k : Int) + 1) = ((k + 1 : Nat) : Int) := by have := HM3.out; have := HK.out; rw [IntKind.wrap_i64]; omega
    refine pF 0 ?_
    refine tF 1 Q0.out ?_
    refine pF 2 ?_
    refine pUr 3 (v := .slice (some ⟨g3, 0, none⟩) k k3) ?_ ?_
    ·intro w
     go_simp
     have := HM3.out; have := HK.out; have := hc3.out
     intro hx
     omega
    try simp only [Act.put, zQ1, zQ2, zQ3]
    refine pF 4 ?_
    refine tF 5 Q0.out ?_
    refine pF 6 ?_
    refine pUr 7 (v := .int .i64 ((k + 1 : Nat) : Int)) ?_ ?_
    ·intro w
     go_simp
     try rw [ek]
    try simp only [Act.put, zQ1, zQ2, zQ3]
    refine pUr 8 (v := .slice (behAt g3 k k3 4) (m3 - (k + 1)) (k3 - (k + 1))) ?_ ?_
    ·intro w
     go_simp
     have := HM3.out; have := HK.out; have := hc3.out
     rw [if_pos ⟨by omega, by omega⟩]
     rfl
    try simp only [Act.put, zQ1, zQ2, zQ3]
    obtain ⟨nA, nm, nc, Y5, r5, hO5, hb5, hk5⟩ := run_cut (P := Tryz.prog) y0 26 26 51 (.agg #[.int .i64 0, .string ⟨#[]⟩, .string ⟨#[]⟩, .int .i64 0]) 4 48 Tryz.underlying26 Tryz.infoMoveB rfl (by omega) w.heap.size g3 m3 k3 k (movR d.movs) D0.out.o3 (mov_one d.movs) (by rw [movR_length]; exact HM3.out) hc3.out (by rw [movR_length]; exact HK.out) (by rw [movR_length]; have h9 := HSm.out.m; omega) (by omega) D0.out.bx.m.size
    refine uNe 9 (fun K hK => ?_)
    refine step_append_run (by rfl) (.tmp 114) (.tmp 119) 26 (by rfl) _ _ _ _ (by rfl) (by rfl) r5 ?_
    refine hK.out _ _ (fun h => by cases h) ?_
    clear hK K
    try simp only [Act.put, zQ1, zQ2, zQ3]
    have hkp : ∀ i, i < y0.heap.size → (.slice (some ⟨g3, 0, none⟩) m3 k3 : Value).ownBlock ≠ some i → Y5.heap[i]? = y0.heap[i]? := hk5
    have hbx : BxD w p w.heap.size (w.heap.size + 1) 28 Y5 #[.int .i64 0, .int .i64 0, .slice none 0 0, .slice none 0 0, .slice none 0 0] #[.int .i64 d.room, .int .i64 d.next, .slice B1 m1 k1, .slice B2 m2 k2, .slice (some ⟨g3, 0, none⟩) m3 k3] := ⟨(hk5 _ D0.out.bx.box.lt (D0.out.o3.notBlk D0.out.bx.box (by decide))).trans D0.out.bx.box, (hk5 _ D0.out.bx.res.lt (D0.out.o3.notBlk D0.out.bx.res (by decide))).trans D0.out.bx.res, D0.out.a.below hb5 D0.out.bx.hp, D0.out.bx.m.trans (Mod.of_below hb5), D0.out.bx.hp, D0.out.bx.hg, D0.out.bx.hr, D0.out.bx.ne⟩
    have ho1 := D0.out.o1.beside D0.out.o3 (by decide) hkp
    have ho2 := D0.out.o2.beside D0.out.o3 (by decide) hkp
    have ho3 : Owns Y5 w.heap.size 51 4 (.slice nA nm nc) (movR (d.movs.take k ++ d.movs.drop (k + 1))) := by have h9 := hO5; rw [← movR_cut] at h9; exact h9
    have S90 : Hid (DkS w p w.heap.size (w.heap.size + 1) (Y5.setCell ⟨w.heap.size, 4, none⟩ (.slice nA nm nc)) ⟨d.room, d.next, d.nods, d.dir, d.movs.take k ++ d.movs.drop (k + 1)⟩ B1 m1 k1 B2 m2 k2 nA nm nc) := ⟨hbx.set 4 _, ho1.other (ho1.notBlk hbx.box (by decide)) 4 _, ho2.other (ho2.notBlk hbx.box (by decide)) 4 _, ho3.other (ho3.notBlk hbx.box (by decide)) 4 _⟩
    have mc := hbx.box.cell 4 _ rfl
    have mf := hbx.box.free 4
    have HS9 : Hid (Small ⟨d.room, d.next, d.nods, d.dir, d.movs.take k ++ d.movs.drop (k + 1)⟩) := HSm.out.cut HK.out
    clear hkp hbx ho1 ho2 ho3 hO5 hb5 hk5 D0 Q0 ek
    refine pF 10 ?_
    refine uNe 11 (fun K hK => ?_)
    go_simp
    refine hK.out _ _ (fun h => by cases h) ?_
    clear hK K
    try simp only [Act.put, zQ1, zQ2, zQ3]
    refine until_done (by kernel_rfl) ?_ _
    go_wp2_with fail
    go_meet
    exact ⟨⟨d.room, d.next, d.nods, d.dir, d.movs.take k ++ d.movs.drop (k + 1)⟩, _, _, _, _, _, _, _, _, _, HS9.out, S90.out⟩
  ·have D0 : Hid (DkS w p w.heap.size (w.heap.size + 1) w11.drew d B1 m1 k1 B2 m2 k2 B3 m3 k3) := S2.out.below (Below.refl _ w11).drew
   go_upto_region 3 with fail
   refine wp_region_until (fun w' => w'.cell? ⟨w.heap.size, 2, none⟩ = some (.slice B1 m1 k1) ∧ w'.cell? ⟨w.heap.size, 1, none⟩ = some (.int .i64 d.next)) (fun i => i == 9 || i == 11) 12 (by rfl) (by kernel_rfl) ?_
   have Q0 := Hid.mkD (And.intro (D0.out.bx.box.cell 2 _ rfl) (D0.out.bx.box.cell 1 _ rfl))
   generalize w11.drew = y0 at *
   clear S2
   refine pF 0 ?_
   refine tF 1 Q0.out ?_
   refine pF 2 ?_
   refine tF 3 Q0.out ?_
   refine pF 4 ?_
   refine uNe 5 (fun K hK => ?_)
   go_simp
   refine (belowS y0 p 2 (by omega) (by omega) D0.out.a).mono ?_
   rintro e y1 ⟨z, rfl, ⟨z0, z9⟩, hA, hm⟩
   have D1 : Hid (DkS w p w.heap.size (w.heap.size + 1) y1 d B1 m1 k1 B2 m2 k2 B3 m3 k3) := D0.out.draw hA hm
   have Q1 := Hid.mkD (And.intro (D1.out.bx.box.cell 2 _ rfl) (D1.out.bx.box.cell 1 _ rfl))
   clear hA hm D0 Q0
   refine hK.out _ _ (fun _ _ => Q1.out) ?_
   clear hK K
   try simp only [Act.put, zQ1, zQ2, zQ3]
   refine pF 6 ?_
   refine pF 7 ?_
   refine uNe 8 (fun K hK => ?_)
   go_simp
   refine hK.out _ _ (fun _ h => ⟨cell_alloc_d h.1 _, cell_alloc_d h.2 _⟩) ?_
   clear hK K
   try simp only [Act.put, zQ1, zQ2, zQ3]
   have hlen : (nodR d.nods).length ≤ 1048576 := by rw [nodR_length]; have h9 := HSm.out.n; omega
   obtain ⟨nA, nm, nc, Y5, r5, hO5, hb5, hk5, -⟩ := run_append_row (P := Tryz.prog) y1 24 24 47 (.agg #[.int .i64 0, .string ⟨#[]⟩, .int .i64 0]) 3 32 Tryz.underlying24 Tryz.infoNodB rfl (by omega) w.heap.size (.slice B1 m1 k1) (nodR d.nods) D1.out.o1 [.int .i64 (IntKind.i64.wrap (d.next - z)), .string ⟨#[120, 121]⟩, .int .i64 0] rfl (by intro y hy; simp at hy; rcases hy with rfl | rfl | rfl <;> rfl) (by omega) (by omega) D1.out.bx.m.size
   refine uNe 9 (fun K hK => ?_)
   refine step_append_run (by rfl) (.tmp 13) (.tmp 20) 24 (by rfl) _ _ _ _ (by rfl) (by rfl) r5 ?_
   refine hK.out _ _ (fun h => by cases h) ?_
   clear hK K
   try simp only [Act.put, zQ1, zQ2, zQ3]
   have hkp : ∀ i, i < y1.heap.size → (.slice B1 m1 k1 : Value).ownBlock ≠ some i → Y5.heap[i]? = y1.heap[i]? := hk5
   have hbx : BxD w p w.heap.size (w.heap.size + 1) 28 Y5 #[.int .i64 0, .int .i64 0, .slice none 0 0, .slice none 0 0, .slice none 0 0] #[.int .i64 d.room, .int .i64 d.next, .slice B1 m1 k1, .slice B2 m2 k2, .slice B3 m3 k3] := ⟨(hk5 _ D1.out.bx.box.lt (D1.out.o1.notBlk D1.out.bx.box (by decide))).trans D1.out.bx.box, (hk5 _ D1.out.bx.res.lt (D1.out.o1.notBlk D1.out.bx.res (by decide))).trans D1.out.bx.res, D1.out.a.below hb5 D1.out.bx.hp, D1.out.bx.m.trans (Mod.of_below hb5), D1.out.bx.hp, D1.out.bx.hg, D1.out.bx.hr, D1.out.bx.ne⟩
   have ho2 := D1.out.o2.beside D1.out.o1 (by decide) hkp
   have ho3 := D1.out.o3.beside D1.out.o1 (by decide) hkp
   have ho1 := hO5
   have S90 : Hid (DkS w p w.heap.size (w.heap.size + 1) (Y5.setCell ⟨w.heap.size, 2, none⟩ (.slice nA nm nc)) ⟨d.room, d.next, d.nods ++ [⟨IntKind.i64.wrap (d.next - z), ⟨#[120, 121]⟩, 0⟩], d.dir, d.movs⟩ nA nm nc B2 m2 k2 B3 m3 k3) := ⟨hbx.set 2 _, nodR_app (ho1.other (ho1.notBlk hbx.box (by decide)) 2 _), ho2.other (ho2.notBlk hbx.box (by decide)) 2 _, ho3.other (ho3.notBlk hbx.box (by decide)) 2 _⟩
   have mc := hbx.box.cell 2 _ rfl
   have mf := hbx.box.free 2
   have HS9 : Hid (Small ⟨d.room, d.next, d.nods ++ [⟨IntKind.i64.wrap (d.next - z), ⟨#[120, 121]⟩, 0⟩], d.dir, d.movs⟩) := HSm.out.node (by have := HFw.out.1; omega) (by have := HFw.out.2.2.2; omega)
   clear hkp hbx ho1 ho2 ho3 hO5 hb5 hk5 D1 Q1 hlen
   refine pF 10 ?_
   refine uNe 11 (fun K hK => ?_)
   go_simp
   refine hK.out _ _ (fun h => by cases h) ?_
   clear hK K
   try simp only [Act.put, zQ1, zQ2, zQ3]
   refine until_done (by kernel_rfl) ?_ _
   go_wp2_with fail
   go_meet
   exact ⟨⟨d.room, d.next, d.nods ++ [⟨IntKind.i64.wrap (d.next - z), ⟨#[120, 121]⟩, 0⟩], d.dir, d.movs⟩, _, _, _, _, _, _, _, _, _, HS9.out, S90.out⟩
 case rest =>
  obtain ⟨d3, A4, n4, c4, A5, n5, c5, A6, n6, c6, hs3, hS⟩ := hcut
  have SC := Hid.mkD hS
  have HS3 := Hid.mkD hs3
  clear hS hs3 S2
  obtain ⟨e0, e1, e2, e3, e4⟩ := cellsC5 SC.out.bx.box
  obtain ⟨⟨r0, q0⟩, ⟨r1, q1⟩, ⟨r2, q2⟩, ⟨r3, q3⟩, ⟨r4, q4⟩, y0, y1, y2, y3, y4⟩ := resC5 (x0 := .int .i64 d3.room) (x1 := .int .i64 d3.next) (x2 := .slice A4 n4 c4) (x3 := .slice A5 n5 c5) (x4 := .slice A6 n6 c6) SC.out.bx.res
  have GG := (((((SC.out.bx.setR 0 (.int .i64 d3.room)).setR 1 (.int .i64 d3.next)).setR 2 (.slice A4 n4 c4)).setR 3 (.slice A5 n5 c5)).setR 4 (.slice A6 n6 c6))
  have HA := Hid.mkD GG.a
  have HM := Hid.mkD GG.m
  have Po1 := Hid.mkD (ownsC5n SC.out.o1 (SC.out.o1.notBlk SC.out.bx.res (by decide)) (.int .i64 d3.room) (.int .i64 d3.next) (.slice A4 n4 c4) (.slice A5 n5 c5) (.slice A6 n6 c6))
  have Po2 := Hid.mkD (ownsC5n SC.out.o2 (SC.out.o2.notBlk SC.out.bx.res (by decide)) (.int .i64 d3.room) (.int .i64 d3.next) (.slice A4 n4 c4) (.slice A5 n5 c5) (.slice A6 n6 c6))
  have Po3 := Hid.mkD (ownsC5n SC.out.o3 (SC.out.o3.notBlk SC.out.bx.res (by decide)) (.int .i64 d3.room) (.int .i64 d3.next) (.slice A4 n4 c4) (.slice A5 n5 c5) (.slice A6 n6 c6))
  clear GG SC
  go_wp2_with fail
  exact bodyPost_ret (v := .agg #[.int .i64 d3.room, .int .i64 d3.next, .slice A4 n4 c4, .slice A5 n5 c5, .slice A6 n6 c6]) (by simp [results, go_sem, y0, y1, y2, y3, y4]) rfl ⟨d3, _, rfl, ⟨_, _, _, rfl, Po1.out, Po2.out, Po3.out⟩, HS3.out, HA.out, HM.out⟩
end Go.Proofs.YtgjilgecklhglaaGreat
namespace Go.Proofs.YtgjilgecklhglaaGreat
open Go.ChangeShapes Go.WideShapes Go.ChangeAt Go.RowKit Go.PlainAid
set_option linter.unusedVariables false
theorem ownsNilD (w : World) (base sz : Nat) (e : TypeId) : Owns w base e sz (.slice none 0 0) [] := ⟨fun r hr => (by cases hr), by simp, .inl ⟨rfl, rfl⟩⟩
theorem RS.few {d : Dsk} (h : RS d) : d.nods.length ≤ 10 ∧ d.dir.length ≤ 10 ∧ d.movs.length ≤ 20 ∧ bytesOf d.nods ≤ 100000 := by
 have h1 := h.1.sz.n
 have h2 := h.1.sz.l
 have h3 := h.1.sz.m
 have h4 := h.1.sz.b
 have h5 := h.2
 exact ⟨by omega, by omega, by omega, by omega⟩
set_option maxRecDepth 20000 in
set_option maxHeartbeats 16000000 in
theorem some_any4 (w : World) (p most : Nat) (h : AtS w p) (hm0 : 0 < most) (hm1 : most ≤ 1000) : Calls Tryz.prog 44 #[.pointer (some ⟨p, 0, none⟩), .int .i64 (most : Int)] w (DrawnD w p) := by
 have HP := Hid.mkD h
 obtain ⟨X0, hX0⟩ : ∃ X0, X0 = (w.alloc (.cells #[.int .i64 0, .int .i64 0, .slice none 0 0, .slice none 0 0, .slice none 0 0] 28)).alloc (.cells #[.int .i64 300, .int .i64 300, .int .i64 60, .int .i64 100000, .int .i64 0] 3) := ⟨_, rfl⟩
 have S0 : Hid (RsD w p w.heap.size 28 X0 #[.int .i64 0, .int .i64 0, .slice none 0 0, .slice none 0 0, .slice none 0 0]) := by unfold Hid; rw [hX0]; exact (RsD.start h #[.int .i64 0, .int .i64 0, .slice none 0 0, .slice none 0 0, .slice none 0 0] 28).alloc _
 have K0 : Hid (Blk X0 (w.heap.size + 1) #[.int .i64 300, .int .i64 300, .int .i64 60, .int .i64 100000, .int .i64 0] 3) := by unfold Hid; rw [hX0]; have := Blk.new (w.alloc (.cells #[.int .i64 0, .int .i64 0, .slice none 0 0, .slice none 0 0, .slice none 0 0] 28)) #[.int .i64 300, .int .i64 300, .int .i64 60, .int .i64 100000, .int .i64 0] 3; rw [World.size_alloc] at this; exact this
 have q1 : (most : Int) ≤ 1000 := by omega
 have q2 : (0 : Int) < (most : Int) := by omega
 have P0 : Hid (w.heap.size + 1 ≠ p) := by have := h.lt; unfold Hid; omega
 clear h
 go_enter Tryz.func44, Tryz.ntmps44
 go_wp2_with fail
 rw [← hX0]
 clear hX0
 refine (pickS X0 p (w.heap.size + 1) [300, 300, 60, 100000, 0] 5 rfl (by omega) (by omega) (fun z => 0 ≤ z ∧ z ≤ 100000) (by omega) (by intro z hz; simp at hz; omega) S0.out.a P0.out K0.out).mono ?_
 rintro e w1 ⟨z, rfl, ⟨z0, z9⟩, hA, hm⟩
 have S1 : Hid (RsD w p w.heap.size 28 w1 #[.int .i64 0, .int .i64 0, .slice none 0 0, .slice none 0 0, .slice none 0 0]) := S0.out.draw hA hm
 clear hA hm S0 K0 P0
 go_wp2_with fail
 refine (spec_new_yes z w1 z0 (by omega)).mono ?_
 rintro e w2 ⟨rfl, hb⟩
 have S2 : Hid (RsD w p w.heap.size 28 w2 #[.int .i64 0, .int .i64 0, .slice none 0 0, .slice none 0 0, .slice none 0 0]) := S1.out.below hb
 clear hb S1
 obtain ⟨gg, hgg⟩ : ∃ gg, gg = w2.heap.size := ⟨_, rfl⟩
 simp only [bare]
 have S4 : Hid (DkS w p gg w.heap.size (w2.alloc (.cells #[.int .i64 z, .int .i64 1, .slice none 0 0, .slice none 0 0, .slice none 0 0] 28)) ⟨z, 1, [], [], []⟩ none 0 0 none 0 0 none 0 0) := by unfold Hid; rw [hgg]; exact ⟨S2.out.box #[.int .i64 z, .int .i64 1, .slice none 0 0, .slice none 0 0, .slice none 0 0], ownsNilD _ _ _ _, ownsNilD _ _ _ _, ownsNilD _ _ _ _⟩
 go_wp2_with fail
 rw [← hgg]
 generalize w2.alloc (.cells #[.int .i64 z, .int .i64 1, .slice none 0 0, .slice none 0 0, .slice none 0 0] 28) = w3 at *
 clear S2
 refine (belowS w3 p (most : Int) q2 (by omega) S4.out.a).mono ?_
 rintro e w4 ⟨nn, rfl, ⟨nn0, nn9⟩, hA, hm⟩
 have S5 : Hid (DkS w p gg w.heap.size w4 ⟨z, 1, [], [], []⟩ none 0 0 none 0 0 none 0 0) := S4.out.draw hA hm
 have R5 : Hid (RS ⟨z, 1, [], [], []⟩) := RS.bare z0 z9
 obtain ⟨n4, rfl⟩ : ∃ n : Nat, nn = (n : Int) := ⟨nn.toNat, by omega⟩
 clear hA hm S4 hgg
 go_wp2_with fail
 go_loopw [7] (fun v7 wr => ∃ (k : Nat) (d : Dsk) (A1 : Option Addr) (n1 c1 : Nat) (A2 : Option Addr) (n2 c2 : Nat) (A3 : Option Addr) (n3 c3 : Nat), k ≤ 1000 ∧ v7 = .int .i64 (k : Int) ∧ RS d ∧ DkS w p gg w.heap.size wr d A1 n1 c1 A2 n2 c2 A3 n3 c3) (fun i _ => (intOf i).toNat)
 case atStart => exact ⟨n4, _, _, _, _, _, _, _, _, _, _, by omega, rfl, R5.out, S5.out⟩
 case round =>
  obtain ⟨k, d, A1, n1, c1, A2, n2, c2, A3, n3, c3, hk, rfl, hR, hS⟩ := hrel
  have S6 := Hid.mkD hS
  have HR := Hid.mkD hR
  have qk : (k : Int) ≤ 1000 := by omega
  clear hS hR S5 R5
  by_cases h0 : 0 < k
  ·have q3 : (0 : Int) < (k : Int) := by omega
   go_upto_block 1 with fail
   go_cut [8] from 23 to 79 (fun v8 wc => ∃ (d2 : Dsk) (A1 : Option Addr) (n1 c1 : Nat) (A2 : Option Addr) (n2 c2 : Nat) (A3 : Option Addr) (n3 c3 : Nat), RS d2 ∧ DkS w p gg w.heap.size wc d2 A1 n1 c1 A2 n2 c2 A3 n3 c3)
   case first =>
    go_wp2_with fail
    refine (name4_any wr p S6.out.a).mono ?_
    rintro e w5 ⟨nx, rfl, hnx, hA, hm⟩
    have S7 : Hid (DkS w p gg w.heap.size w5 d A1 n1 c1 A2 n2 c2 A3 n3 c3) := S6.out.draw hA hm
    have HN : Hid (nx.size ≤ maxLen) := by unfold Hid maxLen; omega
    clear hA hm S6 hnx
    go_wp2_with fail
    refine (belowS w5 p 10 (by omega) (by omega) S7.out.a).mono ?_
    rintro e w6 ⟨q, rfl, ⟨qq0, qq9⟩, hA, hm⟩
    have S8 : Hid (DkS w p gg w.heap.size w6 d A1 n1 c1 A2 n2 c2 A3 n3 c3) := S7.out.draw hA hm
    clear hA hm S7
    rcases (show q = 0 ∨ q = 1 ∨ q = 2 ∨ q = 3 ∨ q = 4 ∨ q = 5 ∨ q = 6 ∨ q = 7 ∨ q = 8 ∨ q = 9 by omega) with rfl | rfl | rfl | rfl | rfl | rfl | rfl | rfl | rfl | rfl
    ·obtain ⟨e0, e1, e2, e3, e4⟩ := cellsC5 S8.out.bx.box
     go_wp2_with fail
     refine (specMakeV d (.agg #[.int .i64 d.room, .int .i64 d.next, .slice A1 n1 c1, .slice A2 n2 c2, .slice A3 n3 c3]) nx w6 w6.heap.size (S8.out.v) HR.out.small.fits HR.out.small.wt (Nat.le_refl _) HN.out).mono ?_
     rintro e w7 ⟨x, rfl, hO, hb⟩
     clear e0 e1 e2 e3 e4
     obtain ⟨v1, v2, v3, rfl, h1, h2, h3⟩ := hO
     obtain ⟨B1, m1, k1, rfl⟩ := h1.shape
     obtain ⟨B2, m2, k2, rfl⟩ := h2.shape
     obtain ⟨B3, m3, k3, rfl⟩ := h3.shape
     have D2 : Hid (DkS w p gg w.heap.size w7 d A1 n1 c1 A2 n2 c2 A3 n3 c3) := S8.out.below hb
     obtain ⟨d2, hd2⟩ : ∃ d2, d2 = (makeR d nx).1 := ⟨_, rfl⟩
     have HR2 : Hid (RS d2) := by rw [hd2]; exact HR.out.make nx
     rw [← hd2] at h1 h2 h3
     try rw [← hd2]
     have D3 : Hid (DkS w p gg w.heap.size (((((w7.setCell ⟨gg, 0, none⟩ (.int .i64 d2.room)).setCell ⟨gg, 1, none⟩ (.int .i64 d2.next)).setCell ⟨gg, 2, none⟩ (.slice B1 m1 k1)).setCell ⟨gg, 3, none⟩ (.slice B2 m2 k2)).setCell ⟨gg, 4, none⟩ (.slice B3 m3 k3)) d2 B1 m1 k1 B2 m2 k2 B3 m3 k3) := D2.out.swap (h1.mono S8.out.bx.m.size) (h2.mono S8.out.bx.m.size) (h3.mono S8.out.bx.m.size)
     obtain ⟨⟨r0, f0⟩, ⟨r1, f1⟩, ⟨r2, f2⟩, ⟨r3, f3⟩, ⟨r4, f4⟩, _⟩ := resC5 (x0 := .int .i64 d2.room) (x1 := .int .i64 d2.next) (x2 := .slice B1 m1 k1) (x3 := .slice B2 m2 k2) (x4 := .slice B3 m3 k3) D2.out.bx.box
     clear h1 h2 h3 hb hd2 D2 S8
     go_wp2_with fail
     go_meet
     exact ⟨d2, _, _, _, _, _, _, _, _, _, HR2.out, D3.out⟩
    ·obtain ⟨e0, e1, e2, e3, e4⟩ := cellsC5 S8.out.bx.box
     go_wp2_with fail
     refine (specMakeV d (.agg #[.int .i64 d.room, .int .i64 d.next, .slice A1 n1 c1, .slice A2 n2 c2, .slice A3 n3 c3]) nx w6 w6.heap.size (S8.out.v) HR.out.small.fits HR.out.small.wt (Nat.le_refl _) HN.out).mono ?_
     rintro e w7 ⟨x, rfl, hO, hb⟩
     clear e0 e1 e2 e3 e4
     obtain ⟨v1, v2, v3, rfl, h1, h2, h3⟩ := hO
     obtain ⟨B1, m1, k1, rfl⟩ := h1.shape
     obtain ⟨B2, m2, k2, rfl⟩ := h2.shape
     obtain ⟨B3, m3, k3, rfl⟩ := h3.shape
     have D2 : Hid (DkS w p gg w.heap.size w7 d A1 n1 c1 A2 n2 c2 A3 n3 c3) := S8.out.below hb
     obtain ⟨d2, hd2⟩ : ∃ d2, d2 = (makeR d nx).1 := ⟨_, rfl⟩
     have HR2 : Hid (RS d2) := by rw [hd2]; exact HR.out.make nx
     rw [← hd2] at h1 h2 h3
     try rw [← hd2]
     have D3 : Hid (DkS w p gg w.heap.size (((((w7.setCell ⟨gg, 0, none⟩ (.int .i64 d2.room)).setCell ⟨gg, 1, none⟩ (.int .i64 d2.next)).setCell ⟨gg, 2, none⟩ (.slice B1 m1 k1)).setCell ⟨gg, 3, none⟩ (.slice B2 m2 k2)).setCell ⟨gg, 4, none⟩ (.slice B3 m3 k3)) d2 B1 m1 k1 B2 m2 k2 B3 m3 k3) := D2.out.swap (h1.mono S8.out.bx.m.size) (h2.mono S8.out.bx.m.size) (h3.mono S8.out.bx.m.size)
     obtain ⟨⟨r0, f0⟩, ⟨r1, f1⟩, ⟨r2, f2⟩, ⟨r3, f3⟩, ⟨r4, f4⟩, _⟩ := resC5 (x0 := .int .i64 d2.room) (x1 := .int .i64 d2.next) (x2 := .slice B1 m1 k1) (x3 := .slice B2 m2 k2) (x4 := .slice B3 m3 k3) D2.out.bx.box
     clear h1 h2 h3 hb hd2 D2 S8
     go_wp2_with fail
     go_meet
     exact ⟨d2, _, _, _, _, _, _, _, _, _, HR2.out, D3.out⟩
    ·obtain ⟨e0, e1, e2, e3, e4⟩ := cellsC5 S8.out.bx.box
     go_wp2_with fail
     refine (specMakeV d (.agg #[.int .i64 d.room, .int .i64 d.next, .slice A1 n1 c1, .slice A2 n2 c2, .slice A3 n3 c3]) nx w6 w6.heap.size (S8.out.v) HR.out.small.fits HR.out.small.wt (Nat.le_refl _) HN.out).mono ?_
     rintro e w7 ⟨x, rfl, hO, hb⟩
     clear e0 e1 e2 e3 e4
     obtain ⟨v1, v2, v3, rfl, h1, h2, h3⟩ := hO
     obtain ⟨B1, m1, k1, rfl⟩ := h1.shape
     obtain ⟨B2, m2, k2, rfl⟩ := h2.shape
     obtain ⟨B3, m3, k3, rfl⟩ := h3.shape
     have D2 : Hid (DkS w p gg w.heap.size w7 d A1 n1 c1 A2 n2 c2 A3 n3 c3) := S8.out.below hb
     obtain ⟨d2, hd2⟩ : ∃ d2, d2 = (makeR d nx).1 := ⟨_, rfl⟩
     have HR2 : Hid (RS d2) := by rw [hd2]; exact HR.out.make nx
     rw [← hd2] at h1 h2 h3
     try rw [← hd2]
     have D3 : Hid (DkS w p gg w.heap.size (((((w7.setCell ⟨gg, 0, none⟩ (.int .i64 d2.room)).setCell ⟨gg, 1, none⟩ (.int .i64 d2.next)).setCell ⟨gg, 2, none⟩ (.slice B1 m1 k1)).setCell ⟨gg, 3, none⟩ (.slice B2 m2 k2)).setCell ⟨gg, 4, none⟩ (.slice B3 m3 k3)) d2 B1 m1 k1 B2 m2 k2 B3 m3 k3) := D2.out.swap (h1.mono S8.out.bx.m.size) (h2.mono S8.out.bx.m.size) (h3.mono S8.out.bx.m.size)
     obtain ⟨⟨r0, f0⟩, ⟨r1, f1⟩, ⟨r2, f2⟩, ⟨r3, f3⟩, ⟨r4, f4⟩, _⟩ := resC5 (x0 := .int .i64 d2.room) (x1 := .int .i64 d2.next) (x2 := .slice B1 m1 k1) (x3 := .slice B2 m2 k2) (x4 := .slice B3 m3 k3) D2.out.bx.box
     clear h1 h2 h3 hb hd2 D2 S8
     go_wp2_with fail
     go_meet
     exact ⟨d2, _, _, _, _, _, _, _, _, _, HR2.out, D3.out⟩
    ·have D0 : Hid (DkS w p gg w.heap.size w6.drew d A1 n1 c1 A2 n2 c2 A3 n3 c3) := S8.out.below (Below.refl _ w6).drew
     go_upto_region 15 with fail
     refine wp_region_until (fun w' => w'.cell? ⟨gg, 0, none⟩ = some (.int .i64 d.room) ∧ w'.cell? ⟨gg, 1, none⟩ = some (.int .i64 d.next) ∧ w'.cell? ⟨gg, 2, none⟩ = some (.slice A1 n1 c1) ∧ w'.cell? ⟨gg, 3, none⟩ = some (.slice A2 n2 c2) ∧ w'.cell? ⟨gg, 4, none⟩ = some (.slice A3 n3 c3)) (fun i => i == 8) 9 (by rfl) (by kernel_rfl) ?_
     have Q0 := Hid.mkD (cellsC5 D0.out.bx.box)
     generalize w6.drew = y0 at *
     clear S8
     refine tF 0 Q0.out ?_
     refine pF 1 ?_
     refine pF 2 ?_
     refine uNe 3 (fun K hK => ?_)
     go_simp
     refine (text_some y0 p 20 (by omega) (by omega) D0.out.a).mono ?_
     rintro e y1 ⟨tx, rfl, htx, hA, hm⟩
     have D1 : Hid (DkS w p gg w.heap.size y1 d A1 n1 c1 A2 n2 c2 A3 n3 c3) := D0.out.draw hA hm
     have Q1 := Hid.mkD (cellsC5 D1.out.bx.box)
     have HTX : Hid (tx.size ≤ maxLen) := by unfold Hid maxLen; omega
     clear hA hm D0 Q0
     refine hK.out _ _ (fun _ _ => Q1.out) ?_
     clear hK K
     try simp only [Act.put, zQ1, zQ2, zQ3]
     refine uNe 4 (fun K hK => ?_)
     go_simp
     refine (specAddV d (.agg #[.int .i64 d.room, .int .i64 d.next, .slice A1 n1 c1, .slice A2 n2 c2, .slice A3 n3 c3]) nx tx y1 y1.heap.size (D1.out.v) HR.out.small.fits HR.out.small.wt (Nat.le_refl _) HN.out HTX.out).mono ?_
     rintro e y2 ⟨x, rfl, hO, hb⟩
     have Q2 := Hid.mkD (cellsC5 (D1.out.below hb).bx.box)
     obtain ⟨v1, v2, v3, rfl, h1, h2, h3⟩ := hO
     refine hK.out _ _ (fun _ _ => Q2.out) ?_
     clear hK K Q1 Q2
     try simp only [Act.put, zQ1, zQ2, zQ3]
     obtain ⟨B1, m1, k1, rfl⟩ := h1.shape
     obtain ⟨B2, m2, k2, rfl⟩ := h2.shape
     obtain ⟨B3, m3, k3, rfl⟩ := h3.shape
     have D2 : Hid (DkS w p gg w.heap.size y2 d A1 n1 c1 A2 n2 c2 A3 n3 c3) := D1.out.below hb
     obtain ⟨d2, hd2⟩ : ∃ d2, d2 = (addR d nx tx).1 := ⟨_, rfl⟩
     have HR2 : Hid (RS d2) := by rw [hd2]; exact HR.out.add nx tx
     rw [← hd2] at h1 h2 h3
     try rw [← hd2]
     have D3 : Hid (DkS w p gg w.heap.size (((((y2.setCell ⟨gg, 0, none⟩ (.int .i64 d2.room)).setCell ⟨gg, 1, none⟩ (.int .i64 d2.next)).setCell ⟨gg, 2, none⟩ (.slice B1 m1 k1)).setCell ⟨gg, 3, none⟩ (.slice B2 m2 k2)).setCell ⟨gg, 4, none⟩ (.slice B3 m3 k3)) d2 B1 m1 k1 B2 m2 k2 B3 m3 k3) := D2.out.swap (h1.mono D1.out.bx.m.size) (h2.mono D1.out.bx.m.size) (h3.mono D1.out.bx.m.size)
     obtain ⟨⟨r0, f0⟩, ⟨r1, f1⟩, ⟨r2, f2⟩, ⟨r3, f3⟩, ⟨r4, f4⟩, _⟩ := resC5 (x0 := .int .i64 d2.room) (x1 := .int .i64 d2.next) (x2 := .slice B1 m1 k1) (x3 := .slice B2 m2 k2) (x4 := .slice B3 m3 k3) D2.out.bx.box
     clear h1 h2 h3 hb hd2 D2 D1
     refine pF 5 ?_
     refine pF 6 ?_
     refine pF 7 ?_
     refine uNe 8 (fun K hK => ?_)
     go_simp
     refine hK.out _ _ (fun h => by cases h) ?_
     clear hK K r0 r1 r2 r3 r4 f0 f1 f2 f3 f4
     try simp only [Act.put, zQ1, zQ2, zQ3]
     refine until_done (by kernel_rfl) ?_ _
     go_wp2_with fail
     go_meet
     exact ⟨d2, _, _, _, _, _, _, _, _, _, HR2.out, D3.out⟩
    ·have D0 : Hid (DkS w p gg w.heap.size w6.drew d A1 n1 c1 A2 n2 c2 A3 n3 c3) := S8.out.below (Below.refl _ w6).drew
     go_upto_region 15 with fail
     refine wp_region_until (fun w' => w'.cell? ⟨gg, 0, none⟩ = some (.int .i64 d.room) ∧ w'.cell? ⟨gg, 1, none⟩ = some (.int .i64 d.next) ∧ w'.cell? ⟨gg, 2, none⟩ = some (.slice A1 n1 c1) ∧ w'.cell? ⟨gg, 3, none⟩ = some (.slice A2 n2 c2) ∧ w'.cell? ⟨gg, 4, none⟩ = some (.slice A3 n3 c3)) (fun i => i == 8) 9 (by rfl) (by kernel_rfl) ?_
     have Q0 := Hid.mkD (cellsC5 D0.out.bx.box)
     generalize w6.drew = y0 at *
     clear S8
     refine tF 0 Q0.out ?_
     refine pF 1 ?_
     refine pF 2 ?_
     refine uNe 3 (fun K hK => ?_)
     go_simp
     refine (text_some y0 p 20 (by omega) (by omega) D0.out.a).mono ?_
     rintro e y1 ⟨tx, rfl, htx, hA, hm⟩
     have D1 : Hid (DkS w p gg w.heap.size y1 d A1 n1 c1 A2 n2 c2 A3 n3 c3) := D0.out.draw hA hm
     have Q1 := Hid.mkD (cellsC5 D1.out.bx.box)
     have HTX : Hid (tx.size ≤ maxLen) := by unfold Hid maxLen; omega
     clear hA hm D0 Q0
     refine hK.out _ _ (fun _ _ => Q1.out) ?_
     clear hK K
     try simp only [Act.put, zQ1, zQ2, zQ3]
     refine uNe 4 (fun K hK => ?_)
     go_simp
     refine (specAddV d (.agg #[.int .i64 d.room, .int .i64 d.next, .slice A1 n1 c1, .slice A2 n2 c2, .slice A3 n3 c3]) nx tx y1 y1.heap.size (D1.out.v) HR.out.small.fits HR.out.small.wt (Nat.le_refl _) HN.out HTX.out).mono ?_
     rintro e y2 ⟨x, rfl, hO, hb⟩
     have Q2 := Hid.mkD (cellsC5 (D1.out.below hb).bx.box)
     obtain ⟨v1, v2, v3, rfl, h1, h2, h3⟩ := hO
     refine hK.out _ _ (fun _ _ => Q2.out) ?_
     clear hK K Q1 Q2
     try simp only [Act.put, zQ1, zQ2, zQ3]
     obtain ⟨B1, m1, k1, rfl⟩ := h1.shape
     obtain ⟨B2, m2, k2, rfl⟩ := h2.shape
     obtain ⟨B3, m3, k3, rfl⟩ := h3.shape
     have D2 : Hid (DkS w p gg w.heap.size y2 d A1 n1 c1 A2 n2 c2 A3 n3 c3) := D1.out.below hb
     obtain ⟨d2, hd2⟩ : ∃ d2, d2 = (addR d nx tx).1 := ⟨_, rfl⟩
     have HR2 : Hid (RS d2) := by rw [hd2]; exact HR.out.add nx tx
     rw [← hd2] at h1 h2 h3
     try rw [← hd2]
     have D3 : Hid (DkS w p gg w.heap.size (((((y2.setCell ⟨gg, 0, none⟩ (.int .i64 d2.room)).setCell ⟨gg, 1, none⟩ (.int .i64 d2.next)).setCell ⟨gg, 2, none⟩ (.slice B1 m1 k1)).setCell ⟨gg, 3, none⟩ (.slice B2 m2 k2)).setCell ⟨gg, 4, none⟩ (.slice B3 m3 k3)) d2 B1 m1 k1 B2 m2 k2 B3 m3 k3) := D2.out.swap (h1.mono D1.out.bx.m.size) (h2.mono D1.out.bx.m.size) (h3.mono D1.out.bx.m.size)
     obtain ⟨⟨r0, f0⟩, ⟨r1, f1⟩, ⟨r2, f2⟩, ⟨r3, f3⟩, ⟨r4, f4⟩, _⟩ := resC5 (x0 := .int .i64 d2.room) (x1 := .int .i64 d2.next) (x2 := .slice B1 m1 k1) (x3 := .slice B2 m2 k2) (x4 := .slice B3 m3 k3) D2.out.bx.box
     clear h1 h2 h3 hb hd2 D2 D1
     refine pF 5 ?_
     refine pF 6 ?_
     refine pF 7 ?_
     refine uNe 8 (fun K hK => ?_)
     go_simp
     refine hK.out _ _ (fun h => by cases h) ?_
     clear hK K r0 r1 r2 r3 r4 f0 f1 f2 f3 f4
     try simp only [Act.put, zQ1, zQ2, zQ3]
     refine until_done (by kernel_rfl) ?_ _
     go_wp2_with fail
     go_meet
     exact ⟨d2, _, _, _, _, _, _, _, _, _, HR2.out, D3.out⟩
    ·have D0 : Hid (DkS w p gg w.heap.size w6.drew d A1 n1 c1 A2 n2 c2 A3 n3 c3) := S8.out.below (Below.refl _ w6).drew
     go_upto_region 15 with fail
     refine wp_region_until (fun w' => w'.cell? ⟨gg, 0, none⟩ = some (.int .i64 d.room) ∧ w'.cell? ⟨gg, 1, none⟩ = some (.int .i64 d.next) ∧ w'.cell? ⟨gg, 2, none⟩ = some (.slice A1 n1 c1) ∧ w'.cell? ⟨gg, 3, none⟩ = some (.slice A2 n2 c2) ∧ w'.cell? ⟨gg, 4, none⟩ = some (.slice A3 n3 c3)) (fun i => i == 8) 9 (by rfl) (by kernel_rfl) ?_
     have Q0 := Hid.mkD (cellsC5 D0.out.bx.box)
     generalize w6.drew = y0 at *
     clear S8
     refine tF 0 Q0.out ?_
     refine pF 1 ?_
     refine pF 2 ?_
     refine uNe 3 (fun K hK => ?_)
     go_simp
     refine (text_some y0 p 20 (by omega) (by omega) D0.out.a).mono ?_
     rintro e y1 ⟨tx, rfl, htx, hA, hm⟩
     have D1 : Hid (DkS w p gg w.heap.size y1 d A1 n1 c1 A2 n2 c2 A3 n3 c3) := D0.out.draw hA hm
     have Q1 := Hid.mkD (cellsC5 D1.out.bx.box)
     have HTX : Hid (tx.size ≤ maxLen) := by unfold Hid maxLen; omega
     clear hA hm D0 Q0
     refine hK.out _ _ (fun _ _ => Q1.out) ?_
     clear hK K
     try simp only [Act.put, zQ1, zQ2, zQ3]
     refine uNe 4 (fun K hK => ?_)
     go_simp
     refine (specAddV d (.agg #[.int .i64 d.room, .int .i64 d.next, .slice A1 n1 c1, .slice A2 n2 c2, .slice A3 n3 c3]) nx tx y1 y1.heap.size (D1.out.v) HR.out.small.fits HR.out.small.wt (Nat.le_refl _) HN.out HTX.out).mono ?_
     rintro e y2 ⟨x, rfl, hO, hb⟩
     have Q2 := Hid.mkD (cellsC5 (D1.out.below hb).bx.box)
     obtain ⟨v1, v2, v3, rfl, h1, h2, h3⟩ := hO
     refine hK.out _ _ (fun _ _ => Q2.out) ?_
     clear hK K Q1 Q2
     try simp only [Act.put, zQ1, zQ2, zQ3]
     obtain ⟨B1, m1, k1, rfl⟩ := h1.shape
     obtain ⟨B2, m2, k2, rfl⟩ := h2.shape
     obtain ⟨B3, m3, k3, rfl⟩ := h3.shape
     have D2 : Hid (DkS w p gg w.heap.size y2 d A1 n1 c1 A2 n2 c2 A3 n3 c3) := D1.out.below hb
     obtain ⟨d2, hd2⟩ : ∃ d2, d2 = (addR d nx tx).1 := ⟨_, rfl⟩
     have HR2 : Hid (RS d2) := by rw [hd2]; exact HR.out.add nx tx
     rw [← hd2] at h1 h2 h3
     try rw [← hd2]
     have D3 : Hid (DkS w p gg w.heap.size (((((y2.setCell ⟨gg, 0, none⟩ (.int .i64 d2.room)).setCell ⟨gg, 1, none⟩ (.int .i64 d2.next)).setCell ⟨gg, 2, none⟩ (.slice B1 m1 k1)).setCell ⟨gg, 3, none⟩ (.slice B2 m2 k2)).setCell ⟨gg, 4, none⟩ (.slice B3 m3 k3)) d2 B1 m1 k1 B2 m2 k2 B3 m3 k3) := D2.out.swap (h1.mono D1.out.bx.m.size) (h2.mono D1.out.bx.m.size) (h3.mono D1.out.bx.m.size)
     obtain ⟨⟨r0, f0⟩, ⟨r1, f1⟩, ⟨r2, f2⟩, ⟨r3, f3⟩, ⟨r4, f4⟩, _⟩ := resC5 (x0 := .int .i64 d2.room) (x1 := .int .i64 d2.next) (x2 := .slice B1 m1 k1) (x3 := .slice B2 m2 k2) (x4 := .slice B3 m3 k3) D2.out.bx.box
     clear h1 h2 h3 hb hd2 D2 D1
     refine pF 5 ?_
     refine pF 6 ?_
     refine pF 7 ?_
     refine uNe 8 (fun K hK => ?_)
     go_simp
     refine hK.out _ _ (fun h => by cases h) ?_
     clear hK K r0 r1 r2 r3 r4 f0 f1 f2 f3 f4
     try simp only [Act.put, zQ1, zQ2, zQ3]
     refine until_done (by kernel_rfl) ?_ _
     go_wp2_with fail
     go_meet
     exact ⟨d2, _, _, _, _, _, _, _, _, _, HR2.out, D3.out⟩
    ·obtain ⟨e0, e1, e2, e3, e4⟩ := cellsC5 S8.out.bx.box
     go_wp2_with fail
     refine (specSyncV d (.agg #[.int .i64 d.room, .int .i64 d.next, .slice A1 n1 c1, .slice A2 n2 c2, .slice A3 n3 c3]) nx w6 w6.heap.size (S8.out.v) HR.out.small.fits HR.out.small.wt (Nat.le_refl _) HN.out).mono ?_
     rintro e w7 ⟨x, rfl, hO, hb⟩
     clear e0 e1 e2 e3 e4
     obtain ⟨v1, v2, v3, rfl, h1, h2, h3⟩ := hO
     obtain ⟨B1, m1, k1, rfl⟩ := h1.shape
     obtain ⟨B2, m2, k2, rfl⟩ := h2.shape
     obtain ⟨B3, m3, k3, rfl⟩ := h3.shape
     have D2 : Hid (DkS w p gg w.heap.size w7 d A1 n1 c1 A2 n2 c2 A3 n3 c3) := S8.out.below hb
     obtain ⟨d2, hd2⟩ : ∃ d2, d2 = (syncR d nx).1 := ⟨_, rfl⟩
     have HR2 : Hid (RS d2) := by rw [hd2]; exact HR.out.sync nx
     rw [← hd2] at h1 h2 h3
     try rw [← hd2]
     have D3 : Hid (DkS w p gg w.heap.size (((((w7.setCell ⟨gg, 0, none⟩ (.int .i64 d2.room)).setCell ⟨gg, 1, none⟩ (.int .i64 d2.next)).setCell ⟨gg, 2, none⟩ (.slice B1 m1 k1)).setCell ⟨gg, 3, none⟩ (.slice B2 m2 k2)).setCell ⟨gg, 4, none⟩ (.slice B3 m3 k3)) d2 B1 m1 k1 B2 m2 k2 B3 m3 k3) := D2.out.swap (h1.mono S8.out.bx.m.size) (h2.mono S8.out.bx.m.size) (h3.mono S8.out.bx.m.size)
     obtain ⟨⟨r0, f0⟩, ⟨r1, f1⟩, ⟨r2, f2⟩, ⟨r3, f3⟩, ⟨r4, f4⟩, _⟩ := resC5 (x0 := .int .i64 d2.room) (x1 := .int .i64 d2.next) (x2 := .slice B1 m1 k1) (x3 := .slice B2 m2 k2) (x4 := .slice B3 m3 k3) D2.out.bx.box
     clear h1 h2 h3 hb hd2 D2 S8
     go_wp2_with fail
     go_meet
     exact ⟨d2, _, _, _, _, _, _, _, _, _, HR2.out, D3.out⟩
    ·have D0 : Hid (DkS w p gg w.heap.size w6.drew d A1 n1 c1 A2 n2 c2 A3 n3 c3) := S8.out.below (Below.refl _ w6).drew
     go_upto_region 19 with fail
     refine wp_region_until (fun w' => w'.cell? ⟨gg, 0, none⟩ = some (.int .i64 d.room) ∧ w'.cell? ⟨gg, 1, none⟩ = some (.int .i64 d.next) ∧ w'.cell? ⟨gg, 2, none⟩ = some (.slice A1 n1 c1) ∧ w'.cell? ⟨gg, 3, none⟩ = some (.slice A2 n2 c2) ∧ w'.cell? ⟨gg, 4, none⟩ = some (.slice A3 n3 c3)) (fun i => i == 8) 9 (by rfl) (by kernel_rfl) ?_
     have Q0 := Hid.mkD (cellsC5 D0.out.bx.box)
     generalize w6.drew = y0 at *
     clear S8
     refine tF 0 Q0.out ?_
     refine pF 1 ?_
     refine pF 2 ?_
     refine uNe 3 (fun K hK => ?_)
     go_simp
     refine (name4_any y0 p D0.out.a).mono ?_
     rintro e y1 ⟨tx, rfl, htx, hA, hm⟩
     have D1 : Hid (DkS w p gg w.heap.size y1 d A1 n1 c1 A2 n2 c2 A3 n3 c3) := D0.out.draw hA hm
     have Q1 := Hid.mkD (cellsC5 D1.out.bx.box)
     have HTX : Hid (tx.size ≤ maxLen) := by unfold Hid maxLen; omega
     clear hA hm D0 Q0
     refine hK.out _ _ (fun _ _ => Q1.out) ?_
     clear hK K
     try simp only [Act.put, zQ1, zQ2, zQ3]
     refine uNe 4 (fun K hK => ?_)
     go_simp
     refine (specRenameV d (.agg #[.int .i64 d.room, .int .i64 d.next, .slice A1 n1 c1, .slice A2 n2 c2, .slice A3 n3 c3]) nx tx y1 y1.heap.size (D1.out.v) HR.out.small.fits HR.out.small.wt (Nat.le_refl _) HN.out HTX.out).mono ?_
     rintro e y2 ⟨x, rfl, hO, hb⟩
     have Q2 := Hid.mkD (cellsC5 (D1.out.below hb).bx.box)
     obtain ⟨v1, v2, v3, rfl, h1, h2, h3⟩ := hO
     refine hK.out _ _ (fun _ _ => Q2.out) ?_
     clear hK K Q1 Q2
     try simp only [Act.put, zQ1, zQ2, zQ3]
     obtain ⟨B1, m1, k1, rfl⟩ := h1.shape
     obtain ⟨B2, m2, k2, rfl⟩ := h2.shape
     obtain ⟨B3, m3, k3, rfl⟩ := h3.shape
     have D2 : Hid (DkS w p gg w.heap.size y2 d A1 n1 c1 A2 n2 c2 A3 n3 c3) := D1.out.below hb
     obtain ⟨d2, hd2⟩ : ∃ d2, d2 = (renameR d nx tx).1 := ⟨_, rfl⟩
     have HR2 : Hid (RS d2) := by rw [hd2]; exact HR.out.ren nx tx
     rw [← hd2] at h1 h2 h3
     try rw [← hd2]
     have D3 : Hid (DkS w p gg w.heap.size (((((y2.setCell ⟨gg, 0, none⟩ (.int .i64 d2.room)).setCell ⟨gg, 1, none⟩ (.int .i64 d2.next)).setCell ⟨gg, 2, none⟩ (.slice B1 m1 k1)).setCell ⟨gg, 3, none⟩ (.slice B2 m2 k2)).setCell ⟨gg, 4, none⟩ (.slice B3 m3 k3)) d2 B1 m1 k1 B2 m2 k2 B3 m3 k3) := D2.out.swap (h1.mono D1.out.bx.m.size) (h2.mono D1.out.bx.m.size) (h3.mono D1.out.bx.m.size)
     obtain ⟨⟨r0, f0⟩, ⟨r1, f1⟩, ⟨r2, f2⟩, ⟨r3, f3⟩, ⟨r4, f4⟩, _⟩ := resC5 (x0 := .int .i64 d2.room) (x1 := .int .i64 d2.next) (x2 := .slice B1 m1 k1) (x3 := .slice B2 m2 k2) (x4 := .slice B3 m3 k3) D2.out.bx.box
     clear h1 h2 h3 hb hd2 D2 D1
     refine pF 5 ?_
     refine pF 6 ?_
     refine pF 7 ?_
     refine uNe 8 (fun K hK => ?_)
     go_simp
     refine hK.out _ _ (fun h => by cases h) ?_
     clear hK K r0 r1 r2 r3 r4 f0 f1 f2 f3 f4
     try simp only [Act.put, zQ1, zQ2, zQ3]
     refine until_done (by kernel_rfl) ?_ _
     go_wp2_with fail
     go_meet
     exact ⟨d2, _, _, _, _, _, _, _, _, _, HR2.out, D3.out⟩
    ·obtain ⟨e0, e1, e2, e3, e4⟩ := cellsC5 S8.out.bx.box
     go_wp2_with fail
     refine (specDropV d (.agg #[.int .i64 d.room, .int .i64 d.next, .slice A1 n1 c1, .slice A2 n2 c2, .slice A3 n3 c3]) nx w6 w6.heap.size (S8.out.v) HR.out.small.fits HR.out.small.wt (Nat.le_refl _) HN.out).mono ?_
     rintro e w7 ⟨x, rfl, hO, hb⟩
     clear e0 e1 e2 e3 e4
     obtain ⟨v1, v2, v3, rfl, h1, h2, h3⟩ := hO
     obtain ⟨B1, m1, k1, rfl⟩ := h1.shape
     obtain ⟨B2, m2, k2, rfl⟩ := h2.shape
     obtain ⟨B3, m3, k3, rfl⟩ := h3.shape
     have D2 : Hid (DkS w p gg w.heap.size w7 d A1 n1 c1 A2 n2 c2 A3 n3 c3) := S8.out.below hb
     obtain ⟨d2, hd2⟩ : ∃ d2, d2 = (dropR d nx).1 := ⟨_, rfl⟩
     have HR2 : Hid (RS d2) := by rw [hd2]; exact HR.out.drop nx
     rw [← hd2] at h1 h2 h3
     try rw [← hd2]
     have D3 : Hid (DkS w p gg w.heap.size (((((w7.setCell ⟨gg, 0, none⟩ (.int .i64 d2.room)).setCell ⟨gg, 1, none⟩ (.int .i64 d2.next)).setCell ⟨gg, 2, none⟩ (.slice B1 m1 k1)).setCell ⟨gg, 3, none⟩ (.slice B2 m2 k2)).setCell ⟨gg, 4, none⟩ (.slice B3 m3 k3)) d2 B1 m1 k1 B2 m2 k2 B3 m3 k3) := D2.out.swap (h1.mono S8.out.bx.m.size) (h2.mono S8.out.bx.m.size) (h3.mono S8.out.bx.m.size)
     obtain ⟨⟨r0, f0⟩, ⟨r1, f1⟩, ⟨r2, f2⟩, ⟨r3, f3⟩, ⟨r4, f4⟩, _⟩ := resC5 (x0 := .int .i64 d2.room) (x1 := .int .i64 d2.next) (x2 := .slice B1 m1 k1) (x3 := .slice B2 m2 k2) (x4 := .slice B3 m3 k3) D2.out.bx.box
     clear h1 h2 h3 hb hd2 D2 S8
     go_wp2_with fail
     go_meet
     exact ⟨d2, _, _, _, _, _, _, _, _, _, HR2.out, D3.out⟩
    ·obtain ⟨e0, e1, e2, e3, e4⟩ := cellsC5 S8.out.bx.box
     go_wp2_with fail
     refine (specSyncDirV d (.agg #[.int .i64 d.room, .int .i64 d.next, .slice A1 n1 c1, .slice A2 n2 c2, .slice A3 n3 c3]) w6 w6.heap.size (S8.out.v) HR.out.small.fits HR.out.small.wt (Nat.le_refl _)).mono ?_
     rintro e w7 ⟨x, rfl, hO, hb⟩
     clear e0 e1 e2 e3 e4
     obtain ⟨v1, v2, v3, rfl, h1, h2, h3⟩ := hO
     obtain ⟨B1, m1, k1, rfl⟩ := h1.shape
     obtain ⟨B2, m2, k2, rfl⟩ := h2.shape
     obtain ⟨B3, m3, k3, rfl⟩ := h3.shape
     have D2 : Hid (DkS w p gg w.heap.size w7 d A1 n1 c1 A2 n2 c2 A3 n3 c3) := S8.out.below hb
     obtain ⟨d2, hd2⟩ : ∃ d2, d2 = (syncDirR d).1 := ⟨_, rfl⟩
     have HR2 : Hid (RS d2) := by rw [hd2]; exact HR.out.syncDir
     rw [← hd2] at h1 h2 h3
     try rw [← hd2]
     have D3 : Hid (DkS w p gg w.heap.size (((((w7.setCell ⟨gg, 0, none⟩ (.int .i64 d2.room)).setCell ⟨gg, 1, none⟩ (.int .i64 d2.next)).setCell ⟨gg, 2, none⟩ (.slice B1 m1 k1)).setCell ⟨gg, 3, none⟩ (.slice B2 m2 k2)).setCell ⟨gg, 4, none⟩ (.slice B3 m3 k3)) d2 B1 m1 k1 B2 m2 k2 B3 m3 k3) := D2.out.swap (h1.mono S8.out.bx.m.size) (h2.mono S8.out.bx.m.size) (h3.mono S8.out.bx.m.size)
     obtain ⟨⟨r0, f0⟩, ⟨r1, f1⟩, ⟨r2, f2⟩, ⟨r3, f3⟩, ⟨r4, f4⟩, _⟩ := resC5 (x0 := .int .i64 d2.room) (x1 := .int .i64 d2.next) (x2 := .slice B1 m1 k1) (x3 := .slice B2 m2 k2) (x4 := .slice B3 m3 k3) D2.out.bx.box
     clear h1 h2 h3 hb hd2 D2 S8
     go_wp2_with fail
     go_meet
     exact ⟨d2, _, _, _, _, _, _, _, _, _, HR2.out, D3.out⟩
   case rest =>
    obtain ⟨d2, B1, m1, k1, B2, m2, k2, B3, m3, k3, hR2, hS2⟩ := hcut
    have S9 := Hid.mkD hS2
    have HR2 := Hid.mkD hR2
    clear hS2 hR2 S6 HR
    go_wp2_with fail
    go_roundw
    case rel => exact ⟨k - 1, d2, B1, m1, k1, B2, m2, k2, B3, m3, k3, by omega, by go_num, HR2.out, S9.out⟩
    case measure => simp [intOf]; omega
  ·obtain rfl : k = 0 := by omega
   obtain ⟨e0, e1, e2, e3, e4⟩ := cellsC5 S6.out.bx.box
   clear e0 e1 e2 e3 e4
   go_wp2_with fail
   refine (once_some wr p 10 (by omega) S6.out.a).mono ?_
   rintro e w5 ⟨bb, rfl, hA, hm⟩
   have S7 : Hid (DkS w p gg w.heap.size w5 d A1 n1 c1 A2 n2 c2 A3 n3 c3) := S6.out.draw hA hm
   clear hA hm S6
   obtain ⟨e0, e1, e2, e3, e4⟩ := cellsC5 S7.out.bx.box
   cases bb
   ·obtain ⟨⟨r0, f0⟩, ⟨r1, f1⟩, ⟨r2, f2⟩, ⟨r3, f3⟩, ⟨r4, f4⟩, y0, y1, y2, y3, y4⟩ := resC5 (x0 := .int .i64 d.room) (x1 := .int .i64 d.next) (x2 := .slice A1 n1 c1) (x3 := .slice A2 n2 c2) (x4 := .slice A3 n3 c3) S7.out.bx.res
    have GG := (((((S7.out.bx.setR 0 (.int .i64 d.room)).setR 1 (.int .i64 d.next)).setR 2 (.slice A1 n1 c1)).setR 3 (.slice A2 n2 c2)).setR 4 (.slice A3 n3 c3))
    have HA := Hid.mkD GG.a
    have HM := Hid.mkD GG.m
    have Po1 := Hid.mkD (ownsC5n S7.out.o1 (S7.out.o1.notBlk S7.out.bx.res (by decide)) (.int .i64 d.room) (.int .i64 d.next) (.slice A1 n1 c1) (.slice A2 n2 c2) (.slice A3 n3 c3))
    have Po2 := Hid.mkD (ownsC5n S7.out.o2 (S7.out.o2.notBlk S7.out.bx.res (by decide)) (.int .i64 d.room) (.int .i64 d.next) (.slice A1 n1 c1) (.slice A2 n2 c2) (.slice A3 n3 c3))
    have Po3 := Hid.mkD (ownsC5n S7.out.o3 (S7.out.o3.notBlk S7.out.bx.res (by decide)) (.int .i64 d.room) (.int .i64 d.next) (.slice A1 n1 c1) (.slice A2 n2 c2) (.slice A3 n3 c3))
    clear GG S7
    go_wp2_with fail
    exact bodyPost_ret (v := .agg #[.int .i64 d.room, .int .i64 d.next, .slice A1 n1 c1, .slice A2 n2 c2, .slice A3 n3 c3]) (by simp [results, go_sem, y0, y1, y2, y3, y4]) rfl ⟨d, _, rfl, ⟨_, _, _, rfl, Po1.out, Po2.out, Po3.out⟩, HR.out.small, HA.out, HM.out⟩
   ·go_wp2_with fail
    clear e0 e1 e2 e3 e4
    refine (spoil4 w5 p d (.agg #[.int .i64 d.room, .int .i64 d.next, .slice A1 n1 c1, .slice A2 n2 c2, .slice A3 n3 c3]) w.heap.size S7.out.a ⟨_, _, _, rfl, S7.out.o1, S7.out.o2, S7.out.o3⟩ HR.out.small HR.out.few).mono ?_
    rintro e w6 ⟨d2, x, rfl, hO, hsm, hA, hm⟩
    have S8 : Hid (DkS w p gg w.heap.size w6 d A1 n1 c1 A2 n2 c2 A3 n3 c3) := S7.out.draw hA hm
    have HS2 := Hid.mkD hsm
    obtain ⟨v1, v2, v3, rfl, h1, h2, h3⟩ := hO
    obtain ⟨B1, m1, k1, rfl⟩ := h1.shape
    obtain ⟨B2, m2, k2, rfl⟩ := h2.shape
    obtain ⟨B3, m3, k3, rfl⟩ := h3.shape
    have h1 := h1.mono S7.out.bx.m.size
    have h2 := h2.mono S7.out.bx.m.size
    have h3 := h3.mono S7.out.bx.m.size
    obtain ⟨⟨r0, f0⟩, ⟨r1, f1⟩, ⟨r2, f2⟩, ⟨r3, f3⟩, ⟨r4, f4⟩, y0, y1, y2, y3, y4⟩ := resC5 (x0 := .int .i64 d2.room) (x1 := .int .i64 d2.next) (x2 := .slice B1 m1 k1) (x3 := .slice B2 m2 k2) (x4 := .slice B3 m3 k3) S8.out.bx.res
    have GG := (((((S8.out.bx.setR 0 (.int .i64 d2.room)).setR 1 (.int .i64 d2.next)).setR 2 (.slice B1 m1 k1)).setR 3 (.slice B2 m2 k2)).setR 4 (.slice B3 m3 k3))
    have HA := Hid.mkD GG.a
    have HM := Hid.mkD GG.m
    have Po1 := Hid.mkD (ownsC5n h1 (h1.notBlk S8.out.bx.res (by decide)) (.int .i64 d2.room) (.int .i64 d2.next) (.slice B1 m1 k1) (.slice B2 m2 k2) (.slice B3 m3 k3))
    have Po2 := Hid.mkD (ownsC5n h2 (h2.notBlk S8.out.bx.res (by decide)) (.int .i64 d2.room) (.int .i64 d2.next) (.slice B1 m1 k1) (.slice B2 m2 k2) (.slice B3 m3 k3))
    have Po3 := Hid.mkD (ownsC5n h3 (h3.notBlk S8.out.bx.res (by decide)) (.int .i64 d2.room) (.int .i64 d2.next) (.slice B1 m1 k1) (.slice B2 m2 k2) (.slice B3 m3 k3))
    clear GG S8 S7 h1 h2 h3 hA hm hsm
    go_wp2_with fail
    exact bodyPost_ret (v := .agg #[.int .i64 d2.room, .int .i64 d2.next, .slice B1 m1 k1, .slice B2 m2 k2, .slice B3 m3 k3]) (by simp [results, go_sem, y0, y1, y2, y3, y4]) rfl ⟨d2, _, rfl, ⟨_, _, _, rfl, Po1.out, Po2.out, Po3.out⟩, HS2.out, HA.out, HM.out⟩
end Go.Proofs.YtgjilgecklhglaaGreat
