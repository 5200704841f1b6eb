/- PtApp SeRow PtMath PtLaw LikeAid Num1In PtOk Until UntilS -/
import Derived.Test.YthhamlahdjokkaaGreatDoorQe0
import Derived.Deep.RegionWith
import Derived.WalkMore
import Derived.Deep.RegionHeld3
import Derived.StillTail
namespace Go.Proofs.YthhamlahdjokkaaGreatDoor
open Go.RowKit Go.PlainAid
theorem Owns.empty (w : World) (base : Nat) (e : TypeId) (sz : Nat) (hb : base ≤ w.heap.size) : Owns (w.alloc (.cells #[] e)) base e sz (.slice (some ⟨w.heap.size,0,none⟩) 0 0) [] :=
 ⟨fun r hr => by simp at hr,World.ownsRow_lit w #[] 0 hb (by unfold maxLen; omega) (by simp)⟩
theorem Owns.nil (w : World) (base : Nat) (e : TypeId) (sz : Nat) : Owns w base e sz (.slice none 0 0) [] := ⟨fun r hr => by simp at hr,World.ownsRow_nil w base e sz⟩
theorem Owns.alloc {w : World} {base : Nat} {e : TypeId} {sz : Nat} {v : Value} {rows : List (List Value)} (h : Owns w base e sz v rows) (o : Obj) : Owns (w.alloc o) base e sz v rows := ⟨h.1,World.ownsRow.alloc h.2 o⟩
theorem run_append_where {P : Program} (w : World) (base : Nat) (t ty e : TypeId) (i : TypeInfo) (z : Value) (size bytes : Nat) (ht : P.underlying t = some (.slice e)) (hi : P.info? e = some i) (hz : i.zero = some z)
  (hsize : i.size = size) (hby : i.bytes = bytes)
  (v : Value) (n : Nat) (xs : List Value) (hown : w.ownsRow base e size v n xs)
  (a : Addr) (m c : Nat) (news : List Value) (hl : news.length = m * size) (hnews : ∀ j u,news[j]? = some u → w.cell? (a.add j) = some u) (h1 : ∀ u ∈ news,u.oneCell' = true)
  (h63 : n + m ≤ maxLen) (hbytes : (n + m) * bytes ≤ 140737488355328) (v' : Value) (w' : World)
  (h : (Builtin.append_ #[t,t] ty #[v,.slice (some a) m c]).run P w = .ok v' w') : v'.ownBlock = v.ownBlock ∨ v'.ownBlock = some w.heap.size := by
 subst hsize
 subst hby
 have hsmall : n + m ≤ 9223372036854775807 := by simp only [maxLen] at h63; omega
 rcases hown.2 with ⟨rfl,rfl⟩ | ⟨g,cap,cur,rfl,hbg,hg,hnc,hcm,hcs,htake⟩
 ·by_cases hm : m = 0
  ·subst hm
   have hn : news = [] := List.eq_nil_of_length_eq_zero (by simpa using hl)
   subst hn
   have hr : (Builtin.append_ #[t,t] ty #[.slice none 0 0,.slice (some a) 0 c]).run P w = .ok (.slice none 0 0) w := by
    simp [Builtin.append_,run_underlying ht,sizeOf,typeInfo,hi,Builtin.lenOf,Builtin.firstCells,loadCells,loadCellsFrom]
   rw [hr] at h
   cases h
   exact .inl rfl
  ·have hr := run_append_nil (P := P) w t ty e i z ht hi hz a m c news hl hnews (by omega) (by omega) (by have hb := hbytes; simp only [Nat.zero_add] at hb; omega)
   rw [hr] at h
   cases h
   exact .inr rfl
 ·by_cases hroom : n + m ≤ cap
  ·have hfit : n * i.size + news.length ≤ cur.size := by rw [hl,hcs,← Nat.add_mul]; exact Nat.mul_le_mul_right _ hroom
   have hr := run_append_room (P := P) w t ty e i ht hi g n cap cur hg a m c news hl hnews h1 hroom hfit
   rw [hr] at h
   cases h
   exact .inl rfl
  ·have holds : ∀ j u,xs[j]? = some u → w.cell? ((⟨g,0,none⟩ : Addr).add j) = some u := hown.cells (g := g) rfl
   have hr := run_append_grow (P := P) w t ty e i z ht hi hz ⟨g,0,none⟩ n cap xs hown.1 holds a m c news hl hnews (by omega) (by omega) (growslice_fits (by omega) hbytes)
   rw [hr] at h
   cases h
   exact .inr rfl
theorem wpList_append_own2 {P : Program} {w : World} {ops : Array Oper} {rest : List Oper} {o : Oper} {a : Act} {Q : Exit → Act → World → Prop} (hgd : o.guard = none) (s x : Operand) (t : TypeId)
  (ho : o.op = .call { callee := .builtin .append,args := #[s,x],argTypes := #[t,t] })
  (base : Nat) (e : TypeId) (i : TypeInfo) (z : Value) (size bytes : Nat) (ht : P.underlying t = some (.slice e)) (hi : P.info? e = some i) (hz : i.zero = some z)
  (hsize : i.size = size) (hby : i.bytes = bytes) (hzs : z.cells.size = size) (hsz : 0 < size)
  (v : Value) (n : Nat) (xs : List Value) (hs : a.eval s = v) (hown : w.ownsRow base e size v n xs)
  (ad : Addr) (m c : Nat) (news : List Value) (hx : a.eval x = .slice (some ad) m c) (hl : news.length = m * size) (hnews : ∀ j u,news[j]? = some u → w.cell? (ad.add j) = some u) (h1 : ∀ u ∈ news,u.oneCell' = true)
  (h63 : n + m ≤ maxLen) (hbytes : (n + m) * bytes ≤ 140737488355328) (hbase : base ≤ w.heap.size)
  (h : ∀ v' w',w'.ownsRow base e size v' (n + m) (xs ++ news) → w.grownBy w' v.ownBlock → (v'.ownBlock = v.ownBlock ∨ v'.ownBlock = some w.heap.size) → wpList P ops Q rest (a.put o.dst v') w') : wpList P ops Q (o :: rest) a w := by
 obtain ⟨v',w',hr,h2,h3,_⟩ := run_append_own (P := P) w base t o.type e i z size bytes ht hi hz hsize hby hzs hsz v n xs hown ad m c news hl hnews h1 h63 hbytes hbase
 have h5 := run_append_where (P := P) w base t o.type e i z size bytes ht hi hz hsize hby v n xs hown ad m c news hl hnews h1 h63 hbytes v' w' hr
 refine wpList_plain hgd fun K hK => ?_
 unfold Oper.wp execOp
 simp only [ho,resolve,invoke,builtin,Sem.run_bind,Sem.run_pure,Result.andThen_ok,List.map_toArray,List.map_cons,List.map_nil,hs,hx,hr]
 exact hK _ _ (h v' w' h2 h3 h5)
theorem wpList_append_row {P : Program} {w : World} {ops : Array Oper} {rest : List Oper} {o : Oper} {a : Act} {Q : Exit → Act → World → Prop} (hgd : o.guard = none) (s x : Operand) (t e : TypeId) (z : Value) (sz bytes : Nat)
  (ho : o.op = .call { callee := .builtin .append,args := #[s,x],argTypes := #[t,t] })
  (ht : P.underlying t = some (.slice e)) (hinfo : (P.info? e).map (fun i => (i.zero,i.size,i.bytes)) = some (some z,sz,bytes)) (hzs : z.cells.size = sz) (hsz : 0 < sz)
  (base : Nat) (v : Value) (rows : List (List Value)) (hs : a.eval s = v) (hown : Owns w base e sz v rows) (r : List Value) (hr : r.length = sz) (h1 : ∀ u ∈ r,u.oneCell' = true)
  (hx : a.eval x = .slice (some ⟨w.heap.size,0,none⟩) 1 1) (hlen : rows.length ≤ 2097152) (hby : bytes ≤ 1000) (hbase : base ≤ w.heap.size)
  (h : ∀ v' w',Owns w' base e sz v' (rows ++ [r]) → Below base w w' → (∀ g,g < w.heap.size → v.ownBlock ≠ some g → w'.heap[g]? = w.heap[g]?) → (v'.ownBlock = v.ownBlock ∨ ∀ g,v'.ownBlock = some g → w.heap.size ≤ g) → wpList P ops Q rest (a.put o.dst v') w') : wpList P ops Q (o :: rest) a (w.alloc (.cells r.toArray e)) := by
 obtain ⟨i0,hi,hz0,hz1,hz2⟩ := info_parts hinfo
 have hb1 : (rows.length + 1) * bytes ≤ 140737488355328 := Nat.le_trans (Nat.mul_le_mul (show rows.length + 1 ≤ 2097153 by omega) hby) (by omega)
 refine wpList_append_own2 (w := w.alloc (.cells r.toArray e)) hgd s x t ho base e i0 z sz bytes ht hi hz0 hz1 hz2 hzs hsz v rows.length rows.flatten hs (World.ownsRow.alloc hown.2 _) ⟨w.heap.size,0,none⟩ 1 1 r hx (by rw [hr]; omega) ?_ h1 (by unfold maxLen; omega) hb1 (by simp; omega) ?_
 ·intro j u hj
  have e1 : (⟨w.heap.size,0,none⟩ : Addr).add j = ⟨w.heap.size,j,none⟩ := by cases j <;> simp [Addr.add]
  rw [e1,World.cell?_alloc_mark]
  simpa using hj
 ·intro v' w' h2 h3 h5
  have hb0 : ∀ k,v.ownBlock = some k → base ≤ k := fun k hk => (hown.lt k hk).1
  refine h v' w' ⟨?_,?_⟩ ?_ ?_ (h5.imp id fun e g hg => by rw [e] at hg; cases hg; simp)
  ·intro y hy
   rcases List.mem_append.1 hy with hy | hy
   ·exact hown.1 y hy
   ·rw [List.mem_singleton.1 hy]; exact hr
  ·rw [List.length_append,List.flatten_append]
   simpa using h2
  ·exact ((Below.refl base w).alloc hbase _).grown h3 (by simp; omega) hb0
  ·intro g hg hne
   rw [h3.block g (by simp; omega) (fun e => hne e.symm)]
   exact Below.heap_alloc w _ g hg
theorem wpList_append_all {P : Program} {w : World} {ops : Array Oper} {rest : List Oper} {o : Oper} {a : Act} {Q : Exit → Act → World → Prop} (hgd : o.guard = none) (s x : Operand) (t e : TypeId) (z : Value) (sz bytes : Nat)
  (ho : o.op = .call { callee := .builtin .append,args := #[s,x],argTypes := #[t,t] })
  (ht : P.underlying t = some (.slice e)) (hinfo : (P.info? e).map (fun i => (i.zero,i.size,i.bytes)) = some (some z,sz,bytes)) (hzs : z.cells.size = sz) (hsz : 0 < sz)
  (base : Nat) (v u : Value) (rows more : List (List Value)) (B : Nat) (hs : a.eval s = v) (hown : Owns w base e sz v rows) (hu : Lies w B sz u more) (h1 : ∀ r ∈ more,∀ y ∈ r,y.oneCell' = true)
  (hx : a.eval x = u) (hlen : rows.length + more.length ≤ 2097152) (hby : bytes ≤ 1000) (hbase : base ≤ w.heap.size)
  (h : ∀ v' w',Owns w' base e sz v' (rows ++ more) → Below base w w' → (∀ g,g < w.heap.size → v.ownBlock ≠ some g → w'.heap[g]? = w.heap[g]?) → (v'.ownBlock = v.ownBlock ∨ ∀ g,v'.ownBlock = some g → w.heap.size ≤ g) → wpList P ops Q rest (a.put o.dst v') w') : wpList P ops Q (o :: rest) a w := by
 obtain ⟨i0,hi,hz0,hz1,hz2⟩ := info_parts hinfo
 have hb1 : (rows.length + more.length) * bytes ≤ 140737488355328 := Nat.le_trans (Nat.mul_le_mul hlen hby) (by omega)
 obtain ⟨A,cap,rfl,hz,hms,hm⟩ := hu
 have fin : ∀ v' w',w'.ownsRow base e sz v' (rows.length + more.length) (rows.flatten ++ more.flatten) → w.grownBy w' v.ownBlock → (v'.ownBlock = v.ownBlock ∨ v'.ownBlock = some w.heap.size) → wpList P ops Q rest (a.put o.dst v') w' := by
  intro v' w' h2 h3 h5
  have hb0 : ∀ k,v.ownBlock = some k → base ≤ k := fun k hk => (hown.lt k hk).1
  refine h v' w' ⟨?_,?_⟩ ?_ ?_ (h5.imp id fun e g hg => by rw [e] at hg; cases hg; exact Nat.le_refl _)
  ·intro y hy
   rcases List.mem_append.1 hy with hy | hy
   ·exact hown.1 y hy
   ·exact hms y hy
  ·rw [List.length_append,List.flatten_append]
   exact h2
  ·exact (Below.refl base w).grown h3 hbase hb0
  ·intro g hg hne
   exact h3.block g hg (fun e => hne e.symm)
 match A,hz,hx,hm with
 | none,hz,hx,hm =>
  have h0 : more.length = 0 := by
   rcases hm with h0 | ⟨g,off,e,_⟩
   ·exact h0
   ·cases e
  have hc0 := hz.1 rfl
  subst hc0
  have hnil : more = [] := List.eq_nil_of_length_eq_zero h0
  subst hnil
  refine wpList_plain hgd fun K hK => ?_
  have hr := run_append_owned_none (P := P) w base t o.type e i0 sz ht hi v rows.length rows.flatten hown.2
  unfold Oper.wp
  simp [execOp,ho,resolve,invoke,builtin,hs,hx,hr,Result.andThen]
  refine hK _ _ (fin v w ?_ ⟨rfl,rfl,rfl,Nat.le_refl _,fun _ _ _ => rfl⟩ (.inl rfl))
  simpa using hown.2
 | some ad,hz,hx,hm =>
  refine wpList_append_own2 (w := w) hgd s x t ho base e i0 z sz bytes ht hi hz0 hz1 hz2 hzs hsz v rows.length rows.flatten hs hown.2 ad more.length cap more.flatten hx (flat_length sz more hms) ?_ ?_ (by unfold maxLen; omega) hb1 hbase ?_
  ·intro j y hj
   rcases hm with h0 | ⟨g,off,e,hg,hc⟩
   ·rw [List.eq_nil_of_length_eq_zero h0] at hj
    simp at hj
   ·cases e
    have e1 : (⟨g,off,none⟩ : Addr).add j = ⟨g,off + j,none⟩ := by cases j <;> simp [Addr.add]
    rw [e1]
    exact hc j y hj
  ·intro y hy
   obtain ⟨r,hr,hyr⟩ := List.mem_flatten.1 hy
   exact h1 r hr y hyr
  ·intro v' w' h2 h3 h5
   exact fin v' w' h2 h3 h5
theorem pt_one (l : List Pnt) : ∀ r ∈ ptR l,∀ y ∈ r,y.oneCell' = true := by
 intro r hr y hy
 obtain ⟨x,_,rfl⟩ := List.mem_map.1 hr
 simp [ptC] at hy
 rcases hy with rfl | rfl <;> rfl
theorem Owns.first {w : World} {base : Nat} {e : TypeId} {sz : Nat} {A : Option Addr} {n c : Nat} {rows : List (List Value)} (h : Owns w base e sz (.slice A n c) rows) (k : Nat) (hk : k ≤ rows.length) : Owns w base e sz (.slice A k c) (rows.take k) := by
 obtain ⟨hs,hl,h⟩ := h
 have hkl : (rows.take k).length = k := by rw [List.length_take]; omega
 have hs' : ∀ r ∈ rows.take k,r.length = sz := fun r hr => hs r (List.mem_of_mem_take hr)
 have hft : (rows.take k).flatten = rows.flatten.take (k * sz) := by
  have h1 : rows.flatten = (rows.take k).flatten ++ (rows.drop k).flatten := by rw [← List.flatten_append,List.take_append_drop]
  have hl2 : (rows.take k).flatten.length = k * sz := by rw [flat_length sz _ hs',hkl]
  rw [h1]
  exact (List.take_left' hl2).symm
 refine ⟨hs',?_,?_⟩
 ·rw [flat_length sz _ hs']
 rcases h with ⟨e1,h0⟩ | ⟨g,cap,cur,e1,hb,hh,hn,hm,hz,ht⟩
 ·cases e1
  have : k = 0 := by omega
  subst this
  exact .inl ⟨rfl,by simp⟩
 ·cases e1
  refine .inr ⟨g,c,cur,by rw [hkl],hb,hh,by rw [hkl]; omega,hm,hz,?_⟩
  rw [hkl,hft,← ht,List.take_take]
  congr 1
  have : k * sz ≤ rows.length * sz := Nat.mul_le_mul_right sz hk
  omega
open Go.ChangeShapes Go.WideShapes Go.ChangeAt
set_option linter.unusedVariables false
structure Ses where
 client : Int
 serial : Int
 code : Int
 index : Int
 mark : Int
 data : ByteArray
instance : Inhabited Ses := ⟨⟨0,0,0,0,0,ByteArray.empty⟩⟩
def Ses.ans (x : Ses) : Ans := ⟨x.code,x.index,x.mark,x.data⟩
def sesC (x : Ses) : List Value := [.int .i64 x.client,.int .i64 x.serial,.int .i64 x.code,.int .i64 x.index,.int .i64 x.mark,.string x.data]
def sesR (l : List Ses) : List (List Value) := l.map sesC
theorem sesR_length (l : List Ses) : (sesR l).length = l.length := by simp [sesR]
theorem sesR_append (l m : List Ses) : sesR (l ++ m) = sesR l ++ sesR m := by simp [sesR]
theorem ses_look {w : World} {B : Nat} {v : Value} {l : List Ses} (h : Lies w B 6 v (sesR l)) : ∃ A cap,v = .slice A l.length cap ∧ ∀ j,j < l.length → ∃ g off,A = some ⟨g,off,none⟩ ∧ g < B ∧
  w.cell? ⟨g,off + j * 6,none⟩ = some (.int .i64 (l.getD j default).client) ∧ w.cell? ⟨g,off + j * 6 + 1,none⟩ = some (.int .i64 (l.getD j default).serial) ∧ w.cell? ⟨g,off + j * 6 + 2,none⟩ = some (.int .i64 (l.getD j default).code) ∧ w.cell? ⟨g,off + j * 6 + 3,none⟩ = some (.int .i64 (l.getD j default).index) ∧ w.cell? ⟨g,off + j * 6 + 4,none⟩ = some (.int .i64 (l.getD j default).mark) ∧ w.cell? ⟨g,off + j * 6 + 5,none⟩ = some (.string (l.getD j default).data) := by
 obtain ⟨A,cap,e,h⟩ := h.look
 refine ⟨A,cap,by rw [e]; simp [sesR],fun j hj => ?_⟩
 rw [← getD_at l j hj]
 obtain ⟨g,off,e,hg,hc⟩ := h j (by simpa [sesR] using hj)
 refine ⟨g,off,e,hg,?_,?_,?_,?_,?_,?_⟩
 ·have := hc 0 _ (by omega) (by simp [sesR,sesC]; rfl); simpa [Nat.add_assoc] using this
 ·have := hc 1 _ (by omega) (by simp [sesR,sesC]; rfl); simpa [Nat.add_assoc] using this
 ·have := hc 2 _ (by omega) (by simp [sesR,sesC]; rfl); simpa [Nat.add_assoc] using this
 ·have := hc 3 _ (by omega) (by simp [sesR,sesC]; rfl); simpa [Nat.add_assoc] using this
 ·have := hc 4 _ (by omega) (by simp [sesR,sesC]; rfl); simpa [Nat.add_assoc] using this
 ·have := hc 5 _ (by omega) (by simp [sesR,sesC]; rfl); simpa [Nat.add_assoc] using this
section
variable {w : World} {base g cap : Nat} {e : TypeId} {rows : List (List Value)}
end
def Rising (l : List Pnt) : Prop := l.Pairwise fun p q => p.t < q.t
def inB (p : Pnt) : Prop := (0 ≤ p.t ∧ p.t ≤ 1099511627776) ∧ (-1099511627776 ≤ p.v ∧ p.v ≤ 1099511627776)
theorem tAt_get (l : List Pnt) (j : Nat) (h : j < l.length) : tAt l j = (l[j]).t := by rw [tAt,← getD_at l j h]
theorem vAt_get (l : List Pnt) (j : Nat) (h : j < l.length) : vAt l j = (l[j]).v := by rw [vAt,← getD_at l j h]
theorem rising_of_next (l : List Pnt) (h : ∀ j,j < l.length → 0 < j → tAt l (j - 1) < tAt l j) : Rising l := by
 unfold Rising
 rw [List.pairwise_iff_getElem]
 have key : ∀ d i,i + d + 1 < l.length → tAt l i < tAt l (i + d + 1) := by
  intro d
  induction d with
  | zero => intro i hi; have := h (i + 0 + 1) hi (by omega); simpa using this
  | succ d ih =>
   intro i hi
   have h1 := ih i (by omega)
   have h2 := h (i + (d + 1) + 1) hi (by omega)
   rw [show i + (d + 1) + 1 - 1 = i + d + 1 by omega] at h2
   omega
 intro i j hi hj hij
 have := key (j - i - 1) i (by omega)
 rw [show i + (j - i - 1) + 1 = j by omega] at this
 rw [tAt_get l i hi,tAt_get l j hj] at this
 exact this
theorem POk_iff (l : List Pnt) : POk l ↔ l.length ≤ 60 ∧ Rising l ∧ ∀ p ∈ l,inB p := by
 constructor
 ·intro h
  refine ⟨h.1,rising_of_next l fun j hj h0 => (h.2 j hj).2 h0,fun p hp => ?_⟩
  obtain ⟨j,hj,rfl⟩ := List.getElem_of_mem hp
  have := (h.2 j hj).1
  rw [tAt_get l j hj,vAt_get l j hj] at this
  exact this
 ·rintro ⟨h1,h2,h3⟩
  refine ⟨h1,fun j hj => ⟨?_,fun h0 => ?_⟩⟩
  ·rw [tAt_get l j hj,vAt_get l j hj]
   exact h3 _ (List.getElem_mem hj)
  ·rw [tAt_get l j hj,tAt_get l (j - 1) (by omega)]
   exact (List.pairwise_iff_getElem.1 h2) (j - 1) j (by omega) hj (by omega)
theorem rising_ext : ∀ {l m : List Pnt},Rising l → Rising m → (∀ p,p ∈ l ↔ p ∈ m) → l = m
 | [],[],_,_,_ => rfl
 | [],y :: m,_,_,h => by have := (h y).2 (by simp); simp at this
 | x :: l,[],_,_,h => by have := (h x).1 (by simp); simp at this
 | x :: l,y :: m,hl,hm,h => by
  have hl' := List.pairwise_cons.1 hl
  have hm' := List.pairwise_cons.1 hm
  have hxy : x = y := by
   rcases List.mem_cons.1 ((h x).1 (by simp)) with e | h1
   ·exact e
   ·rcases List.mem_cons.1 ((h y).2 (by simp)) with e | h2
    ·exact e.symm
    ·have := hm'.1 x h1
     have := hl'.1 y h2
     omega
  subst hxy
  congr 1
  refine rising_ext hl'.2 hm'.2 fun p => ⟨fun hp => ?_,fun hp => ?_⟩
  ·rcases List.mem_cons.1 ((h p).1 (by simp [hp])) with e | h1
   ·subst e; have := hl'.1 p hp; omega
   ·exact h1
  ·rcases List.mem_cons.1 ((h p).2 (by simp [hp])) with e | h1
   ·subst e; have := hm'.1 p hp; omega
   ·exact h1
def stepF (p : Pnt) (s : List Pnt × Bool) (q : Pnt) : List Pnt × Bool :=
 let o := if s.2 = false ∧ p.t ≤ q.t then (s.1 ++ [p],true) else s
 if q.t = p.t then o else (o.1 ++ [q],o.2)
def putS (l : List Pnt) (p : Pnt) (k : Nat) : List Pnt × Bool := (l.take k).foldl (stepF p) ([],false)
theorem putS_succ (l : List Pnt) (p : Pnt) (k : Nat) (h : k < l.length) : putS l p (k + 1) = stepF p (putS l p k) (l.getD k default) := by
 unfold putS
 rw [take_getD l k h,List.foldl_append]
 rfl
def putL (l : List Pnt) (p : Pnt) : List Pnt := if (putS l p l.length).2 then (putS l p l.length).1 else (putS l p l.length).1 ++ [p]
def putP : List Pnt → Pnt → List Pnt
 | [],p => [p]
 | q :: r,p => if p.t ≤ q.t then p :: (q :: r).filter (fun x => decide (x.t ≠ p.t)) else q :: putP r p
theorem fold_done (p : Pnt) : ∀ (l o : List Pnt),l.foldl (stepF p) (o,true) = (o ++ l.filter (fun x => decide (x.t ≠ p.t)),true)
 | [],o => by simp
 | q :: r,o => by
  rw [List.foldl_cons]
  by_cases h : q.t = p.t
  ·have e : stepF p (o,true) q = (o,true) := by simp [stepF,h]
   rw [e,fold_done p r o,List.filter_cons,if_neg (by simp [h])]
  ·have e : stepF p (o,true) q = (o ++ [q],true) := by simp [stepF,h]
   rw [e,fold_done p r (o ++ [q]),List.filter_cons,if_pos (by simp [h]),List.append_assoc]
   rfl
def fin (p : Pnt) (s : List Pnt × Bool) : List Pnt := if s.2 then s.1 else s.1 ++ [p]
theorem fold_open (p : Pnt) : ∀ (l o : List Pnt),fin p (l.foldl (stepF p) (o,false)) = o ++ putP l p
 | [],o => by simp [fin,putP]
 | q :: r,o => by
  rw [List.foldl_cons]
  by_cases h : p.t ≤ q.t
  ·rw [putP,if_pos h]
   by_cases h2 : q.t = p.t
   ·have e : stepF p (o,false) q = (o ++ [p],true) := by simp [stepF,h2]
    rw [e,fold_done p r (o ++ [p]),List.filter_cons,if_neg (by simp [h2])]
    simp [fin]
   ·have e : stepF p (o,false) q = (o ++ [p] ++ [q],true) := by simp [stepF,h,h2]
    rw [e,fold_done p r (o ++ [p] ++ [q]),List.filter_cons,if_pos (by simp [h2])]
    simp [fin]
  ·have e : stepF p (o,false) q = (o ++ [q],false) := by simp [stepF,h,show ¬ q.t = p.t by omega]
   rw [putP,if_neg h,e,fold_open p r (o ++ [q])]
   simp
theorem putL_eq (l : List Pnt) (p : Pnt) : putL l p = putP l p := by
 have := fold_open p l []
 unfold putL putS
 rw [List.take_length]
 exact this
theorem mem_putP (p x : Pnt) : ∀ l : List Pnt,x ∈ putP l p ↔ x = p ∨ (x ∈ l ∧ x.t ≠ p.t)
 | [] => by simp [putP]
 | q :: r => by
  by_cases h : p.t ≤ q.t
  ·rw [putP,if_pos h,List.mem_cons,List.mem_filter]
   simp
  ·rw [putP,if_neg h,List.mem_cons,mem_putP p x r,List.mem_cons]
   constructor
   ·rintro (e | e | ⟨e1,e2⟩)
    ·subst e; exact .inr ⟨.inl rfl,by omega⟩
    ·exact .inl e
    ·exact .inr ⟨.inr e1,e2⟩
   ·rintro (e | ⟨e | e1,e2⟩)
    ·exact .inr (.inl e)
    ·exact .inl e
    ·exact .inr (.inr ⟨e1,e2⟩)
theorem rising_putP (p : Pnt) : ∀ l : List Pnt,Rising l → Rising (putP l p)
 | [],_ => by simp [putP,Rising]
 | q :: r,hl => by
  have hl' := List.pairwise_cons.1 hl
  by_cases h : p.t ≤ q.t
  ·rw [putP,if_pos h]
   refine List.pairwise_cons.2 ⟨fun x hx => ?_,hl.sublist List.filter_sublist⟩
   obtain ⟨h1,h2⟩ := List.mem_filter.1 hx
   have h3 : x.t ≠ p.t := by simpa using h2
   rcases List.mem_cons.1 h1 with e | h4
   ·subst e; omega
   ·have := hl'.1 x h4; omega
  ·rw [putP,if_neg h]
   refine List.pairwise_cons.2 ⟨fun x hx => ?_,rising_putP p r hl'.2⟩
   rcases (mem_putP p x r).1 hx with e | ⟨h4,_⟩
   ·subst e; omega
   ·exact hl'.1 x h4
theorem putP_length (p : Pnt) : ∀ l : List Pnt,(putP l p).length ≤ l.length + 1
 | [] => by simp [putP]
 | q :: r => by
  by_cases h : p.t ≤ q.t
  ·rw [putP,if_pos h]
   have := List.length_filter_le (fun x => decide (x.t ≠ p.t)) (q :: r)
   simp only [List.length_cons] at this ⊢
   omega
  ·rw [putP,if_neg h]
   have := putP_length p r
   simp only [List.length_cons]
   omega
def mrg (a b : List Pnt) : List Pnt := b.foldl putP a
theorem mem_mrg (x : Pnt) : ∀ (b a : List Pnt),Rising b → (x ∈ mrg a b ↔ x ∈ b ∨ (x ∈ a ∧ ∀ q ∈ b,q.t ≠ x.t))
 | [],a,_ => by simp [mrg]
 | y :: b,a,hb => by
  have hb' := List.pairwise_cons.1 hb
  have ih := mem_mrg x b (putP a y) hb'.2
  have e : mrg a (y :: b) = mrg (putP a y) b := rfl
  rw [e,ih,mem_putP]
  constructor
  ·rintro (h | ⟨h | ⟨h1,h2⟩,h3⟩)
   ·exact .inl (by simp [h])
   ·exact .inl (by simp [h])
   ·refine .inr ⟨h1,fun q hq => ?_⟩
    rcases List.mem_cons.1 hq with e | hq
    ·subst e; omega
    ·exact h3 q hq
  ·rintro (h | ⟨h1,h2⟩)
   ·rcases List.mem_cons.1 h with e | h
    ·subst e
     exact .inr ⟨.inl rfl,fun q hq => by have := hb'.1 q hq; omega⟩
    ·exact .inl h
   ·exact .inr ⟨.inr ⟨h1,fun e => h2 y (by simp) e.symm⟩,fun q hq => h2 q (by simp [hq])⟩
theorem rising_mrg : ∀ (b a : List Pnt),Rising a → Rising (mrg a b)
 | [],_,ha => ha
 | y :: b,a,ha => rising_mrg b (putP a y) (rising_putP y a ha)
theorem mrg_length : ∀ (b a : List Pnt),(mrg a b).length ≤ a.length + b.length
 | [],a => by simp [mrg]
 | y :: b,a => by
  have h1 := mrg_length b (putP a y)
  have h2 := putP_length y a
  have e : mrg a (y :: b) = mrg (putP a y) b := rfl
  rw [e]
  simp only [List.length_cons]
  omega
theorem mrg_nil_left (b : List Pnt) (hb : Rising b) : mrg [] b = b :=
 rising_ext (rising_mrg b [] (by simp [Rising])) hb fun p => by rw [mem_mrg p b [] hb]; simp
theorem mrg_less {x y : Pnt} {a b : List Pnt} (ha : Rising (x :: a)) (hb : Rising (y :: b)) (h : x.t < y.t) : mrg (x :: a) (y :: b) = x :: mrg a (y :: b) := by
 have ha' := List.pairwise_cons.1 ha
 have hb' := List.pairwise_cons.1 hb
 refine rising_ext (rising_mrg _ _ ha) (List.pairwise_cons.2 ⟨fun p hp => ?_,rising_mrg _ _ ha'.2⟩) fun p => ?_
 ·rcases (mem_mrg p (y :: b) a hb).1 hp with h1 | ⟨h1,_⟩
  ·rcases List.mem_cons.1 h1 with e | h1
   ·subst e; exact h
   ·have := hb'.1 p h1; omega
  ·exact ha'.1 p h1
 ·rw [List.mem_cons,mem_mrg p _ _ hb,mem_mrg p _ _ hb]
  constructor
  ·rintro (h1 | ⟨h1,h2⟩)
   ·exact .inr (.inl h1)
   ·rcases List.mem_cons.1 h1 with e | h1
    ·exact .inl e
    ·exact .inr (.inr ⟨h1,h2⟩)
  ·rintro (e | h1 | ⟨h1,h2⟩)
   ·subst e
    refine .inr ⟨by simp,fun q hq => ?_⟩
    rcases List.mem_cons.1 hq with e | hq
    ·subst e; omega
    ·have := hb'.1 q hq; omega
   ·exact .inl h1
   ·exact .inr ⟨by simp [h1],h2⟩
theorem mrg_same {x y : Pnt} {a b : List Pnt} (ha : Rising (x :: a)) (hb : Rising (y :: b)) (h : x.t = y.t) : mrg (x :: a) (y :: b) = y :: mrg a b := by
 have ha' := List.pairwise_cons.1 ha
 have hb' := List.pairwise_cons.1 hb
 refine rising_ext (rising_mrg _ _ ha) (List.pairwise_cons.2 ⟨fun p hp => ?_,rising_mrg _ _ ha'.2⟩) fun p => ?_
 ·rcases (mem_mrg p b a hb'.2).1 hp with h1 | ⟨h1,_⟩
  ·exact hb'.1 p h1
  ·have := ha'.1 p h1; omega
 ·rw [List.mem_cons,mem_mrg p _ _ hb,mem_mrg p _ _ hb'.2]
  constructor
  ·rintro (h1 | ⟨h1,h2⟩)
   ·rcases List.mem_cons.1 h1 with e | h1
    ·exact .inl e
    ·exact .inr (.inl h1)
   ·rcases List.mem_cons.1 h1 with e | h1
    ·subst e; exact absurd h.symm (h2 y (by simp))
    ·exact .inr (.inr ⟨h1,fun q hq => h2 q (by simp [hq])⟩)
  ·rintro (e | h1 | ⟨h1,h2⟩)
   ·exact .inl (by simp [e])
   ·exact .inl (by simp [h1])
   ·refine .inr ⟨by simp [h1],fun q hq => ?_⟩
    rcases List.mem_cons.1 hq with e | hq
    ·subst e; have := ha'.1 p h1; omega
    ·exact h2 q hq
theorem mrg_more {x y : Pnt} {a b : List Pnt} (ha : Rising (x :: a)) (hb : Rising (y :: b)) (h : y.t < x.t) : mrg (x :: a) (y :: b) = y :: mrg (x :: a) b := by
 have ha' := List.pairwise_cons.1 ha
 have hb' := List.pairwise_cons.1 hb
 refine rising_ext (rising_mrg _ _ ha) (List.pairwise_cons.2 ⟨fun p hp => ?_,rising_mrg _ _ ha⟩) fun p => ?_
 ·rcases (mem_mrg p b (x :: a) hb'.2).1 hp with h1 | ⟨h1,_⟩
  ·exact hb'.1 p h1
  ·rcases List.mem_cons.1 h1 with e | h1
   ·subst e; exact h
   ·have := ha'.1 p h1; omega
 ·rw [List.mem_cons,mem_mrg p _ _ hb,mem_mrg p _ _ hb'.2]
  constructor
  ·rintro (h1 | ⟨h1,h2⟩)
   ·rcases List.mem_cons.1 h1 with e | h1
    ·exact .inl e
    ·exact .inr (.inl h1)
   ·exact .inr (.inr ⟨h1,fun q hq => h2 q (by simp [hq])⟩)
  ·rintro (e | h1 | ⟨h1,h2⟩)
   ·exact .inl (by simp [e])
   ·exact .inl (by simp [h1])
   ·refine .inr ⟨h1,fun q hq => ?_⟩
    rcases List.mem_cons.1 hq with e | hq
    ·subst e
     rcases List.mem_cons.1 h1 with e | h1
     ·subst e; omega
     ·have := ha'.1 p h1; omega
    ·exact h2 q hq
theorem below_alloc3 (w : World) (a b c : Obj) : Below w.heap.size w (((w.alloc a).alloc b).alloc c) := (((Below.refl _ w).alloc (Nat.le_refl _) a).alloc (by simp) b).alloc (by simp; omega) c
theorem Tryz.infoPt : (Tryz.prog.info? 98).map (fun i => (i.zero,i.size,i.bytes)) = some (some (.agg #[.int .i64 0,.int .i64 0]),2,16) := by kernel_rfl
def ptZ : List Value := [.int .i64 0,.int .i64 0]
theorem pt_made (n : Nat) : madeCells #[.int .i64 0,.int .i64 0] (n * 2) = (List.replicate n ptZ).flatten.toArray := by
 apply Array.ext'
 rw [List.toList_toArray]
 apply List.ext_getElem?
 intro k
 have hz : ∀ r ∈ List.replicate n ptZ,r.length = 2 := fun r hr => by rw [List.eq_of_mem_replicate hr]; rfl
 by_cases hk : k < n * 2
 ·have e : k = k / 2 * 2 + k % 2 := by omega
  have hf : k % 2 < 2 := Nat.mod_lt _ (by omega)
  have hj : k / 2 < n := Nat.div_lt_of_lt_mul (by omega)
  have := flat_at 2 (List.replicate n ptZ) hz (k / 2) (k % 2) (by simpa using hj) hf
  rw [← e] at this
  have hr : (List.replicate n ptZ)[k / 2]'(by simpa using hj) = ptZ := by simp
  rw [this,hr]
  have hs : (madeCells #[.int .i64 0,.int .i64 0] (n * 2)).toList[k]? = some (#[.int .i64 0,.int .i64 0].getD (k % 2) default) := by simp [madeCells,hk]
  rw [hs]
  have : k % 2 = 0 ∨ k % 2 = 1 := by omega
  rcases this with h | h <;> rw [h] <;> rfl
 ·have hl : (List.replicate n ptZ).flatten.length = n * 2 := by rw [flat_length 2 _ hz]; simp
  have hr : (List.replicate n ptZ).flatten[k]? = none := List.getElem?_eq_none (by omega)
  rw [hr]
  apply List.getElem?_eq_none
  rw [Array.length_toList,size_madeCells]
  omega
theorem below_alloc2 (w : World) (a b : Obj) : Below w.heap.size w ((w.alloc a).alloc b) := ((Below.refl _ w).alloc (Nat.le_refl _) a).alloc (by simp) b
set_option maxHeartbeats 400000 in
theorem eqPoint (x : Pnt) (w : World) : Calls Tryz.prog 181 #[vPt x,vPt x] w fun e w' => e = .returned (.bool true) ∧ Below w.heap.size w w' := by
 unfold vPt
 go_enter Tryz.func181,Tryz.ntmps181
 go_wp2
 go_ret
 exact ⟨rfl,below_alloc2 _ _ _⟩
set_option maxHeartbeats 1000000 in
theorem eqPointS (l : List Pnt) (va vb : Value) (w : World) (B : Nat) (ha : Lies w B 2 va (ptR l)) (hb : Lies w B 2 vb (ptR l)) (hn : l.length ≤ 1048576) (hB : B ≤ w.heap.size) :
  Calls Tryz.prog 154 #[va,vb] w fun e w' => e = .returned (.bool true) ∧ Below w.heap.size w w' := by
 obtain ⟨A,cap,rfl,hl⟩ := pt_look ha
 obtain ⟨A',cap',rfl,hl'⟩ := pt_look hb
 have HL : Hid (∀ j,j < l.length → ∃ g off,A = some ⟨g,off,none⟩ ∧ g < B ∧ _) := hl
 have HL' : Hid (∀ j,j < l.length → ∃ g off,A' = some ⟨g,off,none⟩ ∧ g < B ∧ _) := hl'
 have HB : Hid (B ≤ w.heap.size) := hB
 clear hl hl' hB ha hb
 have q1 : (l.length : Int) ≤ 1048576 := by omega
 generalize hN : l.length = n at *
 go_enter Tryz.func154,Tryz.ntmps154
 go_wp2_with fail
 go_loopw [5] (fun v5 wr => ∃ k : Nat,k ≤ n ∧ v5 = .int .i64 (k : Int) ∧ Below w.heap.size w wr) (fun i _ => n - (intOf i).toNat)
 case atStart => exact ⟨0,by omega,rfl,Below.refl _ _⟩
 case round =>
  obtain ⟨k,hk,rfl,hb⟩ := hrel
  have HB1 := hQz hb
  clear hb
  by_cases hlt : k < n
  ·have q4 : (k : Int) < (n : Int) := by omega
   obtain ⟨g,off,rfl,hg,ha0,ha1⟩ := HL.out k hlt
   obtain ⟨g',off',rfl,hg',hb0,hb1⟩ := HL'.out k hlt
   have hgw : g < w.heap.size := Nat.lt_of_lt_of_le hg HB.out
   have hgw' : g' < w.heap.size := Nat.lt_of_lt_of_le hg' HB.out
   rw [← HB1.out.cell (p := ⟨_,_,none⟩) hgw] at ha0
   rw [← HB1.out.cell (p := ⟨_,_,none⟩) hgw'] at hb0
   rw [← HB1.out.cell (p := ⟨_,_,none⟩) hgw] at ha1
   rw [← HB1.out.cell (p := ⟨_,_,none⟩) hgw'] at hb1
   have c1 := fun wx => eqPoint (l.getD k default) wx
   unfold vPt at c1
   generalize l.getD k default = x at *
   have hsz := HB1.out.size
   go_wp2_with fail
   go_region_with (go_at_call 181; refine (c1 _).mono ?_; rintro e w1 ⟨rfl,hb1⟩)
   all_goals go_wp2_with fail
   all_goals exact ⟨⟨k + 1,by omega,by go_num,HB1.out.trans (((Below.refl _ wr).drew.trans hb1).mono hsz)⟩,by simp [intOf]; omega⟩
  ·obtain rfl : k = n := by omega
   go_wp2_with fail
   go_ret
   exact ⟨rfl,HB1.out⟩
def mkPt (k j : Nat) : List Value := [.int .i64 ((k + 2 * j : Nat) : Int),.int .i64 (((k + 2 * j : Nat) : Int) + 1)]
set_option maxHeartbeats 2000000 in
theorem markPointS (k base : Nat) (v : Value) (R : List (List Value)) (w : World) (hv : Owns w base 98 2 v R) (hl : R.length ≤ 2097152) (h2 : k ≤ 10000000) :
  Calls Tryz.prog 141 #[v,.int .i64 (k : Int)] w fun e w' => e = .returned (.int .i64 ((k + 2 * R.length : Nat) : Int)) ∧ Owns w' base 98 2 v (newR (mkPt k) R.length) ∧ Below base w w' ∧ (∀ g,v.ownBlock ≠ some g → w'.heap[g]? = w.heap[g]?) := by
 obtain ⟨A,ca,rfl⟩ : ∃ A ca,v = .slice A R.length ca := by
  rcases hv.2.2 with ⟨rfl,h0⟩ | ⟨g,c,cur,rfl,_⟩
  ·exact ⟨none,0,by rw [h0]⟩
  ·exact ⟨_,_,rfl⟩
 have HV := hQz hv
 have q1 : (R.length : Int) ≤ 2097152 := by omega
 have q3 : (k : Int) ≤ 10000000 := by omega
 clear hv hl
 generalize hn : R.length = n at *
 go_enter Tryz.func141,Tryz.ntmps141
 go_wp2_with fail
 go_loopw [1,5] (fun v1 v5 wr => ∃ j : Nat,j ≤ n ∧ v5 = .int .i64 (j : Int) ∧ v1 = .int .i64 ((k + 2 * j : Nat) : Int) ∧ Owns wr base 98 2 (.slice A n ca) (partR (mkPt k) R j) ∧ Below base w wr ∧ (∀ g,(Value.slice A n ca).ownBlock ≠ some g → wr.heap[g]? = w.heap[g]?)) (fun _ i _ => n - (intOf i).toNat)
 case atStart => exact ⟨0,by omega,rfl,by simp,by rw [partR_zero]; exact HV.out,Below.refl _ _,fun _ _ => rfl⟩
 case round =>
  obtain ⟨j,hj,rfl,rfl,hS,hB,hK⟩ := hrel
  have HS := hQz hS
  have HB := hQz hB
  have HK : Hid (∀ g,(Value.slice A n ca).ownBlock ≠ some g → wr.heap[g]? = w.heap[g]?) := hK
  clear hS hB hK
  by_cases hlt : j < n
  ·have q2 : (j : Int) < (n : Int) := by omega
   obtain ⟨g,rfl,hgb⟩ : ∃ g,A = some ⟨g,0,none⟩ ∧ base ≤ g := by
    rcases HS.out.2.2 with ⟨e,h0⟩ | ⟨g,c,cur,e,hg,_⟩
    ·rw [partR_length _ _ _ (by omega),hn] at h0; omega
    ·cases e; exact ⟨g,rfl,hg⟩
   have HG : Hid (base ≤ g) := hgb
   have hpl : (partR (mkPt k) R j).length = n := by rw [partR_length _ _ _ (by omega),hn]
   have hO := HS.out
   rw [show (Value.slice (some ⟨g,0,none⟩) n ca) = .slice (some ⟨g,0,none⟩) (partR (mkPt k) R j).length ca by rw [hpl]] at hO
   obtain ⟨y0,d0⟩ := hO.cellX j 0 (by rw [hpl]; exact hlt) (by omega)
   have f0 := hO.free (j * 2)
   obtain ⟨y1,d1⟩ := hO.cellX j 1 (by rw [hpl]; exact hlt) (by omega)
   have f1 := hO.free (j * 2 + 1)
   rw [Nat.add_zero] at d0
   have hP := hO.put2 j (by rw [hpl]; exact hlt) (.int .i64 ((k + 2 * j : Nat) : Int)) (.int .i64 (((k + 2 * j : Nat) : Int) + 1))
   rw [hpl,show [Value.int .i64 ((k + 2 * j : Nat) : Int),.int .i64 (((k + 2 * j : Nat) : Int) + 1)] = mkPt k j from rfl,partR_set _ _ _ (by omega)] at hP
   have HM : Hid (((k + 2 * (j + 1) : Nat) : Int) = ((k + 2 * j : Nat) : Int) + 2) := by unfold Hid; omega
   have q4 : ((k + 2 * j : Nat) : Int) ≤ 20000000 := by omega
   generalize k + 2 * j = m at *
   have HP := hQz hP
   have HD : Hid (Below base w ((wr.setCell ⟨g,j * 2,none⟩ (.int .i64 (m : Int))).setCell ⟨g,j * 2 + 1,none⟩ (.int .i64 ((m : Int) + 1)))) := (HB.out.setCell (show base ≤ g from HG.out) _).setCell (show base ≤ g from HG.out) _
   have HE : Hid (∀ b,(Value.slice (some ⟨g,0,none⟩) n ca).ownBlock ≠ some b → ((wr.setCell ⟨g,j * 2,none⟩ (.int .i64 (m : Int))).setCell ⟨g,j * 2 + 1,none⟩ (.int .i64 ((m : Int) + 1))).heap[b]? = w.heap[b]?) := fun b hne => by
    rw [Below.heap_setCell _ _ _ _ (show b ≠ g from fun e => hne (by rw [e]; rfl)),Below.heap_setCell _ _ _ _ (show b ≠ g from fun e => hne (by rw [e]; rfl))]
    exact HK.out b hne
   clear hO hP hpl
   go_wp2_with fail
   go_roundw
   case rel => exact ⟨j + 1,by omega,by go_num,by rw [HM.out]; go_num,HP.out,HD.out,HE.out⟩
   case measure => simp [intOf]; omega
  ·obtain rfl : j = n := by omega
   go_wp2_with fail
   go_ret
   refine ⟨rfl,?_,HB.out,HK.out⟩
   have := HS.out
   rw [← hn,partR_all] at this
   rw [← hn]
   exact this
theorem mkPt_look {w : World} {B k n : Nat} {v : Value} (h : Lies w B 2 v (newR (mkPt k) n)) : ∃ A cap,v = .slice A n cap ∧ ∀ j,j < n → ∃ g off,A = some ⟨g,off,none⟩ ∧ g < B ∧ w.cell? ⟨g,off + j * 2,none⟩ = some (.int .i64 (((k + 2 * j : Nat) : Int))) ∧ w.cell? ⟨g,off + j * 2 + 1,none⟩ = some (.int .i64 (((k + 2 * j : Nat) : Int) + 1)) := by
 obtain ⟨A,cap,e,h⟩ := h.look
 rw [newR_length] at e
 refine ⟨A,cap,e,fun j hj => ?_⟩
 obtain ⟨g,off,e,hg,hc⟩ := h j (by rw [newR_length]; exact hj)
 have hr : (newR (mkPt k) n)[j]'(by rw [newR_length]; exact hj) = mkPt k j := by simp [newR]
 rw [hr] at hc
 refine ⟨g,off,e,hg,?_,?_⟩
 ·have := hc 0 _ (by omega) rfl; simpa [Nat.add_assoc] using this
 ·have := hc 1 _ (by omega) rfl; simpa [Nat.add_assoc] using this
set_option maxHeartbeats 2000000 in
theorem heldPointS (k n : Nat) (v : Value) (w : World) (B : Nat) (hv : Lies w B 2 v (newR (mkPt k) n)) (hl : n ≤ 2097152) (h2 : k ≤ 10000000) :
  Calls Tryz.prog 142 #[v,.int .i64 (k : Int)] w fun e w' => e = .returned (.int .i64 ((k + 2 * n : Nat) : Int)) ∧ w = w' := by
 obtain ⟨A,ca,rfl,hl'⟩ := mkPt_look hv
 have HL : Hid (∀ j,j < n → ∃ g off,A = some ⟨g,off,none⟩ ∧ g < B ∧ _) := hl'
 have q1 : (n : Int) ≤ 2097152 := by omega
 have q3 : (k : Int) ≤ 10000000 := by omega
 clear hv hl hl'
 go_enter Tryz.func142,Tryz.ntmps142
 go_wp2
 go_loop [1,5] (fun v1 v5 => ∃ j : Nat,j ≤ n ∧ v5 = .int .i64 (j : Int) ∧ v1 = .int .i64 ((k + 2 * j : Nat) : Int)) (fun _ i => n - (intOf i).toNat)
 case atStart => exact ⟨0,by omega,rfl,by simp⟩
 case round =>
  obtain ⟨j,hj,rfl,rfl⟩ := hrel
  by_cases hlt : j < n
  ·have q2 : (j : Int) < (n : Int) := by omega
   obtain ⟨g,off,rfl,hg,d0,d1⟩ := HL.out j hlt
   have HM : Hid (((k + 2 * (j + 1) : Nat) : Int) = ((k + 2 * j : Nat) : Int) + 2) := by unfold Hid; omega
   have q4 : ((k + 2 * j : Nat) : Int) ≤ 20000000 := by omega
   generalize k + 2 * j = m at *
   go_wp2
   go_round
   case rel => exact ⟨j + 1,by omega,by go_num,by rw [HM.out]; go_num⟩
   case measure => simp [intOf]; omega
  ·obtain rfl : j = n := by omega
   go_wp2
   go_ret
   exact ⟨rfl,rfl⟩
theorem cell?_heap {w w' : World} (h : w'.heap = w.heap) (a : Addr) : w'.cell? a = w.cell? a := by
 unfold World.cell?
 rw [h]
theorem below_heap {w w' : World} (h1 : w'.heap = w.heap) (h2 : w'.os = w.os) (h3 : w'.tape = w.tape) (h4 : w'.output = w.output) : Below w.heap.size w w' := ⟨h2,h3,h4,by rw [h1]; exact Nat.le_refl _,fun k _ => by rw [h1]⟩
def Like (w w' : World) : Prop := w'.heap = w.heap ∧ w'.os = w.os ∧ w'.tape = w.tape ∧ w'.output = w.output
theorem Like.refl (w : World) : Like w w := ⟨rfl,rfl,rfl,rfl⟩
theorem Like.drewN {w w' : World} (h : Like w w') (n : Nat) : Like w (w'.drewN n) := h
theorem Like.below {w w' : World} (h : Like w w') : Below w.heap.size w w' := below_heap h.1 h.2.1 h.2.2.1 h.2.2.2
set_option maxHeartbeats 400000 in
theorem in_yes (x lo hi : Int) (w : World) (h1 : lo ≤ x) (h2 : x ≤ hi) :
  Calls Tryz.prog 20 #[.int .i64 x,.int .i64 lo,.int .i64 hi] w fun e w' => e = .returned (.bool true) ∧ w = w' := by
 go_enter Tryz.func20,Tryz.ntmps20
 go_wp2
 go_ret
 exact ⟨rfl,rfl⟩
set_option maxHeartbeats 400000 in
theorem in_no (x lo hi : Int) (w : World) (h : x < lo ∨ hi < x) :
  Calls Tryz.prog 20 #[.int .i64 x,.int .i64 lo,.int .i64 hi] w fun e w' => e = .returned (.bool false) ∧ w = w' := by
 by_cases h1 : x < lo
 ·go_enter Tryz.func20,Tryz.ntmps20
  go_wp2
  go_ret
  exact ⟨rfl,rfl⟩
 ·have h2 : hi < x := by omega
  have h3 : decide (x ≤ hi) = false := by simp; omega
  clear h
  go_enter Tryz.func20,Tryz.ntmps20
  go_wp2
  go_ret
  exact ⟨rfl,rfl⟩
theorem dec_of {p : Prop} [Decidable p] (b : Bool) (h : b = true ↔ p) : decide p = b := by
 cases b
 ·exact decide_eq_false fun hp => by simp [hp] at h
 ·exact decide_eq_true (h.1 rfl)
set_option maxHeartbeats 1000000 in
theorem implPointsOk (l : List Pnt) (v : Value) (w : World) (B : Nat) (hv : Lies w B 2 v (ptR l)) (hn : l.length ≤ 1048576) (hB : B ≤ w.heap.size) : Calls Tryz.prog 117 #[v] w fun e w' => e = .returned (.bool (decide (POk l))) ∧ Below w.heap.size w w' := by
 obtain ⟨A,cap,rfl,hl⟩ := pt_look hv
 have HL : Hid (∀ j,j < l.length → ∃ g off,A = some ⟨g,off,none⟩ ∧ g < B ∧ w.cell? ⟨g,off + j * 2,none⟩ = some (.int .i64 (tAt l j)) ∧ w.cell? ⟨g,off + j * 2 + 1,none⟩ = some (.int .i64 (vAt l j))) := hl
 have HB : Hid (B ≤ w.heap.size) := hB
 have HD : Hid (∀ b,(b = true ↔ POk l) → decide (POk l) = b) := fun b hb => dec_of b hb
 have HV : Hid (POk l ↔ l.length ≤ 60 ∧ ∀ j,j < l.length → ((0 ≤ tAt l j ∧ tAt l j ≤ 1099511627776) ∧ (-1099511627776 ≤ vAt l j ∧ vAt l j ≤ 1099511627776)) ∧ (0 < j → tAt l (j - 1) < tAt l j)) := Iff.rfl
 have q0 : (l.length : Int) ≤ 1048576 := by omega
 clear hl hn hv hB
 generalize hN : l.length = n at *
 clear hN
 by_cases h2 : (60 : Int) < (n : Int)
 ·go_enter Tryz.func117,Tryz.ntmps117
  go_wp2
  go_ret
  refine ⟨?_,Below.refl _ _⟩
  rw [HD.out false]
  ·rfl
  rw [HV.out]
  exact ⟨fun h => (by cases h),fun h => by omega⟩
 have q1 : (n : Int) ≤ 60 := by omega
 clear h2
 go_enter Tryz.func117,Tryz.ntmps117
 go_wp2
 go_loopw [3,11] (fun v3 v11 wr => ∃ (k : Nat) (m : Int),k ≤ n ∧ v11 = .int .i64 (k : Int) ∧ v3 = .int .i64 m ∧ 0 ≤ m ∧ m ≤ 1099511627777 ∧ Hid ((k = 0 → m = 0) ∧ (0 < k → m = tAt l (k - 1) + 1)) ∧ Below w.heap.size w wr ∧ Hid (∀ j,j < k → ((0 ≤ tAt l j ∧ tAt l j ≤ 1099511627776) ∧ (-1099511627776 ≤ vAt l j ∧ vAt l j ≤ 1099511627776)) ∧ (0 < j → tAt l (j - 1) < tAt l j))) (fun _ i _ => n - (intOf i).toNat)
 case atStart => exact ⟨0,0,by omega,rfl,rfl,by omega,by omega,⟨fun _ => rfl,fun h => by omega⟩,Below.refl _ _,fun j hj => by omega⟩
 case round =>
  obtain ⟨k,m,hk,rfl,rfl,hm0,hm1,HM,hb,HJ⟩ := hrel
  have HB1 := hQz hb
  clear hb
  by_cases hlt : k < n
  ·have q2 : (k : Int) < (n : Int) := by omega
   obtain ⟨g,off,rfl,hg,e1,e2⟩ := HL.out k hlt
   have hgw : g < w.heap.size := Nat.lt_of_lt_of_le hg HB.out
   rw [← HB1.out.cell (p := ⟨_,_,none⟩) hgw] at e1
   rw [← HB1.out.cell (p := ⟨_,_,none⟩) hgw] at e2
   have HBa : Hid (∀ cs cs' : Array Value,Below w.heap.size w ((wr.alloc (.cells cs 98)))) := fun cs _ => HB1.out.alloc HB1.out.size _
   generalize hx : tAt l k = x at *
   have HX : Hid (tAt l k = x) := hx
   clear hx
   generalize hy : vAt l k = y at *
   have HY : Hid (vAt l k = y) := hy
   clear hy hgw hg
   have HNo : Hid ((x < m ∨ 1099511627776 < x ∨ y < -1099511627776 ∨ 1099511627776 < y) → decide (POk l) = false) := fun h => by
    apply HD.out
    rw [HV.out]
    refine ⟨fun h => (by cases h),fun h2 => ?_⟩
    have h3 := h2.2 k hlt
    rw [HX.out,HY.out] at h3
    have h4 := HM.out
    by_cases h0 : k = 0
    ·have := h4.1 h0; omega
    ·have := h4.2 (by omega); have := h3.2 (by omega); omega
   by_cases c1 : x < m
   ·skip
    go_wp2
    go_ret
    exact ⟨by rw [HNo.out (.inl c1)]; rfl,HBa.out _ #[]⟩
   by_cases c2 : 1099511627776 < x
   ·skip
    go_wp2
    go_ret
    exact ⟨by rw [HNo.out (.inr (.inl c2))]; rfl,HBa.out _ #[]⟩
   by_cases c3 : y < -1099511627776
   ·skip
    go_wp2
    go_ret
    exact ⟨by rw [HNo.out (.inr (.inr (.inl c3)))]; rfl,HBa.out _ #[]⟩
   by_cases c4 : 1099511627776 < y
   ·skip
    go_wp2
    go_ret
    exact ⟨by rw [HNo.out (.inr (.inr (.inr c4)))]; rfl,HBa.out _ #[]⟩
   go_wp2
   go_roundw
   case rel =>
    refine ⟨k + 1,x + 1,by omega,by go_num,by go_num,by omega,by omega,⟨fun h => by omega,fun _ => by rw [Nat.add_sub_cancel,HX.out]⟩,HBa.out _ #[],fun j hj => ?_⟩
    by_cases e : j = k
    ·subst e
     rw [HX.out,HY.out]
     have h4 := HM.out
     refine ⟨⟨⟨by omega,by omega⟩,by omega,by omega⟩,fun h => ?_⟩
     have := h4.2 h
     omega
    ·exact HJ.out j (by omega)
   case measure => simp [intOf]; omega
  ·have hkk : k = n := by omega
   subst hkk
   go_wp2
   go_ret
   refine ⟨?_,HB1.out⟩
   rw [HD.out true]
   ·rfl
   rw [HV.out]
   exact ⟨fun _ => ⟨by omega,HJ.out⟩,fun _ => rfl⟩
open Go
section
variable {P : Program} {ops : Array Oper} {Q : Exit → Act → World → Prop} {md : Region.Mode} {S : World → Prop} {T : Nat → Bool}
def wpUntil (P : Program) (md : Region.Mode) (ops : Array Oper) (Q : Exit → Act → World → Prop) (S : World → Prop) (T : Nat → Bool) : Nat → Array Bool → Act → World → Prop
 | 0,listed,a,w => Region.ready md ops listed = [] ∧ Q .normal a w
 | fuel + 1,listed,a,w =>
  (Region.ready md ops listed = [] → Q .normal a w) ∧ ∀ i ∈ Region.ready md ops listed,wpOp P ops Q i (fun a' w' => (T i = false → S w → S w') ∧ wpUntil P md ops Q S T fuel (listed.setIfInBounds i true) a' w') a w
theorem wpAny_of_until : ∀ (fuel : Nat) (listed : Array Bool) (a : Act) (w : World),wpUntil P md ops Q S T fuel listed a w → wpAny P md ops Q fuel listed a w
 | 0,_,_,_,h => h
 | fuel + 1,_,_,_,h => ⟨h.1,fun i hi => wpOp_mono (fun a' w' h' => wpAny_of_until fuel _ a' w' h'.2) (h.2 i hi)⟩
def needs (md : Region.Mode) (ops : Array Oper) : Nat → Nat → Nat → Bool
 | 0,_,_ => false
 | f + 1,t,i => match ops[t]? with
  | some o => o.after.any fun e => Region.binds md e && (e.on == i || needs md ops f e.on i)
  | none => false
def Closed (md : Region.Mode) (ops : Array Oper) (listed : Array Bool) : Prop :=
 ∀ j oj,ops[j]? = some oj → listed.getD j false = true → ∀ e ∈ oj.after,Region.binds md e = true → listed.getD e.on false = true
theorem needs_some {f t i : Nat} (h : needs md ops f t i = true) : ∃ o,ops[t]? = some o := by
 cases f with
 | zero => cases h
 | succ f =>
  unfold needs at h
  cases e : ops[t]? with
  | none => rw [e] at h; cases h
  | some o => exact ⟨o,rfl⟩
theorem needs_listed {listed : Array Bool} (hc : Closed md ops listed) : ∀ (f t i : Nat) (ot : Oper),ops[t]? = some ot → (∀ e ∈ ot.after,Region.binds md e = true → listed.getD e.on false = true) → needs md ops f t i = true → listed.getD i false = true
 | 0,_,_,_,_,_,h => by cases h
 | f + 1,t,i,ot,hot,hall,h => by
  unfold needs at h
  rw [hot] at h
  obtain ⟨e,he,hb⟩ := Array.any_eq_true'.1 h
  rw [Bool.and_eq_true,Bool.or_eq_true] at hb
  have h1 := hall e he hb.1
  rcases hb.2 with h2 | h2
  ·rw [← beq_iff_eq.1 h2]
   exact h1
  ·obtain ⟨o2,ho2⟩ := needs_some h2
   exact needs_listed hc f e.on i o2 ho2 (hc e.on o2 ho2 h1) h2
theorem Closed.set {i : Nat} {listed : Array Bool} (h : Closed md ops listed) (hi : i ∈ Region.ready md ops listed) : Closed md ops (listed.setIfInBounds i true) := by
 obtain ⟨_,oi,hoi,hall⟩ := mem_ready.1 hi
 intro j oj hj hl e he hb
 by_cases hij : i = j
 ·subst hij
  have : oj = oi := Option.some.inj (hj.symm.trans hoi)
  subst this
  exact getD_set_true (hall e he hb)
 ·rw [_root_.Go.getD_set_ne false hij] at hl
  exact getD_set_true (h j oj hj hl e he hb)
theorem wpUntil_first {i : Nat} {oi : Oper} {v : Value} (hi : ops[i]? = some oi) (hsel : ∀ (j : Nat) (o : Oper) cs b,ops[j]? = some o → o.op ≠ .select cs b)
  (hQ : ∀ c a w,Q (.panic c) (a.put oi.dst v) w → Q (.panic c) a w) (hT : ∀ t,t < ops.size → T t = true → needs md ops ops.size t i = true) :
  ∀ (fuel : Nat) (listed : Array Bool) (a : Act) (w : World),Closed md ops listed →
   (∀ j oj,ops[j]? = some oj → j ≠ i → listed.getD j true = false → (∀ e ∈ oj.after,Region.binds md e = true → e.on ≠ i) → oi.apart ops oj = true) →
   i ∈ Region.ready md ops listed → YieldsIf P ops S oi v a → S w →
   wpUntil P md ops Q S T fuel (listed.setIfInBounds i true) (a.put oi.dst v) w → wpUntil P md ops Q S T (fuel + 1) listed a w := by
 intro fuel
 induction fuel with
 | zero =>
  intro listed a w _ _ hr hy hS H
  refine ⟨fun h => (by rw [h] at hr; cases hr),fun j hj => ?_⟩
  by_cases hji : j = i
  ·subst hji
   exact hy.wpOp hi hS ⟨fun _ h => h,H⟩
  ·have := ready_mono hj hji
   rw [H.1] at this
   cases this
 | succ fuel ih =>
  intro listed a w hc hfree hr hy hS H
  refine ⟨fun h => (by rw [h] at hr; cases hr),fun j hj => ?_⟩
  by_cases hji : j = i
  ·subst hji
   exact hy.wpOp hi hS ⟨fun _ h => h,H⟩
  ·have h1 := H.2 j (ready_mono hj hji)
   obtain ⟨hjun,oj,hoj,hall⟩ := mem_ready.1 hj
   have hun := getD_both (mem_ready.1 hr).1
   have hnot : ∀ e ∈ oj.after,Region.binds md e = true → e.on ≠ i := fun e he hb heq => by
    have h1 := hall e he hb
    rw [heq,hun] at h1
    cases h1
   have hTj : T j = false := by
    cases e : T j with
    | false => rfl
    | true =>
     have := needs_listed hc _ j i oj hoj hall (hT j (Array.getElem?_eq_some_iff.1 hoj).1 e)
     rw [hun] at this
     cases this
   have h2 := wpOp_putIf hoj (hfree j oj hoj hji hjun hnot) (fun cs b => hsel i oi cs b hi) (fun cs b => hsel j oj cs b hoj) hQ hy h1
   have hfree' : ∀ k ok,ops[k]? = some ok → k ≠ i → (listed.setIfInBounds j true).getD k true = false →
     (∀ e ∈ ok.after,Region.binds md e = true → e.on ≠ i) → oi.apart ops ok = true := fun k ok hk hki hun hno => by
    refine hfree k ok hk hki ?_ hno
    by_cases hjk : j = k
    ·subst hjk
     exact hjun
    ·rw [_root_.Go.getD_set_ne true hjk] at hun
     exact hun
   refine wpOp_mono (fun a' w' h3 => ⟨h3.2.1,ih (listed.setIfInBounds j true) a' w' (hc.set hj) hfree' (ready_mono hr (Ne.symm hji)) h3.1 (h3.2.1 hTj hS) ?_⟩) h2
   rw [Array.setIfInBounds_comm _ _ hji]
   exact h3.2.2
theorem wpUntil_pure {i : Nat} {oi : Oper} {v : Value} (hi : ops[i]? = some oi) (hsel : ∀ (j : Nat) (o : Oper) cs b,ops[j]? = some o → o.op ≠ .select cs b)
  (hQ : ∀ c a w,Q (.panic c) (a.put oi.dst v) w → Q (.panic c) a w) :
  ∀ (fuel : Nat) (listed : Array Bool) (a : Act) (w : World),
   (∀ j oj,ops[j]? = some oj → j ≠ i → listed.getD j true = false → (∀ e ∈ oj.after,Region.binds md e = true → e.on ≠ i) → oi.apart ops oj = true) →
   i ∈ Region.ready md ops listed → YieldsIf P ops (fun _ => True) oi v a →
   wpUntil P md ops Q S T fuel (listed.setIfInBounds i true) (a.put oi.dst v) w → wpUntil P md ops Q S T (fuel + 1) listed a w := by
 intro fuel
 induction fuel with
 | zero =>
  intro listed a w _ hr hy H
  refine ⟨fun h => (by rw [h] at hr; cases hr),fun j hj => ?_⟩
  by_cases hji : j = i
  ·subst hji
   exact hy.wpOp hi trivial ⟨fun _ h => h,H⟩
  ·have := ready_mono hj hji
   rw [H.1] at this
   cases this
 | succ fuel ih =>
  intro listed a w hfree hr hy H
  refine ⟨fun h => (by rw [h] at hr; cases hr),fun j hj => ?_⟩
  by_cases hji : j = i
  ·subst hji
   exact hy.wpOp hi trivial ⟨fun _ h => h,H⟩
  ·have h1 := H.2 j (ready_mono hj hji)
   obtain ⟨hjun,oj,hoj,hall⟩ := mem_ready.1 hj
   have hun := getD_both (mem_ready.1 hr).1
   have hnot : ∀ e ∈ oj.after,Region.binds md e = true → e.on ≠ i := fun e he hb heq => by
    have h1 := hall e he hb
    rw [heq,hun] at h1
    cases h1
   have h2 := wpOp_putIf hoj (hfree j oj hoj hji hjun hnot) (fun cs b => hsel i oi cs b hi) (fun cs b => hsel j oj cs b hoj) hQ hy h1
   have hfree' : ∀ k ok,ops[k]? = some ok → k ≠ i → (listed.setIfInBounds j true).getD k true = false →
     (∀ e ∈ ok.after,Region.binds md e = true → e.on ≠ i) → oi.apart ops ok = true := fun k ok hk hki hun hno => by
    refine hfree k ok hk hki ?_ hno
    by_cases hjk : j = k
    ·subst hjk
     exact hjun
    ·rw [_root_.Go.getD_set_ne true hjk] at hun
     exact hun
   refine wpOp_mono (fun a' w' h3 => ⟨h3.2.1,ih (listed.setIfInBounds j true) a' w' hfree' (ready_mono hr (Ne.symm hji)) h3.1 ?_⟩) h2
   rw [Array.setIfInBounds_comm _ _ hji]
   exact h3.2.2
def closedB (md : Region.Mode) (ops : Array Oper) (listed : Array Bool) : Bool :=
 (List.range ops.size).all fun j => match ops[j]? with
  | some oj => !(listed.getD j false) || oj.after.all fun e => !Region.binds md e || listed.getD e.on false
  | none => true
theorem closedB_spec {listed : Array Bool} (h : closedB md ops listed = true) : Closed md ops listed := by
 intro j oj hj hl e he hb
 have h1 := List.all_eq_true.1 h j (List.mem_range.2 (Array.getElem?_eq_some_iff.1 hj).1)
 rw [hj] at h1
 simp only [hl,Bool.not_true,Bool.false_or] at h1
 have h2 := Array.all_eq_true'.1 h1 e he
 rw [hb] at h2
 simpa using h2
def takeB (md : Region.Mode) (ops : Array Oper) (T : Nat → Bool) (listed : Array Bool) (i : Nat) : Bool :=
 Region.noSelect ops && Region.free md ops listed i && (Region.ready md ops listed).contains i && closedB md ops listed && (List.range ops.size).all fun t => !T t || needs md ops ops.size t i
theorem drop_at {l : List Oper} {i : Nat} {o : Oper} {rest : List Oper} (h : l.drop i = o :: rest) : l.toArray[i]? = some o := by
 have := congrArg (fun x : List Oper => x[0]?) h
 simpa [List.getElem?_drop] using this
theorem until_take {l : List Oper} (i : Nat) {oi : Oper} {rest : List Oper} {v : Value} {fuel : Nat} {listed : Array Bool} {a : Act} {w : World} (hd : l.drop i = oi :: rest) (hB : takeB md l.toArray T listed i = true)
  (hQ : ∀ c a w,Q (.panic c) (a.put oi.dst v) w → Q (.panic c) a w) (hw : Region.wanted oi (yielded l.toArray a.tmps) = true) (hy : ∀ w,S w → (execOp a.eval oi).run P w = .ok (.value v) w) (hS : S w)
  (h : wpUntil P md l.toArray Q S T fuel (listed.setIfInBounds i true) (a.put oi.dst v) w) : wpUntil P md l.toArray Q S T (fuel + 1) listed a w := by
 unfold takeB at hB
 simp only [Bool.and_eq_true] at hB
 obtain ⟨⟨⟨⟨hs,hf⟩,hr⟩,hc⟩,ht⟩ := hB
 refine wpUntil_first (drop_at hd) (Region.noSelect_spec hs) hQ (fun t htl htt => ?_) fuel listed a w (closedB_spec hc) (Region.free_spec (drop_at hd) hf) (by simpa using hr) (.inl ⟨hw,hy⟩) hS h
 have := List.all_eq_true.1 ht t (List.mem_range.2 htl)
 rw [htt] at this
 simpa using this
def pureB (md : Region.Mode) (ops : Array Oper) (listed : Array Bool) (i : Nat) : Bool := Region.noSelect ops && Region.free md ops listed i && (Region.ready md ops listed).contains i
theorem until_pure {l : List Oper} (i : Nat) {oi : Oper} {rest : List Oper} {v : Value} {fuel : Nat} {listed : Array Bool} {a : Act} {w : World} (hd : l.drop i = oi :: rest) (hB : pureB md l.toArray listed i = true)
  (hQ : ∀ c a w,Q (.panic c) (a.put oi.dst v) w → Q (.panic c) a w) (hw : Region.wanted oi (yielded l.toArray a.tmps) = true) (hy : ∀ w,(execOp a.eval oi).run P w = .ok (.value v) w)
  (h : wpUntil P md l.toArray Q S T fuel (listed.setIfInBounds i true) (a.put oi.dst v) w) : wpUntil P md l.toArray Q S T (fuel + 1) listed a w := by
 unfold pureB at hB
 simp only [Bool.and_eq_true] at hB
 obtain ⟨⟨hs,hf⟩,hr⟩ := hB
 exact wpUntil_pure (drop_at hd) (Region.noSelect_spec hs) hQ fuel listed a w (Region.free_spec (drop_at hd) hf) (by simpa using hr) (.inl ⟨hw,fun w _ => hy w⟩) h
theorem until_one {l : List Oper} (i : Nat) {oi : Oper} {rest : List Oper} {fuel : Nat} {listed : Array Bool} {a : Act} {w : World} (hd : l.drop i = oi :: rest) (hr : Region.ready md l.toArray listed = [i])
  (h : ∀ K : Act → World → Prop,Shut (∀ a' w',(T i = false → S w → S w') → wpUntil P md l.toArray Q S T fuel (listed.setIfInBounds i true) a' w' → K a' w') → if Region.wanted oi (yielded l.toArray a.tmps) = true then Oper.wp P oi a w K Q else K (a.put oi.dst undef) w) :
  wpUntil P md l.toArray Q S T (fuel + 1) listed a w := by
 refine ⟨fun h0 => (by rw [hr] at h0; cases h0),fun j hj => ?_⟩
 rw [hr] at hj
 obtain rfl : j = i := by simpa using hj
 exact wpOp_step (drop_at hd) (fun K hK => h K (fun a w h1 h2 => hK a w ⟨h1,h2⟩))
theorem until_two {l : List Oper} (i j : Nat) {oi oj : Oper} {rest rest' : List Oper} {fuel : Nat} {listed : Array Bool} {a : Act} {w : World} (hd : l.drop i = oi :: rest) (hd' : l.drop j = oj :: rest') (hr : Region.ready md l.toArray listed = [i,j])
  (h : ∀ K : Act → World → Prop,Shut (∀ a' w',(T i = false → S w → S w') → wpUntil P md l.toArray Q S T fuel (listed.setIfInBounds i true) a' w' → K a' w') → if Region.wanted oi (yielded l.toArray a.tmps) = true then Oper.wp P oi a w K Q else K (a.put oi.dst undef) w)
  (h' : ∀ K : Act → World → Prop,Shut (∀ a' w',(T j = false → S w → S w') → wpUntil P md l.toArray Q S T fuel (listed.setIfInBounds j true) a' w' → K a' w') → if Region.wanted oj (yielded l.toArray a.tmps) = true then Oper.wp P oj a w K Q else K (a.put oj.dst undef) w) :
  wpUntil P md l.toArray Q S T (fuel + 1) listed a w := by
 refine ⟨fun h0 => (by rw [hr] at h0; cases h0),fun k hk => ?_⟩
 rw [hr] at hk
 have : k = i ∨ k = j := by simpa using hk
 rcases this with rfl | rfl
 ·exact wpOp_step (drop_at hd) (fun K hK => h K (fun a w h1 h2 => hK a w ⟨h1,h2⟩))
 ·exact wpOp_step (drop_at hd') (fun K hK => h' K (fun a w h1 h2 => hK a w ⟨h1,h2⟩))
theorem until_done {listed : Array Bool} {a : Act} {w : World} (hr : Region.ready md ops listed = []) (h : Q .normal a w) : ∀ fuel,wpUntil P md ops Q S T fuel listed a w
 | 0 => ⟨hr,h⟩
 | _ + 1 => ⟨fun _ => h,by rw [hr]; simp⟩
theorem wp_region_until {id : Nat} {l : List Oper} {a : Act} {w : World} (S : World → Prop) (T : Nat → Bool) (n : Nat) (hn : l.length = n) (hm : P.follows .mixedOrders = true)
  (h : wpUntil P .any l.toArray Q S T n (Array.replicate n false) a w.drew) : (Code.region id l.toArray true).wp P Q a w := by
 subst hn
 exact wp_region_any hm (wpAny_of_until _ _ _ _ (by simpa using h))
end
section
variable {P : Program} {Q : Exit → Act → World → Prop} {md : Region.Mode} {S : World → Prop} {T : Nat → Bool}
theorem tKe {l : List Oper} (i : Nat) {oi : Oper} {rest : List Oper} {v : Value} {fuel : Nat} {listed : Array Bool} {a : Act} {w : World} (hS : S w) (hy : ∀ w,S w → (execOp a.eval oi).run P w = .ok (.value v) w) (h : wpUntil P md l.toArray Q S T fuel (listed.setIfInBounds i true) (a.put oi.dst v) w) (hd : l.drop i = oi :: rest := by rfl) (hB : takeB md l.toArray T listed i = true := by kernel_rfl) (hQ : ∀ c a w,Q (.panic c) (a.put oi.dst v) w → Q (.panic c) a w := by exact fun _ _ _ h => h) (hw : Region.wanted oi (yielded l.toArray a.tmps) = true := by rfl) : wpUntil P md l.toArray Q S T (fuel + 1) listed a w := until_take i hd hB hQ hw hy hS h
theorem pUr {l : List Oper} (i : Nat) {oi : Oper} {rest : List Oper} {v : Value} {fuel : Nat} {listed : Array Bool} {a : Act} {w : World} (hy : ∀ w,(execOp a.eval oi).run P w = .ok (.value v) w) (h : wpUntil P md l.toArray Q S T fuel (listed.setIfInBounds i true) (a.put oi.dst v) w) (hd : l.drop i = oi :: rest := by rfl) (hB : pureB md l.toArray listed i = true := by kernel_rfl) (hQ : ∀ c a w,Q (.panic c) (a.put oi.dst v) w → Q (.panic c) a w := by exact fun _ _ _ h => h) (hw : Region.wanted oi (yielded l.toArray a.tmps) = true := by rfl) : wpUntil P md l.toArray Q S T (fuel + 1) listed a w := until_pure i hd hB hQ hw hy h
theorem uNe {l : List Oper} (i : Nat) {oi : Oper} {rest : List Oper} {fuel : Nat} {listed : Array Bool} {a : Act} {w : World} (h : ∀ K : Act → World → Prop,Shut (∀ a' w',(T i = false → S w → S w') → wpUntil P md l.toArray Q S T fuel (listed.setIfInBounds i true) a' w' → K a' w') → if Region.wanted oi (yielded l.toArray a.tmps) = true then Oper.wp P oi a w K Q else K (a.put oi.dst undef) w) (hd : l.drop i = oi :: rest := by rfl) (hr : Region.ready md l.toArray listed = [i] := by kernel_rfl) : wpUntil P md l.toArray Q S T (fuel + 1) listed a w := until_one i hd hr h
end
theorem zQ1 {α : Type} (l : List α) (i : Nat) (a : α) : l.toArray.setIfInBounds i a = (l.set i a).toArray := List.setIfInBounds_toArray ..
theorem zQ2 {α : Type} (x : α) (l : List α) (a : α) : (x :: l).set 0 a = a :: l := rfl
theorem zQ3 {α : Type} (x : α) (l : List α) (n : Nat) (a : α) : (x :: l).set (n + 1) a = x :: l.set n a := rfl
section
variable {P : Program} {Q : Exit → Act → World → Prop} {md : Region.Mode} {S : World → Prop} {T : Nat → Bool}
theorem tKf {l : List Oper} (i : Nat) {oi : Oper} {rest : List Oper} {v : Value} {fuel : Nat} {listed : Array Bool} {a b : Act} {w : World} (hS : S w) (h : wpUntil P md l.toArray Q S T fuel (listed.setIfInBounds i true) b w) (hd : l.drop i = oi :: rest := by rfl) (hB : takeB md l.toArray T listed i = true := by kernel_rfl) (hw : Region.wanted oi (yielded l.toArray a.tmps) = true := by rfl) (hy : ∀ w,S w → (execOp a.eval oi).run P w = .ok (.value v) w := by intro w hSw; (try dsimp only at hSw); go_simp; try with_reducible rfl) (hb : a.put oi.dst v = b := by (try simp only [Act.put,zQ1,zQ2,zQ3]); exact rfl) (hQ : ∀ c a w,Q (.panic c) (a.put oi.dst v) w → Q (.panic c) a w := by exact fun _ _ _ h => h) : wpUntil P md l.toArray Q S T (fuel + 1) listed a w := until_take i hd hB hQ hw hy hS (hb ▸ h)
theorem pUf {l : List Oper} (i : Nat) {oi : Oper} {rest : List Oper} {v : Value} {fuel : Nat} {listed : Array Bool} {a b : Act} {w : World} (h : wpUntil P md l.toArray Q S T fuel (listed.setIfInBounds i true) b w) (hd : l.drop i = oi :: rest := by rfl) (hB : pureB md l.toArray listed i = true := by kernel_rfl) (hw : Region.wanted oi (yielded l.toArray a.tmps) = true := by rfl) (hy : ∀ w,(execOp a.eval oi).run P w = .ok (.value v) w := by intro w; go_simp; try with_reducible rfl) (hb : a.put oi.dst v = b := by (try simp only [Act.put,zQ1,zQ2,zQ3]); exact rfl) (hQ : ∀ c a w,Q (.panic c) (a.put oi.dst v) w → Q (.panic c) a w := by exact fun _ _ _ h => h) : wpUntil P md l.toArray Q S T (fuel + 1) listed a w := until_pure i hd hB hQ hw hy (hb ▸ h)
end
open Go
theorem until_skip {P : Program} {Q : Exit → Act → World → Prop} {md : Region.Mode} {S : World → Prop} {T : Nat → Bool} {l : List Oper} (i : Nat) {oi : Oper} {rest : List Oper} {fuel : Nat} {listed : Array Bool} {a : Act} {w : World} (hd : l.drop i = oi :: rest) (hB : pureB md l.toArray listed i = true)
  (hQ : ∀ c a w,Q (.panic c) (a.put oi.dst undef) w → Q (.panic c) a w) (hw : Region.wanted oi (yielded l.toArray a.tmps) = false)
  (h : wpUntil P md l.toArray Q S T fuel (listed.setIfInBounds i true) (a.put oi.dst undef) w) : wpUntil P md l.toArray Q S T (fuel + 1) listed a w := by
 unfold pureB at hB
 simp only [Bool.and_eq_true] at hB
 obtain ⟨⟨hs,hf⟩,hr⟩ := hB
 exact wpUntil_pure (drop_at hd) (Region.noSelect_spec hs) hQ fuel listed a w (Region.free_spec (drop_at hd) hf) (by simpa using hr) (.inr ⟨hw,rfl⟩) h
theorem sKi {P : Program} {Q : Exit → Act → World → Prop} {md : Region.Mode} {S : World → Prop} {T : Nat → Bool} {l : List Oper} (i : Nat) {oi : Oper} {rest : List Oper} {fuel : Nat} {listed : Array Bool} {a : Act} {w : World} (h : wpUntil P md l.toArray Q S T fuel (listed.setIfInBounds i true) (a.put oi.dst undef) w) (hd : l.drop i = oi :: rest := by rfl) (hB : pureB md l.toArray listed i = true := by kernel_rfl) (hQ : ∀ c a w,Q (.panic c) (a.put oi.dst undef) w → Q (.panic c) a w := by exact fun _ _ _ h => h) (hw : Region.wanted oi (yielded l.toArray a.tmps) = false := by rfl) : wpUntil P md l.toArray Q S T (fuel + 1) listed a w := until_skip i hd hB hQ hw h
theorem sKf {P : Program} {Q : Exit → Act → World → Prop} {md : Region.Mode} {S : World → Prop} {T : Nat → Bool} {l : List Oper} (i : Nat) {oi : Oper} {rest : List Oper} {fuel : Nat} {listed : Array Bool} {a b : Act} {w : World} (h : wpUntil P md l.toArray Q S T fuel (listed.setIfInBounds i true) b w) (hd : l.drop i = oi :: rest := by rfl) (hB : pureB md l.toArray listed i = true := by kernel_rfl) (hw : Region.wanted oi (yielded l.toArray a.tmps) = false := by rfl) (hb : a.put oi.dst undef = b := by (try simp only [Act.put,zQ1,zQ2,zQ3]); exact rfl) (hQ : ∀ c a w,Q (.panic c) (a.put oi.dst undef) w → Q (.panic c) a w := by exact fun _ _ _ h => h) : wpUntil P md l.toArray Q S T (fuel + 1) listed a w := until_skip i hd hB hQ hw (hb ▸ h)
end Go.Proofs.YthhamlahdjokkaaGreatDoor
