/-
  Appends of one row, as equations on their runs.
-/
import Derived.Test.YtjejcpieajeflaaWkApp
import Derived.Deep.RegionLaw
namespace Go.Proofs.Ytjejcpieajeflaa
open Go.RowKit Go.PlainAid
/-- An append of one row, as an equation on its run. -/
theorem run_append_row {P : Program} (w : World) (t ty e : TypeId) (z : Value) (sz bytes : Nat)
    (ht : P.underlying t = some (.slice e)) (hinfo : (P.info? e).map (fun i => (i.zero, i.size, i.bytes)) = some (some z, sz, bytes)) (hzs : z.cells.size = sz) (hsz : 0 < sz)
    (base : Nat) (v : Value) (rows : List (List Value)) (hown : Owns w base e sz v rows) (r : List Value) (hr : r.length = sz) (h1 : ∀ u ∈ r, u.oneCell' = true)
    (hlen : rows.length ≤ 2097152) (hby : bytes ≤ 1000) (hbase : base ≤ w.heap.size) :
    ∃ A m c w', (Builtin.append_ #[t, t] ty #[v, .slice (some ⟨w.heap.size, 0, none⟩) 1 1]).run P (w.alloc (.cells r.toArray e)) = .ok (.slice A m c) w' ∧ Owns w' base e sz (.slice A m c) (rows ++ [r]) ∧ Below base w w' ∧ (∀ g, g < w.heap.size → v.ownBlock ≠ some g → w'.heap[g]? = w.heap[g]?) ∧ ((Value.slice A m c).ownBlock = v.ownBlock ∨ ∀ g, (Value.slice A m c).ownBlock = some g → w.heap.size ≤ g) := by
  obtain ⟨i0, hi, hz0, hz1, hz2⟩ := info_parts hinfo
  have hb1 : (rows.length + 1) * bytes ≤ 140737488355328 := Nat.le_trans (Nat.mul_le_mul (show rows.length + 1 ≤ 2097153 by omega) hby) (by omega)
  have hnews : ∀ j u, r[j]? = some u → (w.alloc (.cells r.toArray e)).cell? ((⟨w.heap.size, 0, none⟩ : Addr).add j) = some u := by
    intro j u hj
    have e1 : (⟨w.heap.size, 0, none⟩ : Addr).add j = ⟨w.heap.size, j, none⟩ := by cases j <;> simp [Addr.add]
    rw [e1, World.cell?_alloc_mark]
    simpa using hj
  obtain ⟨v', w', hrun, h2, h3, _⟩ := run_append_own (P := P) (w.alloc (.cells r.toArray e)) base t ty e i0 z sz bytes ht hi hz0 hz1 hz2 hzs hsz v rows.length rows.flatten (World.ownsRow.alloc hown.2 _) ⟨w.heap.size, 0, none⟩ 1 1 r (by rw [hr]; omega) hnews h1 (by unfold maxLen; omega) hb1 (by simp; omega)
  have h5 := run_append_where (P := P) (w.alloc (.cells r.toArray e)) base t ty e i0 z sz bytes ht hi hz0 hz1 hz2 v rows.length rows.flatten (World.ownsRow.alloc hown.2 _) ⟨w.heap.size, 0, none⟩ 1 1 r (by rw [hr]; omega) hnews h1 (by unfold maxLen; omega) hb1 v' w' hrun
  have hb0 : ∀ k, v.ownBlock = some k → base ≤ k := fun k hk => (hown.lt k hk).1
  have hO : Owns w' base e sz v' (rows ++ [r]) := by
    refine ⟨?_, ?_⟩
    · intro y hy
      rcases List.mem_append.1 hy with hy | hy
      · exact hown.1 y hy
      · rw [List.mem_singleton.1 hy]; exact hr
    · rw [List.length_append, List.flatten_append]
      simpa using h2
  obtain ⟨A, m, c, rfl⟩ := hO.shape
  refine ⟨A, m, c, w', hrun, hO, ((Below.refl base w).alloc hbase _).grown h3 (by simp; omega) hb0, ?_, h5.imp id fun e g hg => by rw [e] at hg; cases hg; simp⟩
  intro g hg hne
  rw [h3.block g (by simp; omega) (fun e => hne e.symm)]
  exact Below.heap_alloc w _ g hg

/-- An append whose run is known, at a step of a region that draws its order. -/
theorem step_append_run {P : Program} {ops : Array Oper} {o : Oper} {a : Act} {w : World} {K : Act → World → Prop} {Q : Exit → Act → World → Prop} {E : Prop}
    (hg : o.guard = none) (s x : Operand) (t : TypeId) (hop : o.op = Op.call { callee := Callee.builtin Builtin.append, args := #[s, x], argTypes := #[t, t] })
    (v y r : Value) (w' : World) (hs : a.eval s = v) (hx : a.eval x = y) (hrun : (Builtin.append_ #[t, t] o.type #[v, y]).run P w = .ok r w') (hK : K (a.put o.dst r) w') :
    if Region.wanted o (yielded ops a.tmps) = true then Oper.wp P o a w K Q else E := by
  have hw : Region.wanted o (yielded ops a.tmps) = true := by simp [Region.wanted, hg]
  rw [if_pos hw]
  unfold Oper.wp
  simp [execOp, hop, resolve, invoke, builtin, hs, hx, hrun, Result.andThen]
  exact hK

end Go.Proofs.Ytjejcpieajeflaa
