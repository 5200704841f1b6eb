/-
  An argument that is a slice of bytes, as it came in (no condition).
-/
import Derived.Test.YtfkgaoegdnkfcaaRows
import Derived.Test.YtfkgaoegdnkfcaaCurAid
import Derived.ChangeSlices
import Derived.ChangeArms
import Derived.OpenShut
namespace Go.Proofs.Ytfkgaoegdnkfcaa
open Go.ChangeShapes Go.WideShapes Go.ChangeAt Go.RowKit Go.PlainAid
set_option linter.unusedVariables false

/-- What is told of a slice of bytes that came in: its bytes. -/
theorem code_of {W : World} {a : Option Addr} {len cap : Nat} {zs : List Int} {x : Addr} (ha : a = some x) (hl : len ≤ cap) (hz : zs.length = cap) (hcell : ∀ i, i < zs.length → W.cell? (x.add i) = some (.int .u8 (zs.getD i 0))) (hwz : ∀ n ∈ zs, (Lit.int .u8 n).wf = true) :
    ∃ cs, CodeIs W W.heap.size a len cs := by
  refine ⟨fun j => (zs.getD j 0).toNat, ?_⟩
  by_cases h0 : len = 0
  · exact .inl h0
  · right
    obtain ⟨b, off, spot⟩ := x
    have hc := hcell 0 (by omega)
    have hspot : spot = none := by simpa [Addr.add] using World.cell?_spot hc
    subst hspot
    have hadd : ∀ j, (⟨b, off, none⟩ : Addr).add j = ⟨b, off + j, none⟩ := by intro j; cases j <;> simp [Addr.add]
    refine ⟨b, off, ha, ?_, ?_⟩
    · rw [hadd] at hc
      rcases Nat.lt_or_ge b W.heap.size with h | h
      · exact h
      · simp [World.cell?, Array.getElem?_eq_none h] at hc
    · intro j hj
      have hj' : j < zs.length := by omega
      have hm : zs.getD j 0 ∈ zs := by
        rw [List.getD_eq_getElem?_getD, List.getElem?_eq_getElem hj']
        exact List.getElem_mem hj'
      have hb := bounds_u8 (hwz _ hm)
      have hcj := hcell j hj'
      rw [hadd] at hcj
      refine ⟨by show (zs.getD j 0).toNat < 256; omega, ?_⟩
      rw [hcj, show (((zs.getD j 0).toNat : Nat) : Int) = zs.getD j 0 by omega]

theorem cByte : Try.prog.cellsOf 5 = 1 := by kernel_rfl
theorem open_code {H : Type} {enc : TypeId × Value → H} {w : World} {base : Nat} {held : Bool} {r : Reach} {b0 : Nat} {v : Value} {dd : DataW H} {ps : List MemPlace} (hval : Value.okWide Try.prog w r b0 22 v) (hd : DataW.Trod enc Try.prog w base (fun _ => true) held 22 v dd ps) :
    ∃ a len cap cs, v = .slice a len cap ∧ len ≤ 9223372036854775807 ∧ CodeIs w w.heap.size a len cs := by
  obtain ⟨a0, len0, cap0, rfl⟩ := okWide_slice Try.underlying22 hval
  obtain ⟨fuel, hf⟩ := hd
  rcases open_ints Try.underlying22 Try.underlying5 cByte hf with ⟨hcs, _⟩ | ⟨x, l, c, zs, hcs, _, hl, hm, hz, _, hcell, hwz⟩
  · simp [Value.cells] at hcs
    obtain ⟨rfl, rfl, rfl⟩ := hcs
    exact ⟨_, _, _, fun _ => 0, rfl, by omega, .inl rfl⟩
  · simp [Value.cells] at hcs
    obtain ⟨rfl, rfl, rfl⟩ := hcs
    unfold maxLen at hm
    obtain ⟨cs, hc⟩ := code_of rfl hl (by simpa using hz) hcell hwz
    exact ⟨_, _, _, cs, rfl, by omega, hc⟩
end Go.Proofs.Ytfkgaoegdnkfcaa
