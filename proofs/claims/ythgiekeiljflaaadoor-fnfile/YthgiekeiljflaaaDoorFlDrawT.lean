/-
  Contract of spec.DrawFileText: some series are drawn.
-/
import Derived.Test.YthgiekeiljflaaaDoorFlDraw
import Derived.WalkKit
import Derived.ProofKit
import Derived.OpenShut
import Derived.Below
import Derived.WalkSmall
import Derived.BigQuiet
import Derived.Deep.QuietTactic
import Derived.Deep.RegionWith
import Derived.Handy
namespace Go.Proofs.YthgiekeiljflaaaDoor
open Go.ChangeShapes Go.WideShapes Go.ChangeAt Go.RowKit Go.PlainAid
set_option linter.unusedVariables false

set_option maxHeartbeats 1000000 in
theorem drawFileText (w : World) (ao : Option Addr) (len cap : Nat) (cs : Nat → Nat) (hl : len ≤ 1048576) (h : CodeIs w w.heap.size ao len cs) : Calls Tryd.prog 6 #[.slice ao len cap] w fun e w' => (∃ u l, e = .returned u ∧ SerV w' w'.heap.size u l ∧ l.length ≤ 6 ∧ (∀ x ∈ l, x.pts.length ≤ 700 ∧ KeyP x.key)) ∧ Below w.heap.size w w' := by
  have HL : Hid (len ≤ 1048576) := hl
  have q0 : (len : Int) ≤ 1048576 := by omega
  have c1 := new_any w ao len cap cs hl h
  clear h hl
  go_enter Tryd.func6, Tryd.ntmps6
  go_wp2_with fail
  refine c1.mono ?_
  rintro e w1 ⟨rfl, hA, hb⟩
  have A1 : Hid (AtS w1 w.heap.size) := ⟨_, _, _, _, _, hA⟩
  have B1 : Hid (Below w.heap.size w w1) := hb
  have cz := fun wx => size_any wx ao len cap 10 HL.out (by omega) (by omega)
  clear hA hb c1
  go_wp2_with fail
  refine (cz _).mono ?_
  rintro e w' ⟨⟨n, rfl, hn1, hn2⟩, rfl⟩
  go_wp2_with fail
  refine (series_any w1 w.heap.size n hn1 hn2 A1.out).mono ?_
  rintro e w3 ⟨v, l, rfl, hV, hll, hld, hm⟩
  have V3 : Hid (SerV w3 w3.heap.size v l) := hV
  have D3 : Hid (l.length ≤ 6 ∧ ∀ x ∈ l, x.pts.length ≤ 700 ∧ KeyP x.key) := ⟨hll, hld⟩
  have B3 : Hid (Below w.heap.size w w3) := B1.out.trans ((hm.mono B1.out.size).below (Nat.le_refl _))
  clear hV hll hld hm cz
  go_wp2_with fail
  go_ret
  exact ⟨⟨_, l, rfl, V3.out, D3.out.1, D3.out.2⟩, B3.out⟩
end Go.Proofs.YthgiekeiljflaaaDoor
