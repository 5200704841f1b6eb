/-
  Contract of spec.FileFind.
-/
import Derived.Test.YthgiekeiljflaaaGreatDoorFlFindM
import Derived.Test.YthgiekeiljflaaaGreatDoorFlReadS
import Derived.WalkKit
import Derived.ProofKit
import Derived.OpenShut
import Derived.Below
import Derived.WalkSmall
import Derived.BigQuiet
import Derived.Deep.QuietTactic
import Derived.Deep.RegionWith
import Derived.Handy
namespace Go.Proofs.YthgiekeiljflaaaGreatDoor
open Go.ChangeShapes Go.WideShapes Go.ChangeAt Go.RowKit Go.PlainAid
set_option linter.unusedVariables false

set_option maxHeartbeats 4000000 in
theorem specFileFind (s key : ByteArray) (w : World) (hs : s.size ≤ 1048576) : Calls Tryz.prog 11 #[.string s, .string key] w fun e w' => FfOk s key w' w.heap.size e ∧ Below w.heap.size w w' := by
  have c1 := specReadFile s w hs
  clear hs
  go_enter Tryz.func11, Tryz.ntmps11
  go_wp2_with fail
  refine c1.mono ?_
  rintro e X1 ⟨⟨u1, L1, ok1, hR, rfl, hO⟩, hb⟩
  have HR : Hid (RfAns s (L1.map Prod.fst) ok1) := hR
  have B1 : Hid (Below w.heap.size w X1) := hb
  have HO : Hid (SerO X1 w.heap.size u1 L1) := hO
  have HAt : Hid (∀ j, j < L1.length → sAt (L1.map Prod.fst) j = (L1.getD j default).1) := fun j hj => by
    unfold sAt
    rw [← getD_at _ j (by rw [List.length_map]; exact hj), ← getD_at L1 j hj, List.getElem_map]
  obtain ⟨A, cap, rfl, hl⟩ := sr_look hO.lies.1
  have HL : Hid (∀ j, j < L1.length → ∃ g off, A = some ⟨g, off, none⟩ ∧ g < X1.heap.size ∧ X1.cell? ⟨g, off + j * 2, none⟩ = some (.string (L1.getD j default).1.key) ∧ X1.cell? ⟨g, off + j * 2 + 1, none⟩ = some (L1.getD j default).2) := hl
  have HN5 : Hid (L1.length ≤ 5) := by have := hR.len; rw [List.length_map] at this; exact this
  have q1 : (L1.length : Int) ≤ 5 := by have := HN5.out; omega
  clear hR hb c1 hO hl
  generalize hn : L1.length = n at *
  have HN : Hid (L1.length = n) := hn
  clear hn
  have BE : Hid (Below w.heap.size w (X1.alloc (.cells #[] 52))) := B1.out.alloc B1.out.size _
  have OE : Hid (Owns (X1.alloc (.cells #[] 52)) w.heap.size 52 2 (.slice (some ⟨X1.heap.size, 0, none⟩) 0 0) (ptR [])) := Owns.empty X1 w.heap.size 52 2 B1.out.size
  go_wp2_with fail
  go_loop [8] (fun v8 => ∃ k : Nat, k ≤ n ∧ v8 = .int .i64 (k : Int) ∧ Hid (∀ i, i < k → (L1.getD i default).1.key ≠ key)) (fun i => n - (intOf i).toNat)
  case atStart => exact ⟨0, by omega, rfl, fun i hi => by omega⟩
  case round =>
    obtain ⟨k, hk, rfl, HJ⟩ := hrel
    by_cases hlt : k < n
    · have q4 : (k : Int) < (n : Int) := by omega
      obtain ⟨g, off, rfl, hg, e1, e2⟩ := HL.out k hlt
      have hOk := HO.out.2.1 _ (getD_mem L1 k (by rw [HN.out]; exact hlt))
      obtain ⟨Ak, nk, ck, euk⟩ := hOk.shape
      rw [euk] at e2 hOk
      have HOk : Hid (Owns X1 w.heap.size 52 2 (.slice Ak nk ck) (ptR (L1.getD k default).1.pts)) := hOk
      clear hOk
      by_cases hkey : (L1.getD k default).1.key = key
      · have HF : Hid (FfAns s key (L1.getD k default).1.pts true) := by
          rcases HR.out with ⟨_, h⟩ | ⟨_, h, _⟩
          · refine .inl ⟨rfl, _, k, h, by rw [List.length_map, HN.out]; exact hlt, ?_, fun i hi => ?_, ?_⟩
            · rw [HAt.out k hlt]; exact hkey
            · rw [HAt.out i (by omega)]; exact HJ.out i hi
            · rw [HAt.out k hlt]
          · have := congrArg List.length h
            rw [List.length_map, HN.out] at this
            simp at this
            omega
        rw [hkey] at e1
        clear hkey
        go_wp2_with fail
        refine bodyPost_ret (results_tmp2 rfl _ _ _) rfl ?_
        exact ⟨⟨_, _, true, rfl, HF.out, HOk.out⟩, B1.out⟩
      · have HK : Hid ((L1.getD k default).1.key ≠ key) := hkey
        have hne := bytes_ne hkey
        clear hkey
        generalize (L1.getD k default).1.key = xk at e1 hne
        go_wp2_with fail
        go_round
        case rel =>
          refine ⟨k + 1, by omega, by go_num, fun i hi => ?_⟩
          by_cases e : i = k
          · rw [e]; exact HK.out
          · exact HJ.out i (by omega)
        case measure => simp [intOf]; omega
    · obtain rfl : k = n := by omega
      have HF : Hid (FfAns s key [] false) := by
        refine .inr ⟨rfl, rfl, fun m hm j hj => ?_⟩
        rcases HR.out with ⟨_, h⟩ | ⟨_, _, h⟩
        · obtain rfl := hm.one h
          rw [List.length_map, HN.out] at hj
          rw [HAt.out j hj]
          exact HJ.out j hj
        · exact absurd hm (h m)
      go_wp2_with fail
      refine bodyPost_ret (results_tmp2 rfl _ _ _) rfl ?_
      exact ⟨⟨_, [], false, rfl, HF.out, OE.out⟩, BE.out⟩
end Go.Proofs.YthgiekeiljflaaaGreatDoor
