/-
  Contract of spec.Cover (no condition).
-/
import Derived.Test.YtfkgaoegdnkfcaaRows
import Derived.Test.YtfkgaoegdnkfcaaAid
import Derived.Test.YtfkgaoegdnkfcaaNmAid
import Derived.Test.YtfkgaoegdnkfcaaNmLaw
import Derived.Test.YtfkgaoegdnkfcaaBuOf
import Derived.WalkKit
import Derived.ProofKit
import Derived.OpenShut
import Derived.Below
import Derived.WalkLawsBesides
import Derived.WalkMore
import Derived.Outline
import Derived.WalkSmall
namespace Go.Proofs.Ytfkgaoegdnkfcaa
open Go.ChangeShapes Go.WideShapes Go.ChangeAt Go.RowKit Go.PlainAid
set_option linter.unusedVariables false

/-- n numbers from a on. -/
def nfrom (a : Int) (n : Nat) : List Int := (List.range n).map fun (j : Nat) => a + (j : Int)
theorem nfrom_length (a : Int) (n : Nat) : (nfrom a n).length = n := by simp [nfrom]
theorem nfrom_succ (a : Int) (n : Nat) : nfrom a (n + 1) = nfrom a n ++ [a + (n : Int)] := by simp [nfrom, List.range_succ]
theorem nfrom_get (a : Int) (n j : Nat) (h : j < n) : (nfrom a n).getD j 0 = a + (j : Int) := by simp [nfrom, List.getD, h]
theorem nfrom_pre (a : Int) (k n : Nat) (h : k ≤ n) : nfrom a k <+: nfrom a n := by
  obtain ⟨m, rfl⟩ : ∃ m, n = k + m := ⟨n - k, by omega⟩
  unfold nfrom
  rw [List.range_add, List.map_append]
  exact List.prefix_append _ _
/-- The buckets of a span. -/
def cov (f t : Int) : List Int :=
  if f < 0 ∨ t ≤ f ∨ 1099511627776 < t then [] else if 8 ≤ (t - 1) / 100 - f / 100 then [] else nfrom (f / 100) ((t - 1) / 100 - f / 100 + 1).toNat
theorem cov_length (f t : Int) : (cov f t).length ≤ 8 := by
  unfold cov
  split
  · simp
  · split
    · simp
    · rw [nfrom_length]; omega

set_option maxHeartbeats 1000000 in
theorem specCover (f t : Int) (w : World) (hf : -9223372036854775808 ≤ f) (ht : t ≤ 9223372036854775807) :
    Calls Try.prog 16 #[.int .i64 f, .int .i64 t] w fun e w' => ∃ u, e = .returned u ∧ Nums w' w.heap.size u (cov f t) ∧ Below w.heap.size w w' := by
  have hE : Nums (w.alloc (.cells #[] 3)) w.heap.size (.slice (some ⟨w.heap.size, 0, none⟩) 0 0) [] := Nums.empty w _ (Nat.le_refl _)
  have hB : Below w.heap.size w (w.alloc (.cells #[] 3)) := (Below.refl _ _).alloc (Nat.le_refl _) _
  by_cases h0 : f < 0
  · have e : cov f t = [] := if_pos (.inl h0)
    rw [e]
    have HE : Hid _ := hE
    have HB : Hid _ := hB
    clear hE hB
    go_enter Try.func16, Try.ntmps16
    go_wp2
    go_ret
    exact ⟨_, rfl, HE.out, HB.out⟩
  by_cases h1 : t ≤ f
  · have e : cov f t = [] := if_pos (.inr (.inl h1))
    rw [e]
    have HE : Hid _ := hE
    have HB : Hid _ := hB
    clear hE hB
    go_enter Try.func16, Try.ntmps16
    go_wp2
    go_ret
    exact ⟨_, rfl, HE.out, HB.out⟩
  by_cases h2 : 1099511627776 < t
  · have e : cov f t = [] := if_pos (.inr (.inr h2))
    have h1' : decide (t ≤ f) = false := by simp; omega
    rw [e]
    have HE : Hid _ := hE
    have HB : Hid _ := hB
    clear hE hB
    go_enter Try.func16, Try.ntmps16
    go_wp2
    go_ret
    exact ⟨_, rfl, HE.out, HB.out⟩
  have e0 : cov f t = if 8 ≤ (t - 1) / 100 - f / 100 then [] else nfrom (f / 100) ((t - 1) / 100 - f / 100 + 1).toNat := if_neg (by omega)
  have h1' : decide (t ≤ f) = false := by simp; omega
  have h2' : decide (1099511627776 < t) = false := by simp; omega
  have cA := specBucket f
  have cB := specBucket (t - 1)
  rw [bkt_in (by omega) (by omega)] at cA cB
  have g0 : IntKind.i64.wrap (t - 1) = t - 1 := by rw [IntKind.wrap_i64]; omega
  have g1 : (0 : Int) ≤ f / 100 ∧ f / 100 ≤ (t - 1) / 100 ∧ (t - 1) / 100 ≤ 10995116277 := by omega
  rw [e0]
  have HE : Hid _ := hE
  have HB : Hid _ := hB
  clear hE hB e0
  generalize f / 100 = a at *
  generalize (t - 1) / 100 = b at *
  have g2 : IntKind.i64.wrap (b - a) = b - a := by rw [IntKind.wrap_i64]; omega
  by_cases h8 : 8 ≤ b - a
  · have e : (if 8 ≤ b - a then ([] : List Int) else nfrom a (b - a + 1).toNat) = [] := if_pos h8
    rw [e]
    go_enter Try.func16, Try.ntmps16
    go_wp2_with fail
    refine (cA _).mono ?_
    rintro _ _ ⟨rfl, rfl⟩
    go_wp2_with fail
    refine (cB _).mono ?_
    rintro _ _ ⟨rfl, rfl⟩
    go_wp2_with fail
    go_ret
    exact ⟨_, rfl, HE.out, HB.out⟩
  have e : (if 8 ≤ b - a then ([] : List Int) else nfrom a (b - a + 1).toNat) = nfrom a (b - a + 1).toNat := if_neg h8
  have h8' : decide (8 ≤ b - a) = false := by simp; omega
  rw [e]
  clear e
  have gN : Hid (((b - a + 1).toNat : Int) = b - a + 1) := show ((b - a + 1).toNat : Int) = b - a + 1 by omega
  have gM : Hid ((b - a + 1).toNat ≤ 8) := show (b - a + 1).toNat ≤ 8 by omega
  generalize (b - a + 1).toNat = n at *
  go_enter Try.func16, Try.ntmps16
  go_wp2_with fail
  refine (cA _).mono ?_
  rintro _ _ ⟨rfl, rfl⟩
  go_wp2_with fail
  refine (cB _).mono ?_
  rintro _ _ ⟨rfl, rfl⟩
  go_wp2_with fail
  go_loopw [5, 8] (fun v5 v8 wr => ∃ k : Nat, k ≤ n ∧ v8 = .int .i64 (a + (k : Int)) ∧ Nums wr w.heap.size v5 (nfrom a k) ∧ Below w.heap.size w wr) (fun _ i _ => (b + 1 - intOf i).toNat)
  case atStart => exact ⟨0, by omega, by simp, HE.out, HB.out⟩
  case round =>
    obtain ⟨k, hk, rfl, hN, hb⟩ := hrel
    have HN : Hid (Nums wr w.heap.size _ (nfrom a k)) := hN
    have BW : Hid (Below w.heap.size w wr) := hb
    obtain ⟨A, ca, rfl, _⟩ := hN.shape
    clear hN hb
    by_cases hlt : a + (k : Int) ≤ b
    · have g3 : IntKind.i64.wrap (a + (k : Int) + 1) = a + (k : Int) + 1 := by rw [IntKind.wrap_i64]; omega
      go_wp2_with (at_builtin; refine wpList_append_num rfl (.tmp 38) (.tmp 40) 36 rfl Try.underlying36 Try.infoInt w.heap.size _ (nfrom a k) rfl HN.out (a + (k : Int)) rfl (by rw [nfrom_length]; have := gM.out; omega) BW.out.size ?_; intro v' w3 hN3 hb3 hk3)
      have HN3 : Hid (Nums w3 w.heap.size v' (nfrom a (k + 1))) := by rw [nfrom_succ]; exact hN3
      clear hN3 hk3
      have HB3 : Hid (Below w.heap.size w w3) := BW.out.trans hb3
      go_wp2_with fail
      go_roundw
      case rel => exact ⟨k + 1, by have := gN.out; omega, by push_cast; rw [Int.add_assoc], HN3.out, HB3.out⟩
      case measure => simp [intOf]; omega
    · obtain rfl : k = n := by have := gN.out; omega
      have hlt' : decide (a + (k : Int) ≤ b) = false := by simp; omega
      go_wp2_with fail
      go_ret
      exact ⟨_, rfl, HN.out, BW.out⟩
end Go.Proofs.Ytfkgaoegdnkfcaa
