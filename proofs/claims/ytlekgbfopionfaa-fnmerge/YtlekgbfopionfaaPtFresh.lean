/-
  Contract of laws.fresh.
-/
import Derived.Test.YtlekgbfopionfaaRows
import Derived.Test.YtlekgbfopionfaaCurP
import Derived.WalkSpells
import Derived.WalkMore
import Derived.Deep.OwnRows
import Derived.Deep.RegionLaw
import Derived.Deep.DrawnRows
namespace Go.Proofs.Ytlekgbfopionfaa
open Go.ChangeShapes Go.WideShapes Go.ChangeAt Go.RowKit Go.PlainAid
set_option linter.unusedVariables false

theorem Try.info5 : (Try.prog.info? 5).map (fun i => (i.zero, i.size, i.bytes)) = some (some (.int .u8 0), 1, 1) := by kernel_rfl
/-- A row of bytes of the call's own is a code. -/
theorem Buf.code {w : World} {base : Nat} {v : Value} {l : List UInt8} (h : Buf w base v l) : ∃ ao cap, v = .slice ao l.length cap ∧ CodeIs w w.heap.size ao l.length (fun j => (l.getD j 0).toNat) := by
  have hlt := World.ownsRow.lt h
  have hc := fun g hg => World.ownsRow.cells h (g := g) hg
  rcases h.2 with ⟨rfl, h0⟩ | ⟨g, cap, cur, rfl, _⟩
  · rw [h0]
    exact ⟨none, 0, rfl, .inl rfl⟩
  · refine ⟨_, cap, rfl, .inr ⟨g, 0, rfl, (hlt g rfl).2, fun j hj => ⟨UInt8.toNat_lt _, ?_⟩⟩⟩
    have e : (⟨g, 0, none⟩ : Addr).add j = ⟨g, 0 + j, none⟩ := by cases j <;> simp [Addr.add]
    rw [← e]
    exact hc g rfl j _ (by simp [byteCells, hj])
/-- What fresh makes of the code. -/
def frL (cs : Nat → Nat) (salt : Nat) : Nat → List UInt8
  | 0 => [byt salt]
  | k + 1 => frL cs salt k ++ [byt (cs k * 3 + salt * (k % 7 + 1))]
theorem frL_length (cs : Nat → Nat) (salt k : Nat) : (frL cs salt k).length = k + 1 := by
  induction k with
  | zero => rfl
  | succ k ih => rw [frL, List.length_append, ih]; rfl
theorem frL_succ (cs : Nat → Nat) (salt k : Nat) : frL cs salt (k + 1) = frL cs salt k ++ [byt (cs k * 3 + salt * (k % 7 + 1))] := by rw [frL]
theorem fr_cast (a b c : Nat) : (((a * 3 + b * (c % 7 + 1)) % 256 : Nat) : Int) = ((a : Int) * 3 + (b : Int) * ((c : Int) % 7 + 1)) % 256 := by
  rw [Int.natCast_emod, Int.natCast_add, Int.natCast_mul, Int.natCast_mul, Int.natCast_add, Int.natCast_emod]
  rfl
theorem byte_cell (x : Int) (n : Nat) (h : x = ((n % 256 : Nat) : Int)) : #[Value.int .u8 x] = byteCells [byt n] := by
  subst h
  simp [byteCells, byt_toNat]
set_option maxHeartbeats 1000000 in
theorem fresh_any (w : World) (ao : Option Addr) (len cap : Nat) (cs : Nat → Nat) (salt : Nat) (hl : len ≤ 1048576) (hsalt : salt ≤ 255) (h : CodeIs w w.heap.size ao len cs) :
    Calls Try.prog 21 #[.slice ao len cap, .int .i64 (salt : Int)] w fun e w' => ∃ v, e = .returned v ∧ Buf w' w.heap.size v (frL cs salt (min len 600)) ∧ Below w.heap.size w w' := by
  have q : (len : Int) ≤ 1048576 := by omega
  have q2 : (salt : Int) ≤ 255 := by omega
  have HC : Hid (CodeIs w w.heap.size ao len cs) := h
  have hcs := byte_cell (salt : Int) salt (by omega)
  have HB0 : Hid (Buf (w.alloc (.cells #[.int .u8 (salt : Int)] 5)) w.heap.size (.slice (some ⟨w.heap.size, 0, none⟩) 1 1) (frL cs salt 0)) := by
    unfold Hid Buf
    rw [hcs]
    exact World.ownsRow_lit w (byteCells [byt salt]) 1 (Nat.le_refl _) (by unfold maxLen; omega) rfl
  clear h hcs
  go_enter Try.func21, Try.ntmps21
  go_wp2
  go_loopw [5, 6] (fun v5 v6 wr => ∃ k : Nat, k ≤ len ∧ k ≤ 600 ∧ v6 = .int .i64 k ∧ Buf wr w.heap.size v5 (frL cs salt k) ∧ Below w.heap.size w wr) (fun _ i _ => 600 - (intOf i).toNat)
  case atStart => exact ⟨0, by omega, by omega, rfl, HB0.out, (Below.refl _ _).alloc (Nat.le_refl _) _⟩
  case round =>
    obtain ⟨k, hk, hk6, rfl, hbuf, hb⟩ := hrel
    have hsz := hb.size
    have HB : Hid (Below w.heap.size w wr) := hb
    have HL : Hid ((frL cs salt k).length = k + 1) := frL_length cs salt k
    clear hb
    by_cases hlt : (k : Int) < (len : Int)
    · by_cases h6 : (k : Int) < 600
      · obtain ⟨cb, co, rfl, hcb, hx, hcell⟩ := HC.out.at (show k < len by omega)
        have hc1 : wr.cell? ⟨cb, co + k, none⟩ = some (.int .u8 (cs k : Int)) := by
          rw [← hcell]
          exact World.cell?_of_block (w := w) (HB.out.block cb hcb)
        have p0 : (0 : Int) ≤ (salt : Int) * ((k : Int) % 7 + 1) := Int.mul_nonneg (by omega) (by omega)
        have p1 : (salt : Int) * ((k : Int) % 7 + 1) ≤ 1785 := by
          have h1 : (salt : Int) * ((k : Int) % 7 + 1) ≤ (salt : Int) * 7 := Int.mul_le_mul_of_nonneg_left (by omega) (by omega)
          omega
        have p2 : (((cs k * 3 + salt * (k % 7 + 1)) % 256 : Nat) : Int) = ((cs k : Int) * 3 + (salt : Int) * ((k : Int) % 7 + 1)) % 256 := fr_cast _ _ _
        have HX : Hid (#[Value.int .u8 (((cs k : Int) * 3 + (salt : Int) * ((k : Int) % 7 + 1)) % 256)] = byteCells [byt (cs k * 3 + salt * (k % 7 + 1))]) := byte_cell _ _ p2.symm
        have w1 : IntKind.i64.wrap (cs k : Int) = (cs k : Int) := by rw [IntKind.wrap_i64]; omega
        clear p2 hcell
        go_wp2_with (at_builtin; refine wpList_append_bytes rfl (.tmp 20) (.tmp 34) 35 rfl Try.underlying35 Try.info5 w.heap.size _ (frL cs salt k) rfl hbuf _ [byt (cs k * 3 + salt * (k % 7 + 1))] HX.out 1 1 rfl rfl (by rw [HL.out]; simp; omega) hsz ?_; intro v' w2 hbuf2 hb2)
        go_roundw
        case rel => exact ⟨k + 1, by omega, by omega, by go_num, by rw [frL_succ]; exact hbuf2, HB.out.trans hb2⟩
        case measure => simp [intOf]; omega
      · have z : decide ((k : Int) < 600) = false := by simp; omega
        have HK : Hid (min len 600 = k) := by unfold Hid; omega
        go_wp2
        go_ret
        exact ⟨_, rfl, by rw [HK.out]; exact hbuf, HB.out⟩
    · have z : (len : Int) ≤ (k : Int) := by omega
      have HK : Hid (min len 600 = k) := by unfold Hid; omega
      go_wp2
      go_ret
      exact ⟨_, rfl, by rw [HK.out]; exact hbuf, HB.out⟩
end Go.Proofs.Ytlekgbfopionfaa
