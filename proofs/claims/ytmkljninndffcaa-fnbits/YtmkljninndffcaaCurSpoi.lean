/-
  Contracts of spec.l1Spoil: the spoilt text, as a function of the text, of the code's bytes and of where the cursor stands.
-/
import Derived.Test.YtmkljninndffcaaRows
import Derived.Test.YtmkljninndffcaaCurTy
import Derived.Deep.RegionHeld3
namespace Go.Proofs.Ytmkljninndffcaa
open Go.ChangeShapes Go.WideShapes Go.ChangeAt Go.RowKit Go.PlainAid
set_option linter.unusedVariables false

theorem run_byte_cell {P : Program} (w : World) (src dst e : TypeId) (hs : P.underlying src = some (.slice e)) (he : P.underlying e = some (.int .u8)) (hd : P.underlying dst = some .string) (z : Int) (h0 : 0 ≤ z) (h1 : z ≤ 255) (cap : Nat) :
    (convert src dst (.slice (some ⟨w.heap.size, 0, none⟩) 1 cap)).run P (w.alloc (.cells #[.int .u8 z] e)) = .ok (.string (txt [byt z.toNat])) (w.alloc (.cells #[.int .u8 z] e)) := by
  have := run_one_byte (P := P) w src dst e hs he hd z.toNat cap
  rw [Nat.mod_eq_of_lt (show z.toNat < 256 by omega), show ((z.toNat : Nat) : Int) = z by omega] at this
  exact this
theorem extract_size (s : ByteArray) (a b : Nat) (h : a ≤ b) (hb : b ≤ s.size) : (s.extract a b).size = b - a := by
  rw [ByteArray.size_extract]
  omega

/-- What l1Spoil makes of a text that has a byte: the place, the way, the text. -/
def spK (len : Nat) (cs : Nat → Nat) (t : ByteArray) (s : Pos) : Nat := (belowV len cs (t.size : Int) s).toNat
def sp1 (len : Nat) (t : ByteArray) (s : Pos) : Pos := belowP len (t.size : Int) s
def spM (len : Nat) (cs : Nat → Nat) (t : ByteArray) (s : Pos) : Int := belowV len cs 4 (sp1 len t s)
def sp2 (len : Nat) (t : ByteArray) (s : Pos) : Pos := belowP len 4 (sp1 len t s)
def spT (len : Nat) (cs : Nat → Nat) (t : ByteArray) (s : Pos) : ByteArray :=
  if spM len cs t s = 0 then t.extract 0 (spK len cs t s) ++ t.extract (spK len cs t s + 1) t.size
  else if spM len cs t s = 1 then t.extract 0 (spK len cs t s) ++ txt [byt (byteV len cs (sp2 len t s)).toNat] ++ t.extract (spK len cs t s) t.size
  else if spM len cs t s = 2 then t.extract 0 (spK len cs t s)
  else t.extract 0 (spK len cs t s) ++ txt [byt (bits .xor .i64 (bn t (spK len cs t s) : Int) (1 + belowV len cs 255 (sp2 len t s)) % 256).toNat] ++ t.extract (spK len cs t s + 1) t.size
def spP (len : Nat) (cs : Nat → Nat) (t : ByteArray) (s : Pos) : Pos :=
  if spM len cs t s = 0 then sp2 len t s else if spM len cs t s = 1 then byteP len (sp2 len t s) else if spM len cs t s = 2 then sp2 len t s else belowP len 255 (sp2 len t s)
theorem spK_lt (len : Nat) (cs : Nat → Nat) (t : ByteArray) (s : Pos) (h : 1 ≤ t.size) : spK len cs t s < t.size := by
  have hb := belowV_bd len cs (t.size : Int) s
  have := hb.2 (by omega)
  unfold spK
  omega
theorem spT_size (len : Nat) (cs : Nat → Nat) (t : ByteArray) (s : Pos) (h : 1 ≤ t.size) : (spT len cs t s).size ≤ t.size + 1 := by
  have hk := spK_lt len cs t s h
  unfold spT
  split
  · rw [ByteArray.size_append, extract_size _ _ _ (by omega) (by omega), extract_size _ _ _ (by omega) (by omega)]
    omega
  · split
    · rw [ByteArray.size_append, ByteArray.size_append, extract_size _ _ _ (by omega) (by omega), extract_size _ _ _ (by omega) (by omega), txt_size]
      simp
      omega
    · split
      · rw [extract_size _ _ _ (by omega) (by omega)]
        omega
      · rw [ByteArray.size_append, ByteArray.size_append, extract_size _ _ _ (by omega) (by omega), extract_size _ _ _ (by omega) (by omega), txt_size]
        simp
        omega

set_option maxHeartbeats 2000000 in
theorem spoil_some (w : World) (p : Nat) (ao : Option Addr) (len cap : Nat) (cs : Nat → Nat) (s : Pos) (t : ByteArray) (ht1 : 1 ≤ t.size) (ht2 : t.size ≤ 1000) (h : At w p ao len cap cs s) :
    Calls Try.prog 53 #[.pointer (some ⟨p, 0, none⟩), .string t] w fun e w' => e = .returned (.string (spT len cs t s)) ∧ At w' p ao len cap cs (spP len cs t s) ∧ Mod w.heap.size p w w' := by
  have HA : Hid (At w p ao len cap cs s) := h
  clear h
  have hbt := get_bn t
  have q1 : (t.size : Int) ≤ 1000 := by omega
  have q0 : (1 : Int) ≤ (t.size : Int) := by omega
  have z0 : ((t.size : Int) == 0) = false := beq_eq_false_iff_ne.2 (by omega)
  have hb := belowV_bd len cs (t.size : Int) s
  have hkk := spK_lt len cs t s ht1
  go_enter Try.func53, Try.ntmps53
  go_wp2_with fail
  refine (below_any _ p ao len cap cs s (t.size : Int) (by omega) HA.out).mono ?_
  rintro e w1 ⟨rfl, hA1, hm1⟩
  have ek : belowV len cs (t.size : Int) s = ((spK len cs t s : Nat) : Int) := by unfold spK; have := hb.1; omega
  rw [ek]
  clear ek hb
  go_wp2_with fail
  refine (below_any _ p ao len cap cs _ 4 (by omega) hA1).mono ?_
  rintro e w2 ⟨rfl, hA2, hm2⟩
  have hM2 : Mod w.heap.size p w w2 := hm1.trans (hm2.mono hm1.size)
  clear hm1 hm2 hA1
  have hA2' : At w2 p ao len cap cs (sp2 len t s) := hA2
  clear hA2
  have eM : belowV len cs 4 (belowP len (t.size : Int) s) = spM len cs t s := rfl
  rw [eM]
  clear eM
  generalize hK : spK len cs t s = k at *
  have HK : Hid (spK len cs t s = k) := hK
  clear hK
  have e1 := extract_size t 0 k (by omega) (by omega)
  have e2 := extract_size t (k + 1) t.size (by omega) (by omega)
  have e3 := extract_size t k t.size (by omega) (by omega)
  have s1 : ¬ (9223372036854775807 < (t.extract 0 k).size + (t.extract (k + 1) t.size).size) := by rw [e1, e2]; omega
  have r1 : (k : Int) < (t.size : Int) := by omega
  have HA2 : Hid (At w2 p ao len cap cs (sp2 len t s)) := hA2'
  clear hA2'
  clear e1 e2 e3
  by_cases c0 : spM len cs t s = 0
  · have y0 : (spM len cs t s == 0) = true := by rw [c0]; rfl
    have HT : Hid (spT len cs t s = t.extract 0 k ++ t.extract (k + 1) t.size) := by show spT len cs t s = _; rw [spT, if_pos c0, HK.out]
    have HP : Hid (spP len cs t s = sp2 len t s) := by show spP len cs t s = _; rw [spP, if_pos c0]
    clear c0
    go_wp2_with fail
    go_quiet (fail)
    go_wp2_with fail
    go_ret
    rw [HT.out, HP.out]
    exact ⟨rfl, HA2.out.below (below_drewN (Below.refl (p + 1) _) _) (by omega), hM2.drewN _⟩
  · have y0 : (spM len cs t s == 0) = false := beq_eq_false_iff_ne.2 c0
    by_cases c1 : spM len cs t s = 1
    · have y1 : (spM len cs t s == 1) = true := by rw [c1]; rfl
      have HT : Hid (spT len cs t s = t.extract 0 k ++ txt [byt (byteV len cs (sp2 len t s)).toNat] ++ t.extract k t.size) := by show spT len cs t s = _; rw [spT, if_neg c0, if_pos c1, HK.out]
      have HP : Hid (spP len cs t s = byteP len (sp2 len t s)) := by show spP len cs t s = _; rw [spP, if_neg c0, if_pos c1]
      clear c0 c1
      obtain ⟨X, hX⟩ : ∃ X, byteV len cs (sp2 len t s) = X := ⟨_, rfl⟩
      have hxb := byteV_bd len cs (sp2 len t s)
      rw [hX] at hxb
      have HX : Hid (byteV len cs (sp2 len t s) = X) := hX
      clear hX
      obtain ⟨x1, x2⟩ := hxb
      have hcv := fun wx => run_byte_cell (P := Try.prog) wx 22 9 5 Try.underlying22 Try.underlying5 Try.underlying9 X x1 x2 1
      have ew : IntKind.u8.wrap X = X := by rw [IntKind.wrap_u8']; omega
      have eb : (txt [byt X.toNat]).size ≤ 1 := Nat.le_refl _
      go_wp2_with fail
      have r2 : (k : Int) ≤ (t.size : Int) := by omega
      have r3 : (0 : Int) ≤ (k : Int) := by omega
      go_region_with (go_at_call 60; refine (byte_any _ p ao len cap cs _ (by exact HA2.out)).mono ?_; rintro e w3 ⟨rfl, hA3, hm3⟩; rw [HX.out])
      all_goals
        go_wp2_with fail
        go_ret
        rw [HT.out, HP.out, HX.out]
        have hal : Below w3.heap.size w3 (w3.alloc (.cells #[.int .u8 X] 5)) := (Below.refl _ _).alloc (Nat.le_refl _) _
        have hM3 : Mod w.heap.size p w w3 := hM2.drew.trans (hm3.mono hM2.size)
        exact ⟨rfl, hA3.below hal hA3.lt, hM3.trans (Mod.of_below (hal.mono hM3.size))⟩
    · have y1 : (spM len cs t s == 1) = false := beq_eq_false_iff_ne.2 c1
      by_cases c2 : spM len cs t s = 2
      · have y2 : (spM len cs t s == 2) = true := by rw [c2]; rfl
        have HT : Hid (spT len cs t s = t.extract 0 k) := by show spT len cs t s = _; rw [spT, if_neg c0, if_neg c1, if_pos c2, HK.out]
        have HP : Hid (spP len cs t s = sp2 len t s) := by show spP len cs t s = _; rw [spP, if_neg c0, if_neg c1, if_pos c2]
        clear c0 c1 c2
        have r2 : (k : Int) ≤ (t.size : Int) := by omega
        go_wp2_with fail
        go_ret
        rw [HT.out, HP.out]
        exact ⟨rfl, HA2.out, hM2⟩
      · have y2 : (spM len cs t s == 2) = false := beq_eq_false_iff_ne.2 c2
        have HT : Hid (spT len cs t s = t.extract 0 k ++ txt [byt (bits .xor .i64 (bn t k : Int) (1 + belowV len cs 255 (sp2 len t s)) % 256).toNat] ++ t.extract (k + 1) t.size) := by show spT len cs t s = _; rw [spT, if_neg c0, if_neg c1, if_neg c2, HK.out]
        have HP : Hid (spP len cs t s = belowP len 255 (sp2 len t s)) := by show spP len cs t s = _; rw [spP, if_neg c0, if_neg c1, if_neg c2]
        clear c0 c1 c2
        obtain ⟨X, hX⟩ : ∃ X, belowV len cs 255 (sp2 len t s) = X := ⟨_, rfl⟩
        have hxb := belowV_bd len cs 255 (sp2 len t s)
        rw [hX] at hxb
        have HX : Hid (belowV len cs 255 (sp2 len t s) = X) := hX
        clear hX
        have x1 := hxb.1
        have x2 := hxb.2 (by omega)
        clear hxb
        obtain ⟨Z, hZ⟩ : ∃ Z, bits .xor .i64 (bn t k : Int) (1 + X) % 256 = Z := ⟨_, rfl⟩
        have z1 : 0 ≤ Z := by rw [← hZ]; exact Int.emod_nonneg _ (by omega)
        have z2 : Z ≤ 255 := by have := Int.emod_lt_of_pos (bits .xor .i64 (bn t k : Int) (1 + X)) (show (0 : Int) < 256 by omega); omega
        have HZ : Hid (bits .xor .i64 (bn t k : Int) (1 + X) % 256 = Z) := hZ
        have wz : IntKind.u8.wrap (bits .xor .i64 (bn t k : Int) (1 + X)) = Z := by rw [IntKind.wrap_u8']; exact hZ
        have hcv := fun wx => run_byte_cell (P := Try.prog) wx 22 9 5 Try.underlying22 Try.underlying5 Try.underlying9 Z z1 z2 1
        have eb : (txt [byt Z.toNat]).size ≤ 1 := Nat.le_refl _
        have hbk := bn_lt t k
        have f1 : IntKind.i64.wrap (bn t k : Int) = (bn t k : Int) := Lib.wrap_i64_small _ (by omega)
        have f2 : IntKind.i64.wrap (1 + X) = 1 + X := by
          obtain ⟨n, rfl⟩ := Int.eq_ofNat_of_zero_le x1
          rw [show (1 + (n : Int)) = ((1 + n : Nat) : Int) by omega]
          exact Lib.wrap_i64_small _ (by omega)
        have f3 : IntKind.i64.wrap ((k : Int) + 1) = (k : Int) + 1 := by
          rw [show ((k : Int) + 1) = ((k + 1 : Nat) : Int) by omega]
          exact Lib.wrap_i64_small _ (by omega)
        have r2 : (k : Int) ≤ (t.size : Int) := by omega
        have r3 : (0 : Int) ≤ (k : Int) := by omega
        have r4 : (k : Int) + 1 ≤ (t.size : Int) := by omega
        go_wp2_with fail
        go_region_with (go_at_call 55; refine (below_any _ p ao len cap cs _ 255 (by omega) (by exact HA2.out)).mono ?_; rintro e w3 ⟨rfl, hA3, hm3⟩; rw [HX.out])
        all_goals
          go_wp2_with fail
          go_ret
          rw [HT.out, HP.out, HX.out, HZ.out]
          have hal : Below w3.heap.size w3 (w3.alloc (.cells #[.int .u8 Z] 5)) := (Below.refl _ _).alloc (Nat.le_refl _) _
          have hM3 : Mod w.heap.size p w w3 := hM2.drew.trans (hm3.mono hM2.size)
          exact ⟨rfl, hA3.below hal hA3.lt, hM3.trans (Mod.of_below (hal.mono hM3.size))⟩

/-- What l1Spoil makes of a text. -/
def spoilV (len : Nat) (cs : Nat → Nat) (t : ByteArray) (s : Pos) : ByteArray := if t.size = 0 then txt (textV len cs 3 s) else spT len cs t s
theorem spoilV_size (len : Nat) (cs : Nat → Nat) (t : ByteArray) (s : Pos) : (spoilV len cs t s).size ≤ t.size + 3 := by
  unfold spoilV
  split
  · rw [txt_size]
    have := textV_length len cs 3 s (by omega)
    omega
  · have := spT_size len cs t s (by omega)
    omega
set_option maxHeartbeats 400000 in
theorem spoil_any (w : World) (p : Nat) (ao : Option Addr) (len cap : Nat) (cs : Nat → Nat) (s : Pos) (t : ByteArray) (ht2 : t.size ≤ 1000) (hB : w.heap.size ≤ w.heap.size) (h : At w p ao len cap cs s) :
    Calls Try.prog 53 #[.pointer (some ⟨p, 0, none⟩), .string t] w fun e w' => e = .returned (.string (spoilV len cs t s)) ∧ Mod w.heap.size p w w' := by
  by_cases h0 : t.size = 0
  · have HV : Hid (spoilV len cs t s = txt (textV len cs 3 s)) := by show spoilV len cs t s = _; rw [spoilV, if_pos h0]
    have HA : Hid (At w p ao len cap cs s) := h
    clear h
    have z0 : ((t.size : Int) == 0) = true := beq_iff_eq.2 (by omega)
    clear h0
    go_enter Try.func53, Try.ntmps53
    go_wp2_with fail
    refine (text_any _ p ao len cap cs s 3 (by omega) (by omega) HA.out).mono ?_
    rintro e w1 ⟨rfl, hA1, hm1⟩
    go_wp2_with fail
    go_ret
    rw [HV.out]
    exact ⟨rfl, hm1⟩
  · refine (spoil_some w p ao len cap cs s t (by omega) ht2 h).mono ?_
    rintro e w' ⟨he, _, hm⟩
    exact ⟨by rw [he, spoilV, if_neg h0], hm⟩
end Go.Proofs.Ytmkljninndffcaa
