/- BtVar NumV NumR NmAid NmLaw BtZig BtAid BtRd BtRow BtDef BtMath BkMath -/
import Derived.Test.YthhamlahdjokkaaGreatDoorQe1
import Derived.WalkSpells
import Derived.Deep.RegionLaw
import Derived.Deep.DrawnRows
import Derived.Lib.OwnKind
import Derived.Shelf.Strings.BuilderK
open List (setIfInBounds_toArray set_cons_zero set_cons_succ)
namespace Go.Proofs.YthhamlahdjokkaaGreatDoor
open Go.RowKit Go.PlainAid
theorem vvS_var (f n : Nat) (pre tl : List UInt8) (hn : n < 128 ^ (f + 1)) : vvS (txt (pre ++ vF f n ++ tl)) pre.length (vF f n).length = n := by
 induction f generalizing n pre with
 | zero =>
  simp at hn
  have e : (vF 0 n).length = 1 := rfl
  rw [e]
  have hb : bn (txt (pre ++ vF 0 n ++ tl)) pre.length = n := by
   rw [bn_txt _ _ (by simp [vF])]
   simp [vF,byt_toNat]
   omega
  simp only [vvS,hb]
  omega
 | succ f ih =>
  by_cases h : n < 128
  ·rw [vF_small _ n h]
   have hb : bn (txt (pre ++ [byt n] ++ tl)) pre.length = n := by
    rw [bn_txt _ _ (by simp)]
    simp [byt_toNat]
    omega
   simp only [List.length_cons,List.length_nil,vvS,hb]
   omega
  ·have e : vF (f + 1) n = byt (128 + n % 128) :: vF f (n / 128) := by rw [vF,if_neg h]
   have hd : n / 128 < 128 ^ (f + 1) := by
    rw [Nat.pow_succ] at hn
    exact Nat.div_lt_of_lt_mul (by rw [Nat.mul_comm]; exact hn)
   rw [e]
   have hb : bn (txt (pre ++ (byt (128 + n % 128) :: vF f (n / 128)) ++ tl)) pre.length = 128 + n % 128 := by
    rw [bn_txt _ _ (by simp)]
    simp [byt_toNat]
    omega
   have hi := ih (n / 128) (pre ++ [byt (128 + n % 128)]) hd
   have e2 : pre ++ [byt (128 + n % 128)] ++ vF f (n / 128) ++ tl = pre ++ (byt (128 + n % 128) :: vF f (n / 128)) ++ tl := by simp
   rw [e2] at hi
   simp only [List.length_cons,vvS,hb]
   simp only [List.length_append,List.length_cons,List.length_nil] at hi
   rw [Nat.zero_add] at hi
   rw [hi]
   omega
theorem sg_txt (l tl : List UInt8) : sg (txt (l ++ tl)) 0 l.length = l := by
 have h := sg_extract (txt (l ++ tl)) l.length (by rw [txt_size]; simp)
 have e : (txt (l ++ tl)).extract 0 l.length = txt l := by
  apply ByteArray.ext
  apply Array.toList_inj.1
  rw [Lib.extract_data]
  simp [txt]
 rw [e] at h
 exact (txt_inj _ _ h).symm
theorem vF_pos (f n : Nat) : 1 ≤ (vF f n).length := by
 cases f with
 | zero => simp [vF]
 | succ f => rw [vF]; split <;> simp
theorem find_var (n : Nat) (tl : List UInt8) (hn : n ≤ 562949953421311) : FindV (txt (vF 6 n ++ tl)) (vF 6 n).length ∧ vvS (txt (vF 6 n ++ tl)) 0 (vF 6 n).length = n := by
 have hp := vF_pos 6 n
 have hl := vF_length 6 n
 have hv := vvS_var 6 n [] tl (by omega)
 simp only [List.nil_append,List.length_nil] at hv
 refine ⟨⟨hp,hl,by rw [txt_size]; simp,?_⟩,hv⟩
 obtain ⟨d,hd⟩ : ∃ d,(vF 6 n).length = d + 1 := ⟨(vF 6 n).length - 1,by omega⟩
 have hs := sg_txt (vF 6 n) tl
 rw [hd] at hs hv ⊢
 rw [← canonS_iff _ d 0 6 (by omega),hv,hs]
open Go.ChangeShapes Go.WideShapes Go.ChangeAt
set_option linter.unusedVariables false
set_option maxHeartbeats 400000 in
theorem spec_var (n : Nat) (w : World) (h1 : n ≤ 562949953421311) :
  Calls Tryz.prog 35 #[.int .i64 (n : Int)] w fun e w' => e = .returned (.string (txt (vF 6 n))) ∧ Below w.heap.size w w' := by
 have q1 : (n : Int) ≤ 562949953421311 := by omega
 go_enter Tryz.func35,Tryz.ntmps35
 go_wp2_with (go_at_call 20; refine (in_yes _ _ _ _ (by omega) (by omega)).mono ?_; rintro e w' ⟨rfl,rfl⟩)
 go_loopw [0,3] (fun v0 v3 wr => ∃ m f : Nat,∃ pre : List UInt8,v0 = .int .i64 m ∧ m ≤ 562949953421311 ∧ m < 128 ^ (f + 1) ∧ pre ++ vF f m = vF 6 n ∧ Buf wr w.heap.size v3 pre ∧ Below w.heap.size w wr) (fun i _ _ => (intOf i).toNat)
 case atStart => exact ⟨n,6,[],rfl,h1,by omega,rfl,Buf.made w w.heap.size 0 #[] (Nat.le_refl _) (by simp [maxLen]) rfl,(Below.refl _ _).alloc (Nat.le_refl _) _⟩
 case round =>
  obtain ⟨m,f,pre,rfl,hm1,hm2,hpre,hbuf,hb⟩ := hrel
  have HP : Hid (pre ++ vF f m = vF 6 n) := hpre
  clear hpre
  have HM : Hid (m < 128 ^ (f + 1)) := hm2
  clear hm2
  have hlp : pre.length ≤ 7 := by
   have := congrArg List.length HP.out
   have := vF_length 6 n
   simp at *
   omega
  have hsz := hb.size
  by_cases hlt : (128 : Int) ≤ (m : Int)
  ·have hcs := one_cell (128 + (m : Int) % 128) (128 + m % 128) (by omega) (by omega)
   have HC : Hid (#[Value.int .u8 (128 + (m : Int) % 128)] = byteCells [byt (128 + m % 128)]) := hcs
   clear hcs
   go_wp2_with (at_builtin; refine wpList_append_bytes rfl (.tmp 10) (.tmp 15) 68 rfl Tryz.underlying68 Tryz.info5 w.heap.size _ pre rfl hbuf _ [byt (128 + m % 128)] HC.out 1 1 rfl rfl (by simp; omega) hsz ?_; intro v' w1 hbuf1 hb1)
   obtain ⟨g,hg1,hg2,_⟩ := vF_round f m pre HM.out (by omega)
   go_roundw
   case rel => exact ⟨m / 128,g,pre ++ [byt (128 + m % 128)],by go_num,by omega,hg1,hg2.trans HP.out,hbuf1,hb.trans hb1⟩
   case measure => simp [intOf]; omega
  ·have hcs := one_cell (m : Int) m rfl (by omega)
   have HC : Hid (#[Value.int .u8 (m : Int)] = byteCells [byt m]) := hcs
   clear hcs
   go_wp2_with (at_builtin; refine wpList_append_bytes rfl (.tmp 19) (.tmp 22) 68 rfl Tryz.underlying68 Tryz.info5 w.heap.size _ pre rfl hbuf _ [byt m] HC.out 1 1 rfl rfl (by simp; omega) hsz ?_; intro v' w1 hbuf1 hb1; have hcv := hbuf1.string (P := Tryz.prog) 68 9 Tryz.underlying68 Tryz.underlying5 Tryz.underlying9)
   go_ret
   exact ⟨by rw [← HP.out,vF_small f m (by omega)]; rfl,hb.trans hb1⟩
set_option maxHeartbeats 400000 in
theorem impl_var (n : Nat) (w : World) (h1 : n ≤ 562949953421311) :
  Calls Tryz.prog 41 #[.int .i64 (n : Int)] w fun e w' => e = .returned (.string (txt (vF 6 n))) ∧ Below w.heap.size w w' := by
 have q1 : (n : Int) ≤ 562949953421311 := by omega
 have q0 : (0 : Int) ≤ (n : Int) := by omega
 have hmk : ∀ w : World,(Instr.makeSlice 68 (.int .i64 0) (.int .i64 7)).run Tryz.prog w = .ok (.slice (some ⟨w.heap.size,0,none⟩) 0 7) (w.alloc (.cells #[.int .u8 0,.int .u8 0,.int .u8 0,.int .u8 0,.int .u8 0,.int .u8 0,.int .u8 0] 5)) := fun _ => by kernel_rfl
 go_enter Tryz.func41,Tryz.ntmps41
 go_wp2
 go_loopw [0,3] (fun v0 v3 wr => ∃ m f : Nat,∃ pre : List UInt8,v0 = .int .i64 m ∧ m ≤ 562949953421311 ∧ m < 128 ^ (f + 1) ∧ pre ++ vF f m = vF 6 n ∧ Buf wr w.heap.size v3 pre ∧ Below w.heap.size w wr) (fun i _ _ => (intOf i).toNat)
 case atStart => exact ⟨n,6,[],rfl,h1,by omega,rfl,Buf.made w w.heap.size 7 _ (Nat.le_refl _) (by simp [maxLen]) rfl,(Below.refl _ _).alloc (Nat.le_refl _) _⟩
 case round =>
  obtain ⟨m,f,pre,rfl,hm1,hm2,hpre,hbuf,hb⟩ := hrel
  have HP : Hid (pre ++ vF f m = vF 6 n) := hpre
  clear hpre
  have HM : Hid (m < 128 ^ (f + 1)) := hm2
  clear hm2
  have hlp : pre.length ≤ 7 := by
   have := congrArg List.length HP.out
   have := vF_length 6 n
   simp at *
   omega
  have hsz := hb.size
  by_cases hlt : (128 : Int) ≤ (m : Int)
  ·have hcs := one_cell ((m : Int) % 128 + 128) (128 + m % 128) (by omega) (by omega)
   have HC : Hid (#[Value.int .u8 ((m : Int) % 128 + 128)] = byteCells [byt (128 + m % 128)]) := hcs
   clear hcs
   go_wp2_with (at_builtin; refine wpList_append_bytes rfl (.tmp 13) (.tmp 18) 68 rfl Tryz.underlying68 Tryz.info5 w.heap.size _ pre rfl hbuf _ [byt (128 + m % 128)] HC.out 1 1 rfl rfl (by simp; omega) hsz ?_; intro v' w1 hbuf1 hb1)
   obtain ⟨g,hg1,hg2,_⟩ := vF_round f m pre HM.out (by omega)
   go_roundw
   case rel => exact ⟨m / 128,g,pre ++ [byt (128 + m % 128)],by go_num,by omega,hg1,hg2.trans HP.out,hbuf1,hb.trans hb1⟩
   case measure => simp [intOf]; omega
  ·have hcs := one_cell (m : Int) m rfl (by omega)
   have HC : Hid (#[Value.int .u8 (m : Int)] = byteCells [byt m]) := hcs
   clear hcs
   go_wp2_with (at_builtin; refine wpList_append_bytes rfl (.tmp 22) (.tmp 25) 68 rfl Tryz.underlying68 Tryz.info5 w.heap.size _ pre rfl hbuf _ [byt m] HC.out 1 1 rfl rfl (by simp; omega) hsz ?_; intro v' w1 hbuf1 hb1; have hcv := hbuf1.string (P := Tryz.prog) 68 9 Tryz.underlying68 Tryz.underlying5 Tryz.underlying9)
   go_ret
   exact ⟨by rw [← HP.out,vF_small f m (by omega)]; rfl,hb.trans hb1⟩
def ReadV (s : ByteArray) (e : Ending) : Prop :=
 (∃ k : Nat,FindV s k ∧ e = .returned (.tuple #[.int .i64 (vvS s 0 k : Int),.int .i64 (k : Int)])) ∨ ((∀ k,¬ FindV s k) ∧ e = .returned (.tuple #[.int .i64 0,.int .i64 0]))
theorem vvS_or (s : ByteArray) (k : Nat) (h : k < 7) : bits .or .i64 (vvS s 0 k : Int) (wrap64 ((bn s k : Int) % 128 * 2 ^ (7 * k))) = (vvS s 0 (k + 1) : Int) := by
 have h1 := vvS_lt s k 0
 have h2 := vvS_le s (k + 1) (by omega) 0
 have e := vvS_snoc s k 0
 rw [Nat.zero_add] at e
 have e2 : (128 : Nat) ^ k = 2 ^ (7 * k) := by rw [Nat.pow_mul]
 have c : (bn s k : Int) % 128 * 2 ^ (7 * k) = ((bn s k % 128 * 2 ^ (7 * k) : Nat) : Int) := by norm_cast
 rw [e2] at e h1
 rw [c,IntWalk.wrap64_in _ ⟨by omega,by omega⟩]
 have j := or_join (7 * k) (bn s k % 128 * 2 ^ (7 * k)) (vvS s 0 k) (Nat.mul_mod_left _ _) h1 (by omega)
 have comm : bits .or .i64 (vvS s 0 k : Int) ((bn s k % 128 * 2 ^ (7 * k) : Nat) : Int) = bits .or .i64 ((bn s k % 128 * 2 ^ (7 * k) : Nat) : Int) (vvS s 0 k : Int) := by
  show IntKind.i64.wrap ((BitVec.ofInt 64 _ ||| BitVec.ofInt 64 _).toNat : Int) = IntKind.i64.wrap ((BitVec.ofInt 64 _ ||| BitVec.ofInt 64 _).toNat : Int)
  rw [BitVec.or_comm]
 rw [comm,j,e,Nat.add_comm]
theorem find_stop (s : ByteArray) (k : Nat) (hk : k < 7) (hs : k < s.size) (hj : ∀ j,j < k → 128 ≤ bn s j) (hc : bn s k < 128) (hz : k = 0 ∨ bn s k ≠ 0) : FindV s (k + 1) :=
 ⟨by omega,by omega,by omega,(canonS_char s k 0).2 ⟨by intro j h; rw [Nat.zero_add]; exact hj j h,by rw [Nat.zero_add]; exact hc,by rw [Nat.zero_add]; exact hz⟩⟩
theorem find_zero (s : ByteArray) (k : Nat) (hj : ∀ j,j < k → 128 ≤ bn s j) (hc : bn s k = 0) (hk : 0 < k) : ∀ m,¬ FindV s m := by
 rintro m ⟨h1,h2,h3,h4⟩
 obtain ⟨d,rfl⟩ : ∃ d,m = d + 1 := ⟨m - 1,by omega⟩
 obtain ⟨c1,c2,c3⟩ := (canonS_char s d 0).1 h4
 rw [Nat.zero_add] at c2 c3
 rcases Nat.lt_trichotomy d k with h | h | h
 ·have := hj d h; omega
 ·subst h; omega
 ·have := c1 k h; rw [Nat.zero_add] at this; omega
theorem find_end (s : ByteArray) (L : Nat) (hj : ∀ j,j < L → 128 ≤ bn s j) (hL : 7 ≤ L ∨ s.size ≤ L) : ∀ m,¬ FindV s m := by
 rintro m ⟨h1,h2,h3,h4⟩
 obtain ⟨d,rfl⟩ : ∃ d,m = d + 1 := ⟨m - 1,by omega⟩
 obtain ⟨c1,c2,c3⟩ := (canonS_char s d 0).1 h4
 rw [Nat.zero_add] at c2
 have := hj d (by omega)
 omega
theorem ret_ints {a b c d : Int} (h : a = b) (h' : c = d) : Ending.returned (.tuple #[.int .i64 a,.int .i64 c]) = .returned (.tuple #[.int .i64 b,.int .i64 d]) := by rw [h,h']
set_option maxHeartbeats 1000000 in
theorem impl_readVar_long (s : ByteArray) (w : World) (hs : s.size ≤ 1048576) (h7 : (7 : Int) < (s.size : Int)) :
  Calls Tryz.prog 166 #[.string s] w fun e w' => ReadV s e ∧ w = w' := by
 have q1 : (s.size : Int) ≤ 1048576 := by omega
 have hbt := get_bn s
 go_enter Tryz.func166,Tryz.ntmps166
 go_wp2
 go_loop [4,10] (fun v4 v10 => ∃ k : Nat,k ≤ 7 ∧ v10 = .int .i64 k ∧ v4 = .int .i64 (vvS s 0 k) ∧ Hid (∀ j,j < k → 128 ≤ bn s j)) (fun _ i => 7 - (intOf i).toNat)
 case atStart => exact ⟨0,by omega,rfl,rfl,fun j hj => absurd hj (by omega)⟩
 case round =>
  obtain ⟨k,hk,rfl,rfl,HJ⟩ := hrel
  by_cases hlt : k < 7
  ·have r1 := bn_lt s k
   have HO : Hid (bits .or .i64 (vvS s 0 k : Int) (wrap64 ((bn s k : Int) % 128 * 2 ^ (7 * k))) = (vvS s 0 (k + 1) : Int)) := vvS_or s k (by omega)
   by_cases hc : (128 : Int) ≤ (bn s k : Int)
   ·go_wp2
    go_round
    case rel =>
     refine ⟨k + 1,by omega,by go_num,by rw [HO.out],?_⟩
     intro j hj
     by_cases e : j = k
     ·subst e; omega
     ·exact HJ.out j (by omega)
    case measure => simp [intOf]; omega
   ·by_cases hz : bn s k = 0
    ·by_cases hk0 : k = 0
     ·have HF : Hid (FindV s (k + 1)) := find_stop s k (by omega) (by omega) HJ.out (by omega) (.inl hk0)
      have z1 : ((bn s k : Int) == 0) = true := by simp; omega
      have z2 : (k : Int) ≤ 0 := by omega
      clear hk0 hz
      go_wp2
      go_ret2
      exact ⟨.inl ⟨k + 1,HF.out,ret_ints HO.out (by omega)⟩,rfl⟩
     ·have HF : Hid (∀ m,¬ FindV s m) := find_zero s k HJ.out hz (by omega)
      have z1 : ((bn s k : Int) == 0) = true := by simp; omega
      have z2 : (0 : Int) < (k : Int) := by omega
      clear hz
      go_wp2
      go_ret2
      exact ⟨.inr ⟨HF.out,rfl⟩,rfl⟩
    ·have HF : Hid (FindV s (k + 1)) := find_stop s k (by omega) (by omega) HJ.out (by omega) (.inr hz)
     have z1 : ((bn s k : Int) == 0) = false := by simp; omega
     go_wp2
     go_ret2
     exact ⟨.inl ⟨k + 1,HF.out,ret_ints HO.out (by omega)⟩,rfl⟩
  ·have HF : Hid (∀ m,¬ FindV s m) := find_end s k HJ.out (by omega)
   go_wp2
   go_ret2
   exact ⟨.inr ⟨HF.out,rfl⟩,rfl⟩
set_option maxHeartbeats 1000000 in
theorem impl_readVar_short (s : ByteArray) (w : World) (hs : s.size ≤ 1048576) (h7 : (s.size : Int) ≤ 7) :
  Calls Tryz.prog 166 #[.string s] w fun e w' => ReadV s e ∧ w = w' := by
 have q1 : (s.size : Int) ≤ 1048576 := by omega
 have hbt := get_bn s
 go_enter Tryz.func166,Tryz.ntmps166
 go_wp2
 go_loop [4,10] (fun v4 v10 => ∃ k : Nat,k ≤ s.size ∧ v10 = .int .i64 k ∧ v4 = .int .i64 (vvS s 0 k) ∧ Hid (∀ j,j < k → 128 ≤ bn s j)) (fun _ i => s.size - (intOf i).toNat)
 case atStart => exact ⟨0,by omega,rfl,rfl,fun j hj => absurd hj (by omega)⟩
 case round =>
  obtain ⟨k,hk,rfl,rfl,HJ⟩ := hrel
  by_cases hlt : k < s.size
  ·have r1 := bn_lt s k
   have HO : Hid (bits .or .i64 (vvS s 0 k : Int) (wrap64 ((bn s k : Int) % 128 * 2 ^ (7 * k))) = (vvS s 0 (k + 1) : Int)) := vvS_or s k (by omega)
   by_cases hc : (128 : Int) ≤ (bn s k : Int)
   ·go_wp2
    go_round
    case rel =>
     refine ⟨k + 1,by omega,by go_num,by rw [HO.out],?_⟩
     intro j hj
     by_cases e : j = k
     ·subst e; omega
     ·exact HJ.out j (by omega)
    case measure => simp [intOf]; omega
   ·by_cases hz : bn s k = 0
    ·by_cases hk0 : k = 0
     ·have HF : Hid (FindV s (k + 1)) := find_stop s k (by omega) (by omega) HJ.out (by omega) (.inl hk0)
      have z1 : ((bn s k : Int) == 0) = true := by simp; omega
      have z2 : (k : Int) ≤ 0 := by omega
      clear hk0 hz
      go_wp2
      go_ret2
      exact ⟨.inl ⟨k + 1,HF.out,ret_ints HO.out (by omega)⟩,rfl⟩
     ·have HF : Hid (∀ m,¬ FindV s m) := find_zero s k HJ.out hz (by omega)
      have z1 : ((bn s k : Int) == 0) = true := by simp; omega
      have z2 : (0 : Int) < (k : Int) := by omega
      clear hz
      go_wp2
      go_ret2
      exact ⟨.inr ⟨HF.out,rfl⟩,rfl⟩
    ·have HF : Hid (FindV s (k + 1)) := find_stop s k (by omega) (by omega) HJ.out (by omega) (.inr hz)
     have z1 : ((bn s k : Int) == 0) = false := by simp; omega
     go_wp2
     go_ret2
     exact ⟨.inl ⟨k + 1,HF.out,ret_ints HO.out (by omega)⟩,rfl⟩
  ·have HF : Hid (∀ m,¬ FindV s m) := find_end s k HJ.out (by omega)
   go_wp2
   go_ret2
   exact ⟨.inr ⟨HF.out,rfl⟩,rfl⟩
theorem impl_readVar (s : ByteArray) (w : World) (hs : s.size ≤ 1048576) :
  Calls Tryz.prog 166 #[.string s] w fun e w' => ReadV s e ∧ w = w' := by
 by_cases h : (7 : Int) < (s.size : Int)
 ·exact impl_readVar_long s w hs h
 ·exact impl_readVar_short s w hs (by omega)
theorem txt_list (l : List UInt8) : (txt l).toList = l := by rw [Lib.toList_data]; simp [txt]
theorem var_eq (s : ByteArray) (k : Nat) (h1 : 1 ≤ k) (h7 : k ≤ 7) (hk : k ≤ s.size) : ((txt (vF 6 (vvS s 0 k))).toList == (s.extract 0 k).toList) = true ↔ canonS s 0 k := by
 obtain ⟨d,rfl⟩ : ∃ d,k = d + 1 := ⟨k - 1,by omega⟩
 rw [sg_extract s (d + 1) hk,txt_list,txt_list,← canonS_iff s d 0 6 (by omega)]
 simp
set_option maxHeartbeats 1000000 in
theorem spec_readVar (s : ByteArray) (w : World) (hs : s.size ≤ 1048576) :
  Calls Tryz.prog 122 #[.string s] w fun e w' => ReadV s e ∧ Below w.heap.size w w' := by
 have q1 : (s.size : Int) ≤ 1048576 := by omega
 have hbt := get_bn s
 go_enter Tryz.func122,Tryz.ntmps122
 go_wp2
 go_loopw [4] (fun v4 wr => ∃ k : Nat,1 ≤ k ∧ k ≤ 8 ∧ v4 = .int .i64 k ∧ Hid (∀ j,j < k → ¬ FindV s j) ∧ Below w.heap.size w wr) (fun i _ => 8 - (intOf i).toNat)
 case atStart => exact ⟨1,by omega,by omega,rfl,(by intro j hj h; have := h.1; omega),Below.refl _ _⟩
 case round =>
  obtain ⟨k,hk1,hk,rfl,HJ,hb⟩ := hrel
  by_cases hlt : k ≤ 7
  ·by_cases hle : k ≤ s.size
   ·have c1 : (k : Int) ≤ 7 := by omega
    have c2 : (k : Int) ≤ (s.size : Int) := by omega
    have hkv := vvS_le s k hlt 0
    go_wp2
    go_loop [5,6] (fun v5 v6 => ∃ j : Nat,j ≤ k ∧ v6 = .int .i64 ((j : Int) - 1) ∧ v5 = .int .i64 (vvS s j (k - j))) (fun _ i => (intOf i + 1).toNat)
    case atStart => exact ⟨k,by omega,rfl,by rw [Nat.sub_self]; rfl⟩
    case round =>
     obtain ⟨j,hj,rfl,rfl⟩ := hrel
     by_cases hj0 : 0 < j
     ·have r1 := bn_lt s (j - 1)
      have r2 := vvS_le s (k - j) (by omega) j
      have hs0 : vvS s (j - 1) (k - (j - 1)) = bn s (j - 1) % 128 + 128 * vvS s j (k - j) := by
       have e1 : k - (j - 1) = (k - j) + 1 := by omega
       have e2 : j - 1 + 1 = j := by omega
       rw [e1,vvS,e2]
      have HS : Hid (vvS s (j - 1) (k - (j - 1)) = bn s (j - 1) % 128 + 128 * vvS s j (k - j)) := hs0
      clear hs0
      have e3 : ((j : Int) - 1).toNat = j - 1 := by omega
      go_wp2
      go_round
      case rel => exact ⟨j - 1,by omega,by go_num,by rw [HS.out]; go_num⟩
      case measure => simp [intOf]; omega
     ·have hj00 : j = 0 := by omega
      subst hj00
      rw [Nat.sub_zero]
      by_cases hcan : canonS s 0 k
      ·have hq := (var_eq s k hk1 hlt hle).2 hcan
       have HF : Hid (FindV s k) := ⟨hk1,hlt,hle,hcan⟩
       clear hcan
       go_wp2
       go_region_held3 (fun _ => True) (exact True.intro) ((go_at_call 35; refine (spec_var _ _ (by omega)).mono ?_; rintro e w1 ⟨rfl,hbv⟩))
       all_goals
        go_wp2
        go_ret2
        exact ⟨.inl ⟨k,HF.out,rfl⟩,hb.drew.trans (hbv.mono (by have := hb.size; exact this))⟩
      ·have hq : ((txt (vF 6 (vvS s 0 k))).toList == (s.extract 0 k).toList) = false := by
        have := mt (var_eq s k hk1 hlt hle).1 hcan
        simpa using this
       have HF : Hid (¬ FindV s k) := fun h => hcan h.2.2.2
       clear hcan
       go_wp2
       go_region_held3 (fun _ => True) (exact True.intro) ((go_at_call 35; refine (spec_var _ _ (by omega)).mono ?_; rintro e w1 ⟨rfl,hbv⟩))
       all_goals
        go_wp2
        go_roundw
        case rel =>
         refine ⟨k + 1,by omega,by omega,by go_num,?_,hb.drew.trans (hbv.mono (by have := hb.size; exact this))⟩
         intro j hj
         by_cases e : j = k
         ·subst e; exact HF.out
         ·exact HJ.out j (by omega)
        case measure => simp [intOf]; omega
   ·have c1 : (k : Int) ≤ 7 := by omega
    have c2 : decide ((k : Int) ≤ (s.size : Int)) = false := by simp; omega
    have HF : Hid (∀ m,¬ FindV s m) := by
     intro m hm
     by_cases e : m < k
     ·exact HJ.out m e hm
     ·have := hm.2.2.1; omega
    go_wp2
    go_ret2
    exact ⟨.inr ⟨HF.out,rfl⟩,hb⟩
  ·have c1 : (7 : Int) < (k : Int) := by omega
   have HF : Hid (∀ m,¬ FindV s m) := by
    intro m hm
    by_cases e : m < k
    ·exact HJ.out m e hm
    ·have := hm.2.1; omega
   go_wp2
   go_ret2
   exact ⟨.inr ⟨HF.out,rfl⟩,hb⟩
def numCells (l : List Int) : List Value := l.map fun z => Value.int .i64 z
def Nums (w : World) (base : Nat) (v : Value) (l : List Int) : Prop := w.ownsRow base 3 1 v l.length (numCells l)
def NumsV (w : World) (B : Nat) (v : Value) (l : List Int) : Prop :=
 ∃ A cap,v = .slice A l.length cap ∧ l.length ≤ cap ∧ cap ≤ maxLen ∧ ∀ j,j < l.length → ∃ g off,A = some ⟨g,off,none⟩ ∧ g < B ∧ w.cell? ⟨g,off + j,none⟩ = some (.int .i64 (l.getD j 0))
theorem Nums.nil (w : World) (base : Nat) : Nums w base (.slice none 0 0) [] := World.ownsRow_nil w base 3 1
theorem Nums.empty (w : World) (base : Nat) (hb : base ≤ w.heap.size) : Nums (w.alloc (.cells #[] 3)) base (.slice (some ⟨w.heap.size,0,none⟩) 0 0) [] :=
 World.ownsRow_lit w #[] 0 hb (by unfold maxLen; omega) rfl
theorem Nums.one (w : World) (base : Nat) (z : Int) (hb : base ≤ w.heap.size) : Nums (w.alloc (.cells #[.int .i64 z] 3)) base (.slice (some ⟨w.heap.size,0,none⟩) 1 1) [z] :=
 World.ownsRow_lit w #[.int .i64 z] 1 hb (by unfold maxLen; omega) rfl
theorem Nums.mono {w : World} {base base' : Nat} {v : Value} {l : List Int} (h : Nums w base v l) (hb : base' ≤ base) : Nums w base' v l :=
 ⟨h.1,h.2.imp id fun ⟨g,cap,cur,e,hg,r⟩ => ⟨g,cap,cur,e,Nat.le_trans hb hg,r⟩⟩
theorem Nums.lt {w : World} {base : Nat} {v : Value} {l : List Int} (h : Nums w base v l) : ∀ k,v.ownBlock = some k → base ≤ k ∧ k < w.heap.size := World.ownsRow.lt h
theorem Nums.kept {w w' : World} {base : Nat} {v : Value} {l : List Int} (h : Nums w base v l) (hk : ∀ g,g < w.heap.size → v.ownBlock = some g → w'.heap[g]? = w.heap[g]?) : Nums w' base v l := by
 have hl := World.ownsRow.lt h
 refine ⟨h.1,h.2.imp id ?_⟩
 rintro ⟨g,cap,cur,rfl,hg,hh,r⟩
 refine ⟨g,cap,cur,rfl,hg,?_,r⟩
 rw [hk g (hl g rfl).2 rfl]
 exact hh
theorem Nums.on {w w' : World} {base : Nat} {v : Value} {l : List Int} (h : Nums w base v l) (hb : Below w.heap.size w w') : Nums w' base v l := h.kept fun g hg _ => hb.block g hg
theorem Nums.under {w w' : World} {base B : Nat} {v : Value} {l : List Int} (h : Nums w base v l) (hB : w.heap.size ≤ B) (hb : Below B w w') : Nums w' base v l := h.kept fun g hg _ => hb.block g (Nat.lt_of_lt_of_le hg hB)
theorem Nums.heap {w w' : World} {base : Nat} {v : Value} {l : List Int} (h : Nums w base v l) (hh : w'.heap = w.heap) : Nums w' base v l := h.kept fun g _ _ => by rw [hh]
theorem Nums.alloc {w : World} {base : Nat} {v : Value} {l : List Int} (h : Nums w base v l) (o : Obj) : Nums (w.alloc o) base v l := World.ownsRow.alloc h o
theorem Nums.other {w : World} {base : Nat} {v : Value} {l : List Int} (h : Nums w base v l) {g : Nat} (hne : v.ownBlock ≠ some g) (i : Nat) (x : Value) : Nums (w.setCell ⟨g,i,none⟩ x) base v l :=
 h.kept fun k _ hk => Below.heap_setCell _ _ _ _ (fun e => hne (by rw [hk]; exact congrArg some e))
theorem Nums.form {w : World} {base : Nat} {v : Value} {l : List Int} (h : Nums w base v l) : (v = .slice none 0 0 ∧ l = []) ∨ ∃ g cap,v = .slice (some ⟨g,0,none⟩) l.length cap ∧ l.length ≤ cap ∧ cap ≤ maxLen ∧ base ≤ g ∧ g < w.heap.size := by
 have hl := World.ownsRow.lt h
 rcases h.2 with ⟨rfl,h0⟩ | ⟨g,cap,cur,rfl,hg,_,hc,hm,_⟩
 ·exact .inl ⟨rfl,List.eq_nil_of_length_eq_zero h0⟩
 ·exact .inr ⟨g,cap,rfl,hc,hm,hg,(hl g rfl).2⟩
theorem Nums.shape {w : World} {base : Nat} {v : Value} {l : List Int} (h : Nums w base v l) : ∃ A c,v = .slice A l.length c ∧ l.length ≤ c ∧ c ≤ maxLen := by
 rcases h.form with ⟨rfl,rfl⟩ | ⟨g,c,rfl,h1,h2,_⟩
 ·exact ⟨_,_,rfl,by simp,by unfold maxLen; omega⟩
 ·exact ⟨_,_,rfl,h1,h2⟩
theorem Nums.len {w : World} {base n cap : Nat} {A : Option Addr} {l : List Int} (h : Nums w base (.slice A n cap) l) : n = l.length := by
 rcases h.form with ⟨e,e2⟩ | ⟨g',c',e,_⟩
 ·injection e with _ e1; rw [e1,e2]; rfl
 ·injection e
theorem Nums.cell {w : World} {base g cap n : Nat} {l : List Int} (h : Nums w base (.slice (some ⟨g,0,none⟩) n cap) l) (j : Nat) (hj : j < l.length) : w.cell? ⟨g,j,none⟩ = some (.int .i64 (l.getD j 0)) := by
 have hn := h.len
 subst hn
 rw [World.ownsRow.cellAt h j (by omega)]
 simp [numCells,hj]
theorem Nums.frozen {w : World} {base g cap n : Nat} {l : List Int} (h : Nums w base (.slice (some ⟨g,0,none⟩) n cap) l) (j : Nat) : w.frozen? ⟨g,j,none⟩ = false := by
 have hn := h.len
 subst hn
 exact World.ownsRow.frozenAt h j
theorem Nums.stored {w : World} {base g cap n : Nat} {l : List Int} (h : Nums w base (.slice (some ⟨g,0,none⟩) n cap) l) (j : Nat) (x : Int) :
  Nums (w.setCell ⟨g,j,none⟩ (.int .i64 x)) base (.slice (some ⟨g,0,none⟩) n cap) (l.set j x) := by
 have hn := h.len
 subst hn
 have hs := (World.ownsRow.stored h j (.int .i64 x)).1
 unfold Nums
 rw [List.length_set,numCells,List.map_set]
 exact hs
theorem Nums.block {w : World} {base n cap : Nat} {A : Option Addr} {l : List Int} (h : Nums w base (.slice A n cap) l) (hn : 0 < l.length) : ∃ g,A = some ⟨g,0,none⟩ ∧ base ≤ g ∧ g < w.heap.size := by
 rcases h.form with ⟨e,e2⟩ | ⟨g',c',e,_,_,h3,h4⟩
 ·rw [e2] at hn; simp at hn
 ·injection e with e1; exact ⟨g',e1,h3,h4⟩
theorem Nums.lies {w : World} {base : Nat} {v : Value} {l : List Int} (h : Nums w base v l) : NumsV w w.heap.size v l := by
 rcases h.form with ⟨rfl,rfl⟩ | ⟨g,c,rfl,h1,h2,h3,h4⟩
 ·exact ⟨none,0,rfl,Nat.zero_le _,by unfold maxLen; omega,fun j hj => by simp at hj⟩
 ·exact ⟨_,c,rfl,h1,h2,fun j hj => ⟨g,0,rfl,h4,by rw [Nat.zero_add]; exact h.cell j hj⟩⟩
theorem NumsV.on {w w' : World} {B : Nat} {v : Value} {l : List Int} (h : NumsV w B v l) (hb : Below B w w') : NumsV w' B v l := by
 obtain ⟨A,cap,rfl,h1,h2,h3⟩ := h
 refine ⟨A,cap,rfl,h1,h2,fun j hj => ?_⟩
 obtain ⟨g,off,rfl,hg,hc⟩ := h3 j hj
 exact ⟨g,off,rfl,hg,by rw [hb.cell (p := ⟨_,_,none⟩) hg]; exact hc⟩
theorem NumsV.full {w : World} {B : Nat} {v : Value} {l : List Int} (h : NumsV w B v l) (hn : 0 < l.length) : ∃ g off cap,v = .slice (some ⟨g,off,none⟩) l.length cap ∧ l.length ≤ cap ∧ cap ≤ maxLen ∧ g < B ∧ ∀ wx,Below B w wx → ∀ j,j < l.length → wx.cell? ⟨g,off + j,none⟩ = some (.int .i64 (l.getD j 0)) := by
 obtain ⟨A,cap,rfl,h1,h2,h3⟩ := h
 obtain ⟨g,off,rfl,hg,_⟩ := h3 0 hn
 refine ⟨g,off,cap,rfl,h1,h2,hg,fun wx hx j hj => ?_⟩
 obtain ⟨g',off',e,_,hc⟩ := h3 j hj
 injection e with e
 injection e with e1 e2
 subst e1
 subst e2
 rw [hx.cell (p := ⟨_,_,none⟩) hg]
 exact hc
theorem getD_set_same (l : List Int) (j : Nat) (x : Int) (h : j < l.length) : (l.set j x).getD j 0 = x := by simp [List.getD,h]
theorem getD_set_ne (l : List Int) (j k : Nat) (x : Int) (h : j ≠ k) : (l.set j x).getD k 0 = l.getD k 0 := by simp [List.getD,List.getElem?_set_ne h]
theorem nums_ext {l m : List Int} (h : l.length = m.length) (hj : ∀ j,j < l.length → l.getD j 0 = m.getD j 0) : l = m := by
 apply List.ext_getElem h
 intro j h1 h2
 have := hj j h1
 simpa [List.getD,h1,h2] using this
theorem take_num (l : List Int) (k : Nat) (h : k < l.length) : l.take (k + 1) = l.take k ++ [l.getD k 0] := by
 rw [List.take_succ_eq_append_getElem h]
 simp [List.getD,h]
theorem wpList_append_num {P : Program} {w : World} {ops : Array Oper} {rest : List Oper} {o : Oper} {a : Act} {Q : Exit → Act → World → Prop} (hgd : o.guard = none) (s x : Operand) (t : TypeId)
  (ho : o.op = .call { callee := .builtin .append,args := #[s,x],argTypes := #[t,t] })
  (ht : P.underlying t = some (.slice 3)) (hinfo : (P.info? 3).map (fun i => (i.zero,i.size,i.bytes)) = some (some (.int .i64 0),1,8))
  (base : Nat) (v : Value) (l : List Int) (hs : a.eval s = v) (hown : Nums w base v l) (z : Int)
  (hx : a.eval x = .slice (some ⟨w.heap.size,0,none⟩) 1 1) (hlen : l.length ≤ 2097152) (hbase : base ≤ w.heap.size)
  (h : ∀ v' w',Nums w' base v' (l ++ [z]) → Below base w w' → (∀ g,g < w.heap.size → v.ownBlock ≠ some g → w'.heap[g]? = w.heap[g]?) → wpList P ops Q rest (a.put o.dst v') w') : wpList P ops Q (o :: rest) a (w.alloc (.cells #[.int .i64 z] 3)) := by
 obtain ⟨i0,hi,hz0,hz1,hz2⟩ := info_parts hinfo
 refine wpList_append_own (w := w.alloc (.cells #[.int .i64 z] 3)) hgd s x t ho base 3 i0 (.int .i64 0) 1 8 ht hi hz0 hz1 hz2 rfl (by decide) v l.length (numCells l) hs (hown.alloc _) ⟨w.heap.size,0,none⟩ 1 1 [.int .i64 z] hx rfl ?_ ?_ ?_ ?_ ?_ ?_
 ·intro j u hj
  have e : (⟨w.heap.size,0,none⟩ : Addr).add j = ⟨w.heap.size,j,none⟩ := by cases j <;> simp [Addr.add]
  rw [e,World.cell?_alloc_mark]
  simpa using hj
 ·intro u hu
  simp at hu
  subst hu
  rfl
 ·unfold maxLen; omega
 ·omega
 ·simp; omega
 ·intro v' w' h1 h2 _
  have hb0 : ∀ k,v.ownBlock = some k → base ≤ k := fun k hk => (World.ownsRow.lt hown k hk).1
  refine h v' w' ?_ ?_ ?_
  ·unfold Nums
   rw [List.length_append,numCells,List.map_append]
   exact h1
  ·exact ((Below.refl base w).alloc hbase _).grown h2 (by simp; omega) hb0
  ·intro g hg hne
   rw [h2.block g (by simp; omega) (fun e => hne e.symm)]
   exact Below.heap_alloc w _ g hg
theorem Tryz.infoInt : (Tryz.prog.info? 3).map (fun i => (i.zero,i.size,i.bytes)) = some (some (.int .i64 0),1,8) := by kernel_rfl
def zig (n : Int) : Int := if n < -140737488355328 ∨ 140737488355328 < n then -1 else if n < 0 then -2 * n - 1 else 2 * n
def unz (z : Int) : Int := if z < 0 ∨ 281474976710656 < z then 0 else if z % 2 = 1 then -((z + 1) / 2) else z / 2
def zok (z : Int) : Bool := decide (0 ≤ z ∧ z ≤ 281474976710656)
theorem zig_range (n : Int) : -1 ≤ zig n ∧ zig n ≤ 281474976710656 := by unfold zig; (repeat' split) <;> omega
theorem zig_pos (n : Int) (h1 : -140737488355328 ≤ n) (h2 : n ≤ 140737488355328) : 0 ≤ zig n := by unfold zig; (repeat' split) <;> omega
theorem unz_range (z : Int) : -140737488355328 ≤ unz z ∧ unz z ≤ 140737488355328 := by unfold unz; (repeat' split) <;> omega
theorem unz_zig (n : Int) (h1 : -140737488355328 ≤ n) (h2 : n ≤ 140737488355328) : unz (zig n) = n := by
 unfold zig
 rw [if_neg (by omega)]
 by_cases h : n < 0
 ·rw [if_pos h]; unfold unz; rw [if_neg (by omega),if_pos (by omega)]; omega
 ·rw [if_neg h]; unfold unz; rw [if_neg (by omega),if_neg (by omega)]; omega
theorem zig_unz (z : Int) (h1 : 0 ≤ z) (h2 : z ≤ 281474976710656) : zig (unz z) = z := by
 unfold unz
 rw [if_neg (by omega)]
 by_cases h : z % 2 = 1
 ·rw [if_pos h]; unfold zig; rw [if_neg (by omega),if_pos (by omega)]; omega
 ·rw [if_neg h]; unfold zig; rw [if_neg (by omega),if_neg (by omega)]; omega
set_option maxHeartbeats 400000 in
theorem impl_zig (n : Int) (w : World) (hn1 : -9223372036854775808 ≤ n) (hn2 : n ≤ 9223372036854775807) : Calls Tryz.prog 187 #[.int .i64 n] w fun e w' => e = .returned (.int .i64 (zig n)) ∧ w = w' := by
 by_cases h1 : n < -140737488355328
 ·have e : zig n = -1 := by unfold zig; rw [if_pos (by omega)]
  rw [e]
  go_enter Tryz.func187,Tryz.ntmps187
  go_wp2
  go_ret
  exact ⟨rfl,rfl⟩
 by_cases h2 : 140737488355328 < n
 ·have e : zig n = -1 := by unfold zig; rw [if_pos (by omega)]
  rw [e]
  go_enter Tryz.func187,Tryz.ntmps187
  go_wp2
  go_ret
  exact ⟨rfl,rfl⟩
 by_cases h3 : n < 0
 ·have e : zig n = -2 * n - 1 := by unfold zig; rw [if_neg (by omega),if_pos h3]
  rw [e]
  go_enter Tryz.func187,Tryz.ntmps187
  go_wp2
  go_ret
  exact ⟨by go_num,rfl⟩
 ·have e : zig n = 2 * n := by unfold zig; rw [if_neg (by omega),if_neg h3]
  rw [e]
  go_enter Tryz.func187,Tryz.ntmps187
  go_wp2
  go_ret
  exact ⟨by go_num,rfl⟩
set_option maxHeartbeats 400000 in
theorem spec_zig (n : Int) (w : World) (hn1 : -9223372036854775808 ≤ n) (hn2 : n ≤ 9223372036854775807) : Calls Tryz.prog 156 #[.int .i64 n] w fun e w' => e = .returned (.int .i64 (zig n)) ∧ w = w' := by
 by_cases h1 : n < -140737488355328 ∨ 140737488355328 < n
 ·have e : zig n = -1 := by unfold zig; rw [if_pos h1]
  rw [e]
  have c := fun wx => in_no n (-140737488355328) 140737488355328 wx h1
  go_enter Tryz.func156,Tryz.ntmps156
  go_wp2_with (go_at_call 20; refine (c _).mono ?_; rintro e w' ⟨rfl,rfl⟩)
  go_ret
  exact ⟨rfl,rfl⟩
 have c := fun wx => in_yes n (-140737488355328) 140737488355328 wx (by omega) (by omega)
 by_cases h3 : n < 0
 ·have e : zig n = -2 * n - 1 := by unfold zig; rw [if_neg (by omega),if_pos h3]
  rw [e]
  have q1 : -140737488355328 ≤ n := by omega
  clear h1
  go_enter Tryz.func156,Tryz.ntmps156
  go_wp2_with (go_at_call 20; refine (c _).mono ?_; rintro e w' ⟨rfl,rfl⟩)
  go_ret
  exact ⟨by go_num,rfl⟩
 ·have e : zig n = 2 * n := by unfold zig; rw [if_neg (by omega),if_neg h3]
  rw [e]
  have q1 : n ≤ 140737488355328 := by omega
  clear h1
  go_enter Tryz.func156,Tryz.ntmps156
  go_wp2_with (go_at_call 20; refine (c _).mono ?_; rintro e w' ⟨rfl,rfl⟩)
  go_ret
  exact ⟨by go_num,rfl⟩
set_option maxHeartbeats 400000 in
theorem impl_unz (z : Int) (w : World) (hn1 : -9223372036854775808 ≤ z) (hn2 : z ≤ 9223372036854775807) : Calls Tryz.prog 237 #[.int .i64 z] w fun e w' => e = .returned (.tuple #[.int .i64 (unz z),.bool (zok z)]) ∧ w = w' := by
 by_cases h1 : z < 0
 ·have e : unz z = 0 := by unfold unz; rw [if_pos (by omega)]
  have e2 : zok z = false := by unfold zok; exact decide_eq_false (by omega)
  rw [e,e2]
  go_enter Tryz.func237,Tryz.ntmps237
  go_wp2
  go_ret2
  exact ⟨rfl,rfl⟩
 by_cases h2 : 281474976710656 < z
 ·have e : unz z = 0 := by unfold unz; rw [if_pos (by omega)]
  have e2 : zok z = false := by unfold zok; exact decide_eq_false (by omega)
  rw [e,e2]
  go_enter Tryz.func237,Tryz.ntmps237
  go_wp2
  go_ret2
  exact ⟨rfl,rfl⟩
 have e2 : zok z = true := by unfold zok; exact decide_eq_true (by omega)
 have q0 : 0 ≤ z := by omega
 by_cases h3 : z % 2 = 1
 ·have e : unz z = -((z + 1) / 2) := by unfold unz; rw [if_neg (by omega),if_pos h3]
  have d1 : Int.tdiv (-(z + 1)) 2 = -((z + 1) / 2) := by rw [Int.neg_tdiv,Int.tdiv_eq_ediv_of_nonneg (by omega)]
  rw [e,e2]
  have d2 : wrap64 (-(z + 1)) = -(z + 1) := by unfold wrap64; omega
  go_enter Tryz.func237,Tryz.ntmps237
  go_wp2
  go_ret2
  exact ⟨by go_num,rfl⟩
 ·have e : unz z = z / 2 := by unfold unz; rw [if_neg (by omega),if_neg h3]
  rw [e,e2]
  go_enter Tryz.func237,Tryz.ntmps237
  go_wp2
  go_ret2
  exact ⟨by go_num,rfl⟩
set_option maxHeartbeats 400000 in
theorem spec_unz (z : Int) (w : World) (hn1 : -9223372036854775808 ≤ z) (hn2 : z ≤ 9223372036854775807) : Calls Tryz.prog 219 #[.int .i64 z] w fun e w' => e = .returned (.tuple #[.int .i64 (unz z),.bool (zok z)]) ∧ w = w' := by
 by_cases h1 : z < 0
 ·have e : unz z = 0 := by unfold unz; rw [if_pos (by omega)]
  have e2 : zok z = false := by unfold zok; exact decide_eq_false (by omega)
  rw [e,e2]
  go_enter Tryz.func219,Tryz.ntmps219
  go_wp2
  go_ret2
  exact ⟨rfl,rfl⟩
 by_cases h2 : 281474976710656 < z
 ·have e : unz z = 0 := by unfold unz; rw [if_pos (by omega)]
  have e2 : zok z = false := by unfold zok; exact decide_eq_false (by omega)
  rw [e,e2]
  go_enter Tryz.func219,Tryz.ntmps219
  go_wp2
  go_ret2
  exact ⟨rfl,rfl⟩
 have e2 : zok z = true := by unfold zok; exact decide_eq_true (by omega)
 have q0 : 0 ≤ z := by omega
 have c := fun wx => spec_zig (unz z) wx (by have := unz_range z; omega) (by have := unz_range z; omega)
 rw [zig_unz z (by omega) (by omega)] at c
 by_cases h3 : z % 2 = 1
 ·have e : unz z = -(z / 2) - 1 := by unfold unz; rw [if_neg (by omega),if_pos h3]; omega
  rw [e] at c
  rw [e,e2]
  go_enter Tryz.func219,Tryz.ntmps219
  go_wp2_with (go_at_call 156; refine (c _).mono ?_; rintro e w' ⟨rfl,rfl⟩)
  go_ret2
  exact ⟨by go_num,rfl⟩
 ·have e : unz z = z / 2 := by unfold unz; rw [if_neg (by omega),if_neg h3]
  rw [e] at c
  rw [e,e2]
  go_enter Tryz.func219,Tryz.ntmps219
  go_wp2_with (go_at_call 156; refine (c _).mono ?_; rintro e w' ⟨rfl,rfl⟩)
  go_ret2
  exact ⟨by go_num,rfl⟩
def prv (l : List Int) (k : Nat) : Int := if k = 0 then 0 else l.getD (k - 1) 0
def dif (l : List Int) (k : Nat) : Int := l.getD k 0 - prv l k
theorem prv_succ (l : List Int) (k : Nat) : prv l (k + 1) = l.getD k 0 := by simp [prv]
def vPiece (l : List Int) (i : Nat) : List UInt8 := vF 6 (zig (dif l i)).toNat
def turn (l : List Int) (i : Nat) : Int := if i ≤ 1 then dif l i else zig (dif l i - dif l (i - 1))
def tPiece (l : List Int) (i : Nat) : List UInt8 := vF 6 (turn l i).toNat
def cat (f : Nat → List UInt8) (k : Nat) : List UInt8 := (List.range k).flatMap f
theorem cat_zero (f : Nat → List UInt8) : cat f 0 = [] := rfl
theorem cat_succ (f : Nat → List UInt8) (k : Nat) : cat f (k + 1) = cat f k ++ f k := by simp [cat,List.range_succ,List.flatMap_append]
theorem cat_length (f : Nat → List UInt8) (hf : ∀ i,(f i).length ≤ 7) (k : Nat) : (cat f k).length ≤ 7 * k := by
 induction k with
 | zero => simp [cat_zero]
 | succ k ih => rw [cat_succ,List.length_append]; have := hf k; omega
theorem vPiece_length (l : List Int) (i : Nat) : (vPiece l i).length ≤ 7 := by have := vF_length 6 (zig (dif l i)).toNat; unfold vPiece; omega
theorem tPiece_length (l : List Int) (i : Nat) : (tPiece l i).length ≤ 7 := by have := vF_length 6 (turn l i).toNat; unfold tPiece; omega
def VOk (l : List Int) : Prop := 1 ≤ l.length ∧ l.length ≤ 60 ∧ ∀ j,j < l.length → -1099511627776 ≤ l.getD j 0 ∧ l.getD j 0 ≤ 1099511627776
instance (l : List Int) : Decidable (VOk l) := by unfold VOk; infer_instance
def TOk (l : List Int) : Prop := 1 ≤ l.length ∧ l.length ≤ 60 ∧ ∀ j,j < l.length → (0 ≤ l.getD j 0 ∧ l.getD j 0 ≤ 1099511627776) ∧ (0 < j → l.getD (j - 1) 0 < l.getD j 0)
instance (l : List Int) : Decidable (TOk l) := by unfold TOk; infer_instance
def showV (l : List Int) : ByteArray := if VOk l then txt (cat (vPiece l) l.length) else txt []
def showT (l : List Int) : ByteArray := if TOk l then txt (cat (tPiece l) l.length) else txt []
theorem VOk.prv {l : List Int} (h : VOk l) (j : Nat) (hj : j ≤ l.length) : -1099511627776 ≤ prv l j ∧ prv l j ≤ 1099511627776 := by
 unfold Go.Proofs.YthhamlahdjokkaaGreatDoor.prv
 split
 ·omega
 ·exact h.2.2 (j - 1) (by omega)
theorem VOk.dif {l : List Int} (h : VOk l) (j : Nat) (hj : j < l.length) : -2199023255552 ≤ dif l j ∧ dif l j ≤ 2199023255552 := by
 have h1 := h.prv j (by omega)
 have h2 := h.2.2 j hj
 unfold Go.Proofs.YthhamlahdjokkaaGreatDoor.dif
 omega
theorem TOk.prv {l : List Int} (h : TOk l) (j : Nat) (hj : j ≤ l.length) : 0 ≤ prv l j ∧ prv l j ≤ 1099511627776 := by
 unfold Go.Proofs.YthhamlahdjokkaaGreatDoor.prv
 split
 ·omega
 ·exact (h.2.2 (j - 1) (by omega)).1
theorem TOk.dif {l : List Int} (h : TOk l) (j : Nat) (hj : j < l.length) : 0 ≤ dif l j ∧ dif l j ≤ 1099511627776 := by
 have h1 := h.prv j (by omega)
 have h2 := h.2.2 j hj
 unfold Go.Proofs.YthhamlahdjokkaaGreatDoor.dif
 refine ⟨?_,by omega⟩
 unfold Go.Proofs.YthhamlahdjokkaaGreatDoor.prv
 split
 ·omega
 ·have := h2.2 (by omega)
  omega
theorem TOk.turn {l : List Int} (h : TOk l) (j : Nat) (hj : j < l.length) : 0 ≤ turn l j ∧ turn l j ≤ 281474976710656 := by
 unfold Go.Proofs.YthhamlahdjokkaaGreatDoor.turn
 have h1 := h.dif j hj
 split
 ·omega
 ·have h2 := h.dif (j - 1) (by omega)
  exact ⟨zig_pos _ (by omega) (by omega),(zig_range _).2⟩
def Rd (s : ByteArray) : Nat → List Int → Nat → Prop
 | 0,l,n => l = [] ∧ n = 0
 | k + 1,l,n => ∃ l' n' m,Rd s k l' n' ∧ FindV (s.extract n' s.size) m ∧ l = l' ++ [(vvS (s.extract n' s.size) 0 m : Int)] ∧ n = n' + m
def RdNo (s : ByteArray) (k : Nat) : Prop := ∃ j l n,j < k ∧ Rd s j l n ∧ ∀ m,¬ FindV (s.extract n s.size) m
theorem Rd.one {s : ByteArray} : ∀ {k : Nat} {l l' : List Int} {n n' : Nat},Rd s k l n → Rd s k l' n' → l = l' ∧ n = n'
 | 0,_,_,_,_,h,h' => ⟨h.1.trans h'.1.symm,h.2.trans h'.2.symm⟩
 | k + 1,_,_,_,_,⟨a,b,m,h1,h2,h3,h4⟩,⟨a',b',m',h1',h2',h3',h4'⟩ => by
  obtain ⟨rfl,rfl⟩ := Rd.one h1 h1'
  have := h2.one h2'
  subst this
  exact ⟨h3.trans h3'.symm,h4.trans h4'.symm⟩
theorem Rd.before {s : ByteArray} : ∀ {k : Nat} {l : List Int} {n : Nat},Rd s k l n → ∀ j,j < k → ∃ l' n' m,Rd s j l' n' ∧ FindV (s.extract n' s.size) m
 | 0,_,_,_,j,hj => by omega
 | k + 1,_,_,⟨a,b,m,h1,h2,h3,h4⟩,j,hj => by
  by_cases e : j = k
  ·subst e; exact ⟨a,b,m,h1,h2⟩
  ·exact Rd.before h1 j (by omega)
theorem Rd.no {s : ByteArray} {k : Nat} {l : List Int} {n : Nat} (h : Rd s k l n) : ¬ RdNo s k := by
 rintro ⟨j,l',n',hj,h1,h2⟩
 obtain ⟨l2,n2,m,h3,h4⟩ := h.before j hj
 obtain ⟨rfl,rfl⟩ := h1.one h3
 exact h2 m h4
theorem Rd.length {s : ByteArray} : ∀ {k : Nat} {l : List Int} {n : Nat},Rd s k l n → l.length = k
 | 0,_,_,h => by rw [h.1]; rfl
 | k + 1,_,_,⟨a,b,m,h1,h2,h3,h4⟩ => by rw [h3,List.length_append,Rd.length h1]; rfl
theorem Rd.le {s : ByteArray} : ∀ {k : Nat} {l : List Int} {n : Nat},Rd s k l n → k ≤ n ∧ n ≤ s.size
 | 0,_,_,h => by rw [h.2]; omega
 | k + 1,_,_,⟨a,b,m,h1,h2,h3,h4⟩ => by
  have h5 := Rd.le h1
  obtain ⟨h6,h7,h8,_⟩ := h2
  rw [ByteArray.size_extract] at h8
  omega
theorem Rd.bound {s : ByteArray} : ∀ {k : Nat} {l : List Int} {n : Nat},Rd s k l n → ∀ z ∈ l,0 ≤ z ∧ z ≤ 562949953421311
 | 0,_,_,h,z,hz => by rw [h.1] at hz; cases hz
 | k + 1,_,_,⟨a,b,m,h1,h2,h3,h4⟩,z,hz => by
  rw [h3] at hz
  rcases List.mem_append.1 hz with hz | hz
  ·exact Rd.bound h1 z hz
  ·simp at hz
   have := vvS_le (s.extract b s.size) m h2.2.1 0
   omega
theorem Rd.boundD {s : ByteArray} {k : Nat} {l : List Int} {n : Nat} (h : Rd s k l n) (j : Nat) : 0 ≤ l.getD j 0 ∧ l.getD j 0 ≤ 562949953421311 := by
 by_cases hj : j < l.length
 ·refine h.bound _ ?_
  simp [List.getD,hj]
 ·simp [List.getD,hj]
set_option maxHeartbeats 1000000 in
theorem implReadVars (s : ByteArray) (k0 : Nat) (w : World) (hs : s.size ≤ 1048576) (h1 : 1 ≤ k0) (h2 : k0 ≤ 60) :
  Calls Tryz.prog 232 #[.string s,.int .i64 (k0 : Int)] w fun e w' => ((∃ l n u,Rd s k0 l n ∧ e = .returned (.tuple #[u,.int .i64 (n : Int)]) ∧ Nums w' w.heap.size u l) ∨ (RdNo s k0 ∧ e = .returned (.tuple #[.slice none 0 0,.int .i64 0]))) ∧ Below w.heap.size w w' := by
 have q1 : (1 : Int) ≤ (k0 : Int) := by omega
 have q2 : (k0 : Int) ≤ 60 := by omega
 have HS : Hid (s.size ≤ 1048576) := hs
 have q3 : (s.size : Int) ≤ 1048576 := by omega
 clear hs
 go_enter Tryz.func232,Tryz.ntmps232
 go_wp2_with fail
 go_loopw [6,7,17] (fun v6 v7 v17 wr => ∃ (k n : Nat) (l : List Int),k ≤ k0 ∧ n ≤ s.size ∧ v17 = .int .i64 (k : Int) ∧ v7 = .int .i64 (n : Int) ∧ Hid (Rd s k l n) ∧ Nums wr w.heap.size v6 l ∧ Below w.heap.size w wr) (fun _ _ i _ => k0 - (intOf i).toNat)
 case atStart => exact ⟨0,0,[],by omega,by omega,rfl,rfl,⟨rfl,rfl⟩,Nums.nil _ _,Below.refl _ _⟩
 case round =>
  obtain ⟨k,n,l,hk,hns,rfl,rfl,HR,hN,hb⟩ := hrel
  have HN := hQz hN
  obtain ⟨A,c,rfl,_,_⟩ := hN.shape
  have HB := hQz hb
  have hln := HR.out.length
  have HLN : Hid (l.length ≤ 2097152) := by unfold Hid; omega
  clear hN hb
  by_cases hlt : k < k0
  ·have q4 : (k : Int) < (k0 : Int) := by omega
   have q5 : (n : Int) ≤ (s.size : Int) := by omega
   have hsx : (s.extract n s.size).size ≤ 1048576 := by rw [ByteArray.size_extract]; have := HS.out; omega
   have c := fun wx => impl_readVar (s.extract n s.size) wx hsx
   have HX : Hid (∀ m,FindV (s.extract n s.size) m → m ≤ s.size - n) := fun m hm => by have := hm.2.2.1; rw [ByteArray.size_extract] at this; omega
   clear hsx hln
   go_wp2_with fail
   refine (c _).mono ?_
   generalize hsx' : s.extract n s.size = sx at *
   have HSX : Hid (s.extract n s.size = sx) := hsx'
   clear hsx'
   rintro e w1 ⟨hR,rfl⟩
   rcases hR with ⟨m,hm,rfl⟩ | ⟨hno,rfl⟩
   ·have hmx := HX.out m hm
    have hm1 := hm.1
    have hm7 := hm.2.1
    have q6 : (m : Int) ≤ 7 := by omega
    have q7 : (1 : Int) ≤ (m : Int) := by omega
    have q8 : ¬ (m : Int) = 0 := by omega
    have q9 : ¬ m = 0 := by omega
    have HM : Hid (FindV sx m) := hm
    have HZ := hQz (HB.out.size)
    generalize hz : (vvS sx 0 m : Int) = z at *
    have HR2 : Hid (Rd s (k + 1) (l ++ [z]) (n + m)) := by
     refine ⟨l,n,m,HR.out,?_,?_,rfl⟩
     ·rw [HSX.out]; exact HM.out
     ·rw [HSX.out,hz]
    clear hz hm
    go_wp2_with (at_builtin; refine wpList_append_num rfl (.tmp 28) (.tmp 30) 132 rfl Tryz.underlying132 Tryz.infoInt w.heap.size _ l rfl HN.out z rfl HLN.out HZ.out ?_; intro v' w1 hN1 hb1 hk1)
    go_roundw
    case rel => exact ⟨k + 1,n + m,l ++ [z],by omega,by omega,by go_num,by go_num,HR2,hN1,HB.out.trans hb1⟩
    case measure => simp [intOf]; omega
   ·have HNO : Hid (RdNo s k0) := ⟨k,l,n,hlt,HR.out,by rw [HSX.out]; exact hno⟩
    clear hno
    go_wp2_with fail
    go_ret2
    exact ⟨.inr ⟨HNO.out,rfl⟩,HB.out⟩
  ·obtain rfl : k = k0 := by omega
   go_wp2_with fail
   go_ret2
   exact ⟨.inl ⟨l,n,_,HR.out,rfl,HN.out⟩,HB.out⟩
set_option maxHeartbeats 1000000 in
theorem implReadVars_no (s : ByteArray) (n : Int) (w : World) (h : n < 1 ∨ 60 < n) : Calls Tryz.prog 232 #[.string s,.int .i64 n] w fun e w' => e = .returned (.tuple #[.slice none 0 0,.int .i64 0]) ∧ w = w' := by
 by_cases h1 : n < 1
 ·go_enter Tryz.func232,Tryz.ntmps232
  go_wp2_with fail
  go_ret2
  exact ⟨rfl,rfl⟩
 ·have h2 : 60 < n := by omega
  clear h
  go_enter Tryz.func232,Tryz.ntmps232
  go_wp2_with fail
  go_ret2
  exact ⟨rfl,rfl⟩
set_option maxHeartbeats 1000000 in
theorem specReadVars (s : ByteArray) (k0 : Nat) (w : World) (hs : s.size ≤ 1048576) (h1 : 1 ≤ k0) (h2 : k0 ≤ 60) :
  Calls Tryz.prog 164 #[.string s,.int .i64 (k0 : Int)] w fun e w' => ((∃ l n u,Rd s k0 l n ∧ e = .returned (.tuple #[u,.int .i64 (n : Int)]) ∧ Nums w' w.heap.size u l) ∨ (RdNo s k0 ∧ ∃ u,e = .returned (.tuple #[u,.int .i64 (-1)]))) ∧ Below w.heap.size w w' := by
 have q1 : (1 : Int) ≤ (k0 : Int) := by omega
 have q2 : (k0 : Int) ≤ 60 := by omega
 have HS : Hid (s.size ≤ 1048576) := hs
 have q3 : (s.size : Int) ≤ 1048576 := by omega
 clear hs
 go_enter Tryz.func164,Tryz.ntmps164
 go_wp2_with fail
 go_loopw [6,7,8] (fun v6 v7 v8 wr => ∃ (k n : Nat) (l : List Int),k ≤ k0 ∧ n ≤ s.size ∧ v8 = .int .i64 (k : Int) ∧ v7 = .int .i64 (n : Int) ∧ Hid (Rd s k l n) ∧ Nums wr w.heap.size v6 l ∧ Below w.heap.size w wr) (fun _ _ i _ => k0 - (intOf i).toNat)
 case atStart => exact ⟨0,0,[],by omega,by omega,rfl,rfl,⟨rfl,rfl⟩,Nums.empty _ _ (Nat.le_refl _),(Below.refl _ _).alloc (Nat.le_refl _) _⟩
 case round =>
  obtain ⟨k,n,l,hk,hns,rfl,rfl,HR,hN,hb⟩ := hrel
  have HN := hQz hN
  obtain ⟨A,c,rfl,_,_⟩ := hN.shape
  have HB := hQz hb
  have hln := HR.out.length
  have HLN : Hid (l.length ≤ 2097152) := by unfold Hid; omega
  clear hN hb
  by_cases hlt : k < k0
  ·have q4 : (k : Int) < (k0 : Int) := by omega
   have q5 : (n : Int) ≤ (s.size : Int) := by omega
   have hsx : (s.extract n s.size).size ≤ 1048576 := by rw [ByteArray.size_extract]; have := HS.out; omega
   have c := fun wx => spec_readVar (s.extract n s.size) wx hsx
   have HX : Hid (∀ m,FindV (s.extract n s.size) m → m ≤ s.size - n) := fun m hm => by have := hm.2.2.1; rw [ByteArray.size_extract] at this; omega
   clear hsx hln
   go_wp2_with fail
   refine (c _).mono ?_
   generalize hsx' : s.extract n s.size = sx at *
   have HSX : Hid (s.extract n s.size = sx) := hsx'
   clear hsx'
   rintro e w1 ⟨hR,hb1⟩
   have HB1 := hQz (HB.out.trans (hb1.mono HB.out.size))
   have HN1 := hQz (HN.out.on hb1)
   clear hb1
   rcases hR with ⟨m,hm,rfl⟩ | ⟨hno,rfl⟩
   ·have hmx := HX.out m hm
    have hm1 := hm.1
    have hm7 := hm.2.1
    have q6 : (m : Int) ≤ 7 := by omega
    have q7 : (1 : Int) ≤ (m : Int) := by omega
    have q8 : ¬ (m : Int) = 0 := by omega
    have q9 : ¬ m = 0 := by omega
    have HM : Hid (FindV sx m) := hm
    have HZ := hQz (HB1.out.size)
    generalize hz : (vvS sx 0 m : Int) = z at *
    have HR2 : Hid (Rd s (k + 1) (l ++ [z]) (n + m)) := by
     refine ⟨l,n,m,HR.out,?_,?_,rfl⟩
     ·rw [HSX.out]; exact HM.out
     ·rw [HSX.out,hz]
    clear hz hm
    go_wp2_with (at_builtin; refine wpList_append_num rfl (.tmp 27) (.tmp 29) 132 rfl Tryz.underlying132 Tryz.infoInt w.heap.size _ l rfl HN1.out z rfl HLN.out HZ.out ?_; intro v' w2 hN2 hb2 hk2)
    go_roundw
    case rel => exact ⟨k + 1,n + m,l ++ [z],by omega,by omega,by go_num,by go_num,HR2,hN2,HB1.out.trans hb2⟩
    case measure => simp [intOf]; omega
   ·have HNO : Hid (RdNo s k0) := ⟨k,l,n,hlt,HR.out,by rw [HSX.out]; exact hno⟩
    clear hno
    go_wp2_with fail
    go_ret2
    exact ⟨.inr ⟨HNO.out,_,rfl⟩,HB1.out⟩
  ·obtain rfl : k = k0 := by omega
   go_wp2_with fail
   go_ret2
   exact ⟨.inl ⟨l,n,_,HR.out,rfl,HN.out⟩,HB.out⟩
def mix (f : Nat → Int) (v : List Int) (m : Nat) : List Int := (List.range v.length).map fun i => if i < m then f i else v.getD i 0
theorem mix_length (f : Nat → Int) (v : List Int) (m : Nat) : (mix f v m).length = v.length := by simp [mix]
theorem mix_get (f : Nat → Int) (v : List Int) (m j : Nat) (h : j < v.length) : (mix f v m).getD j 0 = if j < m then f j else v.getD j 0 := by
 unfold mix
 rw [List.getD_eq_getElem?_getD,List.getElem?_map,List.getElem?_range h]
 rfl
theorem mix_set (f : Nat → Int) (v : List Int) (m : Nat) (h : m < v.length) : (mix f v m).set m (f m) = mix f v (m + 1) := by
 apply nums_ext
 ·rw [List.length_set,mix_length,mix_length]
 ·intro j hj
  rw [List.length_set,mix_length] at hj
  rw [mix_get f v (m + 1) j hj]
  by_cases e : m = j
  ·subst e
   rw [getD_set_same _ _ _ (by rw [mix_length]; exact h),if_pos (by omega)]
  ·rw [getD_set_ne _ _ _ _ e,mix_get f v m j hj]
   by_cases h2 : j < m
   ·rw [if_pos h2,if_pos (by omega)]
   ·rw [if_neg h2,if_neg (by omega)]
theorem mix_start (f : Nat → Int) (v : List Int) (m : Nat) (h : ∀ i,i < m → i < v.length → f i = v.getD i 0) : mix f v m = v := by
 apply nums_ext
 ·rw [mix_length]
 ·intro j hj
  rw [mix_length] at hj
  rw [mix_get f v m j hj]
  split
  ·exact h j (by assumption) hj
  ·rfl
def rowOf (f : Nat → Int) (n : Nat) : List Int := (List.range n).map f
theorem rowOf_length (f : Nat → Int) (n : Nat) : (rowOf f n).length = n := by simp [rowOf]
theorem rowOf_get (f : Nat → Int) (n j : Nat) (h : j < n) : (rowOf f n).getD j 0 = f j := by simp [rowOf,List.getD,h]
theorem rowOf_succ (f : Nat → Int) (n : Nat) : rowOf f (n + 1) = rowOf f n ++ [f n] := by simp [rowOf,List.range_succ]
theorem mix_all (f : Nat → Int) (v : List Int) (m : Nat) (h : v.length ≤ m) : mix f v m = rowOf f v.length := by
 apply nums_ext
 ·rw [mix_length,rowOf_length]
 ·intro j hj
  rw [mix_length] at hj
  rw [mix_get f v m j hj,rowOf_get f _ j hj,if_pos (by omega)]
def uzF (off : Nat) (v : List Int) (i : Nat) : Int := if off ≤ i then unz (v.getD i 0) else v.getD i 0
def auF (off : Nat) (v : List Int) : Nat → Int
 | 0 => v.getD 0 0
 | i + 1 => if i + 1 ≤ off then v.getD (i + 1) 0 else auF off v i + v.getD (i + 1) 0
theorem auF_le (off : Nat) (v : List Int) (i : Nat) (h : i ≤ off) : auF off v i = v.getD i 0 := by
 cases i with
 | zero => rfl
 | succ i => rw [auF,if_pos h]
theorem auF_gt (off : Nat) (v : List Int) (i : Nat) (h : off < i) : auF off v i = auF off v (i - 1) + v.getD i 0 := by
 cases i with
 | zero => omega
 | succ i => rw [auF,if_neg (by omega)]; rfl
set_option maxHeartbeats 1000000 in
theorem unzigAllV (off m : Nat) (l : List Int) (g cap base n : Nat) (A : Option Addr) (c : Nat) (w : World) (hN : Nums w base (.slice (some ⟨g,0,none⟩) n cap) l) (hl : l.length = off + m) (hA : 0 < m → A = some ⟨g,off,none⟩) (hm : m ≤ 1000) (hg : base ≤ g)
  (hb : ∀ j,-9223372036854775808 ≤ l.getD j 0 ∧ l.getD j 0 ≤ 9223372036854775807) :
  Calls Tryz.prog 233 #[.slice A m c] w fun e w' => (∃ u,e = .returned u) ∧ Nums w' base (.slice (some ⟨g,0,none⟩) n cap) (rowOf (uzF off l) l.length) ∧ Below base w w' := by
 have HN := hQz hN
 have HL : Hid (l.length = off + m) := hl
 have HA : Hid (0 < m → A = some ⟨g,off,none⟩) := hA
 have HG : Hid (base ≤ g) := hg
 have HB : Hid (∀ j,-9223372036854775808 ≤ l.getD j 0 ∧ l.getD j 0 ≤ 9223372036854775807) := hb
 have q1 : (m : Int) ≤ 1000 := by omega
 clear hN hl hA hg hb
 go_enter Tryz.func233,Tryz.ntmps233
 go_wp2_with fail
 go_loopw [6] (fun v6 wr => ∃ k : Nat,k ≤ m ∧ v6 = .int .i64 (k : Int) ∧ Nums wr base (.slice (some ⟨g,0,none⟩) n cap) (mix (uzF off l) l (off + k)) ∧ Below base w wr) (fun i _ => m - (intOf i).toNat)
 case atStart =>
  refine ⟨0,by omega,rfl,?_,Below.refl _ _⟩
  rw [mix_start _ _ _ (fun i hi _ => by unfold uzF; rw [if_neg (by omega)])]
  exact HN.out
 case round =>
  obtain ⟨k,hk,rfl,hN1,hb1⟩ := hrel
  have HB1 := hQz hb1
  have HN1 := hQz hN1
  clear hb1
  by_cases hlt : k < m
  ·have q2 : (k : Int) < (m : Int) := by omega
   have hA := HA.out (by omega)
   subst hA
   have hkl : off + k < l.length := by rw [HL.out]; omega
   have e1 := hN1.cell (off + k) (by rw [mix_length]; exact hkl)
   rw [mix_get _ _ _ _ hkl,if_neg (by omega)] at e1
   have e2 := hN1.frozen (off + k)
   have hbk := HB.out (off + k)
   have cu := fun wx => impl_unz (l.getD (off + k) 0) wx hbk.1 hbk.2
   have hS := hN1.stored (off + k) (unz (l.getD (off + k) 0))
   rw [show unz (l.getD (off + k) 0) = uzF off l (off + k) by unfold uzF; rw [if_pos (by omega)],mix_set _ _ _ hkl] at hS
   rw [show uzF off l (off + k) = unz (l.getD (off + k) 0) by unfold uzF; rw [if_pos (by omega)]] at hS
   have HS : Hid (Nums (wr.setCell ⟨g,off + k,none⟩ (.int .i64 (unz (l.getD (off + k) 0)))) base (.slice (some ⟨g,0,none⟩) n cap) (mix (uzF off l) l (off + k + 1))) := hS
   clear hS hN1 hkl hbk
   generalize zok (l.getD (off + k) 0) = zk at *
   generalize unz (l.getD (off + k) 0) = y at *
   generalize l.getD (off + k) 0 = x at *
   go_wp2_with fail
   refine (cu _).mono ?_
   rintro e w1 ⟨rfl,rfl⟩
   go_wp2_with fail
   go_roundw
   case rel => exact ⟨k + 1,by omega,by go_num,HS.out,HB1.out.setCell HG.out _⟩
   case measure => simp [intOf]; omega
  ·obtain rfl : k = m := by omega
   clear hN1
   go_wp2_with fail
   have h := HN1.out
   rw [mix_all _ _ _ (by rw [HL.out]; omega)] at h
   exact bodyPost_end (v := .tuple #[]) (by simp [results,go_sem]) rfl ⟨⟨_,rfl⟩,h,HB1.out⟩
set_option maxHeartbeats 1000000 in
theorem addUpV (off m : Nat) (l : List Int) (g cap base n : Nat) (A : Option Addr) (c : Nat) (w : World) (hN : Nums w base (.slice (some ⟨g,0,none⟩) n cap) l) (hl : l.length = off + m) (hA : 0 < m → A = some ⟨g,off,none⟩) (hm : m ≤ 1000) (hg : base ≤ g)
  (hb : ∀ j,j < l.length → -4611686018427387904 ≤ auF off l j ∧ auF off l j ≤ 4611686018427387904) :
  Calls Tryz.prog 234 #[.slice A m c] w fun e w' => (∃ u,e = .returned u) ∧ Nums w' base (.slice (some ⟨g,0,none⟩) n cap) (rowOf (auF off l) l.length) ∧ Below base w w' := by
 have HN := hQz hN
 have HL : Hid (l.length = off + m) := hl
 have HA : Hid (0 < m → A = some ⟨g,off,none⟩) := hA
 have HG : Hid (base ≤ g) := hg
 have HB : Hid (∀ j,j < l.length → -4611686018427387904 ≤ auF off l j ∧ auF off l j ≤ 4611686018427387904) := hb
 have q1 : (m : Int) ≤ 1000 := by omega
 clear hN hl hA hg hb
 go_enter Tryz.func234,Tryz.ntmps234
 go_wp2_with fail
 go_loopw [2] (fun v2 wr => ∃ k : Nat,1 ≤ k ∧ (k ≤ m ∨ k = 1) ∧ v2 = .int .i64 (k : Int) ∧ Nums wr base (.slice (some ⟨g,0,none⟩) n cap) (mix (auF off l) l (off + k)) ∧ Below base w wr) (fun i _ => m - (intOf i).toNat)
 case atStart =>
  refine ⟨1,by omega,by omega,rfl,?_,Below.refl _ _⟩
  rw [mix_start _ _ _ (fun i hi _ => auF_le off l i (by omega))]
  exact HN.out
 case round =>
  obtain ⟨k,hk1,hk,rfl,hN1,hb1⟩ := hrel
  have HB1 := hQz hb1
  have HN1 := hQz hN1
  clear hb1
  by_cases hlt : k < m
  ·have q2 : (k : Int) < (m : Int) := by omega
   have q3 : (1 : Int) ≤ (k : Int) := by omega
   have hA := HA.out (by omega)
   subst hA
   have hkl : off + k < l.length := by rw [HL.out]; omega
   have e1 := hN1.cell (off + k) (by rw [mix_length]; exact hkl)
   rw [mix_get _ _ _ _ hkl,if_neg (by omega)] at e1
   have e0 := hN1.cell (off + (k - 1)) (by rw [mix_length]; omega)
   rw [mix_get _ _ _ _ (by omega),if_pos (by omega)] at e0
   have e2 := hN1.frozen (off + k)
   have hbk := HB.out (off + k) hkl
   have hbj := HB.out (off + (k - 1)) (by omega)
   have ef := auF_gt off l (off + k) (by omega)
   rw [show off + k - 1 = off + (k - 1) by omega] at ef
   have hS := hN1.stored (off + k) (auF off l (off + k))
   rw [mix_set _ _ _ hkl] at hS
   have ef2 : auF off l (off + k) = l.getD (off + k) 0 + auF off l (off + (k - 1)) := by omega
   rw [ef2] at hS hbk
   have HS : Hid (Nums (wr.setCell ⟨g,off + k,none⟩ (.int .i64 (l.getD (off + k) 0 + auF off l (off + (k - 1))))) base (.slice (some ⟨g,0,none⟩) n cap) (mix (auF off l) l (off + k + 1))) := hS
   clear hS hN1 hkl ef ef2
   generalize auF off l (off + (k - 1)) = y at *
   generalize l.getD (off + k) 0 = x at *
   have g1 : IntKind.i64.wrap ((k : Int) - 1) = (k : Int) - 1 := by rw [IntKind.wrap_i64]; omega
   have g3 : (0 : Int) ≤ (k : Int) - 1 := by omega
   have g4 : (k : Int) - 1 < (m : Int) := by omega
   have g5 : ((k : Int) - 1).toNat = k - 1 := by omega
   have g7 : IntKind.i64.wrap (x + y) = x + y := by rw [IntKind.wrap_i64]; omega
   have S0 : Hid (wr.cell? ⟨g,off + k,none⟩ = some (.int .i64 x) ∧ wr.cell? ⟨g,off + (k - 1),none⟩ = some (.int .i64 y)) := ⟨e1,e0⟩
   go_wp2_with fail
   refine wp_region_until (fun w' => w'.cell? ⟨g,off + k,none⟩ = some (.int .i64 x) ∧ w'.cell? ⟨g,off + (k - 1),none⟩ = some (.int .i64 y)) (fun i => i == 11) 12 (by rfl) (by kernel_rfl) ?_
   refine tKf 0 S0.out ?_
   refine tKf 1 S0.out ?_
   refine tKf 2 S0.out ?_
   refine tKf 3 S0.out ?_
   refine tKf 4 S0.out ?_
   refine tKf 5 S0.out ?_
   refine tKf 6 S0.out ?_
   refine tKf 7 S0.out ?_
   refine tKf 8 S0.out ?_
   refine tKf 9 S0.out ?_
   refine tKf 10 S0.out ?_
   refine uNe 11 (fun K hK => ?_)
   go_simp
   go_wp2_with fail
   refine hK.out _ _ (fun h => absurd h (by decide)) ?_
   clear hK K
   try simp only [Act.put,zQ1,zQ2,zQ3]
   refine until_done (by kernel_rfl) ?_ _
   go_wp2_with fail
   go_roundw
   case rel => exact ⟨k + 1,by omega,by omega,by go_num,HS.out,(HB1.out.setCell (p := ⟨g,off + k,none⟩) HG.out (.int .i64 (x + y))).drew⟩
   case measure => simp [intOf]; omega
  ·clear hN1
   have q2 : (m : Int) ≤ (k : Int) := by omega
   go_wp2_with fail
   have h := HN1.out
   rw [mix_all _ _ _ (by rw [HL.out]; omega)] at h
   exact bodyPost_end (v := .tuple #[]) (by simp [results,go_sem]) rfl ⟨⟨_,rfl⟩,h,HB1.out⟩
def rv (v : List Int) : Nat → Int
 | 0 => unz (v.getD 0 0)
 | i + 1 => rv v i + unz (v.getD (i + 1) 0)
def rowV (v : List Int) : List Int := rowOf (rv v) v.length
def gp (v : List Int) : Nat → Int
 | 0 => 0
 | i + 1 => gp v i + if i = 0 then v.getD 1 0 else unz (v.getD (i + 1) 0)
def rt (v : List Int) : Nat → Int
 | 0 => v.getD 0 0
 | i + 1 => rt v i + gp v (i + 1)
def rowT (v : List Int) : List Int := rowOf (rt v) v.length
theorem rv_bound (v : List Int) (i : Nat) : -140737488355328 * ((i : Int) + 1) ≤ rv v i ∧ rv v i ≤ 140737488355328 * ((i : Int) + 1) := by
 induction i with
 | zero => have := unz_range (v.getD 0 0); unfold rv; omega
 | succ i ih => have := unz_range (v.getD (i + 1) 0); unfold rv; omega
theorem gp_bound (v : List Int) (hv : ∀ j,0 ≤ v.getD j 0 ∧ v.getD j 0 ≤ 562949953421311) (i : Nat) : -140737488355328 * (i : Int) ≤ gp v i ∧ gp v i ≤ 562949953421311 + 140737488355328 * (i : Int) := by
 induction i with
 | zero => unfold gp; omega
 | succ i ih =>
  have h1 := hv 1
  have h2 := unz_range (v.getD (i + 1) 0)
  by_cases h0 : i = 0
  ·subst h0
   rw [gp,if_pos rfl]
   have : gp v 0 = 0 := rfl
   omega
  ·rw [gp,if_neg h0]
   omega
theorem rt_bound (v : List Int) (hv : ∀ j,0 ≤ v.getD j 0 ∧ v.getD j 0 ≤ 562949953421311) (i : Nat) (hi : i ≤ 60) : -9007199254740992 * ((i : Int) + 1) ≤ rt v i ∧ rt v i ≤ 9007199254740992 * ((i : Int) + 1) := by
 induction i with
 | zero => have := hv 0; unfold rt; omega
 | succ i ih =>
  have := gp_bound v hv (i + 1)
  have := ih (by omega)
  unfold rt
  omega
theorem rowV_made (v : List Int) : rowOf (auF 0 (rowOf (uzF 0 v) v.length)) v.length = rowV v := by
 have key : ∀ i,i < v.length → auF 0 (rowOf (uzF 0 v) v.length) i = rv v i := by
  intro i
  induction i with
  | zero =>
   intro h
   rw [auF,rowOf_get _ _ _ h]
   rfl
  | succ i ih =>
   intro h
   rw [auF_gt _ _ _ (by omega),Nat.add_sub_cancel,ih (by omega),rowOf_get _ _ _ h]
   rfl
 apply nums_ext
 ·rw [rowOf_length,rowV,rowOf_length]
 ·intro j hj
  rw [rowOf_length] at hj
  rw [rowOf_get _ _ _ hj,rowV,rowOf_get _ _ _ hj,key j hj]
theorem gaps_made (v : List Int) (hv : 1 ≤ v.length) (i : Nat) (hi : i < v.length) (h1 : 1 ≤ i) : auF 1 (rowOf (uzF (min 2 v.length) v) v.length) i = gp v i := by
 induction i with
 | zero => omega
 | succ i ih =>
  by_cases h0 : i = 0
  ·subst h0
   rw [auF_le _ _ _ (by omega),rowOf_get _ _ _ hi]
   unfold uzF
   rw [if_neg (by omega)]
   simp [gp]
  ·rw [auF_gt _ _ _ (by omega),Nat.add_sub_cancel,ih (by omega) (by omega),rowOf_get _ _ _ hi]
   conv => rhs; unfold gp
   rw [if_neg h0]
   unfold uzF
   rw [if_pos (by omega)]
theorem gaps_zero (v : List Int) (hv : 1 ≤ v.length) : auF 1 (rowOf (uzF (min 2 v.length) v) v.length) 0 = v.getD 0 0 := by
 rw [auF,rowOf_get _ _ _ (by omega)]
 unfold uzF
 rw [if_neg (by omega)]
theorem times_made (v : List Int) (hv : 1 ≤ v.length) (i : Nat) (hi : i < v.length) : auF 0 (rowOf (auF 1 (rowOf (uzF (min 2 v.length) v) v.length)) v.length) i = rt v i := by
 induction i with
 | zero =>
  rw [auF,rowOf_get _ _ _ hi,gaps_zero v hv]
  rfl
 | succ i ih =>
  rw [auF_gt _ _ _ (by omega),Nat.add_sub_cancel,ih (by omega),rowOf_get _ _ _ hi,gaps_made v hv _ hi (by omega)]
  rfl
theorem rowT_made (v : List Int) (hv : 1 ≤ v.length) : rowOf (auF 0 (rowOf (auF 1 (rowOf (uzF (min 2 v.length) v) v.length)) v.length)) v.length = rowT v := by
 apply nums_ext
 ·rw [rowOf_length,rowT,rowOf_length]
 ·intro j hj
  rw [rowOf_length] at hj
  rw [rowOf_get _ _ _ hj,rowT,rowOf_get _ _ _ hj,times_made v hv j hj]
def RdAns (shw : List Int → ByteArray) (row : List Int → List Int) (s : ByteArray) (n : Int) (l : List Int) (k : Nat) : Prop :=
 (∃ (m : Nat) (v : List Int),n = (m : Int) ∧ 1 ≤ m ∧ m ≤ 60 ∧ Rd s m v k ∧ shw (row v) = s.extract 0 k ∧ l = row v) ∨
 ((∀ (m : Nat) (v : List Int) (u : Nat),n = (m : Int) → 1 ≤ m → m ≤ 60 → Rd s m v u → shw (row v) ≠ s.extract 0 u) ∧ l = [] ∧ k = 0)
theorem RdAns.one {shw : List Int → ByteArray} {row : List Int → List Int} {s : ByteArray} {n : Int} {l l' : List Int} {k k' : Nat} (h : RdAns shw row s n l k) (h' : RdAns shw row s n l' k') : l = l' ∧ k = k' := by
 rcases h with ⟨m,v,h1,h2,h3,h4,h5,h6⟩ | ⟨h1,h2,h3⟩ <;> rcases h' with ⟨m',v',h1',h2',h3',h4',h5',h6'⟩ | ⟨h1',h2',h3'⟩
 ·obtain rfl : m = m' := by omega
  obtain ⟨rfl,rfl⟩ := h4.one h4'
  exact ⟨h6.trans h6'.symm,rfl⟩
 ·exact absurd h5 (h1' m v k h1 h2 h3 h4)
 ·exact absurd h5' (h1 m' v' k' h1' h2' h3' h4')
 ·exact ⟨h2.trans h2'.symm,h3.trans h3'.symm⟩
theorem extract_ne (s : ByteArray) (u : Nat) (h1 : 1 ≤ u) (h2 : u ≤ s.size) : txt [] ≠ s.extract 0 u := by
 intro h
 have := congrArg ByteArray.size h
 rw [ByteArray.size_extract,txt_size] at this
 simp at this
 omega
theorem rowV_length (v : List Int) : (rowV v).length = v.length := by rw [rowV,rowOf_length]
theorem rowT_length (v : List Int) : (rowT v).length = v.length := by rw [rowT,rowOf_length]
theorem showV_out (v : List Int) (j : Nat) (hj : j < v.length) (h : rv v j < -1099511627776 ∨ 1099511627776 < rv v j) : showV (rowV v) = txt [] := by
 unfold showV
 rw [if_neg]
 intro ho
 have := ho.2.2 j (by rw [rowV_length]; exact hj)
 rw [rowV,rowOf_get _ _ _ hj] at this
 omega
theorem showT_out (v : List Int) (j : Nat) (hj : j < v.length) (h : rt v j < 0 ∨ 1099511627776 < rt v j) : showT (rowT v) = txt [] := by
 unfold showT
 rw [if_neg]
 intro ho
 have := (ho.2.2 j (by rw [rowT_length]; exact hj)).1
 rw [rowT,rowOf_get _ _ _ hj] at this
 omega
theorem RdAns.few {shw : List Int → ByteArray} {row : List Int → List Int} {s : ByteArray} {m : Nat} (h : RdNo s m) : RdAns shw row s (m : Int) [] 0 := by
 refine .inr ⟨fun m' v u e _ _ hr => ?_,rfl,rfl⟩
 obtain rfl : m = m' := by omega
 exact absurd h hr.no
theorem RdAns.none {shw : List Int → ByteArray} {row : List Int → List Int} {s : ByteArray} {n : Int} (h : n < 1 ∨ 60 < n) : RdAns shw row s n [] 0 :=
 .inr ⟨fun m' v u e _ _ hr => by omega,rfl,rfl⟩
theorem RdAns.other {shw : List Int → ByteArray} {row : List Int → List Int} {s : ByteArray} {m : Nat} {v : List Int} {u : Nat} (hr : Rd s m v u) (h : shw (row v) ≠ s.extract 0 u) : RdAns shw row s (m : Int) [] 0 := by
 refine .inr ⟨fun m' v' u' e _ _ hr' => ?_,rfl,rfl⟩
 obtain rfl : m = m' := by omega
 obtain ⟨rfl,rfl⟩ := hr.one hr'
 exact h
theorem RdAns.yes {shw : List Int → ByteArray} {row : List Int → List Int} {s : ByteArray} {m : Nat} {v : List Int} {u : Nat} (h1 : 1 ≤ m) (h2 : m ≤ 60) (hr : Rd s m v u) (h : shw (row v) = s.extract 0 u) : RdAns shw row s (m : Int) (row v) u :=
 .inl ⟨m,v,rfl,h1,h2,hr,h,rfl⟩
theorem RdAns.short {shw : List Int → ByteArray} {row : List Int → List Int} {s : ByteArray} {n : Int} {l : List Int} {k : Nat} (hrow : ∀ v,(row v).length = v.length) (h : RdAns shw row s n l k) : l.length ≤ 60 ∧ k ≤ s.size := by
 rcases h with ⟨m,v,h1,h2,h3,h4,h5,h6⟩ | ⟨_,rfl,rfl⟩
 ·rw [h6,hrow,h4.length]
  exact ⟨h3,h4.le.2⟩
 ·simp
theorem bytes_ne {a b : ByteArray} (h : a ≠ b) : (a.toList == b.toList) = false := by
 rw [beq_eq_false_iff_ne]
 intro e
 apply h
 rw [Lib.toList_data,Lib.toList_data] at e
 cases a
 cases b
 simp only at e
 congr 1
 exact Array.ext' e
theorem bytes_eq {a b : ByteArray} (h : a = b) : (a.toList == b.toList) = true := by rw [h]; simp
theorem cat_split (f : Nat → List UInt8) (k n : Nat) (hk : k < n) : ∃ rest,cat f n = cat f k ++ (f k ++ rest) := by
 induction n with
 | zero => omega
 | succ n ih =>
  by_cases e : k = n
  ·subst e
   exact ⟨[],by rw [cat_succ,List.append_nil]⟩
  ·obtain ⟨rest,h⟩ := ih (by omega)
   exact ⟨rest ++ f n,by rw [cat_succ,h]; simp⟩
theorem extract_back (a b : List UInt8) : (txt (a ++ b)).extract a.length (txt (a ++ b)).size = txt b := by
 rw [txt_size]
 apply ByteArray.ext
 apply Array.toList_inj.1
 rw [Lib.extract_data]
 simp [txt]
theorem extract_front (a b : List UInt8) : (txt (a ++ b)).extract 0 a.length = txt a := by
 apply ByteArray.ext
 apply Array.toList_inj.1
 rw [Lib.extract_data]
 simp [txt]
theorem rd_cat (x : Nat → Nat) (n : Nat) (hx : ∀ i,i < n → x i ≤ 562949953421311) (tl : List UInt8) (k : Nat) (hk : k ≤ n) : Rd (txt (cat (fun i => vF 6 (x i)) n ++ tl)) k (rowOf (fun i => (x i : Int)) k) (cat (fun i => vF 6 (x i)) k).length := by
 induction k with
 | zero => exact ⟨rfl,rfl⟩
 | succ k ih =>
  obtain ⟨rest,h⟩ := cat_split (fun i => vF 6 (x i)) k n (by omega)
  have e : txt (cat (fun i => vF 6 (x i)) n ++ tl) = txt (cat (fun i => vF 6 (x i)) k ++ (vF 6 (x k) ++ (rest ++ tl))) := by rw [h]; simp
  have hf := find_var (x k) (rest ++ tl) (hx k (by omega))
  refine ⟨_,_,(vF 6 (x k)).length,ih (by omega),?_,?_,?_⟩
  ·rw [e,extract_back]
   exact hf.1
  ·rw [e,extract_back,hf.2,rowOf_succ]
  ·rw [cat_succ,List.length_append]
theorem rowOf_ext (f g : Nat → Int) (n : Nat) (h : ∀ i,i < n → f i = g i) : rowOf f n = rowOf g n := by
 apply nums_ext
 ·rw [rowOf_length,rowOf_length]
 ·intro j hj
  rw [rowOf_length] at hj
  rw [rowOf_get _ _ _ hj,rowOf_get _ _ _ hj,h j hj]
theorem gp_turn (l : List Int) (h : TOk l) (i : Nat) (h1 : 1 ≤ i) (hi : i < l.length) : gp (rowOf (turn l) l.length) i = dif l i := by
 induction i with
 | zero => omega
 | succ i ih =>
  by_cases h0 : i = 0
  ·subst h0
   rw [gp,if_pos rfl,rowOf_get _ _ _ hi]
   have : gp (rowOf (turn l) l.length) 0 = 0 := rfl
   rw [this]
   unfold turn
   rw [if_pos (by omega)]
   omega
  ·rw [gp,if_neg h0,ih (by omega) (by omega),rowOf_get _ _ _ hi]
   have d1 := h.dif (i + 1) hi
   have d2 := h.dif i (by omega)
   unfold turn
   rw [if_neg (by omega),Nat.add_sub_cancel,unz_zig _ (by omega) (by omega)]
   omega
theorem rt_turn (l : List Int) (h : TOk l) (i : Nat) (hi : i < l.length) : rt (rowOf (turn l) l.length) i = l.getD i 0 := by
 induction i with
 | zero =>
  rw [rt,rowOf_get _ _ _ hi]
  unfold turn dif prv
  simp
 | succ i ih =>
  rw [rt,ih (by omega),gp_turn l h (i + 1) (by omega) hi]
  unfold dif
  rw [prv_succ]
  omega
theorem rowT_turn (l : List Int) (h : TOk l) : rowT (rowOf (turn l) l.length) = l := by
 unfold rowT
 rw [rowOf_length]
 apply nums_ext
 ·rw [rowOf_length]
 ·intro j hj
  rw [rowOf_length] at hj
  rw [rowOf_get _ _ _ hj,rt_turn l h j hj]
theorem readT_back (l : List Int) (h : TOk l) (tl : List UInt8) : RdAns showT rowT (txt (cat (tPiece l) l.length ++ tl)) (l.length : Int) l (cat (tPiece l) l.length).length := by
 have hr := rd_cat (fun i => (turn l i).toNat) l.length (fun i hi => by have := h.turn i hi; omega) tl l.length (Nat.le_refl _)
 rw [rowOf_ext (fun i => (((turn l i).toNat : Nat) : Int)) (turn l) l.length (fun i hi => Int.toNat_of_nonneg (h.turn i hi).1)] at hr
 have hy := RdAns.yes (shw := showT) (row := rowT) h.1 h.2.1 hr (by rw [rowT_turn l h]; unfold showT; rw [if_pos h]; exact (extract_front _ _).symm)
 rw [rowT_turn l h] at hy
 exact hy
theorem rv_zig (l : List Int) (h : VOk l) (i : Nat) (hi : i < l.length) : rv (rowOf (fun i => zig (dif l i)) l.length) i = l.getD i 0 := by
 induction i with
 | zero =>
  have d := h.dif 0 hi
  rw [rv,rowOf_get _ _ _ hi,unz_zig _ (by omega) (by omega)]
  unfold dif prv
  simp
 | succ i ih =>
  have d := h.dif (i + 1) hi
  rw [rv,ih (by omega),rowOf_get _ _ _ hi,unz_zig _ (by omega) (by omega)]
  unfold dif
  rw [prv_succ]
  omega
theorem rowV_zig (l : List Int) (h : VOk l) : rowV (rowOf (fun i => zig (dif l i)) l.length) = l := by
 unfold rowV
 rw [rowOf_length]
 apply nums_ext
 ·rw [rowOf_length]
 ·intro j hj
  rw [rowOf_length] at hj
  rw [rowOf_get _ _ _ hj,rv_zig l h j hj]
theorem readV_back (l : List Int) (h : VOk l) (tl : List UInt8) : RdAns showV rowV (txt (cat (vPiece l) l.length ++ tl)) (l.length : Int) l (cat (vPiece l) l.length).length := by
 have hz : ∀ i,i < l.length → 0 ≤ zig (dif l i) := fun i hi => zig_pos _ (by have := h.dif i hi; omega) (by have := h.dif i hi; omega)
 have hr := rd_cat (fun i => (zig (dif l i)).toNat) l.length (fun i hi => by have := (zig_range (dif l i)).2; omega) tl l.length (Nat.le_refl _)
 rw [rowOf_ext (fun i => (((zig (dif l i)).toNat : Nat) : Int)) (fun i => zig (dif l i)) l.length (fun i hi => Int.toNat_of_nonneg (hz i hi))] at hr
 have hy := RdAns.yes (shw := showV) (row := rowV) h.1 h.2.1 hr (by rw [rowV_zig l h]; unfold showV; rw [if_pos h]; exact (extract_front _ _).symm)
 rw [rowV_zig l h] at hy
 exact hy
theorem showT_size (l : List Int) : (showT l).size ≤ 420 := by
 unfold showT
 split
 ·rename_i h
  rw [txt_size]
  have := cat_length (tPiece l) (tPiece_length l) l.length
  have := h.2.1
  omega
 ·rw [txt_size]; simp
theorem showV_size (l : List Int) : (showV l).size ≤ 420 := by
 unfold showV
 split
 ·rename_i h
  rw [txt_size]
  have := cat_length (vPiece l) (vPiece_length l) l.length
  have := h.2.1
  omega
 ·rw [txt_size]; simp
theorem cat_pos (f : Nat → List UInt8) (n : Nat) (h1 : 1 ≤ n) (h : 1 ≤ (f 0).length) : 1 ≤ (cat f n).length := by
 obtain ⟨rest,e⟩ := cat_split f 0 n (by omega)
 rw [e,cat_zero,List.nil_append,List.length_append]
 omega
def ts (l : List Pnt) : List Int := l.map fun p => p.t
def vs (l : List Pnt) : List Int := l.map fun p => p.v
theorem ts_length (l : List Pnt) : (ts l).length = l.length := by simp [ts]
theorem vs_length (l : List Pnt) : (vs l).length = l.length := by simp [vs]
theorem ts_get (l : List Pnt) (j : Nat) (h : j < l.length) : (ts l).getD j 0 = tAt l j := by
 rw [tAt,← getD_at l j h]
 simp [ts,List.getD,h]
theorem vs_get (l : List Pnt) (j : Nat) (h : j < l.length) : (vs l).getD j 0 = vAt l j := by
 rw [vAt,← getD_at l j h]
 simp [vs,List.getD,h]
theorem rows_of_ok {l : List Pnt} (h : POk l) (h1 : 1 ≤ l.length) : TOk (ts l) ∧ VOk (vs l) := by
 refine ⟨⟨by rw [ts_length]; exact h1,by rw [ts_length]; exact h.1,fun j hj => ?_⟩,by rw [vs_length]; exact h1,by rw [vs_length]; exact h.1,fun j hj => ?_⟩
 ·rw [ts_length] at hj
  rw [ts_get l j hj]
  refine ⟨(h.2 j hj).1.1,fun h0 => ?_⟩
  rw [ts_get l (j - 1) (by omega)]
  exact (h.2 j hj).2 h0
 ·rw [vs_length] at hj
  rw [vs_get l j hj]
  exact (h.2 j hj).1.2
theorem ok_of_rows {l : List Pnt} (h : TOk (ts l)) (h' : VOk (vs l)) : POk l := by
 refine ⟨by have := h.2.1; rwa [ts_length] at this,fun j hj => ?_⟩
 have h1 := h.2.2 j (by rw [ts_length]; exact hj)
 have h2 := h'.2.2 j (by rw [vs_length]; exact hj)
 rw [ts_get l j hj] at h1
 rw [vs_get l j hj] at h2
 refine ⟨⟨h1.1,h2⟩,fun h0 => ?_⟩
 have := h1.2 h0
 rwa [ts_get l (j - 1) (by omega)] at this
def zipP (t v : List Int) : List Pnt := List.zipWith Pnt.mk t v
theorem zipP_length (t v : List Int) : (zipP t v).length = min t.length v.length := by simp [zipP]
theorem zipP_rows : ∀ l : List Pnt,zipP (ts l) (vs l) = l
 | [] => rfl
 | p :: l => by
  have := zipP_rows l
  simp only [zipP,ts,vs,List.map_cons,List.zipWith_cons_cons] at this ⊢
  rw [this]
theorem ts_zip : ∀ (t v : List Int),t.length = v.length → ts (zipP t v) = t ∧ vs (zipP t v) = v
 | [],[],_ => ⟨rfl,rfl⟩
 | [],_ :: _,h => by simp at h
 | _ :: _,[],h => by simp at h
 | x :: t,y :: v,h => by
  have ih := ts_zip t v (by simpa using h)
  simp only [zipP,ts,vs,List.zipWith_cons_cons,List.map_cons] at ih ⊢
  rw [ih.1,ih.2]
  exact ⟨rfl,rfl⟩
theorem zipP_get (t v : List Int) (k : Nat) (h1 : k < t.length) (h2 : k < v.length) : (zipP t v).take (k + 1) = (zipP t v).take k ++ [⟨t.getD k 0,v.getD k 0⟩] := by
 have hk : k < (zipP t v).length := by rw [zipP_length]; omega
 rw [List.take_succ_eq_append_getElem hk]
 congr 2
 simp [zipP,List.getD,h1,h2]
def bodyB (l : List Pnt) : List UInt8 := vF 6 l.length ++ (cat (tPiece (ts l)) l.length ++ cat (vPiece (vs l)) l.length)
def showB (l : List Pnt) : ByteArray := if 1 ≤ l.length ∧ POk l then frame (txt (vF 6 l.length) ++ showT (ts l) ++ showV (vs l)) else txt []
theorem body_is {l : List Pnt} (h : POk l) (h1 : 1 ≤ l.length) : txt (vF 6 l.length) ++ showT (ts l) ++ showV (vs l) = txt (bodyB l) := by
 obtain ⟨ht,hv⟩ := rows_of_ok h h1
 unfold showT showV bodyB
 rw [if_pos ht,if_pos hv,ts_length,vs_length,txt_cat,txt_cat,List.append_assoc]
theorem bodyB_size {l : List Pnt} (h : POk l) : 1 ≤ (bodyB l).length ∧ (bodyB l).length ≤ 847 := by
 have h1 := vF_pos 6 l.length
 have h2 := vF_length 6 l.length
 have h3 := cat_length (tPiece (ts l)) (tPiece_length (ts l)) l.length
 have h4 := cat_length (vPiece (vs l)) (vPiece_length (vs l)) l.length
 have := h.1
 unfold bodyB
 simp only [List.length_append]
 omega
def Good (s : ByteArray) (l : List Pnt) : Prop := 1 ≤ l.length ∧ POk l ∧ showB l = s
theorem Good.frame {s : ByteArray} {l : List Pnt} (h : Good s l) : s = frameOf (txt (bodyB l)) := by
 obtain ⟨h1,h2,rfl⟩ := h
 have hb := bodyB_size h2
 rw [showB,if_pos ⟨h1,h2⟩,body_is h2 h1,Go.Proofs.YthhamlahdjokkaaGreatDoor.frame,if_neg (by rw [txt_size]; omega)]
theorem Good.read {s : ByteArray} {l : List Pnt} (h : Good s l) : code s = 0 ∧ 8 + rdv s 4 = s.size ∧ bodyOf s = txt (bodyB l) := by
 have hf := h.frame
 have hb := bodyB_size h.2.1
 have e : s = frameOf (txt (bodyB l)) ++ ByteArray.empty := by rw [ByteArray.append_empty]; exact hf
 have hz : (txt (bodyB l)).size ≤ 2000 := by rw [txt_size]; omega
 refine ⟨by rw [e]; exact code_frameOf _ _ (by rw [txt_size]; omega) hz,?_,by rw [e]; exact bodyOf_frameOf _ _ hz⟩
 have h4 : rdv s 4 = (txt (bodyB l)).size := by rw [e]; exact rdv_frameOf _ _ hz
 rw [h4,hf,frameOf_size]
def RdV (s : ByteArray) (n : Int) (k : Nat) : Prop := (FindV s k ∧ n = (vvS s 0 k : Int)) ∨ ((∀ j,¬ FindV s j) ∧ n = 0 ∧ k = 0)
theorem ReadV.rd {s : ByteArray} {e : Ending} (h : ReadV s e) : ∃ n k,RdV s n k ∧ e = .returned (.tuple #[.int .i64 n,.int .i64 (k : Int)]) := by
 rcases h with ⟨k,h1,h2⟩ | ⟨h1,h2⟩
 ·exact ⟨_,k,.inl ⟨h1,rfl⟩,h2⟩
 ·exact ⟨0,0,.inr ⟨h1,rfl,rfl⟩,h2⟩
theorem RdV.one {s : ByteArray} {n n' : Int} {k k' : Nat} (h : RdV s n k) (h' : RdV s n' k') : n = n' ∧ k = k' := by
 rcases h with ⟨h1,h2⟩ | ⟨h1,h2,h3⟩ <;> rcases h' with ⟨h1',h2'⟩ | ⟨h1',h2',h3'⟩
 ·obtain rfl := h1.one h1'
  exact ⟨h2.trans h2'.symm,rfl⟩
 ·exact absurd h1 (h1' k)
 ·exact absurd h1' (h1 k')
 ·exact ⟨h2.trans h2'.symm,h3.trans h3'.symm⟩
theorem RdV.le {s : ByteArray} {n : Int} {k : Nat} (h : RdV s n k) : k ≤ s.size ∧ k ≤ 7 ∧ 0 ≤ n := by
 rcases h with ⟨⟨_,h2,h3,_⟩,h4⟩ | ⟨_,h2,h3⟩
 ·exact ⟨h3,h2,by omega⟩
 ·omega
def bodyR (s : ByteArray) : ByteArray := if code s = 0 then bodyOf s else ⟨#[]⟩
theorem bodyR_size (s : ByteArray) : (bodyR s).size ≤ 2000 := by
 unfold bodyR
 split
 ·rename_i h
  obtain ⟨_,_,h2,h8,_⟩ := (code_zero s).1 h
  rw [bodyOf_size s h8]
  exact h2
 ·exact Nat.zero_le _
structure Steps (s : ByteArray) (n : Int) (k : Nat) (t : List Int) (a : Nat) (v : List Int) (b : Nat) : Prop where
 rn : RdV (bodyR s) n k
 rt : RdAns showT rowT ((bodyR s).extract k (bodyR s).size) n t a
 rv : RdAns showV rowV ((bodyR s).extract (k + a) (bodyR s).size) n v b
theorem Good.steps {s : ByteArray} {l : List Pnt} (h : Good s l) : Steps s (l.length : Int) (vF 6 l.length).length (ts l) (cat (tPiece (ts l)) l.length).length (vs l) (cat (vPiece (vs l)) l.length).length := by
 obtain ⟨hc,_,hb⟩ := h.read
 obtain ⟨ht,hv⟩ := rows_of_ok h.2.1 h.1
 have hB : bodyR s = txt (bodyB l) := by rw [bodyR,if_pos hc,hb]
 have hn : l.length ≤ 562949953421311 := by have := h.2.1.1; omega
 have hf := find_var l.length (cat (tPiece (ts l)) l.length ++ cat (vPiece (vs l)) l.length) hn
 refine ⟨?_,?_,?_⟩
 ·rw [hB]
  exact .inl ⟨hf.1,by unfold bodyB; rw [hf.2]⟩
 ·rw [hB,bodyB,extract_back]
  have := readT_back (ts l) ht (cat (vPiece (vs l)) l.length)
  rw [ts_length] at this
  exact this
 ·rw [hB]
  have e : bodyB l = (vF 6 l.length ++ cat (tPiece (ts l)) l.length) ++ cat (vPiece (vs l)) l.length := by rw [bodyB,List.append_assoc]
  have := readV_back (vs l) hv []
  rw [vs_length,List.append_nil] at this
  rw [e,← List.length_append,extract_back]
  exact this
theorem Steps.one {s : ByteArray} {n n' : Int} {k k' a a' b b' : Nat} {t t' v v' : List Int} (h : Steps s n k t a v b) (h' : Steps s n' k' t' a' v' b') : n = n' ∧ k = k' ∧ t = t' ∧ a = a' ∧ v = v' ∧ b = b' := by
 obtain ⟨rfl,rfl⟩ := h.rn.one h'.rn
 obtain ⟨rfl,rfl⟩ := h.rt.one h'.rt
 obtain ⟨rfl,rfl⟩ := h.rv.one h'.rv
 exact ⟨rfl,rfl,rfl,rfl,rfl,rfl⟩
theorem Steps.good {s : ByteArray} {n : Int} {k a b : Nat} {t v : List Int} (h : Steps s n k t a v b) {l : List Pnt} (hg : Good s l) : zipP t v = l ∧ n = (l.length : Int) ∧ t = ts l ∧ v = vs l ∧ 1 ≤ k ∧ 1 ≤ a ∧ 1 ≤ b ∧ k + a + b = (bodyR s).size := by
 obtain ⟨rfl,rfl,rfl,rfl,rfl,rfl⟩ := h.one hg.steps
 obtain ⟨hc,_,hb⟩ := hg.read
 have hB : bodyR s = txt (bodyB l) := by rw [bodyR,if_pos hc,hb]
 refine ⟨zipP_rows l,rfl,rfl,rfl,vF_pos _ _,cat_pos _ _ hg.1 (vF_pos _ _),cat_pos _ _ hg.1 (vF_pos _ _),?_⟩
 rw [hB,txt_size,bodyB]
 simp only [List.length_append]
 omega
theorem Good.one {s : ByteArray} {l m : List Pnt} (h : Good s l) (h' : Good s m) : l = m := by
 have := (h.steps.good h').1
 rw [zipP_rows] at this
 exact this
theorem RdAns.pos {shw : List Int → ByteArray} {row : List Int → List Int} {s : ByteArray} {n : Int} {l : List Int} {k : Nat} (hrow : ∀ v,(row v).length = v.length) (h : RdAns shw row s n l k) (hk : k ≠ 0) : n = (l.length : Int) ∧ 1 ≤ l.length ∧ l.length ≤ 60 ∧ shw l = s.extract 0 k ∧ k ≤ s.size := by
 rcases h with ⟨m,v,h1,h2,h3,h4,h5,h6⟩ | ⟨_,_,h0⟩
 ·have hl : l.length = m := by rw [h6,hrow,h4.length]
  exact ⟨by rw [hl]; exact h1,by omega,by omega,by rw [h6]; exact h5,h4.le.2⟩
 ·exact absurd h0 hk
theorem okT_of_show {l : List Int} {s : ByteArray} {k : Nat} (h : showT l = s.extract 0 k) (hk : k ≠ 0) (hs : k ≤ s.size) : TOk l := by
 by_cases ho : TOk l
 ·exact ho
 ·unfold showT at h
  rw [if_neg ho] at h
  exact absurd h (extract_ne s k (by omega) hs)
theorem okV_of_show {l : List Int} {s : ByteArray} {k : Nat} (h : showV l = s.extract 0 k) (hk : k ≠ 0) (hs : k ≤ s.size) : VOk l := by
 by_cases ho : VOk l
 ·exact ho
 ·unfold showV at h
  rw [if_neg ho] at h
  exact absurd h (extract_ne s k (by omega) hs)
theorem Steps.back {s : ByteArray} {n : Int} {k a b : Nat} {t v : List Int} (h : Steps s n k t a v b) (hc : code s = 0) (h8 : 8 + rdv s 4 = s.size) (hk : k ≠ 0) (ha : a ≠ 0) (hb : b ≠ 0) (hs : k + a + b = (bodyR s).size) : Good s (zipP t v) ∧ t.length = v.length ∧ n = (t.length : Int) := by
 obtain ⟨ht1,ht2,ht3,ht4,ht5⟩ := h.rt.pos rowT_length ha
 obtain ⟨hv1,hv2,hv3,hv4,hv5⟩ := h.rv.pos rowV_length hb
 have hlen : t.length = v.length := by omega
 have hT := okT_of_show ht4 ha ht5
 have hV := okV_of_show hv4 hb hv5
 obtain ⟨e1,e2⟩ := ts_zip t v hlen
 have hzl : (zipP t v).length = t.length := by rw [zipP_length]; omega
 have hP : POk (zipP t v) := ok_of_rows (by rw [e1]; exact hT) (by rw [e2]; exact hV)
 have hfv : FindV (bodyR s) k ∧ n = (vvS (bodyR s) 0 k : Int) := by
  rcases h.rn with h | ⟨_,_,h0⟩
  ·exact h
  ·exact absurd h0 hk
 obtain ⟨⟨c1,c2,c3,c4⟩,hn⟩ := hfv
 have hvar : txt (vF 6 (zipP t v).length) = (bodyR s).extract 0 k := by
  have hh := (var_eq (bodyR s) k c1 c2 c3).2 c4
  have hm : vvS (bodyR s) 0 k = (zipP t v).length := by omega
  rw [hm] at hh
  by_cases e : txt (vF 6 (zipP t v).length) = (bodyR s).extract 0 k
  ·exact e
  ·rw [bytes_ne e] at hh
   cases hh
 have hbody : txt (vF 6 (zipP t v).length) ++ showT (ts (zipP t v)) ++ showV (vs (zipP t v)) = bodyR s := by
  rw [e1,e2,hvar,ht4,hv4,ByteArray.extract_extract,ByteArray.extract_extract,Nat.add_zero,Nat.add_zero,Nat.min_eq_left (by omega),Nat.min_eq_left (by omega),ByteArray.extract_append_extract,show min 0 k = 0 by omega,show max k (k + a) = k + a by omega,ByteArray.extract_append_extract,show min 0 (k + a) = 0 by omega,show max (k + a) (k + a + b) = k + a + b by omega,hs,ByteArray.extract_zero_size]
 refine ⟨⟨by omega,hP,?_⟩,hlen,ht1⟩
 rw [showB,if_pos ⟨by omega,hP⟩,hbody,bodyR,if_pos hc]
 obtain ⟨g4,g1,g2,g8,gs⟩ := (code_zero s).1 hc
 rw [(frame_fits s g4 g1 g2 g8).2 gs,h8,ByteArray.extract_zero_size]
theorem Steps.empty {n : Int} {k a b : Nat} {t v : List Int} (h : Steps (txt []) n k t a v b) : t = [] := by
 have hc : ¬ code (txt []) = 0 := fun hc => by
  obtain ⟨h4,_⟩ := (code_zero _).1 hc
  rw [txt_size] at h4
  simp at h4
 have hB : bodyR (txt []) = ⟨#[]⟩ := by rw [bodyR,if_neg hc]
 have hz : n = 0 := by
  rcases h.rn with ⟨⟨h1,_,h3,_⟩,_⟩ | ⟨_,h0,_⟩
  ·rw [hB] at h3
   have : (ByteArray.mk #[]).size = 0 := rfl
   omega
  ·exact h0
 rcases h.rt with ⟨m,v,h1,h2,_⟩ | ⟨_,h0,_⟩
 ·omega
 ·exact h0
theorem Steps.shown {s : ByteArray} {n : Int} {k a b : Nat} {t v : List Int} (h : Steps s n k t a v b) (h1 : 1 ≤ (zipP t v).length) (hs : showB (zipP t v) = s) : Good s (zipP t v) := by
 by_cases hp : POk (zipP t v)
 ·exact ⟨h1,hp,hs⟩
 ·exfalso
  rw [showB,if_neg (fun hh => hp hh.2)] at hs
  subst hs
  rw [h.empty] at h1
  simp [zipP] at h1
def RbAns (s : ByteArray) (l : List Pnt) (ok : Bool) : Prop := (ok = true ∧ Good s l) ∨ (ok = false ∧ l = [] ∧ ∀ m,¬ Good s m)
theorem RbAns.one {s : ByteArray} {l m : List Pnt} {x y : Bool} (h : RbAns s l x) (h' : RbAns s m y) : l = m ∧ x = y := by
 rcases h with ⟨h1,h2⟩ | ⟨h1,h2,h3⟩ <;> rcases h' with ⟨h1',h2'⟩ | ⟨h1',h2',h3'⟩
 ·exact ⟨h2.one h2',h1.trans h1'.symm⟩
 ·exact absurd h2 (h3' l)
 ·exact absurd h2' (h3 m)
 ·exact ⟨h2.trans h2'.symm,h1.trans h1'.symm⟩
theorem RbAns.len {s : ByteArray} {l : List Pnt} {x : Bool} (h : RbAns s l x) : l.length ≤ 60 := by
 rcases h with ⟨_,h2⟩ | ⟨_,h2,_⟩
 ·exact h2.2.1.1
 ·rw [h2]; simp
theorem showB_size (l : List Pnt) : (showB l).size ≤ 900 := by
 unfold showB
 split
 ·rename_i h
  have hb := bodyB_size h.2
  rw [body_is h.2 h.1,frame,if_neg (by rw [txt_size]; omega),frameOf_size,txt_size]
  omega
 ·rw [txt_size]; simp
end Go.Proofs.YthhamlahdjokkaaGreatDoor
