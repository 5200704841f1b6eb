/- BldLay BtDif -/
import Derived.Test.YtpmgndgkmffcnaaGreatDoorRows
import Derived.Shelf.Strings.BuilderK
import Derived.WalkKit
import Derived.Below
import Derived.Test.YtpmgndgkmffcnaaGreatDoorQd19
namespace Go.Proofs.YtpmgndgkmffcnaaGreatDoor
open Go.Shelf Go.RowKit
set_option linter.unusedVariables false
def bldRen : Go.Shelf.Ren := ⟨fun | 166 => 156 | 169 => 159 | 240 => 174 | 276 => 181 | f => f, fun | 20 => 20 | 37 => 93 | 70 => 175 | 72 => 177 | 75 => 179 | 80 => 182 | 127 => 145 | 164 => 198 | t => t, fun g => g⟩
theorem bld_lays166 : Go.Proofs.Lays.n166 Tryz.prog bldRen where
 mixed := by kernel_rfl
 f166 := Tryz.func156.trans (congrArg some (by kernel_rfl))
 f240 := Tryz.func174.trans (congrArg some (by kernel_rfl))
 f276 := Tryz.func181.trans (congrArg some (by kernel_rfl))
 t0 := Tryz.underlying0
 a0 := Tryz.isAgg0
 z0 := Tryz.sizeOf0
 v0 := Tryz.zeroValue0
 t3 := Tryz.underlying3
 a3 := Tryz.isAgg3
 z3 := Tryz.sizeOf3
 v3 := Tryz.zeroValue3
 t4 := Tryz.underlying4
 a4 := Tryz.isAgg4
 z4 := Tryz.sizeOf4
 v4 := Tryz.zeroValue4
 t9 := Tryz.underlying9
 a9 := Tryz.isAgg9
 z9 := Tryz.sizeOf9
 v9 := Tryz.zeroValue9
 t20 := Tryz.underlying20
 a20 := Tryz.isAgg20
 z20 := Tryz.sizeOf20
 v20 := Tryz.zeroValue20
 t37 := Tryz.underlying93
 a37 := Tryz.isAgg93
 z37 := Tryz.sizeOf93
 v37 := Tryz.zeroValue93
 t70 := Tryz.underlying175
 a70 := Tryz.isAgg175
 z70 := Tryz.sizeOf175
 v70 := Tryz.zeroValue175
 t72 := Tryz.underlying177
 a72 := Tryz.isAgg177
 z72 := Tryz.sizeOf177
 v72 := Tryz.zeroValue177
 t75 := Tryz.underlying179
 a75 := Tryz.isAgg179
 z75 := Tryz.sizeOf179
 v75 := Tryz.zeroValue179
 t164 := Tryz.underlying198
 a164 := Tryz.isAgg198
 z164 := Tryz.sizeOf198
 v164 := Tryz.zeroValue198
theorem bld_lays169 : Go.Proofs.Lays.n169 Tryz.prog bldRen where
 mixed := by kernel_rfl
 f169 := Tryz.func159.trans (congrArg some (by kernel_rfl))
 t0 := Tryz.underlying0
 a0 := Tryz.isAgg0
 z0 := Tryz.sizeOf0
 v0 := Tryz.zeroValue0
 t3 := Tryz.underlying3
 a3 := Tryz.isAgg3
 z3 := Tryz.sizeOf3
 v3 := Tryz.zeroValue3
 t9 := Tryz.underlying9
 a9 := Tryz.isAgg9
 z9 := Tryz.sizeOf9
 v9 := Tryz.zeroValue9
 t37 := Tryz.underlying93
 a37 := Tryz.isAgg93
 z37 := Tryz.sizeOf93
 v37 := Tryz.zeroValue93
 t70 := Tryz.underlying175
 a70 := Tryz.isAgg175
 z70 := Tryz.sizeOf175
 v70 := Tryz.zeroValue175
 t72 := Tryz.underlying177
 a72 := Tryz.isAgg177
 z72 := Tryz.sizeOf177
 v72 := Tryz.zeroValue177
 t127 := Tryz.underlying145
 a127 := Tryz.isAgg145
 z127 := Tryz.sizeOf145
 v127 := Tryz.zeroValue145
theorem bld_extra : Go.Proofs.Builder.Extra Tryz.prog bldRen where
 sizeBuilder := by kernel_rfl
 liesBuilder := by kernel_rfl
 t5 := Tryz.underlying5
 a5 := Tryz.isAgg5
 z5 := Tryz.sizeOf5
 v5 := Tryz.zeroValue5
 infoByte := by kernel_rfl
 cellsByte := by kernel_rfl
 sizeByte := by kernel_rfl
 neB5 := by decide
theorem bldWrite (B b : Nat) (bs : List Value) (s : ByteArray) (w : World) (h : Lib.IsBuilderF 177 5 B b bs w) (hlen : bs.length + s.size ≤ 140737488355328) (hBw : B ≤ w.heap.size) :
  Calls Tryz.prog 156 #[.pointer (some ⟨b, 0, none⟩), .string s] w fun e w' => e = .returned (.tuple #[.int .i64 s.size, .nilIface]) ∧ (Lib.BuilderAtF 177 5 B b (.pointer (some ⟨b, 0, none⟩)) (bs ++ Lib.strCells s) w' ∧ Below B w w' ∧ Lib.OthersKept 5 (some b) w w') := Any.Builder_WriteString_k bld_lays166 bld_extra B b bs s w h hlen hBw
theorem bldString (B b : Nat) (l : List UInt8) (w : World) (h : Lib.IsBuilderF 177 5 B b (Lib.byteCells l) w) (hBw : B ≤ w.heap.size) :
  Calls Tryz.prog 159 #[.pointer (some ⟨b, 0, none⟩)] w fun e w' => e = .returned (.string ⟨l.toArray⟩) ∧ (Lib.IsBuilderF 177 5 B b (Lib.byteCells l) w' ∧ Below B w w' ∧ Lib.OthersKept 5 (some b) w w') := Any.Builder_String_any_k bld_lays169 bld_extra B b l w h hBw
end Go.Proofs.YtpmgndgkmffcnaaGreatDoor
namespace Go.Proofs.YtpmgndgkmffcnaaGreatDoor
open Go.ChangeShapes Go.WideShapes Go.ChangeAt Go.RowKit Go.PlainAid
set_option linter.unusedVariables false
set_option maxHeartbeats 1000000 in
theorem differencesV (l : List Int) (v : Value) (w : World) (B : Nat) (F : Nat) (caps : Array Value) (Inv : Nat → World → Prop)
  (hF : ∀ args w, (callFunc F args).run Tryz.prog w = .ok (.enter F args) w) (hn : l.length ≤ 1048576) (hd : ∀ k, k < l.length → -4611686018427387904 ≤ dif l k ∧ dif l k ≤ 4611686018427387904)
  (hv : ∀ k wx, Inv k wx → NumsV wx B v l) (h0 : Inv 0 w)
  (hC : ∀ k, k < l.length → ∀ wx, Inv k wx → Calls Tryz.prog F (#[.int .i64 (k : Int), .int .i64 (dif l k)] ++ caps) wx fun e w' => (∃ u, e = .returned u) ∧ Inv (k + 1) w') :
  Calls Tryz.prog 154 #[v, .func (.func F) #[] caps] w fun e w' => (∃ u, e = .returned u) ∧ Inv l.length w' := by
 have HV : Hid (∀ k wx, Inv k wx → NumsV wx B v l) := hv
 have HC : Hid (∀ k, k < l.length → ∀ wx, Inv k wx → Calls Tryz.prog F (#[.int .i64 (k : Int), .int .i64 (dif l k)] ++ caps) wx fun e w' => (∃ u, e = .returned u) ∧ Inv (k + 1) w') := hC
 have HD : Hid (∀ k, k < l.length → -4611686018427387904 ≤ dif l k ∧ dif l k ≤ 4611686018427387904) := hd
 obtain ⟨A, cap, rfl, _, _, hl⟩ := hv 0 w h0
 have q0 : (l.length : Int) ≤ 1048576 := by omega
 clear hl hn hd hv hC
 generalize hN : l.length = n at *
 have HN : Hid (l.length = n) := hN
 clear hN
 go_enter Tryz.func154, Tryz.ntmps154
 go_wp2
 go_loopw [4, 9] (fun v4 v9 wr => ∃ k : Nat, k ≤ n ∧ v9 = .int .i64 (k : Int) ∧ v4 = .int .i64 (prv l k) ∧ Inv k wr) (fun _ i _ => n - (intOf i).toNat)
 case atStart => exact ⟨0, by omega, rfl, rfl, h0⟩
 case round =>
  obtain ⟨k, hk, rfl, rfl, hI⟩ := hrel
  by_cases hlt : k < n
  ·have q2 : (k : Int) < (n : Int) := by omega
   obtain ⟨A', cap', e', _, _, hl⟩ := HV.out k wr hI
   injection e' with ea eb ec
   subst ea
   subst ec
   obtain ⟨g, off, rfl, _, e1⟩ := hl k (by rw [HN.out]; exact hlt)
   have hdk := HD.out k hlt
   have cC := HC.out k hlt wr hI
   have HP : Hid (prv l (k + 1) = l.getD k 0) := prv_succ l k
   have ed : dif l k = l.getD k 0 - prv l k := rfl
   rw [ed] at hdk cC
   generalize l.getD k 0 = x at *
   generalize prv l k = y at *
   have hw : wrap64 (x - y) = x - y := by unfold wrap64; omega
   clear hl eb ed
   go_wp2_with fail
   refine cC.mono ?_
   rintro e w1 ⟨⟨u, rfl⟩, hI1⟩
   go_wp2_with fail
   go_roundw
   case rel => exact ⟨k + 1, by omega, by go_num, by rw [HP.out], hI1⟩
   case measure => simp [intOf]; omega
  ·obtain rfl : k = n := by omega
   go_wp2_with fail
   exact bodyPost_end (v := .tuple #[]) (by simp [results, go_sem]) rfl ⟨⟨_, rfl⟩, hI⟩
theorem strCells_append (a b : ByteArray) : Lib.strCells (a ++ b) = Lib.strCells a ++ Lib.strCells b := by simp [Lib.strCells, ByteArray.data_append]
theorem strCells_txt (l m : List UInt8) : Lib.strCells (txt (l ++ m)) = Lib.strCells (txt l) ++ Lib.strCells (txt m) := by rw [← txt_cat, strCells_append]
theorem bld_on {w w' : World} {B b : Nat} {bs : List Value} (h : Lib.IsBuilderF 177 5 B b bs w) (hb : Below w.heap.size w w') : Lib.IsBuilderF 177 5 B b bs w' := by
 have key : ∀ p, Lib.BuilderAtF 177 5 B b p bs w → Lib.BuilderAtF 177 5 B b p bs w' := by
  rintro p ⟨hB, v, hh, hown, hne⟩
  refine ⟨hB, v, by rw [hb.block b (lt_of_block hh)]; exact hh, ⟨hown.1, ?_⟩, hne⟩
  rcases hown.2 with h | ⟨g, cap, cur, fz, rfl, hbg, hg, rest⟩
  ·exact .inl h
  ·refine .inr ⟨g, cap, cur, fz, rfl, hbg, ?_, rest⟩
   rw [hb.block g (Array.getElem?_eq_some_iff.1 hg).1]
   exact hg
 exact h.imp (key _) (key _)
theorem bld_new {w : World} {b : Nat} (h : w.heap[b]? = some (.cells #[.pointer none, .slice none 0 0] 177 (0, 0))) : Lib.IsBuilderF 177 5 b b (Lib.strCells ByteArray.empty) w :=
 .inl ⟨Nat.le_refl _, .slice none 0 0, h, ⟨rfl, .inl ⟨rfl, rfl⟩⟩, fun e => by cases e⟩
def Bld (gb : Nat) (l : List UInt8) (w : World) : Prop := Lib.IsBuilderF 177 5 gb gb (Lib.strCells (txt l)) w
theorem Bld.on {gb : Nat} {l : List UInt8} {w w' : World} (h : Bld gb l w) (hb : Below w.heap.size w w') : Bld gb l w' := bld_on h hb
theorem bldWriteT (gb : Nat) (l m : List UInt8) (w : World) (h : Bld gb l w) (hlen : l.length + m.length ≤ 1048576) (hBw : gb ≤ w.heap.size) :
  Calls Tryz.prog 156 #[.pointer (some ⟨gb, 0, none⟩), .string (txt m)] w fun e w' => e = .returned (.tuple #[.int .i64 (m.length : Int), .nilIface]) ∧ Bld gb (l ++ m) w' ∧ Below gb w w' ∧ Lib.OthersKept 5 (some gb) w w' := by
 refine (bldWrite gb gb _ (txt m) w h (by rw [Lib.strCells_length]; have h1 := txt_size l; have h2 := txt_size m; omega) hBw).mono ?_
 rintro e w' ⟨rfl, h1, h2, h3⟩
 refine ⟨by rw [txt_size], ?_, h2, h3⟩
 unfold Bld
 rw [strCells_txt]
 exact .inr h1
theorem bldStringT (gb : Nat) (l : List UInt8) (w : World) (h : Bld gb l w) (hBw : gb ≤ w.heap.size) :
  Calls Tryz.prog 159 #[.pointer (some ⟨gb, 0, none⟩)] w fun e w' => e = .returned (.string (txt l)) ∧ Below gb w w' := by
 have h' : Lib.IsBuilderF 177 5 gb gb (Lib.byteCells l) w := by
  have : Lib.strCells (txt l) = Lib.byteCells l := by simp [Lib.strCells, Lib.byteCells, txt]
  rw [← this]
  exact h
 refine (bldString gb gb l w h' hBw).mono ?_
 rintro e w' ⟨rfl, _, h2, _⟩
 exact ⟨rfl, h2⟩
set_option maxHeartbeats 1000000 in
theorem specShowValues (l : List Int) (v : Value) (w : World) (B : Nat) (hv : NumsV w B v l) (hn : l.length ≤ 1048576) (hB : B ≤ w.heap.size) : Calls Tryz.prog 113 #[v] w fun e w' => e = .returned (.string (showV l)) ∧ Below w.heap.size w w' := by
 have c := specValuesOk l v w B hv hn
 have HV : Hid (NumsV w B v l) := hv
 have HB : Hid (B ≤ w.heap.size) := hB
 obtain ⟨A, cap, rfl, _, _, _⟩ := hv
 by_cases ho : VOk l
 ·have HE : Hid (showV l = txt (cat (vPiece l) l.length)) := by unfold Hid showV; rw [if_pos ho]
  have HO : Hid (VOk l) := ho
  rw [decide_eq_true ho] at c
  have q0 : (l.length : Int) ≤ 60 := by have := ho.2.1; omega
  clear ho hn hB
  generalize hN : l.length = n at *
  have HN : Hid (l.length = n) := hN
  clear hN
  go_enter Tryz.func113, Tryz.ntmps113
  go_wp2_with fail
  refine c.mono ?_
  rintro e w0 ⟨rfl, rfl⟩
  go_wp2_with fail
  go_loopw [3, 4, 5] (fun v3 v4 v5 wr => ∃ k : Nat, k ≤ n ∧ v5 = .int .i64 (k : Int) ∧ v4 = .int .i64 (prv l k) ∧ v3 = .string (txt (cat (vPiece l) k)) ∧ Below w.heap.size w wr) (fun _ _ i _ => n - (intOf i).toNat)
  case atStart => exact ⟨0, by omega, rfl, rfl, rfl, Below.refl _ _⟩
  case round =>
   obtain ⟨k, hk, rfl, rfl, rfl, hb⟩ := hrel
   have HB1 : Hid (Below w.heap.size w wr) := hb
   by_cases hlt : k < n
   ·have q2 : (k : Int) < (n : Int) := by omega
    obtain ⟨A', cap', e', _, _, hl⟩ := HV.out.on (hb.mono HB.out)
    injection e' with ea eb ec
    subst ea
    subst ec
    obtain ⟨g, off, rfl, hgB, e1⟩ := hl k (by rw [HN.out]; exact hlt)
    have hdk := HO.out.dif k (by rw [HN.out]; exact hlt)
    have cz := fun wx => spec_zig (dif l k) wx (by omega) (by omega)
    have hz0 := zig_pos (dif l k) (by omega) (by omega)
    have hz1 := (zig_range (dif l k)).2
    have cv := fun wx => spec_var (zig (dif l k)).toNat wx (by omega)
    rw [Int.toNat_of_nonneg hz0] at cv
    have HP : Hid (prv l (k + 1) = l.getD k 0) := prv_succ l k
    have ed : dif l k = l.getD k 0 - prv l k := rfl
    have ecat : cat (vPiece l) (k + 1) = cat (vPiece l) k ++ vF 6 (zig (dif l k)).toNat := cat_succ _ _
    have hl1 := cat_length (vPiece l) (vPiece_length l) k
    have hl2 := vF_length 6 (zig (dif l k)).toNat
    have HCT : Hid (txt (cat (vPiece l) (k + 1)) = txt (cat (vPiece l) k) ++ txt (vF 6 (zig (dif l k)).toNat)) := by unfold Hid; rw [ecat, txt_cat]
    have hs1 := txt_size (cat (vPiece l) k)
    have hs2 := txt_size (vF 6 (zig (dif l k)).toNat)
    generalize txt (cat (vPiece l) k) = sa at *
    generalize txt (vF 6 (zig (dif l k)).toNat) = sb at *
    have hsum : sa.size + sb.size ≤ 9223372036854775807 := by omega
    generalize zig (dif l k) = z at *
    clear ecat hl1 hl2 hs1 hs2
    rw [ed] at hdk cz
    have he1 : ∀ wx, Below wr.heap.size wr wx → wx.cell? ⟨g, off + k, none⟩ = some (.int .i64 (l.getD k 0)) := fun wx hx => by rw [hx.cell (p := ⟨_, _, none⟩) (by have := hb.size; have := HB.out; show g < _; omega)]; exact e1
    generalize l.getD k 0 = x at *
    generalize prv l k = y at *
    have hw : wrap64 (x - y) = x - y := by unfold wrap64; omega
    clear hl eb ed hb
    go_wp2_with fail
    refine (cz _).mono ?_
    rintro e w1 ⟨rfl, rfl⟩
    go_wp2_with fail
    refine (cv _).mono ?_
    rintro e w2 ⟨rfl, hb2⟩
    have e2 := he1 _ hb2
    have HB2 : Hid (Below w.heap.size w w2) := HB1.out.trans (hb2.mono HB1.out.size)
    clear he1 hb2
    go_wp2_with fail
    go_roundw
    case rel => exact ⟨k + 1, by omega, by go_num, by rw [HP.out], by rw [HCT.out], HB2.out⟩
    case measure => simp [intOf]; omega
   ·obtain rfl : k = n := by omega
    clear hb
    go_wp2_with fail
    go_ret
    exact ⟨by rw [HE.out]; rfl, HB1.out⟩
 ·have HE : Hid (showV l = txt []) := by unfold Hid showV; rw [if_neg ho]
  rw [decide_eq_false ho] at c
  clear ho
  go_enter Tryz.func113, Tryz.ntmps113
  go_wp2_with fail
  refine c.mono ?_
  rintro e w0 ⟨rfl, rfl⟩
  go_wp2_with fail
  go_ret
  exact ⟨by rw [HE.out]; rfl, Below.refl _ _⟩
set_option maxHeartbeats 1000000 in
theorem showVals1 (k : Nat) (d : Int) (gb : Nat) (l : List UInt8) (w : World) (h1 : -140737488355328 ≤ d) (h2 : d ≤ 140737488355328) (hb : Bld gb l w) (hl : l.length ≤ 1000) (hg : gb ≤ w.heap.size) :
  Calls Tryz.prog 161 #[.int .i64 (k : Int), .int .i64 d, .pointer (some ⟨gb, 0, none⟩)] w fun e w' => (∃ u, e = .returned u) ∧ Bld gb (l ++ vF 6 (zig d).toNat) w' ∧ Below gb w w' := by
 have cz := fun wx => impl_zig d wx (by omega) (by omega)
 have hz0 := zig_pos d h1 h2
 have hz1 := (zig_range d).2
 have cv := fun wx => impl_var (zig d).toNat wx (by omega)
 rw [Int.toNat_of_nonneg hz0] at cv
 have HBD : Hid (Bld gb l w) := hb
 have HG : Hid (gb ≤ w.heap.size) := hg
 have hvl := vF_length 6 (zig d).toNat
 have HL : Hid (l.length + (vF 6 (zig d).toNat).length ≤ 1048576) := by unfold Hid; omega
 clear hb hg hl hvl
 generalize hvv : vF 6 (zig d).toNat = vv at *
 generalize zig d = z at *
 go_enter Tryz.func161, Tryz.ntmps161
 go_wp2_with fail
 refine (cz _).mono ?_
 rintro e w1 ⟨rfl, rfl⟩
 go_wp2_with fail
 refine (cv _).mono ?_
 rintro e w2 ⟨rfl, hb2⟩
 have HB2 : Hid (Below gb w w2) := hb2.mono HG.out
 have Z2 : Hid (gb ≤ w2.heap.size) := Nat.le_trans HG.out hb2.size
 have L2 : Hid (Bld gb l w2) := HBD.out.on hb2
 clear hb2
 go_wp2_with fail
 refine (bldWriteT gb l vv w2 L2.out HL.out Z2.out).mono ?_
 rintro e w3 ⟨rfl, hB3, hb3, _⟩
 have HB3 : Hid (Below gb w w3) := HB2.out.trans hb3
 clear hb3
 go_wp2_with fail
 exact bodyPost_end (v := .tuple #[]) (by simp [results, go_sem]) rfl ⟨⟨_, rfl⟩, hB3, HB3.out⟩
set_option maxHeartbeats 1000000 in
theorem implShowValues (l : List Int) (v : Value) (w : World) (B : Nat) (hv : NumsV w B v l) (hn : l.length ≤ 1048576) (hB : B ≤ w.heap.size) : Calls Tryz.prog 135 #[v] w fun e w' => e = .returned (.string (showV l)) ∧ Below w.heap.size w w' := by
 have c := implValuesOk l v w B hv hn
 have HV : Hid (NumsV w B v l) := hv
 have HB : Hid (B ≤ w.heap.size) := hB
 obtain ⟨A, cap, rfl, _, _, _⟩ := hv
 by_cases ho : VOk l
 ·have HE : Hid (showV l = txt (cat (vPiece l) l.length)) := by unfold Hid showV; rw [if_pos ho]
  have HO : Hid (VOk l) := ho
  have HN : Hid (l.length ≤ 60) := ho.2.1
  rw [decide_eq_true ho] at c
  have k0 : (w.alloc (.cells #[.pointer none, .slice none 0 0] 177)).heap[w.heap.size]? = some (.cells #[.pointer none, .slice none 0 0] 177 (0, 0)) := heap_alloc_new w _
  have b0 : Below w.heap.size w (w.alloc (.cells #[.pointer none, .slice none 0 0] 177)) := (Below.refl _ _).alloc (Nat.le_refl _) _
  clear ho hB
  go_enter Tryz.func135, Tryz.ntmps135
  go_wp2_with fail
  refine c.mono ?_
  rintro e w0 ⟨rfl, rfl⟩
  go_wp2_with fail
  generalize w.alloc (.cells #[.pointer none, .slice none 0 0] 177) = W at *
  have cD := differencesV l (.slice A l.length cap) W B 161 #[.pointer (some ⟨w.heap.size, 0, none⟩)] (fun k wx => Below w.heap.size w wx ∧ Bld w.heap.size (cat (vPiece l) k) wx) (fun _ _ => by kernel_rfl) hn (fun k hk => by have := HO.out.dif k hk; omega) (fun k wx hx => HV.out.on (hx.1.mono HB.out)) ⟨b0, bld_new k0⟩ (fun k hk wx hx => by
   have hd := HO.out.dif k hk
   have hc := cat_length (vPiece l) (vPiece_length l) k
   have hN := HN.out
   refine (showVals1 k (dif l k) w.heap.size (cat (vPiece l) k) wx (by omega) (by omega) hx.2 (by omega) hx.1.size).mono ?_
   rintro e w' ⟨hu, h1, h2⟩
   exact ⟨hu, hx.1.trans h2, by rw [cat_succ]; exact h1⟩)
  refine cD.mono ?_
  rintro e w2 ⟨⟨u, rfl⟩, hb2, hB2⟩
  have cS := bldStringT w.heap.size _ w2 hB2 hb2.size
  have HB2 : Hid (Below w.heap.size w w2) := hb2
  clear hb2 hB2 cD b0 k0
  go_wp2_with fail
  refine cS.mono ?_
  rintro e w3 ⟨rfl, hb3⟩
  have HB3 : Hid (Below w.heap.size w w3) := HB2.out.trans hb3
  clear hb3 cS
  go_wp2_with fail
  go_ret
  exact ⟨by rw [HE.out]; rfl, HB3.out⟩
 ·have HE : Hid (showV l = txt []) := by unfold Hid showV; rw [if_neg ho]
  rw [decide_eq_false ho] at c
  clear ho
  go_enter Tryz.func135, Tryz.ntmps135
  go_wp2_with fail
  refine c.mono ?_
  rintro e w0 ⟨rfl, rfl⟩
  go_wp2_with fail
  go_ret
  exact ⟨by rw [HE.out]; rfl, Below.refl _ _⟩
end Go.Proofs.YtpmgndgkmffcnaaGreatDoor
