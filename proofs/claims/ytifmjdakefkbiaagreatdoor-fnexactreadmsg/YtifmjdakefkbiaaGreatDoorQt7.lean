/- TxMsg TrName TrRight TxOp TrAns BkReadS -/
import Derived.Test.YtifmjdakefkbiaaGreatDoorRows
import Derived.Test.YtifmjdakefkbiaaGreatDoorQt1
import Derived.Test.YtifmjdakefkbiaaGreatDoorQt2
import Derived.Test.YtifmjdakefkbiaaGreatDoorQt6
import Derived.Lib.OwnKind
import Derived.Deep.Cut
import Derived.Deep.CutRange
import Derived.Deep.CutBlock
import Derived.Handy
import Derived.WalkKit
import Derived.ProofKit
import Derived.OpenShut
import Derived.Below
import Derived.WalkSmall
import Derived.BigQuiet
import Derived.Deep.QuietTactic
import Derived.Deep.RegionWith
import Derived.Test.YtifmjdakefkbiaaGreatDoorQt5
open List (setIfInBounds_toArray set_cons_zero set_cons_succ)
namespace Go.Proofs.YtifmjdakefkbiaaGreatDoor
open Go.ChangeShapes Go.WideShapes Go.ChangeAt Go.RowKit Go.PlainAid
set_option linter.unusedVariables false
def DrawnM (w : World) (p : Nat) (e : Ending) (w' : World) : Prop := ∃ (x : Mg) (u : Value), e = .returned u ∧ MgO w' w.heap.size u x ∧ x.ents.length ≤ 8 ∧ (∀ y ∈ x.ents, y.data.size ≤ 1000) ∧ x.data.size ≤ 3000 ∧ AtS w' p ∧ Mod w.heap.size p w w'
theorem Owns.notBlk {w : World} {base : Nat} {e t : TypeId} {sz g : Nat} {v : Value} {R : List (List Value)} {cs : Array Value} (h : Owns w base e sz v R) (hb : Blk w g cs t) (hne : e ≠ t) : v.ownBlock ≠ some g := by
 intro hg
 obtain ⟨c, fz, e1⟩ := Lib.ownsRow_kind h.2 g hg
 unfold Blk at hb
 rw [e1] at hb
 cases hb
 exact hne rfl
def MgB (w : World) (p g : Nat) (wc : World) (k f d t i it c : Int) (y : Bool) (ua : Option Addr) (um uc : Nat) (es : List Ent) (da : ByteArray) : Prop :=
 (es.length ≤ 8 ∧ (∀ y ∈ es, y.data.size ≤ 1000) ∧ da.size ≤ 3000) ∧ Owns wc w.heap.size 75 2 (.slice ua um uc) (entR es) ∧ BxD w p g w.heap.size 31 wc #[.int .i64 0, .int .i64 0, .int .i64 0, .int .i64 0, .int .i64 0, .int .i64 0, .int .i64 0, .bool false, .slice none 0 0, .string ⟨#[]⟩] #[.int .i64 k, .int .i64 f, .int .i64 d, .int .i64 t, .int .i64 i, .int .i64 it, .int .i64 c, .bool y, .slice ua um uc, .string da]
theorem ownsC10n {w : World} {bs g sz : Nat} {e : TypeId} {u : Value} {r : List (List Value)} (h : Owns w bs e sz u r) (hn : u.ownBlock ≠ some g) (x0 x1 x2 x3 x4 x5 x6 x7 x8 x9 : Value) : Owns ((((((((((w.setCell ⟨g, 0, none⟩ x0).setCell ⟨g, 1, none⟩ x1).setCell ⟨g, 2, none⟩ x2).setCell ⟨g, 3, none⟩ x3).setCell ⟨g, 4, none⟩ x4).setCell ⟨g, 5, none⟩ x5).setCell ⟨g, 6, none⟩ x6).setCell ⟨g, 7, none⟩ x7).setCell ⟨g, 8, none⟩ x8).setCell ⟨g, 9, none⟩ x9) bs e sz u r := ((((((((((h.other hn 0 x0).other hn 1 x1).other hn 2 x2).other hn 3 x3).other hn 4 x4).other hn 5 x5).other hn 6 x6).other hn 7 x7).other hn 8 x8).other hn 9 x9)
theorem MgB.draw {w wc w' : World} {p g : Nat} {k f d t i it c : Int} {y : Bool} {ua : Option Addr} {um uc : Nat} {es : List Ent} {da : ByteArray} (h : MgB w p g wc k f d t i it c y ua um uc es da) (hA : AtS w' p) (hm : Mod wc.heap.size p wc w') : MgB w p g w' k f d t i it c y ua um uc es da :=
 ⟨h.1, h.2.1.mod hm h.2.2.hp (Nat.le_refl _), h.2.2.draw hA hm⟩
theorem MgB.a {w wc : World} {p g : Nat} {k f d t i it c : Int} {y : Bool} {ua : Option Addr} {um uc : Nat} {es : List Ent} {da : ByteArray} (h : MgB w p g wc k f d t i it c y ua um uc es da) : AtS wc p := h.2.2.a
theorem MgB.alloc {w wc : World} {p g : Nat} {k f d t i it c : Int} {y : Bool} {ua : Option Addr} {um uc : Nat} {es : List Ent} {da : ByteArray} (h : MgB w p g wc k f d t i it c y ua um uc es da) (o : Obj) : MgB w p g (wc.alloc o) k f d t i it c y ua um uc es da := by
 have hb : Below wc.heap.size wc (wc.alloc o) := (Below.refl _ _).alloc (Nat.le_refl _) _
 exact h.draw (h.a.below hb h.a.lt) (Mod.of_below hb)
set_option maxRecDepth 20000 in
set_option maxHeartbeats 8000000 in
theorem msg_any (w : World) (p : Nat) (h : AtS w p) : Calls Tryz.prog 77 #[.pointer (some ⟨p, 0, none⟩), .int .i64 5, .int .i64 3, .int .i64 6] w (DrawnM w p) := by
 have S0 : Hid (RsD w p w.heap.size 31 (w.alloc (.cells #[.int .i64 0, .int .i64 0, .int .i64 0, .int .i64 0, .int .i64 0, .int .i64 0, .int .i64 0, .bool false, .slice none 0 0, .string ⟨#[]⟩] 31)) #[.int .i64 0, .int .i64 0, .int .i64 0, .int .i64 0, .int .i64 0, .int .i64 0, .int .i64 0, .bool false, .slice none 0 0, .string ⟨#[]⟩]) := RsD.start h _ _
 clear h
 go_enter Tryz.func77, Tryz.ntmps77
 go_wp2_with fail
 generalize w.alloc (.cells #[.int .i64 0, .int .i64 0, .int .i64 0, .int .i64 0, .int .i64 0, .int .i64 0, .int .i64 0, .bool false, .slice none 0 0, .string ⟨#[]⟩] 31) = w0 at *
 refine (belowS w0 p 5 (by omega) (by omega) S0.out.a).mono ?_
 rintro e w1 ⟨k0, rfl, ⟨k00, k01⟩, hA, hm⟩
 have S1 : Hid (RsD w p w.heap.size 31 w1 #[.int .i64 0, .int .i64 0, .int .i64 0, .int .i64 0, .int .i64 0, .int .i64 0, .int .i64 0, .bool false, .slice none 0 0, .string ⟨#[]⟩]) := S0.out.draw hA hm
 clear hA hm S0
 go_wp2_with fail
 refine (belowS w1 p 5 (by omega) (by omega) S1.out.a).mono ?_
 rintro e w2 ⟨fr, rfl, -, hA, hm⟩
 have S2 : Hid (RsD w p w.heap.size 31 w2 #[.int .i64 0, .int .i64 0, .int .i64 0, .int .i64 0, .int .i64 0, .int .i64 0, .int .i64 0, .bool false, .slice none 0 0, .string ⟨#[]⟩]) := S1.out.draw hA hm
 clear hA hm S1
 go_wp2_with fail
 refine (belowS w2 p 5 (by omega) (by omega) S2.out.a).mono ?_
 rintro e w3 ⟨ds, rfl, -, hA, hm⟩
 have S3 : Hid (RsD w p w.heap.size 31 w3 #[.int .i64 0, .int .i64 0, .int .i64 0, .int .i64 0, .int .i64 0, .int .i64 0, .int .i64 0, .bool false, .slice none 0 0, .string ⟨#[]⟩]) := S2.out.draw hA hm
 clear hA hm S2
 go_wp2_with fail
 refine (belowS w3 p 3 (by omega) (by omega) S3.out.a).mono ?_
 rintro e w4 ⟨t0, rfl, ⟨t00, t01⟩, hA, hm⟩
 have S4 : Hid (RsD w p w.heap.size 31 w4 #[.int .i64 0, .int .i64 0, .int .i64 0, .int .i64 0, .int .i64 0, .int .i64 0, .int .i64 0, .bool false, .slice none 0 0, .string ⟨#[]⟩]) := S3.out.draw hA hm
 clear hA hm S3
 obtain ⟨g, hg⟩ : ∃ g, g = w4.heap.size := ⟨_, rfl⟩
 have q3 : decide (3 + t0 - 1 < 1) = false := decide_eq_false (by omega)
 have S5 : Hid (BxD w p g w.heap.size 31 (w4.alloc (.cells #[.int .i64 (1 + k0), .int .i64 fr, .int .i64 ds, .int .i64 (3 + t0 - 1), .int .i64 0, .int .i64 0, .int .i64 0, .bool false, .slice none 0 0, .string ⟨#[]⟩] 31)) #[.int .i64 0, .int .i64 0, .int .i64 0, .int .i64 0, .int .i64 0, .int .i64 0, .int .i64 0, .bool false, .slice none 0 0, .string ⟨#[]⟩] #[.int .i64 (1 + k0), .int .i64 fr, .int .i64 ds, .int .i64 (3 + t0 - 1), .int .i64 0, .int .i64 0, .int .i64 0, .bool false, .slice none 0 0, .string ⟨#[]⟩]) := by rw [hg]; exact S4.out.box _
 have e3 := S5.out.box.cell 3 _ rfl
 go_wp2_with fail
 rw [← hg]
 clear hg e3 S4
 generalize w4.alloc (.cells #[.int .i64 (1 + k0), .int .i64 fr, .int .i64 ds, .int .i64 (3 + t0 - 1), .int .i64 0, .int .i64 0, .int .i64 0, .bool false, .slice none 0 0, .string ⟨#[]⟩] 31) = w5 at *
 have tm0 : 2 ≤ 3 + t0 - 1 := by omega
 have tm1 : 3 + t0 - 1 ≤ 4 := by omega
 have kd0 : 1 ≤ 1 + k0 := by omega
 have kd1 : 1 + k0 ≤ 5 := by omega
 clear q3 t00 t01 k00 k01
 generalize 3 + t0 - 1 = tm at *
 generalize 1 + k0 = kd at *
 refine (belowS w5 p 8 (by omega) (by omega) S5.out.a).mono ?_
 rintro e w6 ⟨at1, rfl, ⟨a0, a1⟩, hA, hm⟩
 have S6 : Hid (BxD w p g w.heap.size 31 w6 #[.int .i64 0, .int .i64 0, .int .i64 0, .int .i64 0, .int .i64 0, .int .i64 0, .int .i64 0, .bool false, .slice none 0 0, .string ⟨#[]⟩] #[.int .i64 kd, .int .i64 fr, .int .i64 ds, .int .i64 tm, .int .i64 0, .int .i64 0, .int .i64 0, .bool false, .slice none 0 0, .string ⟨#[]⟩]) := S5.out.draw hA hm
 clear hA hm S5
 go_upto_if 36 with fail
 go_cut [11] from 12 to 41 (fun s11 wc => ∃ t : Int, (0 ≤ t ∧ t ≤ 10) ∧ s11 = .int .i64 t ∧ BxD w p g w.heap.size 31 wc #[.int .i64 0, .int .i64 0, .int .i64 0, .int .i64 0, .int .i64 0, .int .i64 0, .int .i64 0, .bool false, .slice none 0 0, .string ⟨#[]⟩] #[.int .i64 kd, .int .i64 fr, .int .i64 ds, .int .i64 tm, .int .i64 0, .int .i64 0, .int .i64 0, .bool false, .slice none 0 0, .string ⟨#[]⟩])
 case first =>
  by_cases hat : 0 < at1
  ·have e3 := S6.out.box.cell 3 _ rfl
   go_wp2_with fail
   clear e3
   refine (belowS w6 p tm (by omega) (by omega) S6.out.a).mono ?_
   rintro e w7 ⟨tt, rfl, ⟨tt0, tt1⟩, hA, hm⟩
   have S7 : Hid (BxD w p g w.heap.size 31 w7 #[.int .i64 0, .int .i64 0, .int .i64 0, .int .i64 0, .int .i64 0, .int .i64 0, .int .i64 0, .bool false, .slice none 0 0, .string ⟨#[]⟩] #[.int .i64 kd, .int .i64 fr, .int .i64 ds, .int .i64 tm, .int .i64 0, .int .i64 0, .int .i64 0, .bool false, .slice none 0 0, .string ⟨#[]⟩]) := S6.out.draw hA hm
   clear hA hm S6
   go_wp2_with fail
   go_meet
   exact ⟨1 + tt, by omega, by first | rfl | go_num, S7.out⟩
  ·go_wp2_with fail
   go_meet
   exact ⟨0, by omega, rfl, S6.out⟩
 case rest =>
  obtain ⟨t, ⟨tl, tr⟩, rfl, hS⟩ := hcut
  have S16 : Hid (BxD w p g w.heap.size 31 wc #[.int .i64 0, .int .i64 0, .int .i64 0, .int .i64 0, .int .i64 0, .int .i64 0, .int .i64 0, .bool false, .slice none 0 0, .string ⟨#[]⟩] #[.int .i64 kd, .int .i64 fr, .int .i64 ds, .int .i64 tm, .int .i64 0, .int .i64 0, .int .i64 0, .bool false, .slice none 0 0, .string ⟨#[]⟩]) := hS
  clear hS S6
  have e0 := S16.out.box.cell 0 _ rfl
  go_upto_block 0 with fail
  clear e0
  go_cut [] from 44 to 92 (fun wc => ∃ (k f d t i it c : Int) (y : Bool) (ua : Option Addr) (um uc : Nat) (es : List Ent) (da : ByteArray), MgB w p g wc k f d t i it c y ua um uc es da)
  case first =>
   rcases (show kd = 1 ∨ kd = 2 ∨ kd = 3 ∨ kd = 4 ∨ kd = 5 by omega) with rfl | rfl | rfl | rfl | rfl
   ·have e4 := S16.out.box.cell 4 _ rfl
    have f4 := S16.out.box.free 4
    have e5 := S16.out.box.cell 5 _ rfl
    have f5 := S16.out.box.free 5
    have S17 : Hid (BxD w p g w.heap.size 31 ((wc.setCell ⟨g, 4, none⟩ (.int .i64 at1)).setCell ⟨g, 5, none⟩ (.int .i64 t)) #[.int .i64 0, .int .i64 0, .int .i64 0, .int .i64 0, .int .i64 0, .int .i64 0, .int .i64 0, .bool false, .slice none 0 0, .string ⟨#[]⟩] #[.int .i64 1, .int .i64 fr, .int .i64 ds, .int .i64 tm, .int .i64 at1, .int .i64 t, .int .i64 0, .bool false, .slice none 0 0, .string ⟨#[]⟩]) := ((S16.out.set 4 (.int .i64 at1)).set 5 (.int .i64 t))
    go_wp2_with fail
    go_meet
    exact ⟨_, _, _, _, _, _, _, _, none, 0, 0, [], _, ⟨by decide, fun _ h => (by cases h), by decide⟩, Owns.nil _ _ _ _, S17.out⟩
   ·go_wp2_with fail
    refine (once_some wc p 4 (by omega) S16.out.a).mono ?_
    rintro e w7 ⟨bb, rfl, hA, hm⟩
    have S17 : Hid (BxD w p g w.heap.size 31 w7 #[.int .i64 0, .int .i64 0, .int .i64 0, .int .i64 0, .int .i64 0, .int .i64 0, .int .i64 0, .bool false, .slice none 0 0, .string ⟨#[]⟩] #[.int .i64 2, .int .i64 fr, .int .i64 ds, .int .i64 tm, .int .i64 0, .int .i64 0, .int .i64 0, .bool false, .slice none 0 0, .string ⟨#[]⟩]) := S16.out.draw hA hm
    clear hA hm S16
    cases bb
    ·have e7 := S17.out.box.cell 7 _ rfl
     have f7 := S17.out.box.free 7
     have S18 : Hid (BxD w p g w.heap.size 31 (w7.setCell ⟨g, 7, none⟩ (.bool true)) #[.int .i64 0, .int .i64 0, .int .i64 0, .int .i64 0, .int .i64 0, .int .i64 0, .int .i64 0, .bool false, .slice none 0 0, .string ⟨#[]⟩] #[.int .i64 2, .int .i64 fr, .int .i64 ds, .int .i64 tm, .int .i64 0, .int .i64 0, .int .i64 0, .bool true, .slice none 0 0, .string ⟨#[]⟩]) := (S17.out.set 7 (.bool true))
     go_wp2_with fail
     go_meet
     exact ⟨_, _, _, _, _, _, _, _, none, 0, 0, [], _, ⟨by decide, fun _ h => (by cases h), by decide⟩, Owns.nil _ _ _ _, S18.out⟩
    ·have e7 := S17.out.box.cell 7 _ rfl
     have f7 := S17.out.box.free 7
     have S18 : Hid (BxD w p g w.heap.size 31 (w7.setCell ⟨g, 7, none⟩ (.bool false)) #[.int .i64 0, .int .i64 0, .int .i64 0, .int .i64 0, .int .i64 0, .int .i64 0, .int .i64 0, .bool false, .slice none 0 0, .string ⟨#[]⟩] #[.int .i64 2, .int .i64 fr, .int .i64 ds, .int .i64 tm, .int .i64 0, .int .i64 0, .int .i64 0, .bool false, .slice none 0 0, .string ⟨#[]⟩]) := (S17.out.set 7 (.bool false))
     go_wp2_with fail
     go_meet
     exact ⟨_, _, _, _, _, _, _, _, none, 0, 0, [], _, ⟨by decide, fun _ h => (by cases h), by decide⟩, Owns.nil _ _ _ _, S18.out⟩
   ·have e4 := S16.out.box.cell 4 _ rfl
    have f4 := S16.out.box.free 4
    have e5 := S16.out.box.cell 5 _ rfl
    have f5 := S16.out.box.free 5
    have S17 : Hid (BxD w p g w.heap.size 31 ((wc.setCell ⟨g, 4, none⟩ (.int .i64 at1)).setCell ⟨g, 5, none⟩ (.int .i64 t)) #[.int .i64 0, .int .i64 0, .int .i64 0, .int .i64 0, .int .i64 0, .int .i64 0, .int .i64 0, .bool false, .slice none 0 0, .string ⟨#[]⟩] #[.int .i64 3, .int .i64 fr, .int .i64 ds, .int .i64 tm, .int .i64 at1, .int .i64 t, .int .i64 0, .bool false, .slice none 0 0, .string ⟨#[]⟩]) := ((S16.out.set 4 (.int .i64 at1)).set 5 (.int .i64 t))
    go_wp2_with fail
    clear e4 f4 e5 f5 S16
    generalize (wc.setCell ⟨g, 4, none⟩ (.int .i64 at1)).setCell ⟨g, 5, none⟩ (.int .i64 t) = w7 at *
    refine (belowS w7 p 9 (by omega) (by omega) S17.out.a).mono ?_
    rintro e w8 ⟨cm, rfl, -, hA, hm⟩
    have S18 : Hid (BxD w p g w.heap.size 31 w8 #[.int .i64 0, .int .i64 0, .int .i64 0, .int .i64 0, .int .i64 0, .int .i64 0, .int .i64 0, .bool false, .slice none 0 0, .string ⟨#[]⟩] #[.int .i64 3, .int .i64 fr, .int .i64 ds, .int .i64 tm, .int .i64 at1, .int .i64 t, .int .i64 0, .bool false, .slice none 0 0, .string ⟨#[]⟩]) := S17.out.draw hA hm
    clear hA hm S17
    have e3 := S18.out.box.cell 3 _ rfl
    have f3 := S18.out.box.free 3
    have e6 := S18.out.box.cell 6 _ rfl
    have f6 := S18.out.box.free 6
    have S19 : Hid (BxD w p g w.heap.size 31 (w8.setCell ⟨g, 6, none⟩ (.int .i64 cm)) #[.int .i64 0, .int .i64 0, .int .i64 0, .int .i64 0, .int .i64 0, .int .i64 0, .int .i64 0, .bool false, .slice none 0 0, .string ⟨#[]⟩] #[.int .i64 3, .int .i64 fr, .int .i64 ds, .int .i64 tm, .int .i64 at1, .int .i64 t, .int .i64 cm, .bool false, .slice none 0 0, .string ⟨#[]⟩]) := (S18.out.set 6 (.int .i64 cm))
    go_wp2_with fail
    clear e3 f3 e6 f6 S18
    generalize w8.setCell ⟨g, 6, none⟩ (.int .i64 cm) = w9 at *
    have HGB : Hid (w.heap.size ≤ w9.heap.size) := S19.out.m.size
    refine (entries_any4 w9 p t tm (by omega) (by omega) S19.out.a).mono ?_
    rintro e w10 ⟨u, es, rfl, hO, hl, hd, hA, hm⟩
    have S20 : Hid (BxD w p g w.heap.size 31 w10 #[.int .i64 0, .int .i64 0, .int .i64 0, .int .i64 0, .int .i64 0, .int .i64 0, .int .i64 0, .bool false, .slice none 0 0, .string ⟨#[]⟩] #[.int .i64 3, .int .i64 fr, .int .i64 ds, .int .i64 tm, .int .i64 at1, .int .i64 t, .int .i64 cm, .bool false, .slice none 0 0, .string ⟨#[]⟩]) := S19.out.draw hA hm
    clear hA hm S19
    obtain ⟨Ae, me, ce, rfl⟩ := hO.shape
    have OO : Hid (Owns w10 w.heap.size 75 2 (.slice Ae me ce) (entR es)) := hO.mono HGB.out
    have HEL : Hid (es.length ≤ 8) := Nat.le_succ_of_le hl
    have HED : Hid (∀ y ∈ es, y.data.size ≤ 1000) := hd
    clear hO hl hd HGB
    have e8 := S20.out.box.cell 8 _ rfl
    have f8 := S20.out.box.free 8
    have S21 : Hid (BxD w p g w.heap.size 31 (w10.setCell ⟨g, 8, none⟩ (.slice Ae me ce)) #[.int .i64 0, .int .i64 0, .int .i64 0, .int .i64 0, .int .i64 0, .int .i64 0, .int .i64 0, .bool false, .slice none 0 0, .string ⟨#[]⟩] #[.int .i64 3, .int .i64 fr, .int .i64 ds, .int .i64 tm, .int .i64 at1, .int .i64 t, .int .i64 cm, .bool false, .slice Ae me ce, .string ⟨#[]⟩]) := (S20.out.set 8 (.slice Ae me ce))
    go_wp2_with fail
    go_meet
    exact ⟨_, _, _, _, _, _, _, _, Ae, me, ce, es, _, ⟨HEL.out, HED.out, by decide⟩, OO.out.other (OO.out.notBlk S20.out.box (by decide)) 8 _, S21.out⟩
   ·go_wp2_with fail
    refine (once_some wc p 3 (by omega) S16.out.a).mono ?_
    rintro e w7 ⟨bb, rfl, hA, hm⟩
    have S17 : Hid (BxD w p g w.heap.size 31 w7 #[.int .i64 0, .int .i64 0, .int .i64 0, .int .i64 0, .int .i64 0, .int .i64 0, .int .i64 0, .bool false, .slice none 0 0, .string ⟨#[]⟩] #[.int .i64 4, .int .i64 fr, .int .i64 ds, .int .i64 tm, .int .i64 0, .int .i64 0, .int .i64 0, .bool false, .slice none 0 0, .string ⟨#[]⟩]) := S16.out.draw hA hm
    clear hA hm S16
    cases bb
    ·have e4 := S17.out.box.cell 4 _ rfl
     have f4 := S17.out.box.free 4
     have e7 := S17.out.box.cell 7 _ rfl
     have f7 := S17.out.box.free 7
     have S18 : Hid (BxD w p g w.heap.size 31 ((w7.setCell ⟨g, 7, none⟩ (.bool true)).setCell ⟨g, 4, none⟩ (.int .i64 at1)) #[.int .i64 0, .int .i64 0, .int .i64 0, .int .i64 0, .int .i64 0, .int .i64 0, .int .i64 0, .bool false, .slice none 0 0, .string ⟨#[]⟩] #[.int .i64 4, .int .i64 fr, .int .i64 ds, .int .i64 tm, .int .i64 at1, .int .i64 0, .int .i64 0, .bool true, .slice none 0 0, .string ⟨#[]⟩]) := ((S17.out.set 7 (.bool true)).set 4 (.int .i64 at1))
     go_wp2_with fail
     go_meet
     exact ⟨_, _, _, _, _, _, _, _, none, 0, 0, [], _, ⟨by decide, fun _ h => (by cases h), by decide⟩, Owns.nil _ _ _ _, S18.out⟩
    ·have e4 := S17.out.box.cell 4 _ rfl
     have f4 := S17.out.box.free 4
     have e7 := S17.out.box.cell 7 _ rfl
     have f7 := S17.out.box.free 7
     have S18 : Hid (BxD w p g w.heap.size 31 ((w7.setCell ⟨g, 7, none⟩ (.bool false)).setCell ⟨g, 4, none⟩ (.int .i64 at1)) #[.int .i64 0, .int .i64 0, .int .i64 0, .int .i64 0, .int .i64 0, .int .i64 0, .int .i64 0, .bool false, .slice none 0 0, .string ⟨#[]⟩] #[.int .i64 4, .int .i64 fr, .int .i64 ds, .int .i64 tm, .int .i64 at1, .int .i64 0, .int .i64 0, .bool false, .slice none 0 0, .string ⟨#[]⟩]) := ((S17.out.set 7 (.bool false)).set 4 (.int .i64 at1))
     go_wp2_with fail
     go_meet
     exact ⟨_, _, _, _, _, _, _, _, none, 0, 0, [], _, ⟨by decide, fun _ h => (by cases h), by decide⟩, Owns.nil _ _ _ _, S18.out⟩
   ·have e3 := S16.out.box.cell 3 _ rfl
    have f3 := S16.out.box.free 3
    have e4 := S16.out.box.cell 4 _ rfl
    have f4 := S16.out.box.free 4
    have S17 : Hid (BxD w p g w.heap.size 31 (wc.setCell ⟨g, 4, none⟩ (.int .i64 (1 + at1))) #[.int .i64 0, .int .i64 0, .int .i64 0, .int .i64 0, .int .i64 0, .int .i64 0, .int .i64 0, .bool false, .slice none 0 0, .string ⟨#[]⟩] #[.int .i64 5, .int .i64 fr, .int .i64 ds, .int .i64 tm, .int .i64 (1 + at1), .int .i64 0, .int .i64 0, .bool false, .slice none 0 0, .string ⟨#[]⟩]) := (S16.out.set 4 (.int .i64 (1 + at1)))
    go_wp2_with fail
    clear e3 f3 e4 f4 S16
    generalize wc.setCell ⟨g, 4, none⟩ (.int .i64 (1 + at1)) = w7 at *
    refine (belowS w7 p tm (by omega) (by omega) S17.out.a).mono ?_
    rintro e w8 ⟨it, rfl, ⟨it0, it1⟩, hA, hm⟩
    have S18 : Hid (BxD w p g w.heap.size 31 w8 #[.int .i64 0, .int .i64 0, .int .i64 0, .int .i64 0, .int .i64 0, .int .i64 0, .int .i64 0, .bool false, .slice none 0 0, .string ⟨#[]⟩] #[.int .i64 5, .int .i64 fr, .int .i64 ds, .int .i64 tm, .int .i64 (1 + at1), .int .i64 0, .int .i64 0, .bool false, .slice none 0 0, .string ⟨#[]⟩]) := S17.out.draw hA hm
    clear hA hm S17
    have e5 := S18.out.box.cell 5 _ rfl
    have f5 := S18.out.box.free 5
    have S19 : Hid (BxD w p g w.heap.size 31 (w8.setCell ⟨g, 5, none⟩ (.int .i64 (1 + it))) #[.int .i64 0, .int .i64 0, .int .i64 0, .int .i64 0, .int .i64 0, .int .i64 0, .int .i64 0, .bool false, .slice none 0 0, .string ⟨#[]⟩] #[.int .i64 5, .int .i64 fr, .int .i64 ds, .int .i64 tm, .int .i64 (1 + at1), .int .i64 (1 + it), .int .i64 0, .bool false, .slice none 0 0, .string ⟨#[]⟩]) := (S18.out.set 5 (.int .i64 (1 + it)))
    go_wp2_with fail
    clear e5 f5 S18
    generalize w8.setCell ⟨g, 5, none⟩ (.int .i64 (1 + it)) = w9 at *
    refine (text_some w9 p 6 (by omega) (by omega) S19.out.a).mono ?_
    rintro e w10 ⟨dd, rfl, hdd, hA, hm⟩
    have S20 : Hid (BxD w p g w.heap.size 31 w10 #[.int .i64 0, .int .i64 0, .int .i64 0, .int .i64 0, .int .i64 0, .int .i64 0, .int .i64 0, .bool false, .slice none 0 0, .string ⟨#[]⟩] #[.int .i64 5, .int .i64 fr, .int .i64 ds, .int .i64 tm, .int .i64 (1 + at1), .int .i64 (1 + it), .int .i64 0, .bool false, .slice none 0 0, .string ⟨#[]⟩]) := S19.out.draw hA hm
    clear hA hm S19
    have HDD : Hid (dd.size ≤ 3000) := by unfold Hid; omega
    clear hdd
    have e9 := S20.out.box.cell 9 _ rfl
    have f9 := S20.out.box.free 9
    have S21 : Hid (BxD w p g w.heap.size 31 (w10.setCell ⟨g, 9, none⟩ (.string dd)) #[.int .i64 0, .int .i64 0, .int .i64 0, .int .i64 0, .int .i64 0, .int .i64 0, .int .i64 0, .bool false, .slice none 0 0, .string ⟨#[]⟩] #[.int .i64 5, .int .i64 fr, .int .i64 ds, .int .i64 tm, .int .i64 (1 + at1), .int .i64 (1 + it), .int .i64 0, .bool false, .slice none 0 0, .string dd]) := (S20.out.set 9 (.string dd))
    go_wp2_with fail
    go_meet
    exact ⟨_, _, _, _, _, _, _, _, none, 0, 0, [], _, ⟨by decide, fun _ h => (by cases h), HDD.out⟩, Owns.nil _ _ _ _, S21.out⟩
  case rest =>
   obtain ⟨k, f, d, t, i, it, c, y, ua, um, uc, es, da, hS⟩ := hcut
   have SC := Hid.mk hS
   clear hS S16
   obtain ⟨hb1, hO, hX⟩ := SC.out
   have HB1 := Hid.mk hb1
   obtain ⟨e0, e1, e2, e3, e4, e5, e6, e7, e8, e9⟩ := cellsC10 hX.box
   obtain ⟨⟨r0, q0⟩, ⟨r1, q1⟩, ⟨r2, q2⟩, ⟨r3, q3⟩, ⟨r4, q4⟩, ⟨r5, q5⟩, ⟨r6, q6⟩, ⟨r7, q7⟩, ⟨r8, q8⟩, ⟨r9, q9⟩, n0, n1, n2, n3, n4, n5, n6, n7, n8, n9⟩ := resC10 (x0 := .int .i64 k) (x1 := .int .i64 f) (x2 := .int .i64 d) (x3 := .int .i64 t) (x4 := .int .i64 i) (x5 := .int .i64 it) (x6 := .int .i64 c) (x7 := .bool y) (x8 := .slice ua um uc) (x9 := .string da) hX.res
   have OE := Hid.mk (ownsC10n hO (hO.notBlk hX.res (by decide)) (.int .i64 k) (.int .i64 f) (.int .i64 d) (.int .i64 t) (.int .i64 i) (.int .i64 it) (.int .i64 c) (.bool y) (.slice ua um uc) (.string da))
   have FF := ((((((((((hX.setR 0 (.int .i64 k)).setR 1 (.int .i64 f)).setR 2 (.int .i64 d)).setR 3 (.int .i64 t)).setR 4 (.int .i64 i)).setR 5 (.int .i64 it)).setR 6 (.int .i64 c)).setR 7 (.bool y)).setR 8 (.slice ua um uc)).setR 9 (.string da))
   have HA := Hid.mk FF.a
   have HM := Hid.mk FF.m
   clear FF hX hO hb1 SC
   go_wp2_with fail
   exact bodyPost_ret (v := .agg #[.int .i64 k, .int .i64 f, .int .i64 d, .int .i64 t, .int .i64 i, .int .i64 it, .int .i64 c, .bool y, .slice ua um uc, .string da]) (by simp [results, go_sem, n0, n1, n2, n3, n4, n5, n6, n7, n8, n9]) rfl ⟨⟨_, _, _, _, _, _, _, _, _, _⟩, _, rfl, ⟨_, rfl, OE.out⟩, HB1.out.1, HB1.out.2.1, HB1.out.2.2, HA.out, HM.out⟩
end Go.Proofs.YtifmjdakefkbiaaGreatDoor
namespace Go.Proofs.YtifmjdakefkbiaaGreatDoor
open Go.ChangeShapes Go.WideShapes Go.ChangeAt Go.RowKit Go.PlainAid
set_option linter.unusedVariables false
def strCR (l : List ByteArray) : Array Value := (l.map Value.string).toArray
theorem strC_atR (l : List ByteArray) (j : Nat) (hj : j < l.length) : (strCR l)[j]? = some (.string (l.getD j ⟨#[]⟩)) := by
 simp [strCR, List.getD, hj]
theorem strC_memR (l : List ByteArray) (j : Nat) (hj : j < l.length) : l.getD j ⟨#[]⟩ ∈ l := by
 rw [List.getD_eq_getElem?_getD, List.getElem?_eq_getElem hj]
 exact List.getElem_mem hj
set_option maxHeartbeats 1000000 in
theorem pickTR (w : World) (p g : Nat) (xs : List ByteArray) (n : Nat) (hn : xs.length = n) (h0 : 0 < n) (h1 : n ≤ 1000) (h : AtS w p) (hgp : g ≠ p) (hB : Blk w g (strCR xs) 9) :
  Calls Tryz.prog 125 #[.pointer (some ⟨p, 0, none⟩), .slice (some ⟨g, 0, none⟩) n n] w fun e w' => ∃ x : ByteArray, e = .returned (.string x) ∧ x ∈ xs ∧ AtS w' p ∧ Mod w.heap.size p w w' := by
 have HA : Hid (AtS w p) := h
 have HB : Hid (Blk w g (strCR xs) 9) := hB
 have HN : Hid (xs.length = n) := hn
 have q0 : (n : Int) ≤ 1000 := by omega
 clear h hB hn
 go_enter Tryz.func125, Tryz.ntmps125
 go_wp2_with fail
 refine (belowS w p (n : Int) (by omega) (by omega) HA.out).mono ?_
 rintro e w1 ⟨v, rfl, ⟨v0, v1⟩, hA, hm⟩
 obtain ⟨k, rfl⟩ := Int.eq_ofNat_of_zero_le v0
 have B1 := Blk.mod HB.out hm HB.out.lt hgp
 have m1 := B1.cell k _ (strC_atR xs k (by rw [HN.out]; omega))
 have HM : Hid (xs.getD k ⟨#[]⟩ ∈ xs) := strC_memR xs k (by rw [HN.out]; omega)
 have A1 : Hid (AtS w1 p) := hA
 have M1 : Hid (Mod w.heap.size p w w1) := hm
 generalize xs.getD k ⟨#[]⟩ = x at *
 clear hA hm B1
 go_wp2_with fail
 go_ret
 exact ⟨_, rfl, HM.out, A1.out, M1.out⟩
def nineNames : List ByteArray := [⟨#[99, 112, 117]⟩, ⟨#[109, 101, 109]⟩, ⟨#[110, 101, 116]⟩, ⟨#[97]⟩, ⟨#[122, 122, 122, 122, 122, 122, 122, 122]⟩]
theorem nineNames_short : ∀ x ∈ nineNames, x.size ≤ 9 := by
 intro x hx
 simp only [nineNames, List.mem_cons, List.not_mem_nil, or_false] at hx
 rcases hx with rfl | rfl | rfl | rfl | rfl <;> decide
set_option maxHeartbeats 1000000 in
theorem name_any (w : World) (p : Nat) (h : AtS w p) : Calls Tryz.prog 122 #[.pointer (some ⟨p, 0, none⟩)] w fun e w' => ∃ x : ByteArray, e = .returned (.string x) ∧ x.size ≤ 9 ∧ AtS w' p ∧ Mod w.heap.size p w w' := by
 have hal : Below w.heap.size w (w.alloc (.cells #[.string ⟨#[99, 112, 117]⟩, .string ⟨#[109, 101, 109]⟩, .string ⟨#[110, 101, 116]⟩, .string ⟨#[97]⟩, .string ⟨#[122, 122, 122, 122, 122, 122, 122, 122]⟩] 9)) := (Below.refl _ _).alloc (Nat.le_refl _) _
 have A0 : Hid (AtS (w.alloc (.cells #[.string ⟨#[99, 112, 117]⟩, .string ⟨#[109, 101, 109]⟩, .string ⟨#[110, 101, 116]⟩, .string ⟨#[97]⟩, .string ⟨#[122, 122, 122, 122, 122, 122, 122, 122]⟩] 9)) p) := h.below hal h.lt
 have M0 : Hid (Mod w.heap.size p w (w.alloc (.cells #[.string ⟨#[99, 112, 117]⟩, .string ⟨#[109, 101, 109]⟩, .string ⟨#[110, 101, 116]⟩, .string ⟨#[97]⟩, .string ⟨#[122, 122, 122, 122, 122, 122, 122, 122]⟩] 9))) := Mod.of_below hal
 have K0 : Hid (Blk (w.alloc (.cells #[.string ⟨#[99, 112, 117]⟩, .string ⟨#[109, 101, 109]⟩, .string ⟨#[110, 101, 116]⟩, .string ⟨#[97]⟩, .string ⟨#[122, 122, 122, 122, 122, 122, 122, 122]⟩] 9)) w.heap.size (strCR nineNames) 9) := Blk.new w _ _
 have Z0 : Hid (w.heap.size ≠ p) := by have := h.lt; unfold Hid; omega
 clear hal h
 go_enter Tryz.func122, Tryz.ntmps122
 go_wp2_with fail
 generalize w.alloc (.cells #[.string ⟨#[99, 112, 117]⟩, .string ⟨#[109, 101, 109]⟩, .string ⟨#[110, 101, 116]⟩, .string ⟨#[97]⟩, .string ⟨#[122, 122, 122, 122, 122, 122, 122, 122]⟩] 9) = w0 at *
 refine (pickTR w0 p w.heap.size nineNames 5 rfl (by omega) (by omega) A0.out Z0.out K0.out).mono ?_
 rintro e w1 ⟨x, rfl, hx, hA, hm⟩
 have A1 : Hid (AtS w1 p) := hA
 have M1 : Hid (Mod w.heap.size p w w1) := M0.out.trans (hm.mono M0.out.size)
 have HX : Hid (x.size ≤ 9) := nineNames_short x hx
 clear hA hm hx
 go_wp2_with fail
 go_ret
 exact ⟨_, rfl, HX.out, A1.out, M1.out⟩
end Go.Proofs.YtifmjdakefkbiaaGreatDoor
namespace Go.Proofs.YtifmjdakefkbiaaGreatDoor
open Go.ChangeShapes Go.WideShapes Go.ChangeAt Go.RowKit Go.PlainAid
set_option linter.unusedVariables false
theorem Tryz.infoPtR : (Tryz.prog.info? 174).map (fun i => (i.zero, i.size, i.bytes)) = some (some (.agg #[.int .i64 0, .int .i64 0]), 2, 16) := by kernel_rfl
def DrawnR (w : World) (p : Nat) (e : Ending) (w' : World) : Prop := ∃ u l, e = .returned u ∧ Owns w' w.heap.size 174 2 u (ptR l) ∧ l.length ≤ 9 ∧ AtS w' p ∧ Mod w.heap.size p w w'
set_option maxHeartbeats 4000000 in
theorem right_any (w : World) (p : Nat) (h : AtS w p) : Calls Tryz.prog 124 #[.pointer (some ⟨p, 0, none⟩), .int .i64 8] w (DrawnR w p) := by
 have HP : Hid (p < w.heap.size) := h.lt
 have hal : Below w.heap.size w (w.alloc (.cells #[] 174)) := (Below.refl _ _).alloc (Nat.le_refl _) _
 have N0 : Hid (Owns (w.alloc (.cells #[] 174)) w.heap.size 174 2 (.slice (some ⟨w.heap.size, 0, none⟩) 0 0) (ptR [])) := Owns.empty w w.heap.size _ _ (Nat.le_refl _)
 have A0 : Hid (AtS (w.alloc (.cells #[] 174)) p) := h.below hal h.lt
 have M0 : Hid (Mod w.heap.size p w (w.alloc (.cells #[] 174))) := Mod.of_below hal
 clear hal h
 go_enter Tryz.func124, Tryz.ntmps124
 go_wp2_with fail
 generalize w.alloc (.cells #[] 174) = w0 at *
 refine (belowS w0 p 250 (by omega) (by omega) A0.out).mono ?_
 rintro e w1 ⟨t1, rfl, ⟨t10, t11⟩, hA, hm⟩
 have A1 : Hid (AtS w1 p) := hA
 have M1 : Hid (Mod w.heap.size p w w1) := M0.out.trans (hm.mono M0.out.size)
 have N1 : Hid (Owns w1 w.heap.size 174 2 (.slice (some ⟨w.heap.size, 0, none⟩) 0 0) (ptR [])) := N0.out.mod hm HP.out (Nat.le_refl _)
 clear hA hm A0 M0 N0
 go_wp2_with fail
 refine (belowS w1 p 8 (by omega) (by omega) A1.out).mono ?_
 rintro e w2 ⟨v1, rfl, ⟨v10, v11⟩, hA, hm⟩
 have A2 : Hid (AtS w2 p) := hA
 have M2 : Hid (Mod w.heap.size p w w2) := M1.out.trans (hm.mono M1.out.size)
 have N2 : Hid (Owns w2 w.heap.size 174 2 (.slice (some ⟨w.heap.size, 0, none⟩) 0 0) (ptR [])) := N1.out.mod hm HP.out (Nat.le_refl _)
 obtain ⟨n1, rfl⟩ : ∃ n : Nat, v1 = (n : Int) := ⟨v1.toNat, by omega⟩
 clear hA hm A1 M1 N1
 go_wp2_with fail
 go_loopw [5, 6, 7] (fun v5 v6 v7 wr => ∃ (k : Nat) (t : Int) (l : List Pnt), l.length + k ≤ 9 ∧ (0 ≤ t ∧ t + 40 * (k : Int) ≤ 1000) ∧ k ≤ 9 ∧ v7 = .int .i64 (k : Int) ∧ v6 = .int .i64 t ∧ Owns wr w.heap.size 174 2 v5 (ptR l) ∧ AtS wr p ∧ Mod w.heap.size p w wr) (fun _ _ i _ => (intOf i).toNat)
 case atStart => exact ⟨1 + n1, t1, [], by simp; omega, by omega, by omega, by go_num, rfl, N2.out, A2.out, M2.out⟩
 case round =>
  obtain ⟨k, t, l, hk, ht, hk7, rfl, rfl, hN, hA, hM⟩ := hrel
  have HN : Hid (Owns wr w.heap.size 174 2 _ (ptR l)) := hN
  obtain ⟨A, m, c, rfl⟩ := hN.shape
  have AR : Hid (AtS wr p) := hA
  have MR : Hid (Mod w.heap.size p w wr) := hM
  have HK : Hid (l.length + k ≤ 9) := hk
  clear hN hA hM hk
  by_cases hlt : 0 < k
  ·have q2 : (0 : Int) < (k : Int) := by omega
   go_wp2_with fail
   refine (belowS wr p 40 (by omega) (by omega) AR.out).mono ?_
   rintro e w6 ⟨y, rfl, ⟨y0, y1⟩, hA, hm⟩
   have A6 : Hid (AtS w6 p) := hA
   have M6 : Hid (Mod w.heap.size p w w6) := MR.out.trans (hm.mono MR.out.size)
   have N6 : Hid (Owns w6 w.heap.size 174 2 (.slice A m c) (ptR l)) := HN.out.mod hm HP.out (Nat.le_refl _)
   have hzz : w.heap.size ≤ w6.heap.size := M6.out.size
   clear hA hm
   have HL6 : Hid ((ptR l).length ≤ 2097152) := by unfold Hid; rw [ptR_length]; have := HK.out; omega
   have zy : IntKind.i64.wrap (y - 20) = y - 20 := by rw [IntKind.wrap_i64]; omega
   go_wp2_with (at_builtin; refine Shut.out ?_)
   unfold Shut
   refine wpList_append_row (w := w6) rfl (.tmp 19) (.tmp 25) 148 174 (.agg #[.int .i64 0, .int .i64 0]) 2 16 rfl Tryz.underlying148 Tryz.infoPtR rfl (by omega) w.heap.size (.slice A m c) (ptR l) rfl N6.out [.int .i64 t, .int .i64 (y - 20)] rfl (by intro y hy; simp at hy; rcases hy with rfl | rfl <;> rfl) rfl HL6.out (by omega) hzz ?_
   intro v' w7 hO7 hb7 hk7 _
   have A7 : Hid (AtS w7 p) := A6.out.below hb7 HP.out
   have M7 : Hid (Mod w.heap.size p w w7) := M6.out.trans (Mod.of_below hb7)
   have N7 : Hid (Owns w7 w.heap.size 174 2 v' (ptR (l ++ [⟨t, y - 20⟩]))) := by unfold Hid; exact (ptR_append l [⟨t, y - 20⟩]) ▸ hO7
   obtain ⟨A', m', c', rfl⟩ := N7.out.shape
   clear hO7 hb7 hk7
   go_wp2_with fail
   refine (belowS w7 p 30 (by omega) (by omega) A7.out).mono ?_
   rintro e w8 ⟨z, rfl, ⟨z0, z1⟩, hA, hm⟩
   have A8 : Hid (AtS w8 p) := hA
   have M8 : Hid (Mod w.heap.size p w w8) := M7.out.trans (hm.mono M7.out.size)
   have N8 : Hid (Owns w8 w.heap.size 174 2 (.slice A' m' c') (ptR (l ++ [⟨t, y - 20⟩]))) := N7.out.mod hm HP.out (Nat.le_refl _)
   have zz : IntKind.i64.wrap (t + 1 + z) = t + 1 + z := by rw [IntKind.wrap_i64]; omega
   clear hA hm
   go_wp2_with fail
   go_roundw
   case rel => exact ⟨k - 1, t + 1 + z, l ++ [⟨t, y - 20⟩], by have := HK.out; simp; omega, by omega, by omega, by go_num, by first | rfl | go_num, N8.out, A8.out, M8.out⟩
   case measure => simp [intOf]; omega
  ·obtain rfl : k = 0 := by omega
   go_wp2_with fail
   go_ret
   exact ⟨_, l, rfl, HN.out, by have := HK.out; omega, AR.out, MR.out⟩
end Go.Proofs.YtifmjdakefkbiaaGreatDoor
namespace Go.Proofs.YtifmjdakefkbiaaGreatDoor
open Go.ChangeShapes Go.WideShapes Go.ChangeAt Go.RowKit Go.PlainAid
set_option linter.unusedVariables false
def DrawnO (w : World) (p : Nat) (e : Ending) (w' : World) : Prop := ∃ x : Opx, e = .returned (vOp x) ∧ x.key.size ≤ 9 ∧ x.data.size ≤ 2000 ∧ AtS w' p ∧ Mod w.heap.size p w w'
def fourKeys : List ByteArray := [⟨#[]⟩, ⟨#[65]⟩, ⟨#[122, 122, 122, 122, 122, 122, 122, 122, 122]⟩, ⟨#[99, 112, 117]⟩]
theorem fourKeys_short : ∀ x ∈ fourKeys, x.size ≤ 9 := by
 intro x hx
 simp only [fourKeys, List.mem_cons, List.not_mem_nil, or_false] at hx
 rcases hx with rfl | rfl | rfl | rfl <;> decide
set_option maxRecDepth 20000 in
set_option maxHeartbeats 8000000 in
theorem op_any (w : World) (p : Nat) (kd : Int) (hkd : kd = 1 ∨ kd = 2) (h : AtS w p) : Calls Tryz.prog 96 #[.pointer (some ⟨p, 0, none⟩), .int .i64 kd] w (DrawnO w p) := by
 have S0 : Hid (RsD w p w.heap.size 38 (w.alloc (.cells #[.int .i64 0, .string ⟨#[]⟩, .int .i64 0, .int .i64 0, .string ⟨#[]⟩] 38)) #[.int .i64 0, .string ⟨#[]⟩, .int .i64 0, .int .i64 0, .string ⟨#[]⟩]) := RsD.start h _ _
 clear h
 go_enter Tryz.func96, Tryz.ntmps96
 go_wp2_with fail
 generalize w.alloc (.cells #[.int .i64 0, .string ⟨#[]⟩, .int .i64 0, .int .i64 0, .string ⟨#[]⟩] 38) = w0 at *
 refine (belowS w0 p 3 (by omega) (by omega) S0.out.a).mono ?_
 rintro e w1 ⟨k0, rfl, ⟨k00, k01⟩, hA, hm⟩
 have S1 : Hid (RsD w p w.heap.size 38 w1 #[.int .i64 0, .string ⟨#[]⟩, .int .i64 0, .int .i64 0, .string ⟨#[]⟩]) := S0.out.draw hA hm
 clear hA hm S0
 go_upto_if 13 with fail
 go_cut [5] from 9 to 20 (fun s5 wc => (∃ k : Int, (-1 ≤ k ∧ k ≤ 8) ∧ s5 = .int .i64 k) ∧ RsD w p w.heap.size 38 wc #[.int .i64 0, .string ⟨#[]⟩, .int .i64 0, .int .i64 0, .string ⟨#[]⟩])
 case first =>
  rcases hkd with rfl | rfl
  ·go_wp2_with fail
   go_meet
   exact ⟨⟨1 + k0, by omega, by first | rfl | go_num⟩, S1.out⟩
  ·have S2 : Hid (RsD w p w.heap.size 38 (w1.alloc (.cells #[.int .i64 4, .int .i64 4, .int .i64 4, .int .i64 4, .int .i64 5, .int .i64 5, .int .i64 5, .int .i64 6, .int .i64 7] 3)) #[.int .i64 0, .string ⟨#[]⟩, .int .i64 0, .int .i64 0, .string ⟨#[]⟩]) := S1.out.alloc _
   have K2 : Hid (Blk (w1.alloc (.cells #[.int .i64 4, .int .i64 4, .int .i64 4, .int .i64 4, .int .i64 5, .int .i64 5, .int .i64 5, .int .i64 6, .int .i64 7] 3)) w1.heap.size #[.int .i64 4, .int .i64 4, .int .i64 4, .int .i64 4, .int .i64 5, .int .i64 5, .int .i64 5, .int .i64 6, .int .i64 7] 3) := Blk.new _ _ _
   have Z2 : Hid (w1.heap.size ≠ p) := by have := S1.out.a.lt; unfold Hid; omega
   go_wp2_with fail
   generalize w1.alloc (.cells #[.int .i64 4, .int .i64 4, .int .i64 4, .int .i64 4, .int .i64 5, .int .i64 5, .int .i64 5, .int .i64 6, .int .i64 7] 3) = w2 at *
   refine (pickS w2 p w1.heap.size [4, 4, 4, 4, 5, 5, 5, 6, 7] 9 rfl (by omega) (by omega) (fun z => 0 ≤ z ∧ z ≤ 7) (by omega) (by intro z hz; simp at hz; omega) S2.out.a Z2.out K2.out).mono ?_
   rintro e w3 ⟨z, rfl, hz, hA, hm⟩
   have S3 : Hid (RsD w p w.heap.size 38 w3 #[.int .i64 0, .string ⟨#[]⟩, .int .i64 0, .int .i64 0, .string ⟨#[]⟩]) := S2.out.draw hA hm
   clear hA hm S1 S2 K2 Z2
   go_wp2_with fail
   go_meet
   exact ⟨⟨z, by omega, by first | rfl | go_num⟩, S3.out⟩
 case rest =>
  obtain ⟨⟨k1, hk1, rfl⟩, hS⟩ := hcut
  have S20 : Hid (RsD w p w.heap.size 38 wc #[.int .i64 0, .string ⟨#[]⟩, .int .i64 0, .int .i64 0, .string ⟨#[]⟩]) := hS
  clear hS
  go_wp2_with fail
  refine (once_some wc p 30 (by omega) S20.out.a).mono ?_
  rintro e w2 ⟨o, rfl, hA, hm⟩
  have S21 : Hid (RsD w p w.heap.size 38 w2 #[.int .i64 0, .string ⟨#[]⟩, .int .i64 0, .int .i64 0, .string ⟨#[]⟩]) := S20.out.draw hA hm
  clear hA hm S20
  go_upto_if 18 with fail
  go_cut [5] from 9 to 20 (fun s5 wc => (∃ k : Int, (-1 ≤ k ∧ k ≤ 8) ∧ s5 = .int .i64 k) ∧ RsD w p w.heap.size 38 wc #[.int .i64 0, .string ⟨#[]⟩, .int .i64 0, .int .i64 0, .string ⟨#[]⟩])
  case first =>
   cases o
   ·go_wp2_with fail
    go_meet
    exact ⟨⟨k1, by omega, by first | rfl | go_num⟩, S21.out⟩
   ·go_wp2_with fail
    refine (belowS w2 p 9 (by omega) (by omega) S21.out.a).mono ?_
    rintro e w3 ⟨z, rfl, hz, hA, hm⟩
    have S22 : Hid (RsD w p w.heap.size 38 w3 #[.int .i64 0, .string ⟨#[]⟩, .int .i64 0, .int .i64 0, .string ⟨#[]⟩]) := S21.out.draw hA hm
    clear hA hm S21
    go_wp2_with fail
    go_meet
    exact ⟨⟨z, by omega, by first | rfl | go_num⟩, S22.out⟩
  case rest =>
   obtain ⟨⟨kk, hkk, rfl⟩, hS⟩ := hcut
   have S30 : Hid (RsD w p w.heap.size 38 wc #[.int .i64 0, .string ⟨#[]⟩, .int .i64 0, .int .i64 0, .string ⟨#[]⟩]) := hS
   clear hS
   obtain ⟨g, hg⟩ : ∃ g, g = wc.heap.size := ⟨_, rfl⟩
   have S31 : Hid (BxD w p g w.heap.size 38 (wc.alloc (.cells #[.int .i64 kk, .string ⟨#[]⟩, .int .i64 0, .int .i64 0, .string ⟨#[]⟩] 38)) #[.int .i64 0, .string ⟨#[]⟩, .int .i64 0, .int .i64 0, .string ⟨#[]⟩] #[.int .i64 kk, .string ⟨#[]⟩, .int .i64 0, .int .i64 0, .string ⟨#[]⟩]) := by rw [hg]; exact S30.out.box _
   go_wp2_with fail
   rw [← hg]
   clear hg S30
   generalize wc.alloc (.cells #[.int .i64 kk, .string ⟨#[]⟩, .int .i64 0, .int .i64 0, .string ⟨#[]⟩] 38) = w3 at *
   refine (belowS w3 p 420 (by omega) (by omega) S31.out.a).mono ?_
   rintro e w4 ⟨fr, rfl, ⟨fr0, fr1⟩, hA, hm⟩
   have S32 : Hid (BxD w p g w.heap.size 38 w4 #[.int .i64 0, .string ⟨#[]⟩, .int .i64 0, .int .i64 0, .string ⟨#[]⟩] #[.int .i64 kk, .string ⟨#[]⟩, .int .i64 0, .int .i64 0, .string ⟨#[]⟩]) := S31.out.draw hA hm
   clear hA hm S31
   go_wp2_with fail
   refine (belowS w4 p 260 (by omega) (by omega) S32.out.a).mono ?_
   rintro e w5 ⟨dd, rfl, ⟨dd0, dd1⟩, hA, hm⟩
   have S33 : Hid (BxD w p g w.heap.size 38 w5 #[.int .i64 0, .string ⟨#[]⟩, .int .i64 0, .int .i64 0, .string ⟨#[]⟩] #[.int .i64 kk, .string ⟨#[]⟩, .int .i64 0, .int .i64 0, .string ⟨#[]⟩]) := S32.out.draw hA hm
   clear hA hm S32
   go_upto_block 0 with fail
   go_cut [] from 30 to 75 (fun wc => ∃ (ky : ByteArray) (f t : Int) (d : ByteArray), (ky.size ≤ 9 ∧ d.size ≤ 1000) ∧ BxD w p g w.heap.size 38 wc #[.int .i64 0, .string ⟨#[]⟩, .int .i64 0, .int .i64 0, .string ⟨#[]⟩] #[.int .i64 kk, .string ky, .int .i64 f, .int .i64 t, .string d])
   case first =>
    rcases (show kk = 1 ∨ kk = 2 ∨ kk = 3 ∨ kk = 4 ∨ kk = 5 ∨ kk = 6 ∨ (kk ≠ 1 ∧ kk ≠ 2 ∧ kk ≠ 3 ∧ kk ≠ 4 ∧ kk ≠ 5 ∧ kk ≠ 6) by omega) with rfl | rfl | rfl | rfl | rfl | rfl | hk7
    ·have e2 := S33.out.box.cell 2 _ rfl
     have f2 := S33.out.box.free 2
     have e3 := S33.out.box.cell 3 _ rfl
     have f3 := S33.out.box.free 3
     have S34 : Hid (BxD w p g w.heap.size 38 ((w5.setCell ⟨g, 2, none⟩ (.int .i64 fr)).setCell ⟨g, 3, none⟩ (.int .i64 (fr + 1 + dd))) #[.int .i64 0, .string ⟨#[]⟩, .int .i64 0, .int .i64 0, .string ⟨#[]⟩] #[.int .i64 1, .string ⟨#[]⟩, .int .i64 fr, .int .i64 (fr + 1 + dd), .string ⟨#[]⟩]) := ((S33.out.set 2 (.int .i64 fr)).set 3 (.int .i64 (fr + 1 + dd)))
     go_wp2_with fail
     clear e2 f2 e3 f3 S33
     generalize (w5.setCell ⟨g, 2, none⟩ (.int .i64 fr)).setCell ⟨g, 3, none⟩ (.int .i64 (fr + 1 + dd)) = w6 at *
     refine (once_some w6 p 20 (by omega) S34.out.a).mono ?_
     rintro e w7 ⟨oo, rfl, hA, hm⟩
     have S35 : Hid (BxD w p g w.heap.size 38 w7 #[.int .i64 0, .string ⟨#[]⟩, .int .i64 0, .int .i64 0, .string ⟨#[]⟩] #[.int .i64 1, .string ⟨#[]⟩, .int .i64 fr, .int .i64 (fr + 1 + dd), .string ⟨#[]⟩]) := S34.out.draw hA hm
     clear hA hm S34
     cases oo
     ·go_wp2_with fail
      go_meet
      exact ⟨⟨#[]⟩, _, _, ⟨#[]⟩, by decide, S35.out⟩
     ·have e3 := S35.out.box.cell 3 _ rfl
      have f3 := S35.out.box.free 3
      have S36 : Hid (BxD w p g w.heap.size 38 (w7.setCell ⟨g, 3, none⟩ (.int .i64 (fr + 900))) #[.int .i64 0, .string ⟨#[]⟩, .int .i64 0, .int .i64 0, .string ⟨#[]⟩] #[.int .i64 1, .string ⟨#[]⟩, .int .i64 fr, .int .i64 (fr + 900), .string ⟨#[]⟩]) := (S35.out.set 3 (.int .i64 (fr + 900)))
      go_wp2_with fail
      go_meet
      exact ⟨⟨#[]⟩, _, _, ⟨#[]⟩, by decide, S36.out⟩
    ·go_wp2_with fail
     refine (belowS w5 p 600 (by omega) (by omega) S33.out.a).mono ?_
     rintro e w6 ⟨z, rfl, -, hA, hm⟩
     have S34 : Hid (BxD w p g w.heap.size 38 w6 #[.int .i64 0, .string ⟨#[]⟩, .int .i64 0, .int .i64 0, .string ⟨#[]⟩] #[.int .i64 2, .string ⟨#[]⟩, .int .i64 0, .int .i64 0, .string ⟨#[]⟩]) := S33.out.draw hA hm
     clear hA hm S33
     have e2 := S34.out.box.cell 2 _ rfl
     have f2 := S34.out.box.free 2
     have S35 : Hid (BxD w p g w.heap.size 38 (w6.setCell ⟨g, 2, none⟩ (.int .i64 z)) #[.int .i64 0, .string ⟨#[]⟩, .int .i64 0, .int .i64 0, .string ⟨#[]⟩] #[.int .i64 2, .string ⟨#[]⟩, .int .i64 z, .int .i64 0, .string ⟨#[]⟩]) := (S34.out.set 2 (.int .i64 z))
     go_wp2_with fail
     go_meet
     exact ⟨⟨#[]⟩, _, _, ⟨#[]⟩, by decide, S35.out⟩
    ·have S34 : Hid (BxD w p g w.heap.size 38 (w5.alloc (.cells #[.int .i64 0, .int .i64 100, .int .i64 150, .int .i64 300, .int .i64 100000] 3)) #[.int .i64 0, .string ⟨#[]⟩, .int .i64 0, .int .i64 0, .string ⟨#[]⟩] #[.int .i64 3, .string ⟨#[]⟩, .int .i64 0, .int .i64 0, .string ⟨#[]⟩]) := S33.out.alloc _
     have K34 : Hid (Blk (w5.alloc (.cells #[.int .i64 0, .int .i64 100, .int .i64 150, .int .i64 300, .int .i64 100000] 3)) w5.heap.size #[.int .i64 0, .int .i64 100, .int .i64 150, .int .i64 300, .int .i64 100000] 3) := Blk.new _ _ _
     have Z34 : Hid (w5.heap.size ≠ p) := by have := S33.out.a.lt; unfold Hid; omega
     go_wp2_with fail
     generalize w5.alloc (.cells #[.int .i64 0, .int .i64 100, .int .i64 150, .int .i64 300, .int .i64 100000] 3) = w6 at *
     refine (pickS w6 p w5.heap.size [0, 100, 150, 300, 100000] 5 rfl (by omega) (by omega) (fun _ => True) trivial (fun _ _ => trivial) S34.out.a Z34.out K34.out).mono ?_
     rintro e w7 ⟨z, rfl, -, hA, hm⟩
     have S35 : Hid (BxD w p g w.heap.size 38 w7 #[.int .i64 0, .string ⟨#[]⟩, .int .i64 0, .int .i64 0, .string ⟨#[]⟩] #[.int .i64 3, .string ⟨#[]⟩, .int .i64 0, .int .i64 0, .string ⟨#[]⟩]) := S34.out.draw hA hm
     clear hA hm S33 S34 K34 Z34
     have e2 := S35.out.box.cell 2 _ rfl
     have f2 := S35.out.box.free 2
     have S36 : Hid (BxD w p g w.heap.size 38 (w7.setCell ⟨g, 2, none⟩ (.int .i64 z)) #[.int .i64 0, .string ⟨#[]⟩, .int .i64 0, .int .i64 0, .string ⟨#[]⟩] #[.int .i64 3, .string ⟨#[]⟩, .int .i64 z, .int .i64 0, .string ⟨#[]⟩]) := (S35.out.set 2 (.int .i64 z))
     go_wp2_with fail
     go_meet
     exact ⟨⟨#[]⟩, _, _, ⟨#[]⟩, by decide, S36.out⟩
    ·go_wp2_with fail
     refine (name_any w5 p S33.out.a).mono ?_
     rintro e w6 ⟨ky, rfl, hky, hA, hm⟩
     have S34 : Hid (BxD w p g w.heap.size 38 w6 #[.int .i64 0, .string ⟨#[]⟩, .int .i64 0, .int .i64 0, .string ⟨#[]⟩] #[.int .i64 4, .string ⟨#[]⟩, .int .i64 0, .int .i64 0, .string ⟨#[]⟩]) := S33.out.draw hA hm
     clear hA hm S33
     have HKY : Hid (ky.size ≤ 9) := hky
     clear hky
     have e1 := S34.out.box.cell 1 _ rfl
     have f1 := S34.out.box.free 1
     have S35 : Hid (BxD w p g w.heap.size 38 (w6.setCell ⟨g, 1, none⟩ (.string ky)) #[.int .i64 0, .string ⟨#[]⟩, .int .i64 0, .int .i64 0, .string ⟨#[]⟩] #[.int .i64 4, .string ky, .int .i64 0, .int .i64 0, .string ⟨#[]⟩]) := (S34.out.set 1 (.string ky))
     go_wp2_with fail
     clear e1 f1 S34
     generalize w6.setCell ⟨g, 1, none⟩ (.string ky) = w7 at *
     refine (right_any w7 p S35.out.a).mono ?_
     rintro e w8 ⟨u, l, rfl, hO, hl, hA, hm⟩
     have S36 : Hid (BxD w p g w.heap.size 38 w8 #[.int .i64 0, .string ⟨#[]⟩, .int .i64 0, .int .i64 0, .string ⟨#[]⟩] #[.int .i64 4, .string ky, .int .i64 0, .int .i64 0, .string ⟨#[]⟩]) := S35.out.draw hA hm
     have HO := Hid.mk hO.lies
     have HLn : Hid (l.length ≤ 9) := hl
     clear hO hl hA hm S35
     go_wp2_with fail
     refine (specShowBlock l u w8 w8.heap.size HO.out (by have := HLn.out; omega) (Nat.le_refl _)).mono ?_
     rintro e w9 ⟨rfl, hb⟩
     have S37 : Hid (BxD w p g w.heap.size 38 w9 #[.int .i64 0, .string ⟨#[]⟩, .int .i64 0, .int .i64 0, .string ⟨#[]⟩] #[.int .i64 4, .string ky, .int .i64 0, .int .i64 0, .string ⟨#[]⟩]) := S36.out.below hb
     have HDz : Hid ((showB l).size ≤ 1000) := by have := showB_size l; unfold Hid; omega
     generalize showB l = dd4 at *
     clear hb HO HLn S36
     have e4 := S37.out.box.cell 4 _ rfl
     have f4 := S37.out.box.free 4
     have S38 : Hid (BxD w p g w.heap.size 38 (w9.setCell ⟨g, 4, none⟩ (.string dd4)) #[.int .i64 0, .string ⟨#[]⟩, .int .i64 0, .int .i64 0, .string ⟨#[]⟩] #[.int .i64 4, .string ky, .int .i64 0, .int .i64 0, .string dd4]) := (S37.out.set 4 (.string dd4))
     go_wp2_with fail
     go_meet
     exact ⟨ky, _, _, dd4, ⟨HKY.out, HDz.out⟩, S38.out⟩
    ·go_wp2_with fail
     refine (name_any w5 p S33.out.a).mono ?_
     rintro e w6 ⟨ky, rfl, hky, hA, hm⟩
     have S34 : Hid (BxD w p g w.heap.size 38 w6 #[.int .i64 0, .string ⟨#[]⟩, .int .i64 0, .int .i64 0, .string ⟨#[]⟩] #[.int .i64 5, .string ⟨#[]⟩, .int .i64 0, .int .i64 0, .string ⟨#[]⟩]) := S33.out.draw hA hm
     clear hA hm S33
     have HKY : Hid (ky.size ≤ 9) := hky
     clear hky
     have e1 := S34.out.box.cell 1 _ rfl
     have f1 := S34.out.box.free 1
     have e2 := S34.out.box.cell 2 _ rfl
     have f2 := S34.out.box.free 2
     have e3 := S34.out.box.cell 3 _ rfl
     have f3 := S34.out.box.free 3
     have S35 : Hid (BxD w p g w.heap.size 38 (((w6.setCell ⟨g, 1, none⟩ (.string ky)).setCell ⟨g, 2, none⟩ (.int .i64 fr)).setCell ⟨g, 3, none⟩ (.int .i64 (fr + 1 + dd))) #[.int .i64 0, .string ⟨#[]⟩, .int .i64 0, .int .i64 0, .string ⟨#[]⟩] #[.int .i64 5, .string ky, .int .i64 fr, .int .i64 (fr + 1 + dd), .string ⟨#[]⟩]) := (((S34.out.set 1 (.string ky)).set 2 (.int .i64 fr)).set 3 (.int .i64 (fr + 1 + dd)))
     go_wp2_with fail
     go_meet
     exact ⟨ky, _, _, ⟨#[]⟩, ⟨HKY.out, by decide⟩, S35.out⟩
    ·go_wp2_with fail
     refine (belowS w5 p 200 (by omega) (by omega) S33.out.a).mono ?_
     rintro e w6 ⟨z, rfl, -, hA, hm⟩
     have S34 : Hid (BxD w p g w.heap.size 38 w6 #[.int .i64 0, .string ⟨#[]⟩, .int .i64 0, .int .i64 0, .string ⟨#[]⟩] #[.int .i64 6, .string ⟨#[]⟩, .int .i64 0, .int .i64 0, .string ⟨#[]⟩]) := S33.out.draw hA hm
     clear hA hm S33
     have e2 := S34.out.box.cell 2 _ rfl
     have f2 := S34.out.box.free 2
     have S35 : Hid (BxD w p g w.heap.size 38 (w6.setCell ⟨g, 2, none⟩ (.int .i64 z)) #[.int .i64 0, .string ⟨#[]⟩, .int .i64 0, .int .i64 0, .string ⟨#[]⟩] #[.int .i64 6, .string ⟨#[]⟩, .int .i64 z, .int .i64 0, .string ⟨#[]⟩]) := (S34.out.set 2 (.int .i64 z))
     go_wp2_with fail
     go_meet
     exact ⟨⟨#[]⟩, _, _, ⟨#[]⟩, by decide, S35.out⟩
    ·obtain ⟨n1, n2, n3, n4, n5, n6⟩ := hk7
     have m1 : decide (kk = 1) = false := decide_eq_false n1
     have o1 : (kk == 1) = false := by rw [beq_eq_false_iff_ne]; exact n1
     have m2 : decide (kk = 2) = false := decide_eq_false n2
     have o2 : (kk == 2) = false := by rw [beq_eq_false_iff_ne]; exact n2
     have m3 : decide (kk = 3) = false := decide_eq_false n3
     have o3 : (kk == 3) = false := by rw [beq_eq_false_iff_ne]; exact n3
     have m4 : decide (kk = 4) = false := decide_eq_false n4
     have o4 : (kk == 4) = false := by rw [beq_eq_false_iff_ne]; exact n4
     have m5 : decide (kk = 5) = false := decide_eq_false n5
     have o5 : (kk == 5) = false := by rw [beq_eq_false_iff_ne]; exact n5
     have m6 : decide (kk = 6) = false := decide_eq_false n6
     have o6 : (kk == 6) = false := by rw [beq_eq_false_iff_ne]; exact n6
     go_wp2_with fail
     go_meet
     exact ⟨⟨#[]⟩, _, _, ⟨#[]⟩, by decide, S33.out⟩
   case rest =>
    obtain ⟨ky, f, t, d, ⟨hky, hdz⟩, hS⟩ := hcut
    have S60 : Hid (BxD w p g w.heap.size 38 wc #[.int .i64 0, .string ⟨#[]⟩, .int .i64 0, .int .i64 0, .string ⟨#[]⟩] #[.int .i64 kk, .string ky, .int .i64 f, .int .i64 t, .string d]) := hS
    have HKY : Hid (ky.size ≤ 9) := hky
    have HDZ : Hid (d.size ≤ 1000) := hdz
    clear hS hky hdz
    go_wp2_with fail
    refine (once_some wc p 25 (by omega) S60.out.a).mono ?_
    rintro e w6 ⟨o2, rfl, hA, hm⟩
    have S61 : Hid (BxD w p g w.heap.size 38 w6 #[.int .i64 0, .string ⟨#[]⟩, .int .i64 0, .int .i64 0, .string ⟨#[]⟩] #[.int .i64 kk, .string ky, .int .i64 f, .int .i64 t, .string d]) := S60.out.draw hA hm
    clear hA hm S60
    go_upto_if 77 with fail
    go_cut [] from 76 to 108 (fun wc => ∃ (k : Int) (ky : ByteArray) (f t : Int) (d : ByteArray), (ky.size ≤ 9 ∧ d.size ≤ 2000) ∧ BxD w p g w.heap.size 38 wc #[.int .i64 0, .string ⟨#[]⟩, .int .i64 0, .int .i64 0, .string ⟨#[]⟩] #[.int .i64 k, .string ky, .int .i64 f, .int .i64 t, .string d])
    case first =>
     cases o2
     ·go_wp2_with fail
      go_meet
      exact ⟨_, ky, _, _, d, ⟨HKY.out, by have := HDZ.out; omega⟩, S61.out⟩
     ·go_wp2_with fail
      refine (belowS w6 p 5 (by omega) (by omega) S61.out.a).mono ?_
      rintro e w7 ⟨q, rfl, ⟨q0, q1⟩, hA, hm⟩
      have S62 : Hid (BxD w p g w.heap.size 38 w7 #[.int .i64 0, .string ⟨#[]⟩, .int .i64 0, .int .i64 0, .string ⟨#[]⟩] #[.int .i64 kk, .string ky, .int .i64 f, .int .i64 t, .string d]) := S61.out.draw hA hm
      clear hA hm S61
      rcases (show q = 0 ∨ q = 1 ∨ q = 2 ∨ q = 3 ∨ q = 4 by omega) with rfl | rfl | rfl | rfl | rfl
      ·have S63 : Hid (BxD w p g w.heap.size 38 (w7.alloc (.cells #[.string ⟨#[]⟩, .string ⟨#[65]⟩, .string ⟨#[122, 122, 122, 122, 122, 122, 122, 122, 122]⟩, .string ⟨#[99, 112, 117]⟩] 9)) #[.int .i64 0, .string ⟨#[]⟩, .int .i64 0, .int .i64 0, .string ⟨#[]⟩] #[.int .i64 kk, .string ky, .int .i64 f, .int .i64 t, .string d]) := S62.out.alloc _
       have K6 : Hid (Blk (w7.alloc (.cells #[.string ⟨#[]⟩, .string ⟨#[65]⟩, .string ⟨#[122, 122, 122, 122, 122, 122, 122, 122, 122]⟩, .string ⟨#[99, 112, 117]⟩] 9)) w7.heap.size (strCR fourKeys) 9) := Blk.new _ _ _
       have Z6 : Hid (w7.heap.size ≠ p) := by have := S62.out.a.lt; unfold Hid; omega
       go_wp2_with fail
       generalize w7.alloc (.cells #[.string ⟨#[]⟩, .string ⟨#[65]⟩, .string ⟨#[122, 122, 122, 122, 122, 122, 122, 122, 122]⟩, .string ⟨#[99, 112, 117]⟩] 9) = w8 at *
       refine (pickTR w8 p w7.heap.size fourKeys 4 rfl (by omega) (by omega) S63.out.a Z6.out K6.out).mono ?_
       rintro e w9 ⟨kx, rfl, hx, hA, hm⟩
       have S64 : Hid (BxD w p g w.heap.size 38 w9 #[.int .i64 0, .string ⟨#[]⟩, .int .i64 0, .int .i64 0, .string ⟨#[]⟩] #[.int .i64 kk, .string ky, .int .i64 f, .int .i64 t, .string d]) := S63.out.draw hA hm
       have HKX : Hid (kx.size ≤ 9) := fourKeys_short kx hx
       clear hA hm hx K6 Z6 S63 S62
       have e1 := S64.out.box.cell 1 _ rfl
       have f1 := S64.out.box.free 1
       have S65 : Hid (BxD w p g w.heap.size 38 (w9.setCell ⟨g, 1, none⟩ (.string kx)) #[.int .i64 0, .string ⟨#[]⟩, .int .i64 0, .int .i64 0, .string ⟨#[]⟩] #[.int .i64 kk, .string kx, .int .i64 f, .int .i64 t, .string d]) := (S64.out.set 1 (.string kx))
       go_wp2_with fail
       go_meet
       exact ⟨_, kx, _, _, d, ⟨HKX.out, by have := HDZ.out; omega⟩, S65.out⟩
      ·have S63 : Hid (BxD w p g w.heap.size 38 (w7.alloc (.cells #[.int .i64 (-1), .int .i64 1099511627776, .int .i64 1099511627777, .int .i64 100001] 3)) #[.int .i64 0, .string ⟨#[]⟩, .int .i64 0, .int .i64 0, .string ⟨#[]⟩] #[.int .i64 kk, .string ky, .int .i64 f, .int .i64 t, .string d]) := S62.out.alloc _
       have K63 : Hid (Blk (w7.alloc (.cells #[.int .i64 (-1), .int .i64 1099511627776, .int .i64 1099511627777, .int .i64 100001] 3)) w7.heap.size #[.int .i64 (-1), .int .i64 1099511627776, .int .i64 1099511627777, .int .i64 100001] 3) := Blk.new _ _ _
       have Z63 : Hid (w7.heap.size ≠ p) := by have := S62.out.a.lt; unfold Hid; omega
       go_wp2_with fail
       generalize w7.alloc (.cells #[.int .i64 (-1), .int .i64 1099511627776, .int .i64 1099511627777, .int .i64 100001] 3) = w8 at *
       refine (pickS w8 p w7.heap.size [-1, 1099511627776, 1099511627777, 100001] 4 rfl (by omega) (by omega) (fun _ => True) trivial (fun _ _ => trivial) S63.out.a Z63.out K63.out).mono ?_
       rintro e w9 ⟨z, rfl, -, hA, hm⟩
       have S64 : Hid (BxD w p g w.heap.size 38 w9 #[.int .i64 0, .string ⟨#[]⟩, .int .i64 0, .int .i64 0, .string ⟨#[]⟩] #[.int .i64 kk, .string ky, .int .i64 f, .int .i64 t, .string d]) := S63.out.draw hA hm
       clear hA hm S62 S63 K63 Z63
       have e2 := S64.out.box.cell 2 _ rfl
       have f2 := S64.out.box.free 2
       have S65 : Hid (BxD w p g w.heap.size 38 (w9.setCell ⟨g, 2, none⟩ (.int .i64 z)) #[.int .i64 0, .string ⟨#[]⟩, .int .i64 0, .int .i64 0, .string ⟨#[]⟩] #[.int .i64 kk, .string ky, .int .i64 z, .int .i64 t, .string d]) := (S64.out.set 2 (.int .i64 z))
       go_wp2_with fail
       go_meet
       exact ⟨_, ky, _, _, d, ⟨HKY.out, by have := HDZ.out; omega⟩, S65.out⟩
      ·have S63 : Hid (BxD w p g w.heap.size 38 (w7.alloc (.cells #[.int .i64 (-1), .int .i64 0, .int .i64 1099511627776, .int .i64 1099511627777] 3)) #[.int .i64 0, .string ⟨#[]⟩, .int .i64 0, .int .i64 0, .string ⟨#[]⟩] #[.int .i64 kk, .string ky, .int .i64 f, .int .i64 t, .string d]) := S62.out.alloc _
       have K63 : Hid (Blk (w7.alloc (.cells #[.int .i64 (-1), .int .i64 0, .int .i64 1099511627776, .int .i64 1099511627777] 3)) w7.heap.size #[.int .i64 (-1), .int .i64 0, .int .i64 1099511627776, .int .i64 1099511627777] 3) := Blk.new _ _ _
       have Z63 : Hid (w7.heap.size ≠ p) := by have := S62.out.a.lt; unfold Hid; omega
       go_wp2_with fail
       generalize w7.alloc (.cells #[.int .i64 (-1), .int .i64 0, .int .i64 1099511627776, .int .i64 1099511627777] 3) = w8 at *
       refine (pickS w8 p w7.heap.size [-1, 0, 1099511627776, 1099511627777] 4 rfl (by omega) (by omega) (fun _ => True) trivial (fun _ _ => trivial) S63.out.a Z63.out K63.out).mono ?_
       rintro e w9 ⟨z, rfl, -, hA, hm⟩
       have S64 : Hid (BxD w p g w.heap.size 38 w9 #[.int .i64 0, .string ⟨#[]⟩, .int .i64 0, .int .i64 0, .string ⟨#[]⟩] #[.int .i64 kk, .string ky, .int .i64 f, .int .i64 t, .string d]) := S63.out.draw hA hm
       clear hA hm S62 S63 K63 Z63
       have e3 := S64.out.box.cell 3 _ rfl
       have f3 := S64.out.box.free 3
       have S65 : Hid (BxD w p g w.heap.size 38 (w9.setCell ⟨g, 3, none⟩ (.int .i64 z)) #[.int .i64 0, .string ⟨#[]⟩, .int .i64 0, .int .i64 0, .string ⟨#[]⟩] #[.int .i64 kk, .string ky, .int .i64 f, .int .i64 z, .string d]) := (S64.out.set 3 (.int .i64 z))
       go_wp2_with fail
       go_meet
       exact ⟨_, ky, _, _, d, ⟨HKY.out, by have := HDZ.out; omega⟩, S65.out⟩
      ·have e4 := S62.out.box.cell 4 _ rfl
       go_wp2_with fail
       clear e4
       refine (spoilS w7 p d (by have := HDZ.out; omega) S62.out.a).mono ?_
       rintro e w8 ⟨dz, rfl, hz, hA, hm⟩
       have S63 : Hid (BxD w p g w.heap.size 38 w8 #[.int .i64 0, .string ⟨#[]⟩, .int .i64 0, .int .i64 0, .string ⟨#[]⟩] #[.int .i64 kk, .string ky, .int .i64 f, .int .i64 t, .string d]) := S62.out.draw hA hm
       clear hA hm S62
       have HD2 : Hid (dz.size ≤ 2000) := by have := HDZ.out; unfold Hid; omega
       clear hz
       have e4 := S63.out.box.cell 4 _ rfl
       have f4 := S63.out.box.free 4
       have S64 : Hid (BxD w p g w.heap.size 38 (w8.setCell ⟨g, 4, none⟩ (.string dz)) #[.int .i64 0, .string ⟨#[]⟩, .int .i64 0, .int .i64 0, .string ⟨#[]⟩] #[.int .i64 kk, .string ky, .int .i64 f, .int .i64 t, .string dz]) := (S63.out.set 4 (.string dz))
       go_wp2_with fail
       go_meet
       exact ⟨_, ky, _, _, dz, ⟨HKY.out, HD2.out⟩, S64.out⟩
      ·go_wp2_with fail
       refine (belowS w7 p 10 (by omega) (by omega) S62.out.a).mono ?_
       rintro e w8 ⟨z, rfl, ⟨z0, z1⟩, hA, hm⟩
       have S63 : Hid (BxD w p g w.heap.size 38 w8 #[.int .i64 0, .string ⟨#[]⟩, .int .i64 0, .int .i64 0, .string ⟨#[]⟩] #[.int .i64 kk, .string ky, .int .i64 f, .int .i64 t, .string d]) := S62.out.draw hA hm
       clear hA hm S62
       have zz : IntKind.i64.wrap (z - 1) = z - 1 := by rw [IntKind.wrap_i64]; omega
       have e0 := S63.out.box.cell 0 _ rfl
       have f0 := S63.out.box.free 0
       have S64 : Hid (BxD w p g w.heap.size 38 (w8.setCell ⟨g, 0, none⟩ (.int .i64 (z - 1))) #[.int .i64 0, .string ⟨#[]⟩, .int .i64 0, .int .i64 0, .string ⟨#[]⟩] #[.int .i64 (z - 1), .string ky, .int .i64 f, .int .i64 t, .string d]) := (S63.out.set 0 (.int .i64 (z - 1)))
       go_wp2_with fail
       go_meet
       exact ⟨_, ky, _, _, d, ⟨HKY.out, by have := HDZ.out; omega⟩, S64.out⟩
    case rest =>
     obtain ⟨k2, ky2, f2, t2, d2, ⟨hky, hdz⟩, hS⟩ := hcut
     have SC : Hid (BxD w p g w.heap.size 38 wc #[.int .i64 0, .string ⟨#[]⟩, .int .i64 0, .int .i64 0, .string ⟨#[]⟩] #[.int .i64 k2, .string ky2, .int .i64 f2, .int .i64 t2, .string d2]) := hS
     have HK2 : Hid (ky2.size ≤ 9) := hky
     have HD2 : Hid (d2.size ≤ 2000) := hdz
     have e0 := hS.box.cell 0 _ rfl
     have e1 := hS.box.cell 1 _ rfl
     have e2 := hS.box.cell 2 _ rfl
     have e3 := hS.box.cell 3 _ rfl
     have e4 := hS.box.cell 4 _ rfl
     have r0 := hS.res.cell 0 _ rfl
     have f0r := hS.res.free 0
     have r1 := hS.res.cell 1 _ rfl
     have f1r := hS.res.free 1
     have r2 := hS.res.cell 2 _ rfl
     have f2r := hS.res.free 2
     have r3 := hS.res.cell 3 _ rfl
     have f3r := hS.res.free 3
     have r4 := hS.res.cell 4 _ rfl
     have f4r := hS.res.free 4
     clear hS hky hdz
     go_wp2_with fail
     have F := (((((SC.out.setR 0 (.int .i64 k2)).setR 1 (.string ky2)).setR 2 (.int .i64 f2)).setR 3 (.int .i64 t2)).setR 4 (.string d2))
     clear e0 r0 f0r e1 r1 f1r e2 r2 f2r e3 r3 f3r e4 r4 f4r
     generalize ((((wc.setCell ⟨w.heap.size, 0, none⟩ (.int .i64 k2)).setCell ⟨w.heap.size, 1, none⟩ (.string ky2)).setCell ⟨w.heap.size, 2, none⟩ (.int .i64 f2)).setCell ⟨w.heap.size, 3, none⟩ (.int .i64 t2)).setCell ⟨w.heap.size, 4, none⟩ (.string d2) = WF at *
     have hG : Blk WF w.heap.size #[.int .i64 k2, .string ky2, .int .i64 f2, .int .i64 t2, .string d2] 38 := F.res
     have n0 := hG.cell 0 _ rfl
     have n1 := hG.cell 1 _ rfl
     have n2 := hG.cell 2 _ rfl
     have n3 := hG.cell 3 _ rfl
     have n4 := hG.cell 4 _ rfl
     exact bodyPost_ret (v := .agg #[.int .i64 k2, .string ky2, .int .i64 f2, .int .i64 t2, .string d2]) (by simp [results, go_sem, n0, n1, n2, n3, n4]) rfl ⟨⟨k2, ky2, f2, t2, d2⟩, rfl, HK2.out, HD2.out, F.a, F.m⟩
end Go.Proofs.YtifmjdakefkbiaaGreatDoor
namespace Go.Proofs.YtifmjdakefkbiaaGreatDoor
open Go.ChangeShapes Go.WideShapes Go.ChangeAt Go.RowKit Go.PlainAid
set_option linter.unusedVariables false
def lenB : Value → Nat
 | .slice _ l _ => l
 | _ => 0
theorem buf_shape {w : World} {base : Nat} {v : Value} {l : List UInt8} (h : Buf w base v l) : ∃ ao cap, v = .slice ao l.length cap := by
 rcases h.2 with ⟨rfl, h0⟩ | ⟨g, cap, cur, rfl, _⟩
 ·exact ⟨none, 0, by rw [h0]⟩
 ·exact ⟨_, cap, rfl⟩
def DrawnA (w : World) (p : Nat) (e : Ending) (w' : World) : Prop := ∃ x : Ans, e = .returned (vAns x) ∧ x.data.size ≤ 1000 ∧ AtS w' p ∧ Mod w.heap.size p w w'
theorem DrawnA.mk {w w' : World} {p : Nat} (c i m : Int) (d : ByteArray) (hd : d.size ≤ 1000) (hA : AtS w' p) (hM : Mod w.heap.size p w w') : DrawnA w p (.returned (.agg #[.int .i64 c, .int .i64 i, .int .i64 m, .string d])) w' := ⟨⟨c, i, m, d⟩, rfl, hd, hA, hM⟩
set_option maxRecDepth 20000 in
set_option maxHeartbeats 8000000 in
theorem answer_any (w : World) (p : Nat) (h : AtS w p) : Calls Tryz.prog 57 #[.pointer (some ⟨p, 0, none⟩)] w (DrawnA w p) := by
 have HP : Hid (p < w.heap.size) := h.lt
 have hal : Below w.heap.size w (w.alloc (.cells #[.int .i64 0, .int .i64 0, .int .i64 0, .string ⟨#[]⟩] 46)) := (Below.refl _ _).alloc (Nat.le_refl _) _
 have A0 : Hid (AtS (w.alloc (.cells #[.int .i64 0, .int .i64 0, .int .i64 0, .string ⟨#[]⟩] 46)) p) := h.below hal h.lt
 have M0 : Hid (Mod w.heap.size p w (w.alloc (.cells #[.int .i64 0, .int .i64 0, .int .i64 0, .string ⟨#[]⟩] 46))) := Mod.of_below hal
 have R0 : Hid (Blk (w.alloc (.cells #[.int .i64 0, .int .i64 0, .int .i64 0, .string ⟨#[]⟩] 46)) w.heap.size #[.int .i64 0, .int .i64 0, .int .i64 0, .string ⟨#[]⟩] 46) := Blk.new w _ _
 clear hal h
 go_enter Tryz.func57, Tryz.ntmps57
 go_wp2_with fail
 generalize w.alloc (.cells #[.int .i64 0, .int .i64 0, .int .i64 0, .string ⟨#[]⟩] 46) = w0 at *
 refine (belowS w0 p 5 (by omega) (by omega) A0.out).mono ?_
 rintro e w1 ⟨c1, rfl, -, hA, hm⟩
 have A1 : Hid (AtS w1 p) := hA
 have M1 : Hid (Mod w.heap.size p w w1) := M0.out.trans (hm.mono M0.out.size)
 have R1 : Hid (Blk w1 w.heap.size #[.int .i64 0, .int .i64 0, .int .i64 0, .string ⟨#[]⟩] 46) := R0.out.mod hm R0.out.lt (by have := HP.out; omega)
 clear hA hm A0 M0 R0
 go_wp2_with fail
 refine (belowS w1 p 300 (by omega) (by omega) A1.out).mono ?_
 rintro e w2 ⟨i1, rfl, -, hA, hm⟩
 have A2 : Hid (AtS w2 p) := hA
 have M2 : Hid (Mod w.heap.size p w w2) := M1.out.trans (hm.mono M1.out.size)
 have R2 : Hid (Blk w2 w.heap.size #[.int .i64 0, .int .i64 0, .int .i64 0, .string ⟨#[]⟩] 46) := R1.out.mod hm R1.out.lt (by have := HP.out; omega)
 clear hA hm A1 M1 R1
 go_wp2_with fail
 refine (belowS w2 p 500 (by omega) (by omega) A2.out).mono ?_
 rintro e w3 ⟨m1, rfl, -, hA, hm⟩
 have A3 : Hid (AtS w3 p) := hA
 have M3 : Hid (Mod w.heap.size p w w3) := M2.out.trans (hm.mono M2.out.size)
 have R3 : Hid (Blk w3 w.heap.size #[.int .i64 0, .int .i64 0, .int .i64 0, .string ⟨#[]⟩] 46) := R2.out.mod hm R2.out.lt (by have := HP.out; omega)
 clear hA hm A2 M2 R2
 go_wp2_with fail
 refine (text_some w3 p 10 (by omega) (by omega) A3.out).mono ?_
 rintro e w4 ⟨d, rfl, hd, hA, hm⟩
 have A4 : Hid (AtS w4 p) := hA
 have M4 : Hid (Mod w.heap.size p w w4) := M3.out.trans (hm.mono M3.out.size)
 have R4 : Hid (Blk w4 w.heap.size #[.int .i64 0, .int .i64 0, .int .i64 0, .string ⟨#[]⟩] 46) := R3.out.mod hm R3.out.lt (by have := HP.out; omega)
 clear hA hm A3 M3 R3
 go_wp2_with fail
 have HD : Hid (d.size ≤ 1000) := hd
 have hS0 : BxD w p w4.heap.size w.heap.size 46 (w4.alloc (.cells #[.int .i64 c1, .int .i64 i1, .int .i64 m1, .string d] 46)) #[.int .i64 0, .int .i64 0, .int .i64 0, .string ⟨#[]⟩] #[.int .i64 c1, .int .i64 i1, .int .i64 m1, .string d] := ⟨Blk.new w4 _ _, R4.out.alloc _, A4.out.below ((Below.refl w4.heap.size w4).alloc (Nat.le_refl _) _) A4.out.lt, M4.out.alloc M4.out.size _, HP.out, M4.out.size, Nat.le_refl _, by have := R4.out.lt; omega⟩
 have S0 : Hid (BxD w p w4.heap.size w.heap.size 46 (w4.alloc (.cells #[.int .i64 c1, .int .i64 i1, .int .i64 m1, .string d] 46)) #[.int .i64 0, .int .i64 0, .int .i64 0, .string ⟨#[]⟩] #[.int .i64 c1, .int .i64 i1, .int .i64 m1, .string d]) := hS0
 clear hS0 hd A4 M4 R4
 try go_wp2_with fail
 generalize w4.alloc (.cells #[.int .i64 c1, .int .i64 i1, .int .i64 m1, .string d] 46) = w2 at *
 generalize w4.heap.size = g at *
 refine (once_some w2 p 8 (by omega) S0.out.a).mono ?_
 rintro e w3 ⟨o, rfl, hA, hm⟩
 have S3 : Hid (BxD w p g w.heap.size 46 w3 #[.int .i64 0, .int .i64 0, .int .i64 0, .string ⟨#[]⟩] #[.int .i64 c1, .int .i64 i1, .int .i64 m1, .string d]) := S0.out.draw hA hm
 clear hA hm S0
 go_upto_if 16 with fail
 go_cut [50] from 4 to 50 (fun s50 wc => ∃ (c i m : Int) (d' : ByteArray), d'.size ≤ 1000 ∧ BxD w p g w.heap.size 46 wc #[.int .i64 0, .int .i64 0, .int .i64 0, .string ⟨#[]⟩] #[.int .i64 c, .int .i64 i, .int .i64 m, .string d'])
 case first =>
  cases o with
  | false =>
   go_wp2_with fail
   go_meet
   exact ⟨_, _, _, _, HD.out, S3.out⟩
  | true =>
   go_wp2_with fail
   refine (belowS w3 p 4 (by omega) (by omega) S3.out.a).mono ?_
   rintro e w5 ⟨s, rfl, ⟨s0, s1⟩, hA, hm⟩
   have S5 : Hid (BxD w p g w.heap.size 46 w5 #[.int .i64 0, .int .i64 0, .int .i64 0, .string ⟨#[]⟩] #[.int .i64 c1, .int .i64 i1, .int .i64 m1, .string d]) := S3.out.draw hA hm
   clear hA hm S3
   rcases (show s = 0 ∨ s = 1 ∨ s = 2 ∨ s = 3 by omega) with rfl | rfl | rfl | rfl
   ·have S6 : Hid (BxD w p g w.heap.size 46 (w5.alloc (.cells #[.int .i64 (-1), .int .i64 5] 3)) #[.int .i64 0, .int .i64 0, .int .i64 0, .string ⟨#[]⟩] #[.int .i64 c1, .int .i64 i1, .int .i64 m1, .string d]) := S5.out.alloc _
    have K6 : Hid (Blk (w5.alloc (.cells #[.int .i64 (-1), .int .i64 5] 3)) w5.heap.size #[.int .i64 (-1), .int .i64 5] 3) := Blk.new _ _ _
    have Z6 : Hid (w5.heap.size ≠ p) := by have := S5.out.a.lt; unfold Hid; omega
    go_wp2_with fail
    generalize w5.alloc (.cells #[.int .i64 (-1), .int .i64 5] 3) = w6 at *
    refine (pickS w6 p w5.heap.size [-1, 5] 2 rfl (by omega) (by omega) (fun _ => True) trivial (fun _ _ => trivial) S6.out.a Z6.out K6.out).mono ?_
    rintro e w7 ⟨z, rfl, -, hA, hm⟩
    have S7 : Hid (BxD w p g w.heap.size 46 w7 #[.int .i64 0, .int .i64 0, .int .i64 0, .string ⟨#[]⟩] #[.int .i64 c1, .int .i64 i1, .int .i64 m1, .string d]) := S6.out.draw hA hm
    have S8 : Hid (BxD w p g w.heap.size 46 (w7.setCell ⟨g, 0, none⟩ (.int .i64 z)) #[.int .i64 0, .int .i64 0, .int .i64 0, .string ⟨#[]⟩] #[.int .i64 z, .int .i64 i1, .int .i64 m1, .string d]) := S7.out.set 0 (.int .i64 z)
    have e0 := S7.out.box.cell 0 _ rfl
    have f0 := S7.out.box.free 0
    clear hA hm
    go_wp2_with fail
    go_meet
    exact ⟨_, _, _, _, HD.out, S8.out⟩
   ·have S6 : Hid (BxD w p g w.heap.size 46 (w5.alloc (.cells #[.int .i64 (-1), .int .i64 100000, .int .i64 100001] 3)) #[.int .i64 0, .int .i64 0, .int .i64 0, .string ⟨#[]⟩] #[.int .i64 c1, .int .i64 i1, .int .i64 m1, .string d]) := S5.out.alloc _
    have K6 : Hid (Blk (w5.alloc (.cells #[.int .i64 (-1), .int .i64 100000, .int .i64 100001] 3)) w5.heap.size #[.int .i64 (-1), .int .i64 100000, .int .i64 100001] 3) := Blk.new _ _ _
    have Z6 : Hid (w5.heap.size ≠ p) := by have := S5.out.a.lt; unfold Hid; omega
    go_wp2_with fail
    generalize w5.alloc (.cells #[.int .i64 (-1), .int .i64 100000, .int .i64 100001] 3) = w6 at *
    refine (pickS w6 p w5.heap.size [-1, 100000, 100001] 3 rfl (by omega) (by omega) (fun _ => True) trivial (fun _ _ => trivial) S6.out.a Z6.out K6.out).mono ?_
    rintro e w7 ⟨z, rfl, -, hA, hm⟩
    have S7 : Hid (BxD w p g w.heap.size 46 w7 #[.int .i64 0, .int .i64 0, .int .i64 0, .string ⟨#[]⟩] #[.int .i64 c1, .int .i64 i1, .int .i64 m1, .string d]) := S6.out.draw hA hm
    have S8 : Hid (BxD w p g w.heap.size 46 (w7.setCell ⟨g, 1, none⟩ (.int .i64 z)) #[.int .i64 0, .int .i64 0, .int .i64 0, .string ⟨#[]⟩] #[.int .i64 c1, .int .i64 z, .int .i64 m1, .string d]) := S7.out.set 1 (.int .i64 z)
    have e1 := S7.out.box.cell 1 _ rfl
    have f1 := S7.out.box.free 1
    clear hA hm
    go_wp2_with fail
    go_meet
    exact ⟨_, _, _, _, HD.out, S8.out⟩
   ·have S6 : Hid (BxD w p g w.heap.size 46 (w5.alloc (.cells #[.int .i64 (-1), .int .i64 1099511627776, .int .i64 1099511627777] 3)) #[.int .i64 0, .int .i64 0, .int .i64 0, .string ⟨#[]⟩] #[.int .i64 c1, .int .i64 i1, .int .i64 m1, .string d]) := S5.out.alloc _
    have K6 : Hid (Blk (w5.alloc (.cells #[.int .i64 (-1), .int .i64 1099511627776, .int .i64 1099511627777] 3)) w5.heap.size #[.int .i64 (-1), .int .i64 1099511627776, .int .i64 1099511627777] 3) := Blk.new _ _ _
    have Z6 : Hid (w5.heap.size ≠ p) := by have := S5.out.a.lt; unfold Hid; omega
    go_wp2_with fail
    generalize w5.alloc (.cells #[.int .i64 (-1), .int .i64 1099511627776, .int .i64 1099511627777] 3) = w6 at *
    refine (pickS w6 p w5.heap.size [-1, 1099511627776, 1099511627777] 3 rfl (by omega) (by omega) (fun _ => True) trivial (fun _ _ => trivial) S6.out.a Z6.out K6.out).mono ?_
    rintro e w7 ⟨z, rfl, -, hA, hm⟩
    have S7 : Hid (BxD w p g w.heap.size 46 w7 #[.int .i64 0, .int .i64 0, .int .i64 0, .string ⟨#[]⟩] #[.int .i64 c1, .int .i64 i1, .int .i64 m1, .string d]) := S6.out.draw hA hm
    have S8 : Hid (BxD w p g w.heap.size 46 (w7.setCell ⟨g, 2, none⟩ (.int .i64 z)) #[.int .i64 0, .int .i64 0, .int .i64 0, .string ⟨#[]⟩] #[.int .i64 c1, .int .i64 i1, .int .i64 z, .string d]) := S7.out.set 2 (.int .i64 z)
    have e2 := S7.out.box.cell 2 _ rfl
    have f2 := S7.out.box.free 2
    clear hA hm
    go_wp2_with fail
    go_meet
    exact ⟨_, _, _, _, HD.out, S8.out⟩
   ·go_wp2_with fail
    refine (belowS w5 p 2 (by omega) (by omega) S5.out.a).mono ?_
    rintro e w6 ⟨v, rfl, ⟨v0, v1⟩, hA, hm⟩
    have S6 : Hid (BxD w p g w.heap.size 46 w6 #[.int .i64 0, .int .i64 0, .int .i64 0, .string ⟨#[]⟩] #[.int .i64 c1, .int .i64 i1, .int .i64 m1, .string d]) := S5.out.draw hA hm
    clear hA hm S5
    obtain ⟨N, hN, hN1⟩ : ∃ N : Nat, (N : Int) = 900 + v ∧ N ≤ 901 := ⟨(900 + v).toNat, by omega, by omega⟩
    have HN : Hid ((N : Int) = 900 + v) := hN
    clear hN
    have bf := Buf.made w6 w6.heap.size 0 #[] (Nat.le_refl _) (by simp [maxLen]) rfl
    have st : BxD w p g w.heap.size 46 (w6.alloc (.cells #[] 5)) #[.int .i64 0, .int .i64 0, .int .i64 0, .string ⟨#[]⟩] #[.int .i64 c1, .int .i64 i1, .int .i64 m1, .string d] := S6.out.alloc _
    have hz6 : w6.heap.size ≤ (w6.alloc (.cells #[] 5)).heap.size := by simp
    have G6 : Hid (g < w6.heap.size ∧ w.heap.size < w6.heap.size ∧ p < w6.heap.size) := ⟨S6.out.box.lt, S6.out.res.lt, S6.out.a.lt⟩
    go_wp2_with fail
    clear S6
    generalize w6.heap.size = Bs at *
    generalize w6.alloc (.cells #[] 5) = w8 at *
    go_loopw [5] (fun v5 wr => ∃ l : List UInt8, l.length ≤ N ∧ Buf wr Bs v5 l ∧ BxD w p g w.heap.size 46 wr #[.int .i64 0, .int .i64 0, .int .i64 0, .string ⟨#[]⟩] #[.int .i64 c1, .int .i64 i1, .int .i64 m1, .string d] ∧ Bs ≤ wr.heap.size) (fun v5 _ => N - lenB v5)
    case atStart => exact ⟨[], Nat.zero_le _, bf, st, hz6⟩
    case round =>
     obtain ⟨l, hl, hbuf, hS, hB⟩ := hrel
     obtain ⟨ao', cap', rfl⟩ := buf_shape hbuf
     have S9 : Hid (BxD w p g w.heap.size 46 wr #[.int .i64 0, .int .i64 0, .int .i64 0, .string ⟨#[]⟩] #[.int .i64 c1, .int .i64 i1, .int .i64 m1, .string d]) := hS
     clear hS bf st hz6
     have q1 : (l.length : Int) ≤ 1000 := by omega
     by_cases hlt : l.length < N
     ·have q2 : (l.length : Int) < 900 + v := by have := HN.out; omega
      have HC : Hid (#[Value.int .u8 7] = byteCells [7]) := by unfold Hid; rfl
      go_wp2_with (at_builtin; refine wpList_append_bytes rfl (.tmp 27) (.tmp 28) 22 rfl Tryz.underlying22 Tryz.info5 Bs _ l rfl hbuf _ [7] HC.out 1 1 rfl rfl (by simp; omega) hB ?_; intro v' w10 hbuf4 hb4)
      go_roundw
      case rel => exact ⟨l ++ [7], by simp; omega, hbuf4, ⟨S9.out.box.on hb4 G6.out.1, S9.out.res.on hb4 G6.out.2.1, S9.out.a.below hb4 G6.out.2.2, S9.out.m.trans (Mod.of_below (hb4.mono (Nat.le_of_lt G6.out.2.1))), S9.out.hp, S9.out.hg, S9.out.hr, S9.out.ne⟩, Nat.le_trans hB hb4.size⟩
      case measure =>
       obtain ⟨ao4, cap4, rfl⟩ := buf_shape hbuf4
       simp [lenB]
       omega
     ·have q3 : decide ((l.length : Int) < 900 + v) = false := decide_eq_false (by have := HN.out; omega)
      have hcv := hbuf.string (P := Tryz.prog) 22 9 Tryz.underlying22 Tryz.underlying5 Tryz.underlying9
      have HT : Hid ((txt l).size ≤ 1000) := by unfold Hid; rw [txt_size]; omega
      clear hlt
      have e3 := S9.out.box.cell 3 (.string d) rfl
      have f3 := S9.out.box.free 3
      have S10 : Hid (BxD w p g w.heap.size 46 (wr.setCell ⟨g, 3, none⟩ (.string (txt l))) #[.int .i64 0, .int .i64 0, .int .i64 0, .string ⟨#[]⟩] #[.int .i64 c1, .int .i64 i1, .int .i64 m1, .string (txt l)]) := S9.out.set 3 (.string (txt l))
      go_wp2_with fail
      go_meet
      exact ⟨_, _, _, _, HT.out, S10.out⟩
 case rest =>
  obtain ⟨c2, i2, m2, d2, hd2, hS⟩ := hcut
  have SC : Hid (BxD w p g w.heap.size 46 wc #[.int .i64 0, .int .i64 0, .int .i64 0, .string ⟨#[]⟩] #[.int .i64 c2, .int .i64 i2, .int .i64 m2, .string d2]) := hS
  have HD2 : Hid (d2.size ≤ 1000) := hd2
  have e0 := hS.box.cell 0 _ rfl
  have e1 := hS.box.cell 1 _ rfl
  have e2 := hS.box.cell 2 _ rfl
  have e3 := hS.box.cell 3 _ rfl
  have r0 := hS.res.cell 0 _ rfl
  have r1 := hS.res.cell 1 _ rfl
  have r2 := hS.res.cell 2 _ rfl
  have r3 := hS.res.cell 3 _ rfl
  have f0 := hS.res.free 0
  have f1 := hS.res.free 1
  have f2 := hS.res.free 2
  have f3 := hS.res.free 3
  clear hS hd2 S3
  go_wp2_with fail
  have F := (((SC.out.setR 0 (.int .i64 c2)).setR 1 (.int .i64 i2)).setR 2 (.int .i64 m2)).setR 3 (.string d2)
  clear e0 e1 e2 e3 r0 r1 r2 r3 f0 f1 f2 f3
  generalize (((wc.setCell ⟨w.heap.size, 0, none⟩ (.int .i64 c2)).setCell ⟨w.heap.size, 1, none⟩ (.int .i64 i2)).setCell ⟨w.heap.size, 2, none⟩ (.int .i64 m2)).setCell ⟨w.heap.size, 3, none⟩ (.string d2) = WF at *
  have hG : Blk WF w.heap.size #[.int .i64 c2, .int .i64 i2, .int .i64 m2, .string d2] 46 := F.res
  have n0 := hG.cell 0 _ rfl
  have n1 := hG.cell 1 _ rfl
  have n2 := hG.cell 2 _ rfl
  have n3 := hG.cell 3 _ rfl
  exact bodyPost_ret (v := .agg #[.int .i64 c2, .int .i64 i2, .int .i64 m2, .string d2]) (by simp [results, go_sem, n0, n1, n2, n3]) rfl (DrawnA.mk _ _ _ _ HD2.out F.a F.m)
end Go.Proofs.YtifmjdakefkbiaaGreatDoor
namespace Go.Proofs.YtifmjdakefkbiaaGreatDoor
open Go.ChangeShapes Go.WideShapes Go.ChangeAt Go.RowKit Go.PlainAid
set_option linter.unusedVariables false
set_option maxRecDepth 20000 in
set_option maxHeartbeats 4000000 in
theorem specReadBlock (s : ByteArray) (w : World) (hs : s.size ≤ 1048576) : Calls Tryz.prog 134 #[.string s] w fun e w' => (∃ u l ok, RbAns s l ok ∧ e = .returned (.tuple #[u, .bool ok]) ∧ Owns w' w.heap.size 174 2 u (ptR l)) ∧ Below w.heap.size w w' := by
 obtain ⟨k0, c0, hu, hk0⟩ := unf_body s
 have HK0 : Hid ((code s = 0 ∧ k0 = 8 + rdv s 4) ∨ (code s ≠ 0 ∧ k0 = 0 ∧ bodyR s = ⟨#[]⟩)) := hk0
 have cU := fun wx => spec_unframe s wx hs
 rw [hu] at cU
 have hbz := bodyR_size s
 have qs : (s.size : Int) ≤ 1048576 := by omega
 have q0 : (k0 : Int) ≤ 3000 := by
  rcases hk0 with ⟨h1, h2⟩ | ⟨_, h2, _⟩
  ·have := ((code_zero s).1 h1).2.2.1; omega
  ·omega
 have E0 : Hid (Owns (w.alloc (.cells #[] 174)) w.heap.size 174 2 (.slice (some ⟨w.heap.size, 0, none⟩) 0 0) (ptR [])) := Owns.empty w _ _ _ (Nat.le_refl _)
 have B0 : Hid (Below w.heap.size w (w.alloc (.cells #[] 174))) := (Below.refl _ _).alloc (Nat.le_refl _) _
 clear hu hk0
 go_enter Tryz.func134, Tryz.ntmps134
 go_wp2_with fail
 generalize w.alloc (.cells #[] 174) = w0 at *
 refine (cU w0).mono ?_
 rintro e w1 ⟨rfl, hb⟩
 have B1 : Hid (Below w.heap.size w w1) := B0.out.trans (hb.mono B0.out.size)
 have E1 : Hid (Owns w1 w.heap.size 174 2 (.slice (some ⟨w.heap.size, 0, none⟩) 0 0) (ptR [])) := E0.out.on hb
 clear hb cU
 have cV := spec_readVar (bodyR s) w1 (by omega)
 go_wp2_with fail
 refine cV.mono ?_
 rintro e w2 ⟨hRV, hb⟩
 obtain ⟨n, k, hRd, rfl⟩ := hRV.rd
 have hle := hRd.le
 have HR : Hid (RdV (bodyR s) n k) := hRd
 have B2 : Hid (Below w.heap.size w w2) := B1.out.trans (hb.mono B1.out.size)
 have E2 : Hid (Owns w2 w.heap.size 174 2 (.slice (some ⟨w.heap.size, 0, none⟩) 0 0) (ptR [])) := E1.out.on hb
 have qk : (k : Int) ≤ 7 := by omega
 have qb : ((bodyR s).size : Int) ≤ 2000 := by omega
 have qkb : (k : Int) ≤ ((bodyR s).size : Int) := by omega
 have hkb : k ≤ (bodyR s).size := hle.1
 have HKG : Hid (∀ m, Good s m → k ≠ 0 ∧ k0 = s.size) := fun m hm => by
  have h1 := (HR.out.one hm.steps.rn).2
  have h2 := vF_pos 6 m.length
  obtain ⟨r1, r2, _⟩ := hm.read
  rcases HK0.out with ⟨_, h3⟩ | ⟨h3, _⟩
  ·exact ⟨by omega, by omega⟩
  ·exact absurd r1 h3
 clear hRd hRV cV hle hb
 by_cases hk1 : k = 0
 ·have HNO : Hid (∀ m, ¬ Good s m) := fun m hm => (HKG.out m hm).1 hk1
  subst hk1
  go_wp2_with fail
  go_ret2
  exact ⟨⟨_, [], false, .inr ⟨rfl, rfl, HNO.out⟩, rfl, E2.out⟩, B2.out⟩
 have d0 : decide (k = 0) = false := decide_eq_false hk1
 have d1 : ((k : Int) == 0) = false := by rw [beq_eq_false_iff_ne]; omega
 by_cases hk2 : k0 ≠ s.size
 ·have HNO : Hid (∀ m, ¬ Good s m) := fun m hm => hk2 (HKG.out m hm).2
  have d2 : ((k0 : Int) == (s.size : Int)) = false := by rw [beq_eq_false_iff_ne]; omega
  have d3 : ¬ k0 = s.size := hk2
  go_wp2_with fail
  go_ret2
  exact ⟨⟨_, [], false, .inr ⟨rfl, rfl, HNO.out⟩, rfl, E2.out⟩, B2.out⟩
 have hk2' : k0 = s.size := Decidable.not_not.1 hk2
 have HK2 : Hid (k0 = s.size) := hk2'
 have d2 : ((k0 : Int) == (s.size : Int)) = true := beq_iff_eq.2 (by omega)
 clear hk2
 have cT := specReadTimesA ((bodyR s).extract k (bodyR s).size) n w2 (by rw [ByteArray.size_extract]; omega)
 subst hk2'
 go_wp2_with fail
 refine cT.mono ?_
 rintro e w3 ⟨⟨t, a, ut, hAT, rfl, hNT⟩, hb⟩
 have HAT : Hid (RdAns showT rowT ((bodyR s).extract k (bodyR s).size) n t a) := hAT
 have hsh := hAT.short rowT_length
 have LT : Hid (t.length ≤ 60) := hsh.1
 have hak : k + a ≤ (bodyR s).size := by have h2 := hsh.2; rw [ByteArray.size_extract] at h2; omega
 have B3 : Hid (Below w.heap.size w w3) := B2.out.trans (hb.mono B2.out.size)
 have E3 : Hid (Owns w3 w.heap.size 174 2 (.slice (some ⟨w.heap.size, 0, none⟩) 0 0) (ptR [])) := E2.out.on hb
 have NT : Hid (Nums w3 w2.heap.size ut t) := hNT
 have qa : (k : Int) + (a : Int) ≤ ((bodyR s).size : Int) := by omega
 have qa1 : (a : Int) ≤ 2000 := by omega
 have ena : ((k : Int) + (a : Int)).toNat = k + a := by omega
 have HAG : Hid (∀ m, Good s m → a ≠ 0) := fun m hm => by
  have hst := hm.steps
  obtain ⟨e1, e2⟩ := HR.out.one hst.rn
  subst e1
  subst e2
  have h1 := (HAT.out.one hst.rt).2
  have h2 := cat_pos (tPiece (ts m)) m.length hm.1 (vF_pos _ _)
  omega
 clear hAT hNT hb cT hsh
 by_cases ha : a = 0
 ·have HNO : Hid (∀ m, ¬ Good s m) := fun m hm => HAG.out m hm ha
  subst ha
  go_wp2_with fail
  go_ret2
  exact ⟨⟨_, [], false, .inr ⟨rfl, rfl, HNO.out⟩, rfl, E3.out⟩, B3.out⟩
 have d4 : decide (a = 0) = false := decide_eq_false ha
 have d5 : ((a : Int) == 0) = false := by rw [beq_eq_false_iff_ne]; omega
 have cW := specReadValuesA ((bodyR s).extract (k + a) (bodyR s).size) n w3 (by rw [ByteArray.size_extract]; omega)
 go_wp2_with fail
 refine cW.mono ?_
 rintro e w4 ⟨⟨v, b, uv, hAV, rfl, hNV⟩, hb⟩
 have HST : Hid (Steps s n k t a v b) := ⟨HR.out, HAT.out, hAV⟩
 have hsv := hAV.short rowV_length
 have LV : Hid (v.length ≤ 60) := hsv.1
 have hbk : k + a + b ≤ (bodyR s).size := by have h2 := hsv.2; rw [ByteArray.size_extract] at h2; omega
 have B4 : Hid (Below w.heap.size w w4) := B3.out.trans (hb.mono B3.out.size)
 have E4 : Hid (Owns w4 w.heap.size 174 2 (.slice (some ⟨w.heap.size, 0, none⟩) 0 0) (ptR [])) := E3.out.on hb
 have NT4 : Hid (Nums w4 w2.heap.size ut t) := NT.out.on hb
 have NV4 : Hid (Nums w4 w3.heap.size uv v) := hNV
 have qb1 : (b : Int) ≤ 2000 := by omega
 have qab : (k : Int) + (a : Int) + (b : Int) ≤ ((bodyR s).size : Int) := by omega
 clear hAV hNV hb cW NT hsv
 by_cases hb0 : b = 0
 ·have HNO : Hid (∀ m, ¬ Good s m) := fun m hm => by have := (HST.out.good hm).2.2.2.2.2.2.1; omega
  subst hb0
  go_wp2_with fail
  go_ret2
  exact ⟨⟨_, [], false, .inr ⟨rfl, rfl, HNO.out⟩, rfl, E4.out⟩, B4.out⟩
 have d6 : decide (b = 0) = false := decide_eq_false hb0
 have d7 : ((b : Int) == 0) = false := by rw [beq_eq_false_iff_ne]; omega
 by_cases hlen : k + a + b ≠ (bodyR s).size
 ·have HNO : Hid (∀ m, ¬ Good s m) := fun m hm => hlen (HST.out.good hm).2.2.2.2.2.2.2
  have d8 : ((k : Int) + (a : Int) + (b : Int) == ((bodyR s).size : Int)) = false := by rw [beq_eq_false_iff_ne]; omega
  have d9 : ¬ (k : Int) + (a : Int) + (b : Int) = ((bodyR s).size : Int) := by omega
  go_wp2_with fail
  go_ret2
  exact ⟨⟨_, [], false, .inr ⟨rfl, rfl, HNO.out⟩, rfl, E4.out⟩, B4.out⟩
 have hlen' : k + a + b = (bodyR s).size := Decidable.not_not.1 hlen
 have d8 : ((k : Int) + (a : Int) + (b : Int) == ((bodyR s).size : Int)) = true := beq_iff_eq.2 (by omega)
 have d10 : ((k : Int) + (a : Int) + (b : Int) != ((bodyR s).size : Int)) = false := by rw [bne, d8]; rfl
 have hc : code s = 0 := by
  rcases HK0.out with ⟨h1, _⟩ | ⟨_, _, h3⟩
  ·exact h1
  ·rw [h3] at hkb
   have : (ByteArray.mk #[]).size = 0 := rfl
   omega
 have h8 : 8 + rdv s 4 = s.size := by
  rcases HK0.out with ⟨_, h1⟩ | ⟨h1, _⟩
  ·omega
  ·exact absurd hc h1
 obtain ⟨hg, htv, hn⟩ := HST.out.back hc h8 hk1 ha hb0 hlen'
 have HG : Hid (Good s (zipP t v)) := hg
 have HZL : Hid ((zipP t v).length = t.length) := by unfold Hid; rw [zipP_length]; omega
 have HZG : Hid (∀ k, k < t.length → k < v.length → (zipP t v).take (k + 1) = (zipP t v).take k ++ [⟨t.getD k 0, v.getD k 0⟩]) := zipP_get t v
 subst hn
 obtain ⟨At, ct, rfl, _, _, h1⟩ := NT4.out.lies
 obtain ⟨Av, cv, rfl, _, _, h2⟩ := NV4.out.lies
 have HT : Hid (∀ j, j < t.length → ∃ g off, At = some ⟨g, off, none⟩ ∧ g < w4.heap.size ∧ w4.cell? ⟨g, off + j, none⟩ = some (.int .i64 (t.getD j 0))) := h1
 have HV : Hid (∀ j, j < v.length → ∃ g off, Av = some ⟨g, off, none⟩ ∧ g < w4.heap.size ∧ w4.cell? ⟨g, off + j, none⟩ = some (.int .i64 (v.getD j 0))) := h2
 have q9 : (t.length : Int) ≤ 60 := by have := LT.out; omega
 clear h1 h2 hlen hg HAG HKG HK0 HK2 hbk
 generalize hm : v.length = m at *
 generalize hn : t.length = N at *
 subst htv
 clear hm hn
 go_wp2_with fail
 go_loopw [14, 15] (fun v14 v15 wr => ∃ k : Nat, k ≤ N ∧ v15 = .int .i64 (k : Int) ∧ Owns wr w4.heap.size 174 2 v14 (ptR ((zipP t v).take k)) ∧ Below w4.heap.size w4 wr) (fun _ i _ => N - (intOf i).toNat)
 case atStart => exact ⟨0, by omega, rfl, by rw [List.take_zero]; exact Owns.empty w4 _ _ _ (Nat.le_refl _), (Below.refl _ _).alloc (Nat.le_refl _) _⟩
 case round =>
  clear hlen' d8 ena hc h8 hak hkb d0 d1 d2 d4 d5 d6 d7 hk1 ha hb0 qab qa qkb
  obtain ⟨k, hk, rfl, hO, hb⟩ := hrel
  have HO : Hid (Owns wr w4.heap.size 174 2 u14 (ptR ((zipP t v).take k))) := hO
  have HB1 : Hid (Below w4.heap.size w4 wr) := hb
  clear hO hb
  by_cases hlt : k < N
  ·have q3 : (k : Int) < (N : Int) := by omega
   obtain ⟨gt, ot, rfl, hgt, hc1⟩ := HT.out k hlt
   obtain ⟨gv, ov, rfl, hgv, hc2⟩ := HV.out k hlt
   have HZ : Hid ((zipP t v).take (k + 1) = (zipP t v).take k ++ [⟨t.getD k 0, v.getD k 0⟩]) := HZG.out k hlt hlt
   rw [← HB1.out.cell (p := ⟨_, _, none⟩) hgt] at hc1
   rw [← HB1.out.cell (p := ⟨_, _, none⟩) hgv] at hc2
   generalize t.getD k 0 = x at *
   generalize v.getD k 0 = y at *
   have hz : w4.heap.size ≤ wr.drew.heap.size := HB1.out.size
   obtain ⟨nA, nm, nc, w5, r5, hO5, hb5, hk5, _⟩ := run_append_row (P := Tryz.prog) wr.drew 148 148 174 (.agg #[.int .i64 0, .int .i64 0]) 2 16 Tryz.underlying148 Tryz.infoPt rfl (by omega) w4.heap.size u14 (ptR ((zipP t v).take k)) (HO.out.kept fun _ _ _ => rfl) [.int .i64 x, .int .i64 y] rfl (pt_cells x y) (by rw [ptR_length, List.length_take]; omega) (by omega) hz
   have B5 : Hid (Below w4.heap.size w4 w5) := (HB1.out.drew).trans hb5
   have O5 : Hid (Owns w5 w4.heap.size 174 2 (.slice nA nm nc) (ptR ((zipP t v).take (k + 1)))) := by unfold Hid; rw [HZ.out, ptR_snoc']; exact hO5
   have S0 : Hid (wr.drew.cell? ⟨gt, ot + k, none⟩ = some (.int .i64 x) ∧ wr.drew.cell? ⟨gv, ov + k, none⟩ = some (.int .i64 y)) := ⟨hc1, hc2⟩
   clear hc1 hc2 hO5 hb5 hk5
   clear hgt hgv
   go_wp2_with fail
   refine wp_region_until (fun w' => w'.cell? ⟨gt, ot + k, none⟩ = some (.int .i64 x) ∧ w'.cell? ⟨gv, ov + k, none⟩ = some (.int .i64 y)) (fun i => i == 11 || i == 12) 13 (by rfl) (by kernel_rfl) ?_
   refine tKf 0 S0.out ?_
   refine tKf 1 S0.out ?_
   refine tKf 2 S0.out ?_
   refine tKf 3 S0.out ?_
   refine tKf 4 S0.out ?_
   refine tKf 5 S0.out ?_
   refine tKf 6 S0.out ?_
   refine tKf 7 S0.out ?_
   refine tKf 8 S0.out ?_
   refine tKf 9 S0.out ?_
   refine uNe 10 (fun K hK => ?_)
   go_simp
   refine hK.out _ _ (fun _ h => ⟨cell_alloc_keep h.1 _, cell_alloc_keep h.2 _⟩) ?_
   clear hK K
   try simp only [Act.put, zQ1, zQ2, zQ3]
   refine uNe 11 (fun K hK => ?_)
   refine step_append_run (by rfl) (.tmp 77) (.tmp 87) 148 (by rfl) _ _ _ _ (by rfl) (by rfl) r5 ?_
   refine hK.out _ _ (fun h => by cases h) ?_
   clear hK K
   try simp only [Act.put, zQ1, zQ2, zQ3]
   refine uNe 12 (fun K hK => ?_)
   go_simp
   refine hK.out _ _ (fun h => by cases h) ?_
   clear hK K
   try simp only [Act.put, zQ1, zQ2, zQ3]
   refine until_done (by kernel_rfl) ?_ _
   go_wp2_with fail
   go_roundw
   case rel => exact ⟨k + 1, by omega, by go_num, O5.out, B5.out⟩
   case measure => simp [intOf]; omega
  ·obtain rfl : k = N := by omega
   have hF := HO.out
   rw [List.take_of_length_le (by rw [HZL.out]; exact Nat.le_refl _)] at hF
   have HF : Hid (Owns wr w.heap.size 174 2 u14 (ptR (zipP t v))) := hF.mono B4.out.size
   have BF : Hid (Below w.heap.size w wr) := B4.out.trans (HB1.out.mono B4.out.size)
   clear hF HO
   go_wp2_with fail
   go_ret2
   exact ⟨⟨_, zipP t v, true, .inl ⟨rfl, HG.out⟩, rfl, HF.out⟩, BF.out⟩
end Go.Proofs.YtifmjdakefkbiaaGreatDoor
