/- MgTm MgRp LawFnTurned TxRead TxSame CmCmdR LawFnTexts -/
import Derived.Test.YtifmjdakefkbiaaGreatDoorRows
import Derived.Test.YtifmjdakefkbiaaGreatDoorQv13
import Derived.Test.YtifmjdakefkbiaaGreatDoorQv5
import Derived.Laws.StructEq
import Derived.Laws.DeepStrings4
import Derived.Deep.Cut
import Derived.Deep.CutRange
import Derived.Handy
import Derived.Test.YtifmjdakefkbiaaGreatDoorQv8
import Derived.Test.YtifmjdakefkbiaaGreatDoorQv0
import Derived.WalkKit
import Derived.ProofKit
import Derived.Test.YtifmjdakefkbiaaGreatDoorQv9
import Derived.Test.YtifmjdakefkbiaaGreatDoorQv12
import Derived.Deep.CutBlock
import Derived.OpenShut
import Derived.Below
import Derived.WalkSmall
import Derived.BigQuiet
import Derived.Deep.QuietTactic
import Derived.Deep.RegionWith
import Derived.Test.YtifmjdakefkbiaaGreatDoorQt0
import Derived.Test.YtifmjdakefkbiaaGreatDoorQt1
import Derived.Test.YtifmjdakefkbiaaGreatDoorQt2
import Derived.Test.YtifmjdakefkbiaaGreatDoorQt3
import Derived.Test.YtifmjdakefkbiaaGreatDoorQt4
import Derived.Test.YtifmjdakefkbiaaGreatDoorQt5
import Derived.Test.YtifmjdakefkbiaaGreatDoorQt6
import Derived.Test.YtifmjdakefkbiaaGreatDoorQt7
import Derived.Test.YtifmjdakefkbiaaGreatDoorQt8
import Derived.Test.YtifmjdakefkbiaaGreatDoorQt9
import Derived.Test.YtifmjdakefkbiaaGreatDoorQt10
import Derived.Test.YtifmjdakefkbiaaGreatDoorQt11
import Derived.Test.YtifmjdakefkbiaaGreatDoorQt12
import Derived.Test.YtifmjdakefkbiaaGreatDoorQt13
open List (setIfInBounds_toArray set_cons_zero set_cons_succ)
namespace Go.Proofs.YtifmjdakefkbiaaGreatDoor
open Go.ChangeShapes Go.WideShapes Go.ChangeAt Go.RowKit Go.PlainAid
set_option linter.unusedVariables false
end Go.Proofs.YtifmjdakefkbiaaGreatDoor
namespace Go.Proofs.YtifmjdakefkbiaaGreatDoor
open Go.ChangeShapes Go.WideShapes Go.ChangeAt Go.RowKit Go.PlainAid
set_option linter.unusedVariables false
end Go.Proofs.YtifmjdakefkbiaaGreatDoor
namespace Go.Proofs.YtifmjdakefkbiaaGreatDoor
open Go.ChangeShapes Go.WideShapes Go.ChangeAt Go.RowKit Go.PlainAid
set_option linter.unusedVariables false
theorem wtE_few : ∀ (l : List Ent), (∀ y ∈ l, y.data.size ≤ 1000) → wtE l ≤ 1000 * l.length
 | [], _ => by unfold wtE; omega
 | x :: l, h => by
  have h1 := wtE_few l (fun y hy => h y (by simp [hy]))
  have h2 := h x (by simp)
  unfold wtE wtE1
  simp only [List.length_cons]
  omega
theorem msgT_few {x : Mg} (h : x.data.size ≤ 3001) (ho : msgOk x = true) : 13 ≤ (msgT x).size ∧ (msgT x).size ≤ 7000 := by
 have hi := msgOk_in ho
 have hR := (msgT_rd ho)
 obtain ⟨yn, n1, n2, hP, _⟩ := hR
 have h13 := hP.inS
 refine ⟨by omega, ?_⟩
 have h4 := fixed_size4 (crc (bodT x)) (crc_lt _)
 rw [msgT_yes ho, ByteArray.size_append, h4]
 have h5 := hdT_size x
 have h6 := catE_few x.ents hi.2.2.2.2.2.2.2.1 (fun y hy => (hi.2.2.2.2.2.2.2.2 y hy).2.2) x.ents.length
 rw [List.take_length] at h6
 unfold bodT
 simp only [ByteArray.size_append]
 omega
theorem drawShowMsg (w : World) (ao : Option Addr) (len cap : Nat) (cs : Nat → Nat) (hl : len ≤ 1048576) (h : CodeIs w w.heap.size ao len cs) :
  Calls Tryz.prog 11 #[.slice ao len cap] w fun e w' => (∃ (x : Mg) (u : Value), e = .returned u ∧ MgO w' w.heap.size u x ∧ x.ents.length ≤ 9 ∧ (∀ y ∈ x.ents, y.data.size ≤ 1000) ∧ x.data.size ≤ 3001) ∧ Below w.heap.size w w' := by
 have HC : Hid (CodeIs w w.heap.size ao len cs) := h
 clear h
 have al : Below w.heap.size w (w.alloc (.cells #[.int .i64 0, .int .i64 0, .int .i64 0, .int .i64 0, .int .i64 0, .int .i64 0, .int .i64 0, .bool false, .slice none 0 0, .string ⟨#[]⟩] 31)) := (Below.refl _ _).alloc (Nat.le_refl _) _
 have B0 := Hid.mk al
 have K0 : Hid (Blk (w.alloc (.cells #[.int .i64 0, .int .i64 0, .int .i64 0, .int .i64 0, .int .i64 0, .int .i64 0, .int .i64 0, .bool false, .slice none 0 0, .string ⟨#[]⟩] 31)) w.heap.size #[.int .i64 0, .int .i64 0, .int .i64 0, .int .i64 0, .int .i64 0, .int .i64 0, .int .i64 0, .bool false, .slice none 0 0, .string ⟨#[]⟩] 31) := Blk.new w _ _
 have C0 := Hid.mk (HC.out.on al)
 clear al
 go_enter Tryz.func11, Tryz.ntmps11
 go_wp2_with fail
 generalize w.alloc (.cells #[.int .i64 0, .int .i64 0, .int .i64 0, .int .i64 0, .int .i64 0, .int .i64 0, .int .i64 0, .bool false, .slice none 0 0, .string ⟨#[]⟩] 31) = w0 at *
 refine (new_any w0 ao len cap cs hl C0.out).mono ?_
 rintro e w1 ⟨rfl, hA1, hb1⟩
 have HB1 := Hid.mk hb1
 have HA1 := Hid.mk (show AtS w1 w0.heap.size from ⟨_, _, _, _, _, hA1⟩)
 clear hb1 hA1
 go_wp2_with fail
 refine (anyMsg_any w1 w0.heap.size HA1.out).mono ?_
 rintro e w2 ⟨x, u, rfl, hO, hl, hd, hz, -, hm⟩
 have HB2 : Hid (Below w0.heap.size w0 w2) := HB1.out.trans ((hm.mono HB1.out.size).below (Nat.le_refl _))
 have HBB : Hid (Below w.heap.size w w2) := B0.out.trans (HB2.out.mono B0.out.size)
 obtain ⟨A, m, c, rfl, hOw⟩ := hO.shape
 have hK := K0.out.on HB2.out K0.out.lt
 have HO := Hid.mk (ownsC10n hOw (hOw.notBlk hK (by decide)) (.int .i64 x.kind) (.int .i64 x.frm) (.int .i64 x.dst) (.int .i64 x.term) (.int .i64 x.index) (.int .i64 x.iterm) (.int .i64 x.commit) (.bool x.yes) (.slice A m c) (.string x.data))
 have HLo : Hid (w.heap.size ≤ w1.heap.size) := Nat.le_trans B0.out.size HB1.out.size
 have HBE := Hid.mk (belowC10 HBB.out (Nat.le_refl _) (.int .i64 x.kind) (.int .i64 x.frm) (.int .i64 x.dst) (.int .i64 x.term) (.int .i64 x.index) (.int .i64 x.iterm) (.int .i64 x.commit) (.bool x.yes) (.slice A m c) (.string x.data))
 have HX := Hid.mk (And.intro hl (And.intro hd hz))
 obtain ⟨⟨r0, q0⟩, ⟨r1, q1⟩, ⟨r2, q2⟩, ⟨r3, q3⟩, ⟨r4, q4⟩, ⟨r5, q5⟩, ⟨r6, q6⟩, ⟨r7, q7⟩, ⟨r8, q8⟩, ⟨r9, q9⟩, n0, n1, n2, n3, n4, n5, n6, n7, n8, n9⟩ := resC10 (x0 := .int .i64 x.kind) (x1 := .int .i64 x.frm) (x2 := .int .i64 x.dst) (x3 := .int .i64 x.term) (x4 := .int .i64 x.index) (x5 := .int .i64 x.iterm) (x6 := .int .i64 x.commit) (x7 := .bool x.yes) (x8 := .slice A m c) (x9 := .string x.data) hK
 clear hO hl hd hz hm hOw hK B0 K0 C0 HB1 HA1 HB2 HBB
 go_wp2_with fail
 exact bodyPost_ret (v := .agg #[.int .i64 x.kind, .int .i64 x.frm, .int .i64 x.dst, .int .i64 x.term, .int .i64 x.index, .int .i64 x.iterm, .int .i64 x.commit, .bool x.yes, .slice A m c, .string x.data]) (by simp [results, go_sem, n0, n1, n2, n3, n4, n5, n6, n7, n8, n9]) rfl ⟨⟨x, _, rfl, ⟨_, rfl, HO.out.mono HLo.out⟩, HX.out⟩, HBE.out⟩
end Go.Proofs.YtifmjdakefkbiaaGreatDoor
namespace Go.Proofs.YtifmjdakefkbiaaGreatDoor
open Go.ChangeShapes Go.WideShapes Go.ChangeAt Go.RowKit Go.PlainAid
set_option linter.unusedVariables false
def DrawnC (w : World) (p : Nat) (e : Ending) (w' : World) : Prop := ∃ x : Cmx, e = .returned (vCmd x) ∧ x.op.key.size ≤ 9 ∧ x.op.data.size ≤ 2000 ∧ AtS w' p ∧ Mod w.heap.size p w w'
set_option maxRecDepth 20000 in
set_option maxHeartbeats 8000000 in
theorem cmd_any (w : World) (p : Nat) (h : AtS w p) : Calls Tryz.prog 51 #[.pointer (some ⟨p, 0, none⟩)] w (DrawnC w p) := by
 have S0 : Hid (RsD w p w.heap.size 40 (w.alloc (.cells #[.int .i64 0, .int .i64 0, .int .i64 0, .string ⟨#[]⟩, .int .i64 0, .int .i64 0, .string ⟨#[]⟩] 40)) #[.int .i64 0, .int .i64 0, .int .i64 0, .string ⟨#[]⟩, .int .i64 0, .int .i64 0, .string ⟨#[]⟩]) := RsD.start h _ _
 clear h
 go_enter Tryz.func51, Tryz.ntmps51
 go_wp2_with fail
 generalize w.alloc (.cells #[.int .i64 0, .int .i64 0, .int .i64 0, .string ⟨#[]⟩, .int .i64 0, .int .i64 0, .string ⟨#[]⟩] 40) = w0 at *
 refine (belowS w0 p 4 (by omega) (by omega) S0.out.a).mono ?_
 rintro e w1 ⟨a, rfl, ⟨a0, a1⟩, hA, hm⟩
 have S1 : Hid (RsD w p w.heap.size 40 w1 #[.int .i64 0, .int .i64 0, .int .i64 0, .string ⟨#[]⟩, .int .i64 0, .int .i64 0, .string ⟨#[]⟩]) := S0.out.draw hA hm
 clear hA hm S0
 go_wp2_with fail
 refine (belowS w1 p 5 (by omega) (by omega) S1.out.a).mono ?_
 rintro e w2 ⟨b, rfl, ⟨b0, b1⟩, hA, hm⟩
 have S2 : Hid (RsD w p w.heap.size 40 w2 #[.int .i64 0, .int .i64 0, .int .i64 0, .string ⟨#[]⟩, .int .i64 0, .int .i64 0, .string ⟨#[]⟩]) := S1.out.draw hA hm
 clear hA hm S1
 go_wp2_with fail
 refine (belowS w2 p 2 (by omega) (by omega) S2.out.a).mono ?_
 rintro e w3 ⟨q, rfl, ⟨q0, q1⟩, hA, hm⟩
 have S3 : Hid (RsD w p w.heap.size 40 w3 #[.int .i64 0, .int .i64 0, .int .i64 0, .string ⟨#[]⟩, .int .i64 0, .int .i64 0, .string ⟨#[]⟩]) := S2.out.draw hA hm
 clear hA hm S2
 go_wp2_with fail
 refine (op_any w3 p (1 + q) (by omega) S3.out.a).mono ?_
 rintro e w4 ⟨⟨kd, ky, f, t, d⟩, rfl, hkx, hdx, hA, hm⟩
 have S4 : Hid (RsD w p w.heap.size 40 w4 #[.int .i64 0, .int .i64 0, .int .i64 0, .string ⟨#[]⟩, .int .i64 0, .int .i64 0, .string ⟨#[]⟩]) := S3.out.draw hA hm
 clear hA hm S3
 have HKX : Hid (ky.size ≤ 9) := hkx
 have HDX : Hid (d.size ≤ 2000) := hdx
 clear hdx hkx
 unfold vOp
 obtain ⟨g, hg⟩ : ∃ g, g = w4.heap.size := ⟨_, rfl⟩
 have S5 : Hid (BxD w p g w.heap.size 40 (w4.alloc (.cells #[.int .i64 (1 + a), .int .i64 (1 + b), .int .i64 kd, .string ky, .int .i64 f, .int .i64 t, .string d] 40)) #[.int .i64 0, .int .i64 0, .int .i64 0, .string ⟨#[]⟩, .int .i64 0, .int .i64 0, .string ⟨#[]⟩] #[.int .i64 (1 + a), .int .i64 (1 + b), .int .i64 kd, .string ky, .int .i64 f, .int .i64 t, .string d]) := by rw [hg]; exact S4.out.box _
 go_wp2_with fail
 rw [← hg]
 clear hg S4
 generalize w4.alloc (.cells #[.int .i64 (1 + a), .int .i64 (1 + b), .int .i64 kd, .string ky, .int .i64 f, .int .i64 t, .string d] 40) = w5 at *
 generalize 1 + a = c1 at *
 generalize 1 + b = s1 at *
 refine (once_some w5 p 15 (by omega) S5.out.a).mono ?_
 rintro e w6 ⟨o1, rfl, hA, hm⟩
 have S6 : Hid (BxD w p g w.heap.size 40 w6 #[.int .i64 0, .int .i64 0, .int .i64 0, .string ⟨#[]⟩, .int .i64 0, .int .i64 0, .string ⟨#[]⟩] #[.int .i64 c1, .int .i64 s1, .int .i64 kd, .string ky, .int .i64 f, .int .i64 t, .string d]) := S5.out.draw hA hm
 clear hA hm S5
 go_upto_if 17 with fail
 go_cut [] from 18 to 21 (fun wc => ∃ c s : Int, BxD w p g w.heap.size 40 wc #[.int .i64 0, .int .i64 0, .int .i64 0, .string ⟨#[]⟩, .int .i64 0, .int .i64 0, .string ⟨#[]⟩] #[.int .i64 c, .int .i64 s, .int .i64 kd, .string ky, .int .i64 f, .int .i64 t, .string d])
 case first =>
  cases o1
  ·go_wp2_with fail
   go_meet
   exact ⟨_, _, S6.out⟩
  ·have S7 : Hid (BxD w p g w.heap.size 40 (w6.alloc (.cells #[.int .i64 (-1), .int .i64 0, .int .i64 5] 3)) #[.int .i64 0, .int .i64 0, .int .i64 0, .string ⟨#[]⟩, .int .i64 0, .int .i64 0, .string ⟨#[]⟩] #[.int .i64 c1, .int .i64 s1, .int .i64 kd, .string ky, .int .i64 f, .int .i64 t, .string d]) := S6.out.alloc _
   have K7 : Hid (Blk (w6.alloc (.cells #[.int .i64 (-1), .int .i64 0, .int .i64 5] 3)) w6.heap.size #[.int .i64 (-1), .int .i64 0, .int .i64 5] 3) := Blk.new _ _ _
   have Z7 : Hid (w6.heap.size ≠ p) := by have := S6.out.a.lt; unfold Hid; omega
   go_wp2_with fail
   generalize w6.alloc (.cells #[.int .i64 (-1), .int .i64 0, .int .i64 5] 3) = w7 at *
   refine (pickS w7 p w6.heap.size [-1, 0, 5] 3 rfl (by omega) (by omega) (fun _ => True) trivial (fun _ _ => trivial) S7.out.a Z7.out K7.out).mono ?_
   rintro e w8 ⟨z, rfl, -, hA, hm⟩
   have S8 : Hid (BxD w p g w.heap.size 40 w8 #[.int .i64 0, .int .i64 0, .int .i64 0, .string ⟨#[]⟩, .int .i64 0, .int .i64 0, .string ⟨#[]⟩] #[.int .i64 c1, .int .i64 s1, .int .i64 kd, .string ky, .int .i64 f, .int .i64 t, .string d]) := S7.out.draw hA hm
   clear hA hm S6 S7 K7 Z7
   have e0 := S8.out.box.cell 0 _ rfl
   have f0 := S8.out.box.free 0
   have S9 : Hid (BxD w p g w.heap.size 40 (w8.setCell ⟨g, 0, none⟩ (.int .i64 z)) #[.int .i64 0, .int .i64 0, .int .i64 0, .string ⟨#[]⟩, .int .i64 0, .int .i64 0, .string ⟨#[]⟩] #[.int .i64 z, .int .i64 s1, .int .i64 kd, .string ky, .int .i64 f, .int .i64 t, .string d]) := (S8.out.set 0 (.int .i64 z))
   go_wp2_with fail
   go_meet
   exact ⟨_, _, S9.out⟩
 case rest =>
  obtain ⟨c, s, hS⟩ := hcut
  clear S6
  have S16 : Hid (BxD w p g w.heap.size 40 wc #[.int .i64 0, .int .i64 0, .int .i64 0, .string ⟨#[]⟩, .int .i64 0, .int .i64 0, .string ⟨#[]⟩] #[.int .i64 c, .int .i64 s, .int .i64 kd, .string ky, .int .i64 f, .int .i64 t, .string d]) := hS
  clear hS
  go_wp2_with fail
  refine (once_some wc p 15 (by omega) S16.out.a).mono ?_
  rintro e w7 ⟨o2, rfl, hA, hm⟩
  have S17 : Hid (BxD w p g w.heap.size 40 w7 #[.int .i64 0, .int .i64 0, .int .i64 0, .string ⟨#[]⟩, .int .i64 0, .int .i64 0, .string ⟨#[]⟩] #[.int .i64 c, .int .i64 s, .int .i64 kd, .string ky, .int .i64 f, .int .i64 t, .string d]) := S16.out.draw hA hm
  clear hA hm S16
  go_upto_if 23 with fail
  go_cut [] from 24 to 27 (fun wc => ∃ c s : Int, BxD w p g w.heap.size 40 wc #[.int .i64 0, .int .i64 0, .int .i64 0, .string ⟨#[]⟩, .int .i64 0, .int .i64 0, .string ⟨#[]⟩] #[.int .i64 c, .int .i64 s, .int .i64 kd, .string ky, .int .i64 f, .int .i64 t, .string d])
  case first =>
   cases o2
   ·go_wp2_with fail
    go_meet
    exact ⟨_, _, S17.out⟩
   ·have S18 : Hid (BxD w p g w.heap.size 40 (w7.alloc (.cells #[.int .i64 (-1), .int .i64 0, .int .i64 1000000, .int .i64 1000001] 3)) #[.int .i64 0, .int .i64 0, .int .i64 0, .string ⟨#[]⟩, .int .i64 0, .int .i64 0, .string ⟨#[]⟩] #[.int .i64 c, .int .i64 s, .int .i64 kd, .string ky, .int .i64 f, .int .i64 t, .string d]) := S17.out.alloc _
    have K18 : Hid (Blk (w7.alloc (.cells #[.int .i64 (-1), .int .i64 0, .int .i64 1000000, .int .i64 1000001] 3)) w7.heap.size #[.int .i64 (-1), .int .i64 0, .int .i64 1000000, .int .i64 1000001] 3) := Blk.new _ _ _
    have Z18 : Hid (w7.heap.size ≠ p) := by have := S17.out.a.lt; unfold Hid; omega
    go_wp2_with fail
    generalize w7.alloc (.cells #[.int .i64 (-1), .int .i64 0, .int .i64 1000000, .int .i64 1000001] 3) = w8 at *
    refine (pickS w8 p w7.heap.size [-1, 0, 1000000, 1000001] 4 rfl (by omega) (by omega) (fun _ => True) trivial (fun _ _ => trivial) S18.out.a Z18.out K18.out).mono ?_
    rintro e w9 ⟨z, rfl, -, hA, hm⟩
    have S19 : Hid (BxD w p g w.heap.size 40 w9 #[.int .i64 0, .int .i64 0, .int .i64 0, .string ⟨#[]⟩, .int .i64 0, .int .i64 0, .string ⟨#[]⟩] #[.int .i64 c, .int .i64 s, .int .i64 kd, .string ky, .int .i64 f, .int .i64 t, .string d]) := S18.out.draw hA hm
    clear hA hm S17 S18 K18 Z18
    have e1 := S19.out.box.cell 1 _ rfl
    have f1 := S19.out.box.free 1
    have S20 : Hid (BxD w p g w.heap.size 40 (w9.setCell ⟨g, 1, none⟩ (.int .i64 z)) #[.int .i64 0, .int .i64 0, .int .i64 0, .string ⟨#[]⟩, .int .i64 0, .int .i64 0, .string ⟨#[]⟩] #[.int .i64 c, .int .i64 z, .int .i64 kd, .string ky, .int .i64 f, .int .i64 t, .string d]) := (S19.out.set 1 (.int .i64 z))
    go_wp2_with fail
    go_meet
    exact ⟨_, _, S20.out⟩
  case rest =>
   obtain ⟨c, s, hS⟩ := hcut
   clear S17
   have S27 : Hid (BxD w p g w.heap.size 40 wc #[.int .i64 0, .int .i64 0, .int .i64 0, .string ⟨#[]⟩, .int .i64 0, .int .i64 0, .string ⟨#[]⟩] #[.int .i64 c, .int .i64 s, .int .i64 kd, .string ky, .int .i64 f, .int .i64 t, .string d]) := hS
   clear hS
   obtain ⟨e0, e1, e2, e3, e4, e5, e6⟩ := cellsC7 S27.out.box
   obtain ⟨⟨r0, q0⟩, ⟨r1, q1⟩, ⟨r2, q2⟩, ⟨r3, q3⟩, ⟨r4, q4⟩, ⟨r5, q5⟩, ⟨r6, q6⟩, n0, n1, n2, n3, n4, n5, n6⟩ := resC7 (x0 := .int .i64 c) (x1 := .int .i64 s) (x2 := .int .i64 kd) (x3 := .string ky) (x4 := .int .i64 f) (x5 := .int .i64 t) (x6 := .string d) S27.out.res
   have FF := (((((((S27.out.setR 0 (.int .i64 c)).setR 1 (.int .i64 s)).setR 2 (.int .i64 kd)).setR 3 (.string ky)).setR 4 (.int .i64 f)).setR 5 (.int .i64 t)).setR 6 (.string d))
   have HA := Hid.mk FF.a
   have HM := Hid.mk FF.m
   clear FF S27
   go_wp2_with fail
   exact bodyPost_ret (v := .agg #[.int .i64 c, .int .i64 s, .int .i64 kd, .string ky, .int .i64 f, .int .i64 t, .string d]) (by simp [results, go_sem, n0, n1, n2, n3, n4, n5, n6]) rfl ⟨⟨c, s, ⟨kd, ky, f, t, d⟩⟩, rfl, HKX.out, HDX.out, HA.out, HM.out⟩
theorem drawShowCmd (w : World) (ao : Option Addr) (len cap : Nat) (cs : Nat → Nat) (hl : len ≤ 1048576) (h : CodeIs w w.heap.size ao len cs) :
  Calls Tryz.prog 15 #[.slice ao len cap] w fun e w' => (∃ x : Cmx, e = .returned (vCmd x) ∧ x.op.key.size ≤ 9 ∧ x.op.data.size ≤ 2000) ∧ Below w.heap.size w w' := by
 have HC : Hid (CodeIs w w.heap.size ao len cs) := h
 clear h
 have al : Below w.heap.size w (w.alloc (.cells #[.int .i64 0, .int .i64 0, .int .i64 0, .string ⟨#[]⟩, .int .i64 0, .int .i64 0, .string ⟨#[]⟩] 40)) := (Below.refl _ _).alloc (Nat.le_refl _) _
 have B0 := Hid.mk al
 have K0 : Hid (Blk (w.alloc (.cells #[.int .i64 0, .int .i64 0, .int .i64 0, .string ⟨#[]⟩, .int .i64 0, .int .i64 0, .string ⟨#[]⟩] 40)) w.heap.size #[.int .i64 0, .int .i64 0, .int .i64 0, .string ⟨#[]⟩, .int .i64 0, .int .i64 0, .string ⟨#[]⟩] 40) := Blk.new w _ _
 have C0 := Hid.mk (HC.out.on al)
 clear al
 go_enter Tryz.func15, Tryz.ntmps15
 go_wp2_with fail
 generalize w.alloc (.cells #[.int .i64 0, .int .i64 0, .int .i64 0, .string ⟨#[]⟩, .int .i64 0, .int .i64 0, .string ⟨#[]⟩] 40) = w0 at *
 refine (new_any w0 ao len cap cs hl C0.out).mono ?_
 rintro e w1 ⟨rfl, hA1, hb1⟩
 have HB1 := Hid.mk hb1
 have HA1 := Hid.mk (show AtS w1 w0.heap.size from ⟨_, _, _, _, _, hA1⟩)
 clear hb1 hA1
 go_wp2_with fail
 refine (cmd_any w1 w0.heap.size HA1.out).mono ?_
 rintro e w2 ⟨⟨c, s, ⟨kd, ky, f, t, d⟩⟩, rfl, hk, hd, -, hm⟩
 have HB2 : Hid (Below w0.heap.size w0 w2) := HB1.out.trans ((hm.mono HB1.out.size).below (Nat.le_refl _))
 have hK := K0.out.on HB2.out K0.out.lt
 have HBE := Hid.mk (belowC7 (B0.out.trans (HB2.out.mono B0.out.size)) (Nat.le_refl _) (.int .i64 c) (.int .i64 s) (.int .i64 kd) (.string ky) (.int .i64 f) (.int .i64 t) (.string d))
 have HX := Hid.mk (And.intro hk hd)
 obtain ⟨⟨r0, q0⟩, ⟨r1, q1⟩, ⟨r2, q2⟩, ⟨r3, q3⟩, ⟨r4, q4⟩, ⟨r5, q5⟩, ⟨r6, q6⟩, n0, n1, n2, n3, n4, n5, n6⟩ := resC7 (x0 := .int .i64 c) (x1 := .int .i64 s) (x2 := .int .i64 kd) (x3 := .string ky) (x4 := .int .i64 f) (x5 := .int .i64 t) (x6 := .string d) hK
 unfold vCmd
 clear hm hK B0 K0 C0 HB1 HA1 HB2
 go_wp2_with fail
 exact bodyPost_ret (v := .agg #[.int .i64 c, .int .i64 s, .int .i64 kd, .string ky, .int .i64 f, .int .i64 t, .string d]) (by simp [results, go_sem, n0, n1, n2, n3, n4, n5, n6]) rfl ⟨⟨⟨c, s, ⟨kd, ky, f, t, d⟩⟩, rfl, HX.out⟩, HBE.out⟩
theorem drawShowAnswer (w : World) (ao : Option Addr) (len cap : Nat) (cs : Nat → Nat) (hl : len ≤ 1048576) (h : CodeIs w w.heap.size ao len cs) :
  Calls Tryz.prog 18 #[.slice ao len cap] w fun e w' => (∃ x : Ans, e = .returned (vAns x) ∧ x.data.size ≤ 1000) ∧ Below w.heap.size w w' := by
 have HC : Hid (CodeIs w w.heap.size ao len cs) := h
 clear h
 have al : Below w.heap.size w (w.alloc (.cells #[.int .i64 0, .int .i64 0, .int .i64 0, .string ⟨#[]⟩] 46)) := (Below.refl _ _).alloc (Nat.le_refl _) _
 have B0 := Hid.mk al
 have K0 : Hid (Blk (w.alloc (.cells #[.int .i64 0, .int .i64 0, .int .i64 0, .string ⟨#[]⟩] 46)) w.heap.size #[.int .i64 0, .int .i64 0, .int .i64 0, .string ⟨#[]⟩] 46) := Blk.new w _ _
 have C0 := Hid.mk (HC.out.on al)
 clear al
 go_enter Tryz.func18, Tryz.ntmps18
 go_wp2_with fail
 generalize w.alloc (.cells #[.int .i64 0, .int .i64 0, .int .i64 0, .string ⟨#[]⟩] 46) = w0 at *
 refine (new_any w0 ao len cap cs hl C0.out).mono ?_
 rintro e w1 ⟨rfl, hA1, hb1⟩
 have HB1 := Hid.mk hb1
 have HA1 := Hid.mk (show AtS w1 w0.heap.size from ⟨_, _, _, _, _, hA1⟩)
 clear hb1 hA1
 go_wp2_with fail
 refine (answer_any w1 w0.heap.size HA1.out).mono ?_
 rintro e w2 ⟨⟨c, i, m, d⟩, rfl, hd, -, hm⟩
 have HB2 : Hid (Below w0.heap.size w0 w2) := HB1.out.trans ((hm.mono HB1.out.size).below (Nat.le_refl _))
 have hK := K0.out.on HB2.out K0.out.lt
 have HBE := Hid.mk (belowC4 (B0.out.trans (HB2.out.mono B0.out.size)) (Nat.le_refl _) (.int .i64 c) (.int .i64 i) (.int .i64 m) (.string d))
 have HX := Hid.mk hd
 obtain ⟨⟨r0, q0⟩, ⟨r1, q1⟩, ⟨r2, q2⟩, ⟨r3, q3⟩, n0, n1, n2, n3⟩ := resC4 (x0 := .int .i64 c) (x1 := .int .i64 i) (x2 := .int .i64 m) (x3 := .string d) hK
 unfold vAns
 clear hm hK B0 K0 C0 HB1 HA1 HB2
 go_wp2_with fail
 exact bodyPost_ret (v := .agg #[.int .i64 c, .int .i64 i, .int .i64 m, .string d]) (by simp [results, go_sem, n0, n1, n2, n3]) rfl ⟨⟨⟨c, i, m, d⟩, rfl, HX.out⟩, HBE.out⟩
theorem drawReadMsg (w : World) (ao : Option Addr) (len cap : Nat) (cs : Nat → Nat) (hl : len ≤ 1048576) (h : CodeIs w w.heap.size ao len cs) :
  Calls Tryz.prog 22 #[.slice ao len cap] w fun e w' => (∃ t : ByteArray, e = .returned (.string t) ∧ t.size ≤ 20000) ∧ Below w.heap.size w w' := by
 have HC : Hid (CodeIs w w.heap.size ao len cs) := h
 clear h
 go_enter Tryz.func22, Tryz.ntmps22
 go_wp2_with fail
 refine (new_any w ao len cap cs hl HC.out).mono ?_
 rintro e w1 ⟨rfl, hA1, hb1⟩
 have B1 := Hid.mk hb1
 have A1 := Hid.mk (show AtS w1 w.heap.size from ⟨_, _, _, _, _, hA1⟩)
 clear hb1 hA1
 go_wp2_with fail
 refine (anyMsg_any w1 w.heap.size A1.out).mono ?_
 rintro e w2 ⟨x, u, rfl, hO, hl, hd, hz, hA, hm⟩
 have B2 : Hid (Below w.heap.size w w2) := B1.out.trans ((hm.mono B1.out.size).below (Nat.le_refl _))
 have A2 := Hid.mk hA
 have HV := Hid.mk hO.lies
 have HFi : Hid (FitsM x) := ⟨by unfold maxLen; omega, fun y hy => by have := hd y hy; unfold maxLen; omega, by unfold maxLen; omega⟩
 have HWt : Hid (wtM x ≤ 1048576) := by have := wtE_few x.ents hd; unfold Hid wtM; omega
 have hT : (msgT x).size ≤ 7000 := by
  cases ho : msgOk x
  ·rw [msgT_no ho]; exact Nat.zero_le _
  ·exact (msgT_few hz ho).2
 clear hO hl hd hz hA hm B1 A1
 go_wp2_with fail
 refine (specShowMsg x u w2 w2.heap.size HV.out HFi.out HWt.out (Nat.le_refl _)).mono ?_
 rintro e w3 ⟨rfl, hb3⟩
 have B3 : Hid (Below w.heap.size w w3) := B2.out.trans (hb3.mono B2.out.size)
 have A3 := Hid.mk (A2.out.below hb3 A2.out.lt)
 clear hb3 B2 A2 HV HFi HWt
 generalize msgT x = s at *
 go_wp2_with fail
 refine (once_some w3 w.heap.size 4 (by omega) A3.out).mono ?_
 rintro e w4 ⟨o, rfl, hA, hm⟩
 have B4 : Hid (Below w.heap.size w w4) := B3.out.trans ((hm.mono B3.out.size).below (Nat.le_refl _))
 have A4 := Hid.mk hA
 clear hA hm B3 A3
 cases o
 rotate_left
 ·go_wp2_with fail
  refine (spoilS w4 w.heap.size s (by omega) A4.out).mono ?_
  rintro e w5 ⟨d, rfl, hd, -, hm⟩
  have B5 : Hid (Below w.heap.size w w5) := B4.out.trans ((hm.mono B4.out.size).below (Nat.le_refl _))
  have HD : Hid (d.size ≤ 20000) := by unfold Hid; omega
  clear hm hd
  go_wp2_with fail
  go_ret
  exact ⟨⟨d, rfl, HD.out⟩, B5.out⟩
 by_cases h4 : 4 < s.size
 rotate_left
 ·have d1 : decide ((4 : Int) < (s.size : Int)) = false := decide_eq_false (by omega)
  have d2 : decide (4 < s.size) = false := decide_eq_false h4
  have HS : Hid (s.size ≤ 20000) := by unfold Hid; omega
  clear h4
  go_wp2_with fail
  go_ret
  exact ⟨⟨s, rfl, HS.out⟩, B4.out⟩
 have d1 : decide ((4 : Int) < (s.size : Int)) = true := decide_eq_true (by omega)
 have d2 : decide (4 < s.size) = true := decide_eq_true h4
 have q4 : (4 : Int) ≤ (s.size : Int) := by omega
 go_wp2_with fail
 refine (once_some w4 w.heap.size 4 (by omega) A4.out).mono ?_
 rintro e w5 ⟨o, rfl, hA, hm⟩
 have B5 : Hid (Below w.heap.size w w5) := B4.out.trans ((hm.mono B4.out.size).below (Nat.le_refl _))
 have A5 := Hid.mk hA
 have HS : Hid (s.size ≤ 20000) := by unfold Hid; omega
 clear hA hm B4 A4
 cases o
 ·go_wp2_with fail
  go_ret
  exact ⟨⟨s, rfl, HS.out⟩, B5.out⟩
 have e4 : (s.extract 4 s.size).size ≤ 7000 := by rw [ByteArray.size_extract]; omega
 generalize hs4 : s.extract 4 s.size = s4 at *
 clear d1 d2 h4
 go_wp2_with fail
 try rw [hs4]
 refine (spoilS w5 w.heap.size s4 (by omega) A5.out).mono ?_
 rintro e w6 ⟨d, rfl, hd, -, hm⟩
 have B6 : Hid (Below w.heap.size w w6) := B5.out.trans ((hm.mono B5.out.size).below (Nat.le_refl _))
 have hc := crc_lt d
 have cC := fun wx => spec_crc d wx (by omega)
 have cF := fun wx => spec_fixed (crc d) 4 wx (by omega) (by omega) (by omega)
 have f4 := fixed_size4 (crc d) hc
 have HD : Hid (d.size ≤ 8000) := by unfold Hid; omega
 clear hm B5 A5
 generalize crc d = cd at *
 generalize fixed cd 4 = fx at *
 have ss : ¬ 9223372036854775807 < fx.size + d.size := by have := HD.out; omega
 have HSz : Hid ((fx ++ d).size ≤ 20000) := by unfold Hid; rw [ByteArray.size_append]; have := HD.out; omega
 clear hd hc f4 hs4
 go_wp2_with fail
 refine (cC w6).mono ?_
 rintro e w' ⟨rfl, rfl⟩
 go_wp2_with fail
 refine (cF w6).mono ?_
 rintro e w7 ⟨rfl, hb7⟩
 have B7 : Hid (Below w.heap.size w w7) := B6.out.trans (hb7.mono B6.out.size)
 clear hb7
 go_wp2_with fail
 go_ret
 exact ⟨⟨_, rfl, HSz.out⟩, B7.out⟩
end Go.Proofs.YtifmjdakefkbiaaGreatDoor
namespace Go.Proofs.YtifmjdakefkbiaaGreatDoor
open Go.ChangeShapes Go.WideShapes Go.ChangeAt Go.RowKit Go.PlainAid
set_option linter.unusedVariables false
set_option maxHeartbeats 2000000 in
theorem sameEnts (l : List Ent) (va vb : Value) (w : World) (B : Nat) (ha : Lies w B 2 va (entR l)) (hb : Lies w B 2 vb (entR l)) (hn : l.length ≤ 1048576) :
  Calls Tryz.prog 23 #[va, vb] w fun e w' => e = .returned (.bool true) ∧ Like w w' := by
 obtain ⟨A, cap, rfl, hl⟩ := ent_look ha
 obtain ⟨A', cap', rfl, hl'⟩ := ent_look hb
 have HL : Hid (∀ j, j < l.length → ∃ g off, A = some ⟨g, off, none⟩ ∧ g < B ∧ _) := hl
 have HL' : Hid (∀ j, j < l.length → ∃ g off, A' = some ⟨g, off, none⟩ ∧ g < B ∧ _) := hl'
 have q1 : (l.length : Int) ≤ 1048576 := by omega
 clear hl hl' ha hb hn
 generalize hN : l.length = n at *
 clear hN
 go_enter Tryz.func23, Tryz.ntmps23
 go_wp2_with fail
 go_loopw [5] (fun v5 wr => ∃ k : Nat, k ≤ n ∧ v5 = .int .i64 (k : Int) ∧ Like w wr) (fun i _ => n - (intOf i).toNat)
 case atStart => exact ⟨0, by omega, rfl, Like.refl _⟩
 case round =>
  obtain ⟨k, hk, rfl, hLk⟩ := hrel
  have HLk : Hid (Like w wr) := hLk
  by_cases hlt : k < n
  ·have q4 : (k : Int) < (n : Int) := by omega
   obtain ⟨g, off, rfl, hg, a0, a1⟩ := HL.out k hlt
   obtain ⟨g', off', rfl, hg', b0, b1⟩ := HL'.out k hlt
   rw [← cell?_heap hLk.1] at a0 a1 b0 b1
   generalize (l.getD k default).term = xt at *
   generalize (l.getD k default).data = xd at *
   have S0 : Hid (wr.drew.cell? ⟨g, off + k * 2, none⟩ = some (.int .i64 xt) ∧ wr.drew.cell? ⟨g, off + k * 2 + 1, none⟩ = some (.string xd) ∧ wr.drew.cell? ⟨g', off' + k * 2, none⟩ = some (.int .i64 xt) ∧ wr.drew.cell? ⟨g', off' + k * 2 + 1, none⟩ = some (.string xd)) := ⟨a0, a1, b0, b1⟩
   have hx : (xd.toList == xd.toList) = true := by simp
   clear a0 a1 b0 b1 hg hg' hLk
   go_wp2_with fail
   refine wp_region_until (fun w' => w'.cell? ⟨g, off + k * 2, none⟩ = some (.int .i64 xt) ∧ w'.cell? ⟨g, off + k * 2 + 1, none⟩ = some (.string xd) ∧ w'.cell? ⟨g', off' + k * 2, none⟩ = some (.int .i64 xt) ∧ w'.cell? ⟨g', off' + k * 2 + 1, none⟩ = some (.string xd)) (fun _ => false) 9 (by rfl) (by kernel_rfl) ?_
   refine pUf 0 ?_
   refine pUf 1 ?_
   refine pUf 2 ?_
   refine tKf 3 S0.out ?_
   refine pUf 4 ?_
   refine pUf 5 ?_
   refine pUf 6 ?_
   refine tKf 7 S0.out ?_
   refine pUf 8 ?_
   refine until_done (by kernel_rfl) ?_ _
   go_wp2_with fail
   go_roundw
   case rel => exact ⟨k + 1, by omega, by go_num, HLk.out⟩
   case measure => simp [intOf]; omega
  ·obtain rfl : k = n := by omega
   go_wp2_with fail
   go_ret
   exact ⟨rfl, hLk⟩
end Go.Proofs.YtifmjdakefkbiaaGreatDoor
namespace Go.Proofs.YtifmjdakefkbiaaGreatDoor
open Go.ChangeShapes Go.WideShapes Go.ChangeAt Go.RowKit Go.PlainAid
set_option linter.unusedVariables false
theorem catchCmd_panicking (u : TypeId) (pv : Value) (older : List PanicEntry) (w : World) :
  CallsD Tryz.prog 99 #[] (.panicking ({ v := .iface u pv, recovered := false } :: older)) w fun e u' w' =>
   e = .returned (.tuple #[]) ∧ u' = .panicking ({ v := .iface u pv, recovered := true } :: older) ∧ w' = w := by
 refine callsD_of_wpS Tryz.func99 rfl fun c₀ cs hu => ?_
 apply wpS_region
 simp [wpOpsS, go_sem, recoverD, hu, Tryz.ntmps99, bodyPostS, results, Tryz.results99]
theorem catchCmd_idle (w : World) :
  CallsD Tryz.prog 99 #[] .returning w fun e u' w' => e = .returned (.tuple #[]) ∧ u' = .returning ∧ w' = w := by
 refine callsD_of_wpS Tryz.func99 rfl fun c₀ cs hu => ?_
 apply wpS_region
 simp [wpOpsS, go_sem, recoverD, hu, Tryz.ntmps99, bodyPostS, results, Tryz.results99]
 cases c₀
 simp_all
set_option maxHeartbeats 2000000 in
theorem partsCmd (s : ByteArray) (w : World) (hs : s.size ≤ 1048576) (hst : SumTab w) (a0 a1 a2 : Addr) (he : Errs w a0 a1 a2) :
  Calls Tryz.prog 55 #[.string s, .func (.func 56) #[] #[]] w fun e w' => CmdA s e ∧ Below w.heap.size w w' := by
 have hmf : ∀ (fn : Fn) (first cap : Array Value) (w : World), (Instr.makeFunc fn first cap).run Tryz.prog w = .ok (.func fn first cap) w := fun _ _ _ _ => rfl
 have k0 := (Blk.new w #[.int .i64 0, .int .i64 0, .int .i64 0, .string ⟨#[]⟩, .int .i64 0, .int .i64 0, .string ⟨#[]⟩] 40).alloc (.cells #[.string s] 121)
 have p0 : Prt ((w.alloc (.cells #[.int .i64 0, .int .i64 0, .int .i64 0, .string ⟨#[]⟩, .int .i64 0, .int .i64 0, .string ⟨#[]⟩] 40)).alloc (.cells #[.string s] 121)) (w.heap.size + 1) s := by
  have := heap_alloc_new (w.alloc (.cells #[.int .i64 0, .int .i64 0, .int .i64 0, .string ⟨#[]⟩, .int .i64 0, .int .i64 0, .string ⟨#[]⟩] 40)) (.cells #[.string s] 121)
  rw [World.size_alloc] at this
  exact this
 have hb0 := below_c2 w (.cells #[.int .i64 0, .int .i64 0, .int .i64 0, .string ⟨#[]⟩, .int .i64 0, .int .i64 0, .string ⟨#[]⟩] 40) (.cells #[.string s] 121)
 go_enter_defers Tryz.func55, Tryz.ntmps55
 go_wp2_with fail
 generalize (w.alloc (.cells #[.int .i64 0, .int .i64 0, .int .i64 0, .string ⟨#[]⟩, .int .i64 0, .int .i64 0, .string ⟨#[]⟩] 40)).alloc (.cells #[.string s] 121) = X at *
 refine (takeCmd (w.heap.size + 1) s X p0 hs w hst a0 a1 a2 he hb0 (by omega)).mono ?_
 rintro e w1 ⟨hR, hk⟩
 have k1 := hk.blk k0 (by omega)
 have B1 : Hid (Below w.heap.size w w1) := hb0.trans (hk.1.mono (by omega))
 clear hk hb0 p0 k0 hs hst he
 rcases hR with ⟨x, hx, rfl⟩ | ⟨hn, rfl⟩
 ·have HX : Hid (CmdRd s x) := hx
  unfold vCmd
  clear hx
  obtain ⟨⟨r0, s0⟩, ⟨r1, s1⟩, ⟨r2, s2⟩, ⟨r3, s3⟩, ⟨r4, s4⟩, ⟨r5, s5⟩, ⟨r6, s6⟩, y0, y1, y2, y3, y4, y5, y6⟩ := resC7 (x0 := .int .i64 x.client) (x1 := .int .i64 x.serial) (x2 := .int .i64 x.op.kind) (x3 := .string x.op.key) (x4 := .int .i64 x.op.frm) (x5 := .int .i64 x.op.til) (x6 := .string x.op.data) k1
  have B2 : Hid (Below w.heap.size w _) := belowC7 B1.out (Nat.le_refl _) (.int .i64 x.client) (.int .i64 x.serial) (.int .i64 x.op.kind) (.string x.op.key) (.int .i64 x.op.frm) (.int .i64 x.op.til) (.string x.op.data)
  clear k1
  go_wp2_with fail
  refine leaves_cons (f := 99) (args := #[]) (by simp) (by simp [go_sem]) ?_
  refine (catchCmd_idle _).mono ?_
  rintro e u' w'' ⟨rfl, rfl, rfl⟩
  refine ⟨.tuple #[.agg #[.int .i64 x.client, .int .i64 x.serial, .int .i64 x.op.kind, .string x.op.key, .int .i64 x.op.frm, .int .i64 x.op.til, .string x.op.data], .bool true], ?_, .inl ⟨x, HX.out, rfl⟩, B2.out⟩
  simp [results, Tryz.results55, go_sem, y0, y1, y2, y3, y4, y5, y6]
 ·have HN : Hid (∀ x, ¬ CmdRd s x) := hn
  clear hn
  have hz := cellsC7 k1
  obtain ⟨y0, y1, y2, y3, y4, y5, y6⟩ := hz
  clear k1
  go_wp2_with fail
  refine leaves_cons (f := 99) (args := #[]) (by simp) (by simp [go_sem]) ?_
  refine (catchCmd_panicking _ _ [] _).mono ?_
  rintro e u' w'' ⟨rfl, rfl, rfl⟩
  refine ⟨.tuple #[.agg #[.int .i64 0, .int .i64 0, .int .i64 0, .string ⟨#[]⟩, .int .i64 0, .int .i64 0, .string ⟨#[]⟩], .bool false], ?_, .inr ⟨HN.out, rfl⟩, B1.out⟩
  simp [results, Tryz.results55, go_sem, y0, y1, y2, y3, y4, y5, y6]
set_option maxHeartbeats 1000000 in
theorem implReadCmd (s : ByteArray) (w : World) (hs : s.size ≤ 1048576) (hst : SumTab w) (a0 a1 a2 : Addr) (he : Errs w a0 a1 a2) :
  Calls Tryz.prog 17 #[.string s] w fun e w' => CmdA s e ∧ Below w.heap.size w w' := by
 have c := fun wx (hb : Below w.heap.size w wx) => partsCmd s wx hs (hst.on hb) a0 a1 a2 (he.on hb)
 have k0 := Blk.new w #[.int .i64 0, .int .i64 0, .int .i64 0, .string ⟨#[]⟩, .int .i64 0, .int .i64 0, .string ⟨#[]⟩] 40
 have hb0 := (Below.refl w.heap.size w).alloc (Nat.le_refl _) (.cells #[.int .i64 0, .int .i64 0, .int .i64 0, .string ⟨#[]⟩, .int .i64 0, .int .i64 0, .string ⟨#[]⟩] 40)
 clear hs hst he
 go_enter Tryz.func17, Tryz.ntmps17
 go_wp2_with fail
 generalize w.alloc (.cells #[.int .i64 0, .int .i64 0, .int .i64 0, .string ⟨#[]⟩, .int .i64 0, .int .i64 0, .string ⟨#[]⟩] 40) = X at *
 refine (c _ hb0).mono ?_
 rintro e w1 ⟨hR, hb1⟩
 have k1 := k0.on hb1 k0.lt
 have B1 : Hid (Below w.heap.size w w1) := hb0.trans (hb1.mono hb0.size)
 have HR : Hid (CmdA s e) := hR
 obtain ⟨x, b, rfl⟩ := hR.form
 clear hb0 hb1 c k0 hR
 unfold vCmd at *
 obtain ⟨⟨r0, s0⟩, ⟨r1, s1⟩, ⟨r2, s2⟩, ⟨r3, s3⟩, ⟨r4, s4⟩, ⟨r5, s5⟩, ⟨r6, s6⟩, y0, y1, y2, y3, y4, y5, y6⟩ := resC7 (x0 := .int .i64 x.client) (x1 := .int .i64 x.serial) (x2 := .int .i64 x.op.kind) (x3 := .string x.op.key) (x4 := .int .i64 x.op.frm) (x5 := .int .i64 x.op.til) (x6 := .string x.op.data) k1
 have B2 : Hid (Below w.heap.size w _) := belowC7 B1.out (Nat.le_refl _) (.int .i64 x.client) (.int .i64 x.serial) (.int .i64 x.op.kind) (.string x.op.key) (.int .i64 x.op.frm) (.int .i64 x.op.til) (.string x.op.data)
 clear k1 B1
 go_wp2_with fail
 exact bodyPost_ret (v := .tuple #[.agg #[.int .i64 x.client, .int .i64 x.serial, .int .i64 x.op.kind, .string x.op.key, .int .i64 x.op.frm, .int .i64 x.op.til, .string x.op.data], .bool b]) (by simp [results, go_sem, y0, y1, y2, y3, y4, y5, y6]) rfl ⟨HR.out, B2.out⟩
end Go.Proofs.YtifmjdakefkbiaaGreatDoor
namespace Go.Proofs.YtifmjdakefkbiaaGreatDoor
open Go.ChangeShapes Go.WideShapes Go.ChangeAt Go.RowKit Go.PlainAid
set_option linter.unusedVariables false
theorem cmd_none : ∀ y, ¬ CmdRd ⟨#[]⟩ y := by
 rintro y ⟨c, i, n, h, _⟩
 have := h.ge
 have : (⟨#[]⟩ : ByteArray).size = 0 := rfl
 omega
theorem ans_none : ∀ y, ¬ AnsRd ⟨#[]⟩ y := by
 rintro y ⟨c, i, m, n, h, _⟩
 have := h.ge
 have : (⟨#[]⟩ : ByteArray).size = 0 := rfl
 omega
theorem msg_none : ∀ y, ¬ MgRd ⟨#[]⟩ y := by
 rintro y ⟨a, b, c, h, _⟩
 have := h.inS
 have : (⟨#[]⟩ : ByteArray).size = 0 := rfl
 omega
theorem cmd_same {x : Cmx} {e : Ending} (h : CmdA (cmdT x) e) (ho : (trnOk x && opOk x.op) = true) : e = .returned (.tuple #[vCmd x, .bool true]) := by
 rcases h with ⟨y, hy, rfl⟩ | ⟨hn, rfl⟩
 ·rw [hy.one (cmdT_rd ho)]
 ·exact absurd (cmdT_rd ho) (hn x)
theorem cmd_not {x : Cmx} {e : Ending} (h : CmdA (cmdT x) e) (ho : ¬ (trnOk x && opOk x.op) = true) : cmdT x = ⟨#[]⟩ ∧ e = .returned (.tuple #[vCmd ⟨0, 0, ⟨0, ⟨#[]⟩, 0, 0, ⟨#[]⟩⟩⟩, .bool false]) := by
 have e0 : cmdT x = ⟨#[]⟩ := by unfold cmdT; rw [if_neg ho]
 rw [e0] at h
 rcases h with ⟨y, hy, _⟩ | ⟨_, rfl⟩
 ·exact absurd hy (cmd_none y)
 ·exact ⟨e0, rfl⟩
theorem ans_same {x : Ans} {e : Ending} (h : AnsA (ansT x) e) (ho : ansOk x = true) : e = .returned (.tuple #[vAns x, .bool true]) := by
 rcases h with ⟨y, hy, rfl⟩ | ⟨hn, rfl⟩
 ·rw [hy.one (ansT_rd ho)]
 ·exact absurd (ansT_rd ho) (hn x)
theorem ans_not {x : Ans} {e : Ending} (h : AnsA (ansT x) e) (ho : ansOk x = false) : e = .returned (.tuple #[vAns ⟨0, 0, 0, ⟨#[]⟩⟩, .bool false]) := by
 have e0 : ansT x = ⟨#[]⟩ := by unfold ansT; rw [ho]; rfl
 rw [e0] at h
 rcases h with ⟨y, hy, _⟩ | ⟨_, rfl⟩
 ·exact absurd hy (ans_none y)
 ·rfl
theorem cmd_size {x : Cmx} (hd : x.op.data.size ≤ 2000) : (cmdT x).size ≤ 2100 := by
 unfold cmdT
 split
 ·have h1 := vF_length 6 x.client.toNat
  have h2 := vF_length 6 x.serial.toNat
  have h3 := opT_size x.op
  simp only [ByteArray.size_append, txt_size]
  omega
 ·exact Nat.zero_le _
theorem cmd_some {x : Cmx} (ho : (trnOk x && opOk x.op) = true) : 1 ≤ (cmdT x).size := by
 have h := (cmdT_rd ho)
 obtain ⟨c, i, n, h, _⟩ := h
 have := h.ge
 omega
theorem MgRd.back {s : ByteArray} {x : Mg} (h : MgRd s x) : msgT x = s ∧ msgOk x = true := by
 obtain ⟨a, b, c, g1, g2, g3, g4⟩ := h
 refine ⟨?_, g4⟩
 have hi := g1.inS
 rw [msgT_yes g4, g1.body g2, show fixed (crc (lf s 4)) 4 = s.extract 0 4 from g3]
 exact (cut_in_two s 4 (by omega)).symm
theorem MgRd.short {s : ByteArray} {x : Mg} (h : MgRd s x) (hs : s.size ≤ 1048576) : wtM x ≤ 1048576 ∧ FitsM x := by
 obtain ⟨a, b, c, g1, _⟩ := h
 exact g1.short hs
theorem text_some0 {s : ByteArray} (h : 1 ≤ s.size) : s.toList.isEmpty = false ∧ (s.toList == []) = false ∧ (s.toList != []) = true ∧ ¬ s = ByteArray.empty ∧ ¬ s.toList = [] := by
 have h0 : ¬ s.toList = [] := fun e => by
  rw [Lib.toList_data] at e
  have : s.size = 0 := (by show s.data.size = 0; rw [← Array.length_toList, e]; rfl)
  omega
 have h1 : s.toList.isEmpty = false := by cases h : s.toList.isEmpty with | false => rfl | true => exact absurd (List.isEmpty_iff.1 h) h0
 have h2 : (s.toList == []) = false := by rw [List.beq_nil_eq]; exact h1
 exact ⟨h1, h2, by rw [bne, h2]; rfl, fun e => by rw [e] at h; simp at h, h0⟩
set_option maxRecDepth 20000 in
set_option maxHeartbeats 8000000 in
theorem law_fnTexts (ao : Option Addr) (len cap : Nat) (cs : Nat → Nat) (w : World) (h : CodeIs w w.heap.size ao len cs) (hl : len ≤ 9223372036854775807) (ht : SumTab w) (a0 a1 a2 : Addr) (he : Errs w a0 a1 a2) : Calls Tryz.prog 4 #[.slice ao len cap] w fun e w' => e = .returned (.bool true) ∧ Below w.heap.size w w' := by
 have ST : Hid (SumTab w) := ht
 have ER : Hid (Errs w a0 a1 a2) := he
 have HC : Hid (CodeIs w w.heap.size ao len cs) := h
 clear ht he h
 by_cases hbig : 1048576 < len
 ·go_enter Tryz.func4, Tryz.ntmps4
  go_wp2_with fail
  refine (big_yes w ao len cap hbig hl).mono ?_
  rintro e w' ⟨rfl, rfl⟩
  go_wp2_with fail
  go_ret
  exact ⟨rfl, Below.refl _ _⟩
 have HL : Hid (len ≤ 1048576) := by unfold Hid; omega
 have q0 : (len : Int) ≤ 1048576 := by omega
 clear hbig hl
 go_enter Tryz.func4, Tryz.ntmps4
 go_wp2_with fail
 refine (big_no w ao len cap HL.out).mono ?_
 rintro e w' ⟨rfl, rfl⟩
 go_wp2_with fail
 refine (drawShowCmd w ao len cap cs HL.out HC.out).mono ?_
 rintro e w1 ⟨⟨⟨c, s, ⟨kd, ky, f, t, d⟩⟩, rfl, hk, hd⟩, hb1⟩
 simp only at hk hd
 have B1 := Hid.mk hb1
 have B2 : Hid (Below w.heap.size w (w1.alloc (.cells #[.int .i64 c, .int .i64 s, .int .i64 kd, .string ky, .int .i64 f, .int .i64 t, .string d] 40))) := B1.out.alloc B1.out.size _
 have K2 := Hid.mk (Blk.new w1 #[.int .i64 c, .int .i64 s, .int .i64 kd, .string ky, .int .i64 f, .int .i64 t, .string d] 40)
 have HKz : Hid (ky.size ≤ 9) := hk
 have HDz : Hid (d.size ≤ 2000) := hd
 have cI := fun wx (hx : Below w.heap.size w wx) => implShowCmd ⟨c, s, ⟨kd, ky, f, t, d⟩⟩ wx (by show ky.size ≤ maxLen; have := HKz.out; unfold maxLen; omega) (by show d.size ≤ 1048576; have := HDz.out; omega) (ST.out.on hx) a0 a1 a2 (ER.out.on hx)
 have hcz := cmd_size (x := ⟨c, s, ⟨kd, ky, f, t, d⟩⟩) HDz.out
 have cR := fun wx (hx : Below w.heap.size w wx) => implReadCmd (cmdT ⟨c, s, ⟨kd, ky, f, t, d⟩⟩) wx (by omega) (ST.out.on hx) a0 a1 a2 (ER.out.on hx)
 clear hk hd hb1
 unfold vCmd at cI ⊢
 go_wp2_with fail
 generalize hw2 : w1.alloc (.cells #[.int .i64 c, .int .i64 s, .int .i64 kd, .string ky, .int .i64 f, .int .i64 t, .string d] 40) = w2 at *
 generalize hg2 : w1.heap.size = g2 at *
 clear hw2 hg2 B1
 obtain ⟨e0, e1, e2, e3, e4, e5, e6⟩ := cellsC7 K2.out
 go_wp2_with fail
 refine (cI w2 B2.out).mono ?_
 rintro e w3 ⟨rfl, hb3⟩
 have B3 : Hid (Below w.heap.size w w3) := B2.out.trans (hb3.mono B2.out.size)
 have K3 := Hid.mk (K2.out.on hb3 K2.out.lt)
 clear hb3 e0 e1 e2 e3 e4 e5 e6 B2 K2 cI
 go_wp2_with fail
 refine (cR w3 B3.out).mono ?_
 rintro e w4 ⟨hR, hb4⟩
 have B4 : Hid (Below w.heap.size w w4) := B3.out.trans (hb4.mono B3.out.size)
 have K4 := Hid.mk (K3.out.on hb4 K3.out.lt)
 clear hb4 B3 K3 cR
 obtain ⟨c2, s2, kd2, ky2, f2, t2, d2, ok5, rfl, hy5, hn5⟩ : ∃ c2 s2 kd2 ky2 f2 t2 d2 ok5, e = .returned (.tuple #[.agg #[.int .i64 c2, .int .i64 s2, .int .i64 kd2, .string ky2, .int .i64 f2, .int .i64 t2, .string d2], .bool ok5]) ∧ (ok5 = true → (c2 = c ∧ s2 = s ∧ kd2 = kd ∧ ky2 = ky ∧ f2 = f ∧ t2 = t ∧ d2 = d) ∧ 1 ≤ (cmdT ⟨c, s, ⟨kd, ky, f, t, d⟩⟩).size) ∧ (ok5 = false → cmdT ⟨c, s, ⟨kd, ky, f, t, d⟩⟩ = ⟨#[]⟩) := by
  by_cases ho : (trnOk ⟨c, s, ⟨kd, ky, f, t, d⟩⟩ && opOk (⟨kd, ky, f, t, d⟩ : Opx)) = true
  ·exact ⟨_, _, _, _, _, _, _, _, cmd_same hR ho, fun _ => ⟨⟨rfl, rfl, rfl, rfl, rfl, rfl, rfl⟩, cmd_some ho⟩, (fun h => by cases h)⟩
  ·exact ⟨_, _, _, _, _, _, _, _, (cmd_not hR ho).2, (fun h => by cases h), fun _ => (cmd_not hR ho).1⟩
 have HY := Hid.mk hy5
 have HN := Hid.mk hn5
 clear hR hcz hy5 hn5
 generalize cmdT ⟨c, s, ⟨kd, ky, f, t, d⟩⟩ = u3 at *
 have al := (Below.refl w4.heap.size w4).alloc (Nat.le_refl _) (.cells #[.int .i64 c2, .int .i64 s2, .int .i64 kd2, .string ky2, .int .i64 f2, .int .i64 t2, .string d2] 40)
 have B5 : Hid (Below w.heap.size w (w4.alloc (.cells #[.int .i64 c2, .int .i64 s2, .int .i64 kd2, .string ky2, .int .i64 f2, .int .i64 t2, .string d2] 40))) := B4.out.alloc B4.out.size _
 have L5 := Hid.mk (Blk.new w4 #[.int .i64 c2, .int .i64 s2, .int .i64 kd2, .string ky2, .int .i64 f2, .int .i64 t2, .string d2] 40)
 have K5 := Hid.mk (K4.out.alloc (.cells #[.int .i64 c2, .int .i64 s2, .int .i64 kd2, .string ky2, .int .i64 f2, .int .i64 t2, .string d2] 40))
 clear al B4 K4
 go_upto_region 6 with fail
 generalize hw5 : w4.alloc (.cells #[.int .i64 c2, .int .i64 s2, .int .i64 kd2, .string ky2, .int .i64 f2, .int .i64 t2, .string d2] 40) = w5 at *
 generalize hg5 : w4.heap.size = g5 at *
 clear hw5 hg5
 go_cut [39] from 28 to 39 (fun s39 wc => s39 = .bool false ∧ wc = w5)
 case first =>
  obtain ⟨e0, e1, e2, e3, e4, e5, e6⟩ := cellsC7 K5.out
  cases ok5
  ·obtain rfl := HN.out rfl
   go_wp2_with fail
   go_meet
   exact ⟨rfl, rfl⟩
  ·obtain ⟨⟨rfl, rfl, rfl, rfl, rfl, rfl, rfl⟩, h1⟩ := HY.out rfl
   obtain ⟨l0, l1, l2, l3, l4, l5, l6⟩ := cellsC7 L5.out
   obtain ⟨g1, gg2, g3, g4, gg5⟩ := text_some0 h1
   clear h1
   go_wp2_with fail
   go_meet
   exact ⟨rfl, rfl⟩
 case rest =>
  obtain ⟨rfl, rfl⟩ := hcut
  clear HY HN L5 K5
  go_wp2_with fail
  refine (drawShowAnswer wc ao len cap cs HL.out (HC.out.on B5.out)).mono ?_
  rintro e w6 ⟨⟨⟨ac, ai, am, ad⟩, rfl, hd⟩, hb6⟩
  simp only at hd
  have B6 : Hid (Below w.heap.size w w6) := B5.out.trans (hb6.mono B5.out.size)
  have B7 : Hid (Below w.heap.size w (w6.alloc (.cells #[.int .i64 ac, .int .i64 ai, .int .i64 am, .string ad] 46))) := B6.out.alloc B6.out.size _
  have K7 := Hid.mk (Blk.new w6 #[.int .i64 ac, .int .i64 ai, .int .i64 am, .string ad] 46)
  have HAz : Hid (ad.size ≤ 1000) := hd
  have cI := fun wx => implShowAnswer ⟨ac, ai, am, ad⟩ wx (by show ad.size ≤ maxLen; have := HAz.out; unfold maxLen; omega)
  have cK := fun wx => specAnswerOk ⟨ac, ai, am, ad⟩ wx (by show ad.size ≤ maxLen; have := HAz.out; unfold maxLen; omega)
  have hcz : (ansT ⟨ac, ai, am, ad⟩).size ≤ 1100 := by have h1 := ansT_small ⟨ac, ai, am, ad⟩; have h2 : (⟨ac, ai, am, ad⟩ : Ans).data.size ≤ 1000 := HAz.out; omega
  have cR := fun wx => implReadAnswer (ansT ⟨ac, ai, am, ad⟩) wx (by omega)
  clear hd hb6 B5
  unfold vAns at cI cK ⊢
  go_wp2_with fail
  generalize hw7 : w6.alloc (.cells #[.int .i64 ac, .int .i64 ai, .int .i64 am, .string ad] 46) = w7 at *
  generalize hg7 : w6.heap.size = g7 at *
  clear hw7 hg7 B6
  obtain ⟨e0, e1, e2, e3⟩ := cellsC4 K7.out
  go_wp2_with fail
  refine (cI w7).mono ?_
  rintro e w8 ⟨rfl, hb8⟩
  have B8 : Hid (Below w.heap.size w w8) := B7.out.trans (hb8.mono B7.out.size)
  have K8 := Hid.mk (K7.out.on hb8 K7.out.lt)
  clear hb8 e0 e1 e2 e3 B7 K7 cI
  go_wp2_with fail
  refine (cR w8).mono ?_
  rintro e w9 ⟨hR, hb9⟩
  have B9 : Hid (Below w.heap.size w w9) := B8.out.trans (hb9.mono B8.out.size)
  have K9 := Hid.mk (K8.out.on hb9 K8.out.lt)
  clear hb9 B8 K8 cR
  obtain ⟨bc, bi, bm, bd, okb, rfl, hy5, hn5⟩ : ∃ bc bi bm bd okb, e = .returned (.tuple #[.agg #[.int .i64 bc, .int .i64 bi, .int .i64 bm, .string bd], .bool okb]) ∧ (okb = true → (bc = ac ∧ bi = ai ∧ bm = am ∧ bd = ad) ∧ ansOk ⟨ac, ai, am, ad⟩ = true) ∧ (okb = false → ansOk ⟨ac, ai, am, ad⟩ = false) := by
   cases ho : ansOk ⟨ac, ai, am, ad⟩
   ·exact ⟨_, _, _, _, _, ans_not hR ho, (fun h => by cases h), fun _ => rfl⟩
   ·exact ⟨_, _, _, _, _, ans_same hR ho, fun _ => ⟨⟨rfl, rfl, rfl, rfl⟩, rfl⟩, (fun h => by cases h)⟩
  have HY := Hid.mk hy5
  have HN := Hid.mk hn5
  clear hR hcz hy5 hn5
  have B10 : Hid (Below w.heap.size w (w9.alloc (.cells #[.int .i64 bc, .int .i64 bi, .int .i64 bm, .string bd] 46))) := B9.out.alloc B9.out.size _
  have L10 := Hid.mk (Blk.new w9 #[.int .i64 bc, .int .i64 bi, .int .i64 bm, .string bd] 46)
  have K10 := Hid.mk (K9.out.alloc (.cells #[.int .i64 bc, .int .i64 bi, .int .i64 bm, .string bd] 46))
  clear B9 K9
  generalize ansT ⟨ac, ai, am, ad⟩ = u9 at *
  go_upto_region 10 with fail
  generalize hw10 : w9.alloc (.cells #[.int .i64 bc, .int .i64 bi, .int .i64 bm, .string bd] 46) = w10 at *
  generalize hg10 : w9.heap.size = g10 at *
  clear hw10 hg10
  go_cut [59] from 48 to 59 (fun s59 wc => s59 = .bool false ∧ Below w.heap.size w wc)
  case first =>
   obtain ⟨e0, e1, e2, e3⟩ := cellsC4 K10.out
   cases okb
   ·have cS := cK w10
    rw [HN.out rfl] at cS
    go_wp2_with fail
    refine cS.mono ?_
    rintro e w11 ⟨rfl, hb11⟩
    have B11 : Hid (Below w.heap.size w w11) := B10.out.trans (hb11.mono B10.out.size)
    clear hb11 cS e0 e1 e2 e3
    go_wp2_with fail
    go_meet
    exact ⟨rfl, B11.out⟩
   ·obtain ⟨⟨rfl, rfl, rfl, rfl⟩, h1⟩ := HY.out rfl
    have cS := cK w10
    rw [h1] at cS
    clear h1
    go_wp2_with fail
    refine cS.mono ?_
    rintro e w11 ⟨rfl, hb11⟩
    have B11 : Hid (Below w.heap.size w w11) := B10.out.trans (hb11.mono B10.out.size)
    clear e0 e1 e2 e3
    obtain ⟨e0, e1, e2, e3⟩ := cellsC4 (K10.out.on hb11 K10.out.lt)
    obtain ⟨l0, l1, l2, l3⟩ := cellsC4 (L10.out.on hb11 L10.out.lt)
    clear hb11 cS
    go_wp2_with fail
    go_meet
    exact ⟨rfl, B11.out⟩
  case rest =>
   obtain ⟨rfl, hBc⟩ := hcut
   have B11 := Hid.mk hBc
   clear HY HN L10 K10 B10 cK hBc
   go_wp2_with fail
   refine (drawReadMsg wc ao len cap cs HL.out (HC.out.on B11.out)).mono ?_
   rintro e w12 ⟨⟨t1, rfl, ht1⟩, hb12⟩
   have B12 : Hid (Below w.heap.size w w12) := B11.out.trans (hb12.mono B11.out.size)
   clear hb12 B11
   go_wp2_with fail
   refine (implReadMsg t1 w12 (by omega) (ST.out.on B12.out) a0 a1 a2 (ER.out.on B12.out)).mono ?_
   rintro e w13 ⟨⟨x1, u1, b1, hN1, rfl, hO1⟩, hb13⟩
   have B13 : Hid (Below w.heap.size w w13) := B12.out.trans (hb13.mono B12.out.size)
   obtain ⟨A1, m1, c1, rfl, _⟩ := hO1.shape
   have B14 : Hid (Below w.heap.size w (w13.alloc (.cells #[.int .i64 x1.kind, .int .i64 x1.frm, .int .i64 x1.dst, .int .i64 x1.term, .int .i64 x1.index, .int .i64 x1.iterm, .int .i64 x1.commit, .bool x1.yes, .slice A1 m1 c1, .string x1.data] 31))) := B13.out.alloc B13.out.size _
   have al := (Below.refl w13.heap.size w13).alloc (Nat.le_refl _) (.cells #[.int .i64 x1.kind, .int .i64 x1.frm, .int .i64 x1.dst, .int .i64 x1.term, .int .i64 x1.index, .int .i64 x1.iterm, .int .i64 x1.commit, .bool x1.yes, .slice A1 m1 c1, .string x1.data] 31)
   have K14 := Hid.mk (Blk.new w13 #[.int .i64 x1.kind, .int .i64 x1.frm, .int .i64 x1.dst, .int .i64 x1.term, .int .i64 x1.index, .int .i64 x1.iterm, .int .i64 x1.commit, .bool x1.yes, .slice A1 m1 c1, .string x1.data] 31)
   have V14 := Hid.mk (hO1.lies.on al)
   have G14 : Hid (w13.heap.size ≤ (w13.alloc (.cells #[.int .i64 x1.kind, .int .i64 x1.frm, .int .i64 x1.dst, .int .i64 x1.term, .int .i64 x1.index, .int .i64 x1.iterm, .int .i64 x1.commit, .bool x1.yes, .slice A1 m1 c1, .string x1.data] 31)).heap.size) := al.size
   have N1 := Hid.mk hN1
   have HT1 : Hid (t1.size ≤ 20000) := ht1
   clear hb13 B12 hO1 hN1 al ht1 B13
   go_wp2_with fail
   generalize hw14 : w13.alloc (.cells #[.int .i64 x1.kind, .int .i64 x1.frm, .int .i64 x1.dst, .int .i64 x1.term, .int .i64 x1.index, .int .i64 x1.iterm, .int .i64 x1.commit, .bool x1.yes, .slice A1 m1 c1, .string x1.data] 31) = w14 at *
   generalize hg14 : w13.heap.size = g14 at *
   clear hw14 hg14
   refine (drawShowMsg w14 ao len cap cs HL.out (HC.out.on B14.out)).mono ?_
   rintro e w15 ⟨⟨x2, u2, rfl, hO2, hl2, hd2, hz2⟩, hb15⟩
   have B15 : Hid (Below w.heap.size w w15) := B14.out.trans (hb15.mono B14.out.size)
   obtain ⟨A2, m2, c2, rfl, _⟩ := hO2.shape
   have al := (Below.refl w15.heap.size w15).alloc (Nat.le_refl _) (.cells #[.int .i64 x2.kind, .int .i64 x2.frm, .int .i64 x2.dst, .int .i64 x2.term, .int .i64 x2.index, .int .i64 x2.iterm, .int .i64 x2.commit, .bool x2.yes, .slice A2 m2 c2, .string x2.data] 31)
   have E15 := hb15.trans (al.mono hb15.size)
   have B16 : Hid (Below w.heap.size w (w15.alloc (.cells #[.int .i64 x2.kind, .int .i64 x2.frm, .int .i64 x2.dst, .int .i64 x2.term, .int .i64 x2.index, .int .i64 x2.iterm, .int .i64 x2.commit, .bool x2.yes, .slice A2 m2 c2, .string x2.data] 31))) := B15.out.alloc B15.out.size _
   have K16 := Hid.mk (K14.out.on E15 K14.out.lt)
   have V16 := Hid.mk (V14.out.on (E15.mono G14.out))
   have G16 : Hid (g14 ≤ (w15.alloc (.cells #[.int .i64 x2.kind, .int .i64 x2.frm, .int .i64 x2.dst, .int .i64 x2.term, .int .i64 x2.index, .int .i64 x2.iterm, .int .i64 x2.commit, .bool x2.yes, .slice A2 m2 c2, .string x2.data] 31)).heap.size) := Nat.le_trans G14.out E15.size
   have L16 := Hid.mk (Blk.new w15 #[.int .i64 x2.kind, .int .i64 x2.frm, .int .i64 x2.dst, .int .i64 x2.term, .int .i64 x2.index, .int .i64 x2.iterm, .int .i64 x2.commit, .bool x2.yes, .slice A2 m2 c2, .string x2.data] 31)
   have U16 := Hid.mk (hO2.lies.on al)
   have H16 : Hid (w15.heap.size ≤ (w15.alloc (.cells #[.int .i64 x2.kind, .int .i64 x2.frm, .int .i64 x2.dst, .int .i64 x2.term, .int .i64 x2.index, .int .i64 x2.iterm, .int .i64 x2.commit, .bool x2.yes, .slice A2 m2 c2, .string x2.data] 31)).heap.size) := al.size
   have HF2 : Hid (FitsM x2) := ⟨by unfold maxLen; omega, fun y hy => by have := hd2 y hy; unfold maxLen; omega, by unfold maxLen; omega⟩
   have HW2 : Hid (wtM x2 ≤ 1048576) := by have := wtE_few x2.ents hd2; unfold Hid wtM; omega
   have HZ2 : Hid (x2.data.size ≤ 3001 ∧ x2.ents.length ≤ 9) := ⟨hz2, hl2⟩
   clear hb15 B14 B15 K14 V14 G14 hO2 al E15 hl2 hd2 hz2
   go_wp2_with fail
   generalize hw16 : w15.alloc (.cells #[.int .i64 x2.kind, .int .i64 x2.frm, .int .i64 x2.dst, .int .i64 x2.term, .int .i64 x2.index, .int .i64 x2.iterm, .int .i64 x2.commit, .bool x2.yes, .slice A2 m2 c2, .string x2.data] 31) = w16 at *
   generalize hg16 : w15.heap.size = g16 at *
   clear hw16 hg16
   obtain ⟨e0, e1, e2, e3, e4, e5, e6, e7, e8, e9⟩ := cellsC10 L16.out
   go_wp2_with fail
   refine (implShowMsg x2 (.agg #[.int .i64 x2.kind, .int .i64 x2.frm, .int .i64 x2.dst, .int .i64 x2.term, .int .i64 x2.index, .int .i64 x2.iterm, .int .i64 x2.commit, .bool x2.yes, .slice A2 m2 c2, .string x2.data]) w16 g16 U16.out HF2.out (by have := HZ2.out.1; omega) H16.out (ST.out.on B16.out) a0 a1 a2 (ER.out.on B16.out)).mono ?_
   rintro e w17 ⟨rfl, hb17⟩
   have B17 : Hid (Below w.heap.size w w17) := B16.out.trans (hb17.mono B16.out.size)
   have hu2 : (msgT x2).size ≤ 7000 := by
    cases ho : msgOk x2
    ·rw [msgT_no ho]; exact Nat.zero_le _
    ·exact (msgT_few HZ2.out.1 ho).2
   clear e0 e1 e2 e3 e4 e5 e6 e7 e8 e9
   go_wp2_with fail
   refine (implReadMsg (msgT x2) w17 (by omega) (ST.out.on B17.out) a0 a1 a2 (ER.out.on B17.out)).mono ?_
   rintro e w18 ⟨⟨x3, u3', b3, hN3, rfl, hO3⟩, hb18⟩
   have B18 : Hid (Below w.heap.size w w18) := B17.out.trans (hb18.mono B17.out.size)
   obtain ⟨A3, m3, c3, rfl, _⟩ := hO3.shape
   have al := (Below.refl w18.heap.size w18).alloc (Nat.le_refl _) (.cells #[.int .i64 x3.kind, .int .i64 x3.frm, .int .i64 x3.dst, .int .i64 x3.term, .int .i64 x3.index, .int .i64 x3.iterm, .int .i64 x3.commit, .bool x3.yes, .slice A3 m3 c3, .string x3.data] 31)
   have E18 : Below w16.heap.size w16 (w18.alloc (.cells #[.int .i64 x3.kind, .int .i64 x3.frm, .int .i64 x3.dst, .int .i64 x3.term, .int .i64 x3.index, .int .i64 x3.iterm, .int .i64 x3.commit, .bool x3.yes, .slice A3 m3 c3, .string x3.data] 31)) := (hb17.trans (hb18.mono hb17.size)).trans (al.mono (Nat.le_trans hb17.size hb18.size))
   have B19 : Hid (Below w.heap.size w (w18.alloc (.cells #[.int .i64 x3.kind, .int .i64 x3.frm, .int .i64 x3.dst, .int .i64 x3.term, .int .i64 x3.index, .int .i64 x3.iterm, .int .i64 x3.commit, .bool x3.yes, .slice A3 m3 c3, .string x3.data] 31))) := B18.out.alloc B18.out.size _
   have K19 := Hid.mk (K16.out.on E18 K16.out.lt)
   have V19 := Hid.mk (V16.out.on (E18.mono G16.out))
   have G19 : Hid (g14 ≤ (w18.alloc (.cells #[.int .i64 x3.kind, .int .i64 x3.frm, .int .i64 x3.dst, .int .i64 x3.term, .int .i64 x3.index, .int .i64 x3.iterm, .int .i64 x3.commit, .bool x3.yes, .slice A3 m3 c3, .string x3.data] 31)).heap.size) := Nat.le_trans G16.out E18.size
   have L19 := Hid.mk (L16.out.on E18 L16.out.lt)
   have U19 := Hid.mk (U16.out.on (E18.mono H16.out))
   have H19 : Hid (g16 ≤ (w18.alloc (.cells #[.int .i64 x3.kind, .int .i64 x3.frm, .int .i64 x3.dst, .int .i64 x3.term, .int .i64 x3.index, .int .i64 x3.iterm, .int .i64 x3.commit, .bool x3.yes, .slice A3 m3 c3, .string x3.data] 31)).heap.size) := Nat.le_trans H16.out E18.size
   have J19 := Hid.mk (Blk.new w18 #[.int .i64 x3.kind, .int .i64 x3.frm, .int .i64 x3.dst, .int .i64 x3.term, .int .i64 x3.index, .int .i64 x3.iterm, .int .i64 x3.commit, .bool x3.yes, .slice A3 m3 c3, .string x3.data] 31)
   have T19 := Hid.mk (hO3.lies.on al)
   have I19 : Hid (w18.heap.size ≤ (w18.alloc (.cells #[.int .i64 x3.kind, .int .i64 x3.frm, .int .i64 x3.dst, .int .i64 x3.term, .int .i64 x3.index, .int .i64 x3.iterm, .int .i64 x3.commit, .bool x3.yes, .slice A3 m3 c3, .string x3.data] 31)).heap.size) := al.size
   have hb3 : b3 = msgOk x2 ∧ (b3 = true → x3 = x2) := by
    cases ho : msgOk x2
    ·rw [msgT_no ho] at hN3
     rcases hN3 with ⟨hR, rfl⟩ | ⟨_, _, rfl⟩
     ·exact absurd hR (msg_none _)
     ·exact ⟨rfl, (fun h => by cases h)⟩
    ·rcases hN3 with ⟨hR, rfl⟩ | ⟨hn, _, rfl⟩
     ·exact ⟨rfl, fun _ => hR.one (msgT_rd ho)⟩
     ·exact absurd (msgT_rd ho) (hn _)
   obtain ⟨hb3, hx3⟩ := hb3
   have HB3 := Hid.mk hb3
   have HX3 := Hid.mk hx3
   clear hb17 hb18 B16 B17 B18 K16 V16 G16 L16 U16 H16 hO3 hN3 al E18 hb3 hx3
   go_upto_region 17 with fail
   generalize hw19 : w18.alloc (.cells #[.int .i64 x3.kind, .int .i64 x3.frm, .int .i64 x3.dst, .int .i64 x3.term, .int .i64 x3.index, .int .i64 x3.iterm, .int .i64 x3.commit, .bool x3.yes, .slice A3 m3 c3, .string x3.data] 31) = w19 at *
   generalize hg19 : w18.heap.size = g19 at *
   clear hw19 hg19
   rcases N1.out with ⟨hR1, rfl⟩ | ⟨hn1, rfl, rfl⟩
   ·clear N1
    cases b3
    ·obtain ⟨hback, hok1⟩ := hR1.back
     obtain ⟨hw1, hf1⟩ := hR1.short (by have := HT1.out; omega)
     have HW1 := Hid.mk hw1
     have HF1 := Hid.mk hf1
     have cA := fun wx B hv hB hx => implShowMsg x1 (.agg #[.int .i64 x1.kind, .int .i64 x1.frm, .int .i64 x1.dst, .int .i64 x1.term, .int .i64 x1.index, .int .i64 x1.iterm, .int .i64 x1.commit, .bool x1.yes, .slice A1 m1 c1, .string x1.data]) wx B hv HF1.out (by have := HW1.out; unfold wtM at this; omega) hB (ST.out.on hx) a0 a1 a2 (ER.out.on hx)
     rw [hback] at cA
     have cB := fun wx B hv hB => specMsgOk x1 (.agg #[.int .i64 x1.kind, .int .i64 x1.frm, .int .i64 x1.dst, .int .i64 x1.term, .int .i64 x1.index, .int .i64 x1.iterm, .int .i64 x1.commit, .bool x1.yes, .slice A1 m1 c1, .string x1.data]) wx B hv HF1.out HW1.out hB
     rw [hok1] at cB
     clear hback hok1 hw1 hf1 hR1
     obtain ⟨e0, e1, e2, e3, e4, e5, e6, e7, e8, e9⟩ := cellsC10 K19.out
     go_wp2_with fail
     refine (cA w19 g14 V19.out G19.out B19.out).mono ?_
     rintro e w20 ⟨rfl, hb20⟩
     have B20 : Hid (Below w.heap.size w w20) := B19.out.trans (hb20.mono B19.out.size)
     have D20 : Hid (Below w19.heap.size w19 w20) := hb20
     clear hb20
     clear e0 e1 e2 e3 e4 e5 e6 e7 e8 e9
     obtain ⟨e0, e1, e2, e3, e4, e5, e6, e7, e8, e9⟩ := cellsC10 (K19.out.on D20.out K19.out.lt)
     go_wp2_with fail
     refine (cB w20 g14 (V19.out.on (D20.out.mono G19.out)) (Nat.le_trans G19.out D20.out.size)).mono ?_
     rintro e w21 ⟨rfl, hb21⟩
     have B21 : Hid (Below w.heap.size w w21) := B20.out.trans (hb21.mono B20.out.size)
     have D21 : Hid (Below w19.heap.size w19 w21) := D20.out.trans (hb21.mono D20.out.size)
     clear hb21
     clear e0 e1 e2 e3 e4 e5 e6 e7 e8 e9
     have cC := fun wx B hv hB => specMsgOk x2 (.agg #[.int .i64 x2.kind, .int .i64 x2.frm, .int .i64 x2.dst, .int .i64 x2.term, .int .i64 x2.index, .int .i64 x2.iterm, .int .i64 x2.commit, .bool x2.yes, .slice A2 m2 c2, .string x2.data]) wx B hv HF2.out HW2.out hB
     rw [← HB3.out] at cC
     obtain ⟨e0, e1, e2, e3, e4, e5, e6, e7, e8, e9⟩ := cellsC10 (L19.out.on D21.out L19.out.lt)
     go_wp2_with fail
     refine (cC w21 g16 (U19.out.on (D21.out.mono H19.out)) (Nat.le_trans H19.out D21.out.size)).mono ?_
     rintro e w22 ⟨rfl, hb22⟩
     have B22 : Hid (Below w.heap.size w w22) := B21.out.trans (hb22.mono B21.out.size)
     have D22 : Hid (Below w19.heap.size w19 w22) := D21.out.trans (hb22.mono D21.out.size)
     clear hb22
     clear e0 e1 e2 e3 e4 e5 e6 e7 e8 e9
     go_wp2_with fail
     go_ret
     exact ⟨rfl, B22.out⟩
    ·obtain rfl := (HX3.out rfl).symm
     obtain ⟨hback, hok1⟩ := hR1.back
     obtain ⟨hw1, hf1⟩ := hR1.short (by have := HT1.out; omega)
     have HW1 := Hid.mk hw1
     have HF1 := Hid.mk hf1
     have cA := fun wx B hv hB hx => implShowMsg x1 (.agg #[.int .i64 x1.kind, .int .i64 x1.frm, .int .i64 x1.dst, .int .i64 x1.term, .int .i64 x1.index, .int .i64 x1.iterm, .int .i64 x1.commit, .bool x1.yes, .slice A1 m1 c1, .string x1.data]) wx B hv HF1.out (by have := HW1.out; unfold wtM at this; omega) hB (ST.out.on hx) a0 a1 a2 (ER.out.on hx)
     rw [hback] at cA
     have cB := fun wx B hv hB => specMsgOk x1 (.agg #[.int .i64 x1.kind, .int .i64 x1.frm, .int .i64 x1.dst, .int .i64 x1.term, .int .i64 x1.index, .int .i64 x1.iterm, .int .i64 x1.commit, .bool x1.yes, .slice A1 m1 c1, .string x1.data]) wx B hv HF1.out HW1.out hB
     rw [hok1] at cB
     clear hback hok1 hw1 hf1 hR1
     obtain ⟨e0, e1, e2, e3, e4, e5, e6, e7, e8, e9⟩ := cellsC10 K19.out
     go_wp2_with fail
     refine (cA w19 g14 V19.out G19.out B19.out).mono ?_
     rintro e w20 ⟨rfl, hb20⟩
     have B20 : Hid (Below w.heap.size w w20) := B19.out.trans (hb20.mono B19.out.size)
     have D20 : Hid (Below w19.heap.size w19 w20) := hb20
     clear hb20
     clear e0 e1 e2 e3 e4 e5 e6 e7 e8 e9
     obtain ⟨e0, e1, e2, e3, e4, e5, e6, e7, e8, e9⟩ := cellsC10 (K19.out.on D20.out K19.out.lt)
     go_wp2_with fail
     refine (cB w20 g14 (V19.out.on (D20.out.mono G19.out)) (Nat.le_trans G19.out D20.out.size)).mono ?_
     rintro e w21 ⟨rfl, hb21⟩
     have B21 : Hid (Below w.heap.size w w21) := B20.out.trans (hb21.mono B20.out.size)
     have D21 : Hid (Below w19.heap.size w19 w21) := D20.out.trans (hb21.mono D20.out.size)
     clear hb21
     clear e0 e1 e2 e3 e4 e5 e6 e7 e8 e9
     have cC := fun wx B hv hB => specMsgOk x2 (.agg #[.int .i64 x2.kind, .int .i64 x2.frm, .int .i64 x2.dst, .int .i64 x2.term, .int .i64 x2.index, .int .i64 x2.iterm, .int .i64 x2.commit, .bool x2.yes, .slice A2 m2 c2, .string x2.data]) wx B hv HF2.out HW2.out hB
     rw [← HB3.out] at cC
     obtain ⟨e0, e1, e2, e3, e4, e5, e6, e7, e8, e9⟩ := cellsC10 (L19.out.on D21.out L19.out.lt)
     go_wp2_with fail
     refine (cC w21 g16 (U19.out.on (D21.out.mono H19.out)) (Nat.le_trans H19.out D21.out.size)).mono ?_
     rintro e w22 ⟨rfl, hb22⟩
     have B22 : Hid (Below w.heap.size w w22) := B21.out.trans (hb22.mono B21.out.size)
     have D22 : Hid (Below w19.heap.size w19 w22) := D21.out.trans (hb22.mono D21.out.size)
     clear hb22
     clear e0 e1 e2 e3 e4 e5 e6 e7 e8 e9
     have cE := fun wx B hv hB hx => implShowMsg x2 (.agg #[.int .i64 x2.kind, .int .i64 x2.frm, .int .i64 x2.dst, .int .i64 x2.term, .int .i64 x2.index, .int .i64 x2.iterm, .int .i64 x2.commit, .bool x2.yes, .slice A3 m3 c3, .string x2.data]) wx B hv HF2.out (by have := HZ2.out.1; omega) hB (ST.out.on hx) a0 a1 a2 (ER.out.on hx)
     obtain ⟨e0, e1, e2, e3, e4, e5, e6, e7, e8, e9⟩ := cellsC10 (J19.out.on D22.out J19.out.lt)
     go_wp2_with fail
     refine (cE w22 g19 (T19.out.on (D22.out.mono I19.out)) (Nat.le_trans I19.out D22.out.size) B22.out).mono ?_
     rintro e w23 ⟨rfl, hb23⟩
     have B23 : Hid (Below w.heap.size w w23) := B22.out.trans (hb23.mono B22.out.size)
     have D23 : Hid (Below w19.heap.size w19 w23) := D22.out.trans (hb23.mono D22.out.size)
     clear hb23
     clear e0 e1 e2 e3 e4 e5 e6 e7 e8 e9
     obtain ⟨e0, e1, e2, e3, e4, e5, e6, e7, e8, e9⟩ := cellsC10 (J19.out.on D23.out J19.out.lt)
     obtain ⟨l0, l1, l2, l3, l4, l5, l6, l7, l8, l9⟩ := cellsC10 (L19.out.on D23.out L19.out.lt)
     obtain ⟨ua, hua, hla⟩ := (T19.out.on (D23.out.mono I19.out))
     obtain ⟨ub, hub, hlb⟩ := (U19.out.on (D23.out.mono H19.out))
     unfold vMg at hua hub
     obtain rfl : Value.slice A3 m3 c3 = ua := by simpa using hua
     obtain rfl : Value.slice A2 m2 c2 = ub := by simpa using hub
     have cF := sameEnts x2.ents (.slice A3 m3 c3) (.slice A2 m2 c2) w23 w23.heap.size (hla.mono (Nat.le_trans I19.out D23.out.size)) (hlb.mono (Nat.le_trans H19.out D23.out.size)) (by have := HZ2.out.2; omega)
     clear hua hub hla hlb
     go_wp2_with fail
     refine cF.mono ?_
     rintro e w24 ⟨rfl, hLi⟩
     have B24 : Hid (Below w.heap.size w w24) := B23.out.trans (hLi.below.mono B23.out.size)
     clear hLi cF e0 e1 e2 e3 e4 e5 e6 e7 e8 e9 l0 l1 l2 l3 l4 l5 l6 l7 l8 l9
     go_wp2_with fail
     go_ret
     exact ⟨rfl, B24.out⟩
   ·clear N1
    cases b3
    ·have cC := fun wx B hv hB => specMsgOk x2 (.agg #[.int .i64 x2.kind, .int .i64 x2.frm, .int .i64 x2.dst, .int .i64 x2.term, .int .i64 x2.index, .int .i64 x2.iterm, .int .i64 x2.commit, .bool x2.yes, .slice A2 m2 c2, .string x2.data]) wx B hv HF2.out HW2.out hB
     rw [← HB3.out] at cC
     obtain ⟨e0, e1, e2, e3, e4, e5, e6, e7, e8, e9⟩ := cellsC10 L19.out
     go_wp2_with fail
     refine (cC w19 g16 U19.out H19.out).mono ?_
     rintro e w20 ⟨rfl, hb20⟩
     have B20 : Hid (Below w.heap.size w w20) := B19.out.trans (hb20.mono B19.out.size)
     have D20 : Hid (Below w19.heap.size w19 w20) := hb20
     clear hb20
     clear e0 e1 e2 e3 e4 e5 e6 e7 e8 e9
     go_wp2_with fail
     go_ret
     exact ⟨rfl, B20.out⟩
    ·obtain rfl := (HX3.out rfl).symm
     have cC := fun wx B hv hB => specMsgOk x2 (.agg #[.int .i64 x2.kind, .int .i64 x2.frm, .int .i64 x2.dst, .int .i64 x2.term, .int .i64 x2.index, .int .i64 x2.iterm, .int .i64 x2.commit, .bool x2.yes, .slice A2 m2 c2, .string x2.data]) wx B hv HF2.out HW2.out hB
     rw [← HB3.out] at cC
     obtain ⟨e0, e1, e2, e3, e4, e5, e6, e7, e8, e9⟩ := cellsC10 L19.out
     go_wp2_with fail
     refine (cC w19 g16 U19.out H19.out).mono ?_
     rintro e w20 ⟨rfl, hb20⟩
     have B20 : Hid (Below w.heap.size w w20) := B19.out.trans (hb20.mono B19.out.size)
     have D20 : Hid (Below w19.heap.size w19 w20) := hb20
     clear hb20
     clear e0 e1 e2 e3 e4 e5 e6 e7 e8 e9
     have cE := fun wx B hv hB hx => implShowMsg x2 (.agg #[.int .i64 x2.kind, .int .i64 x2.frm, .int .i64 x2.dst, .int .i64 x2.term, .int .i64 x2.index, .int .i64 x2.iterm, .int .i64 x2.commit, .bool x2.yes, .slice A3 m3 c3, .string x2.data]) wx B hv HF2.out (by have := HZ2.out.1; omega) hB (ST.out.on hx) a0 a1 a2 (ER.out.on hx)
     obtain ⟨e0, e1, e2, e3, e4, e5, e6, e7, e8, e9⟩ := cellsC10 (J19.out.on D20.out J19.out.lt)
     go_wp2_with fail
     refine (cE w20 g19 (T19.out.on (D20.out.mono I19.out)) (Nat.le_trans I19.out D20.out.size) B20.out).mono ?_
     rintro e w21 ⟨rfl, hb21⟩
     have B21 : Hid (Below w.heap.size w w21) := B20.out.trans (hb21.mono B20.out.size)
     have D21 : Hid (Below w19.heap.size w19 w21) := D20.out.trans (hb21.mono D20.out.size)
     clear hb21
     clear e0 e1 e2 e3 e4 e5 e6 e7 e8 e9
     obtain ⟨e0, e1, e2, e3, e4, e5, e6, e7, e8, e9⟩ := cellsC10 (J19.out.on D21.out J19.out.lt)
     obtain ⟨l0, l1, l2, l3, l4, l5, l6, l7, l8, l9⟩ := cellsC10 (L19.out.on D21.out L19.out.lt)
     obtain ⟨ua, hua, hla⟩ := (T19.out.on (D21.out.mono I19.out))
     obtain ⟨ub, hub, hlb⟩ := (U19.out.on (D21.out.mono H19.out))
     unfold vMg at hua hub
     obtain rfl : Value.slice A3 m3 c3 = ua := by simpa using hua
     obtain rfl : Value.slice A2 m2 c2 = ub := by simpa using hub
     have cF := sameEnts x2.ents (.slice A3 m3 c3) (.slice A2 m2 c2) w21 w21.heap.size (hla.mono (Nat.le_trans I19.out D21.out.size)) (hlb.mono (Nat.le_trans H19.out D21.out.size)) (by have := HZ2.out.2; omega)
     clear hua hub hla hlb
     go_wp2_with fail
     refine cF.mono ?_
     rintro e w22 ⟨rfl, hLi⟩
     have B22 : Hid (Below w.heap.size w w22) := B21.out.trans (hLi.below.mono B21.out.size)
     clear hLi cF e0 e1 e2 e3 e4 e5 e6 e7 e8 e9 l0 l1 l2 l3 l4 l5 l6 l7 l8 l9
     go_wp2_with fail
     go_ret
     exact ⟨rfl, B22.out⟩
end Go.Proofs.YtifmjdakefkbiaaGreatDoor
