/-
  The contract of impl.actOf, and of the acts that it hands out.
-/
import Derived.Test.YtnnfnhpehacelaaGreatRows
import Derived.Test.YtnnfnhpehacelaaGreatCB
import Derived.Test.YtnnfnhpehacelaaGreatUntil
import Derived.Lib.OwnKind
namespace Go.Proofs.YtnnfnhpehacelaaGreat
open Go.ChangeShapes Go.WideShapes Go.ChangeAt Go.RowKit Go.PlainAid
set_option linter.unusedVariables false

set_option maxHeartbeats 1000000 in
theorem act1V (w : World) (base p : Nat) (d : Dsk) (bi bd bw : Nat) (gs : List Nat) (u : Value) (k : Int) (n t x : ByteArray) (b : Nat) (h : OpenD w base p d bi bd bw gs u) (hd : Whole d) (hw : wtD d ≤ 1048576) (hn : n.size ≤ maxLen) (ht : t.size ≤ maxLen) (hx : x.size ≤ maxLen) (hB : base ≤ w.heap.size) (hc : Blk w b #[.int .i64 k, .string n, .string t, .string x] 39) :
    Calls Tryz.prog 58 #[.pointer (some ⟨p, 0, none⟩), .pointer (some ⟨b, 0, none⟩)] w fun e w' => e = .returned (.int .i64 (makeC d n)) ∧ Tellable w' p (makeD d n) ∧ Below base w w' := by
  have cF := makeFileV w base p d bi bd bw gs u n h hd hw hn hB
  have c1 := hc.cell 1 _ rfl
  have c2 := hc.cell 2 _ rfl
  have c3 := hc.cell 3 _ rfl
  clear h hd hw hB hn ht hx hc
  go_enter Tryz.func58, Tryz.ntmps58
  go_wp2_with fail
  refine cF.mono ?_
  rintro e w1 ⟨rfl, hT, hb⟩
  have HT : Hid (Tellable w1 p (makeD d n)) := hT
  clear hT
  go_wp2_with fail
  go_ret
  exact ⟨rfl, HT.out, hb⟩

set_option maxHeartbeats 1000000 in
theorem act2V (w : World) (base p : Nat) (d : Dsk) (bi bd bw : Nat) (gs : List Nat) (u : Value) (k : Int) (n t x : ByteArray) (b : Nat) (h : OpenD w base p d bi bd bw gs u) (hd : Whole d) (hw : wtD d ≤ 1048576) (hn : n.size ≤ maxLen) (ht : t.size ≤ maxLen) (hx : x.size ≤ maxLen) (hB : base ≤ w.heap.size) (hc : Blk w b #[.int .i64 k, .string n, .string t, .string x] 39) :
    Calls Tryz.prog 60 #[.pointer (some ⟨p, 0, none⟩), .pointer (some ⟨b, 0, none⟩)] w fun e w' => e = .returned (.int .i64 (addC d n x)) ∧ Tellable w' p (addD d n x) ∧ Below base w w' := by
  have cF := addDataV w base p d bi bd bw gs u n x h hd hw hn hx hB
  have c1 := hc.cell 1 _ rfl
  have c2 := hc.cell 2 _ rfl
  have c3 := hc.cell 3 _ rfl
  clear h hd hw hB hn ht hx hc
  go_enter Tryz.func60, Tryz.ntmps60
  go_wp2_with fail
  refine cF.mono ?_
  rintro e w1 ⟨rfl, hT, hb⟩
  have HT : Hid (Tellable w1 p (addD d n x)) := hT
  clear hT
  go_wp2_with fail
  go_ret
  exact ⟨rfl, HT.out, hb⟩

set_option maxHeartbeats 1000000 in
theorem act3V (w : World) (base p : Nat) (d : Dsk) (bi bd bw : Nat) (gs : List Nat) (u : Value) (k : Int) (n t x : ByteArray) (b : Nat) (h : OpenD w base p d bi bd bw gs u) (hd : Whole d) (hw : wtD d ≤ 1048576) (hn : n.size ≤ maxLen) (ht : t.size ≤ maxLen) (hx : x.size ≤ maxLen) (hB : base ≤ w.heap.size) (hc : Blk w b #[.int .i64 k, .string n, .string t, .string x] 39) :
    Calls Tryz.prog 62 #[.pointer (some ⟨p, 0, none⟩), .pointer (some ⟨b, 0, none⟩)] w fun e w' => e = .returned (.int .i64 (named d n)) ∧ Tellable w' p (syncD d n) ∧ Below base w w' := by
  have cF := syncFileV w base p d bi bd bw gs u n h hd hw hn hB
  have c1 := hc.cell 1 _ rfl
  have c2 := hc.cell 2 _ rfl
  have c3 := hc.cell 3 _ rfl
  clear h hd hw hB hn ht hx hc
  go_enter Tryz.func62, Tryz.ntmps62
  go_wp2_with fail
  refine cF.mono ?_
  rintro e w1 ⟨rfl, hT, hb⟩
  have HT : Hid (Tellable w1 p (syncD d n)) := hT
  clear hT
  go_wp2_with fail
  go_ret
  exact ⟨rfl, HT.out, hb⟩

set_option maxHeartbeats 1000000 in
theorem act4V (w : World) (base p : Nat) (d : Dsk) (bi bd bw : Nat) (gs : List Nat) (u : Value) (k : Int) (n t x : ByteArray) (b : Nat) (h : OpenD w base p d bi bd bw gs u) (hd : Whole d) (hw : wtD d ≤ 1048576) (hn : n.size ≤ maxLen) (ht : t.size ≤ maxLen) (hx : x.size ≤ maxLen) (hB : base ≤ w.heap.size) (hc : Blk w b #[.int .i64 k, .string n, .string t, .string x] 39) :
    Calls Tryz.prog 64 #[.pointer (some ⟨p, 0, none⟩), .pointer (some ⟨b, 0, none⟩)] w fun e w' => e = .returned (.int .i64 ((movedC d ⟨2, n, t, 0⟩ (renC d n t)).2)) ∧ Tellable w' p ((movedC d ⟨2, n, t, 0⟩ (renC d n t)).1) ∧ Below base w w' := by
  have cF := renameFileV w base p d bi bd bw gs u n t h hd hw hn ht hB
  have c1 := hc.cell 1 _ rfl
  have c2 := hc.cell 2 _ rfl
  have c3 := hc.cell 3 _ rfl
  clear h hd hw hB hn ht hx hc
  go_enter Tryz.func64, Tryz.ntmps64
  go_wp2_with fail
  refine cF.mono ?_
  rintro e w1 ⟨rfl, hT, hb⟩
  have HT : Hid (Tellable w1 p ((movedC d ⟨2, n, t, 0⟩ (renC d n t)).1)) := hT
  clear hT
  go_wp2_with fail
  go_ret
  exact ⟨rfl, HT.out, hb⟩

set_option maxHeartbeats 1000000 in
theorem act5V (w : World) (base p : Nat) (d : Dsk) (bi bd bw : Nat) (gs : List Nat) (u : Value) (k : Int) (n t x : ByteArray) (b : Nat) (h : OpenD w base p d bi bd bw gs u) (hd : Whole d) (hw : wtD d ≤ 1048576) (hn : n.size ≤ maxLen) (ht : t.size ≤ maxLen) (hx : x.size ≤ maxLen) (hB : base ≤ w.heap.size) (hc : Blk w b #[.int .i64 k, .string n, .string t, .string x] 39) :
    Calls Tryz.prog 66 #[.pointer (some ⟨p, 0, none⟩), .pointer (some ⟨b, 0, none⟩)] w fun e w' => e = .returned (.int .i64 ((movedC d ⟨3, n, ⟨#[]⟩, 0⟩ (named d n)).2)) ∧ Tellable w' p ((movedC d ⟨3, n, ⟨#[]⟩, 0⟩ (named d n)).1) ∧ Below base w w' := by
  have cF := dropFileV w base p d bi bd bw gs u n h hd hw hn hB
  have c1 := hc.cell 1 _ rfl
  have c2 := hc.cell 2 _ rfl
  have c3 := hc.cell 3 _ rfl
  clear h hd hw hB hn ht hx hc
  go_enter Tryz.func66, Tryz.ntmps66
  go_wp2_with fail
  refine cF.mono ?_
  rintro e w1 ⟨rfl, hT, hb⟩
  have HT : Hid (Tellable w1 p ((movedC d ⟨3, n, ⟨#[]⟩, 0⟩ (named d n)).1)) := hT
  clear hT
  go_wp2_with fail
  go_ret
  exact ⟨rfl, HT.out, hb⟩

set_option maxHeartbeats 1000000 in
theorem act6V (w : World) (base p : Nat) (d : Dsk) (bi bd bw : Nat) (gs : List Nat) (u : Value) (k : Int) (n t x : ByteArray) (b : Nat) (h : OpenD w base p d bi bd bw gs u) (hd : Whole d) (hw : wtD d ≤ 1048576) (hn : n.size ≤ maxLen) (ht : t.size ≤ maxLen) (hx : x.size ≤ maxLen) (hB : base ≤ w.heap.size) (hc : Blk w b #[.int .i64 k, .string n, .string t, .string x] 39) :
    Calls Tryz.prog 68 #[.pointer (some ⟨p, 0, none⟩)] w fun e w' => e = .returned (.int .i64 (0)) ∧ Tellable w' p (syncDirD d) ∧ Below base w w' := by
  have cF := syncNamesV w base p d bi bd bw gs u  h hd hw  hB
  have c1 := hc.cell 1 _ rfl
  have c2 := hc.cell 2 _ rfl
  have c3 := hc.cell 3 _ rfl
  clear h hd hw hB hn ht hx hc
  go_enter Tryz.func68, Tryz.ntmps68
  go_wp2_with fail
  refine cF.mono ?_
  rintro e w1 ⟨rfl, hT, hb⟩
  have HT : Hid (Tellable w1 p (syncDirD d)) := hT
  clear hT
  go_wp2_with fail
  go_ret
  exact ⟨rfl, HT.out, hb⟩

theorem act7V (w : World) (base p : Nat) (d : Dsk) (bi bd bw : Nat) (gs : List Nat) (u : Value) (h : OpenD w base p d bi bd bw gs u) (hd : Whole d) (hw : wtD d ≤ 1048576) :
    Calls Tryz.prog 70 #[.pointer (some ⟨p, 0, none⟩)] w fun e w' => e = .returned (.int .i64 1) ∧ Tellable w' p d ∧ Below base w w' := by
  have HT : Hid (Tellable w p d) := h.tell hd hw
  clear h hd hw
  go_enter Tryz.func70, Tryz.ntmps70
  go_wp2_with fail
  go_ret
  exact ⟨rfl, HT.out, Below.refl _ _⟩

/-- An act that does a step, its box at b. -/
def ActOk (d : Dsk) (k : Int) (n t x : ByteArray) (b F : Nat) (caps : Array Value) : Prop :=
  (∀ args w, (callFunc F args).run Tryz.prog w = .ok (.enter F args) w) ∧ ∀ (w1 : World) (base p bi bd bw : Nat) (gs : List Nat) (u : Value), Whole d → base ≤ w1.heap.size → Blk w1 b #[.int .i64 k, .string n, .string t, .string x] 39 → OpenD w1 base p d bi bd bw gs u →
    Calls Tryz.prog F (#[.pointer (some ⟨p, 0, none⟩)] ++ caps) w1 fun e w2 => e = .returned (.int .i64 (stepY d k n t x).2) ∧ Tellable w2 p (stepY d k n t x).1 ∧ Below base w1 w2

set_option maxRecDepth 20000 in
set_option maxHeartbeats 4000000 in
theorem actOfV (d : Dsk) (k : Int) (n t x : ByteArray) (w : World) (hw : wtD d ≤ 1048576) (hn : n.size ≤ maxLen) (ht : t.size ≤ maxLen) (hx : x.size ≤ maxLen) :
    Calls Tryz.prog 28 #[.agg #[.int .i64 k, .string n, .string t, .string x]] w fun e w' => ∃ F caps, e = .returned (.func (.func F) #[] caps) ∧ ActOk d k n t x w.heap.size F caps ∧ Blk w' w.heap.size #[.int .i64 k, .string n, .string t, .string x] 39 ∧ Below w.heap.size w w' := by
  have HN : Hid (n.size ≤ maxLen) := hn
  have HT : Hid (t.size ≤ maxLen) := ht
  have HX : Hid (x.size ≤ maxLen) := hx
  have HW : Hid (wtD d ≤ 1048576) := hw
  clear hn ht hx hw
  have hmf : ∀ (fn : Fn) (first cap : Array Value) (w : World), (Instr.makeFunc fn first cap).run Tryz.prog w = .ok (.func fn first cap) w := fun _ _ _ _ => rfl
  by_cases h1 : k = 1
  · subst h1
    have hY : stepY d 1 n t x = (makeD d n, makeC d n) := by unfold stepY; rw [if_pos rfl]
    go_enter Tryz.func28, Tryz.ntmps28
    go_wp2_with fail
    go_ret
    refine ⟨_, _, rfl, ⟨enters_of Tryz.func58 (by kernel_rfl) rfl, fun w1 base p bi bd bw gs u hd hl hb hO => ?_⟩, Blk.new w _ _, (Below.refl _ _).alloc (Nat.le_refl _) _⟩
    rw [hY]
    exact act1V w1 base p d bi bd bw gs u 1 n t x w.heap.size hO hd HW.out HN.out HT.out HX.out hl hb
  have c1 : (k == 1) = false := by simp [h1]
  have e1 : decide (k = 1) = false := decide_eq_false h1
  by_cases h2 : k = 2
  · subst h2
    have hY : stepY d 2 n t x = (addD d n x, addC d n x) := by unfold stepY; rw [if_neg (by decide), if_pos rfl]
    go_enter Tryz.func28, Tryz.ntmps28
    go_wp2_with fail
    go_ret
    refine ⟨_, _, rfl, ⟨enters_of Tryz.func60 (by kernel_rfl) rfl, fun w1 base p bi bd bw gs u hd hl hb hO => ?_⟩, Blk.new w _ _, (Below.refl _ _).alloc (Nat.le_refl _) _⟩
    rw [hY]
    exact act2V w1 base p d bi bd bw gs u 2 n t x w.heap.size hO hd HW.out HN.out HT.out HX.out hl hb
  have c2 : (k == 2) = false := by simp [h2]
  have e2 : decide (k = 2) = false := decide_eq_false h2
  by_cases h3 : k = 3
  · subst h3
    have hY : stepY d 3 n t x = (syncD d n, named d n) := by unfold stepY; rw [if_neg (by decide), if_neg (by decide), if_pos rfl]
    go_enter Tryz.func28, Tryz.ntmps28
    go_wp2_with fail
    go_ret
    refine ⟨_, _, rfl, ⟨enters_of Tryz.func62 (by kernel_rfl) rfl, fun w1 base p bi bd bw gs u hd hl hb hO => ?_⟩, Blk.new w _ _, (Below.refl _ _).alloc (Nat.le_refl _) _⟩
    rw [hY]
    exact act3V w1 base p d bi bd bw gs u 3 n t x w.heap.size hO hd HW.out HN.out HT.out HX.out hl hb
  have c3 : (k == 3) = false := by simp [h3]
  have e3 : decide (k = 3) = false := decide_eq_false h3
  by_cases h4 : k = 4
  · subst h4
    have hY : stepY d 4 n t x = ((movedC d ⟨2, n, t, 0⟩ (renC d n t)).1, (movedC d ⟨2, n, t, 0⟩ (renC d n t)).2) := by unfold stepY; rw [if_neg (by decide), if_neg (by decide), if_neg (by decide), if_pos rfl]
    go_enter Tryz.func28, Tryz.ntmps28
    go_wp2_with fail
    go_ret
    refine ⟨_, _, rfl, ⟨enters_of Tryz.func64 (by kernel_rfl) rfl, fun w1 base p bi bd bw gs u hd hl hb hO => ?_⟩, Blk.new w _ _, (Below.refl _ _).alloc (Nat.le_refl _) _⟩
    rw [hY]
    exact act4V w1 base p d bi bd bw gs u 4 n t x w.heap.size hO hd HW.out HN.out HT.out HX.out hl hb
  have c4 : (k == 4) = false := by simp [h4]
  have e4 : decide (k = 4) = false := decide_eq_false h4
  by_cases h5 : k = 5
  · subst h5
    have hY : stepY d 5 n t x = ((movedC d ⟨3, n, ⟨#[]⟩, 0⟩ (named d n)).1, (movedC d ⟨3, n, ⟨#[]⟩, 0⟩ (named d n)).2) := by unfold stepY; rw [if_neg (by decide), if_neg (by decide), if_neg (by decide), if_neg (by decide), if_pos rfl]
    go_enter Tryz.func28, Tryz.ntmps28
    go_wp2_with fail
    go_ret
    refine ⟨_, _, rfl, ⟨enters_of Tryz.func66 (by kernel_rfl) rfl, fun w1 base p bi bd bw gs u hd hl hb hO => ?_⟩, Blk.new w _ _, (Below.refl _ _).alloc (Nat.le_refl _) _⟩
    rw [hY]
    exact act5V w1 base p d bi bd bw gs u 5 n t x w.heap.size hO hd HW.out HN.out HT.out HX.out hl hb
  have c5 : (k == 5) = false := by simp [h5]
  have e5 : decide (k = 5) = false := decide_eq_false h5
  by_cases h6 : k = 6
  · subst h6
    have hY : stepY d 6 n t x = (syncDirD d, 0) := by unfold stepY; rw [if_neg (by decide), if_neg (by decide), if_neg (by decide), if_neg (by decide), if_neg (by decide), if_pos rfl]
    go_enter Tryz.func28, Tryz.ntmps28
    go_wp2_with fail
    go_ret
    refine ⟨_, _, rfl, ⟨enters_of Tryz.func68 (by kernel_rfl) rfl, fun w1 base p bi bd bw gs u hd hl hb hO => ?_⟩, Blk.new w _ _, (Below.refl _ _).alloc (Nat.le_refl _) _⟩
    rw [hY]
    exact act6V w1 base p d bi bd bw gs u 6 n t x w.heap.size hO hd HW.out HN.out HT.out HX.out hl hb
  have c6 : (k == 6) = false := by simp [h6]
  have e6 : decide (k = 6) = false := decide_eq_false h6
  have hY : stepY d k n t x = (d, 1) := stepY_0 h1 h2 h3 h4 h5 h6
  clear h1 h2 h3 h4 h5 h6
  go_enter Tryz.func28, Tryz.ntmps28
  go_wp2_with fail
  go_ret
  refine ⟨_, _, rfl, ⟨enters_of Tryz.func70 (by kernel_rfl) rfl, fun w1 base p bi bd bw gs u hd hl hb hO => ?_⟩, Blk.new w _ _, (Below.refl _ _).alloc (Nat.le_refl _) _⟩
  rw [hY]
  exact act7V w1 base p d bi bd bw gs u hO hd HW.out
end Go.Proofs.YtnnfnhpehacelaaGreat

/-
  The contract of impl.DoStep.
-/
namespace Go.Proofs.YtnnfnhpehacelaaGreat
open Go.ChangeShapes Go.WideShapes Go.ChangeAt Go.RowKit Go.PlainAid
set_option linter.unusedVariables false

set_option maxRecDepth 20000 in
set_option maxHeartbeats 4000000 in
theorem implDoStepV (d : Dsk) (v : Value) (k : Int) (n t x : ByteArray) (w : World) (B : Nat) (hv : DiskV w B v d) (hf : Fits d) (hi : IntsOk d) (hw : wtD d ≤ 1048576) (hB : B ≤ w.heap.size) (hn : n.size ≤ maxLen) (ht : t.size ≤ maxLen) (hx : x.size ≤ maxLen) :
    Calls Tryz.prog 9 #[v, .agg #[.int .i64 k, .string n, .string t, .string x]] w fun e w' => ∃ y, e = .returned (.tuple #[y, .int .i64 (doStepR d k n t x).2]) ∧ DiskO w' w.heap.size y (doStepR d k n t x).1 ∧ Below w.heap.size w w' := by
  have HV : Hid (DiskV w B v d) := hv
  have HB : Hid (B ≤ w.heap.size) := hB
  have HF : Hid (Fits d) := hf
  have HI : Hid (IntsOk d) := hi
  have HW : Hid (wtD d ≤ 1048576) := hw
  have HN : Hid (n.size ≤ maxLen) := hn
  have HT : Hid (t.size ≤ maxLen) := ht
  have HX : Hid (x.size ≤ maxLen) := hx
  obtain ⟨v1, v2, v3, rfl, h1, h2, h3⟩ := hv
  clear h1 h2 h3 hB hf hi hw hn ht hx
  go_enter Tryz.func9, Tryz.ntmps9
  go_wp2_with fail
  have hb0 : Below w.heap.size w (((w.alloc (.cells #[.int .i64 d.room, .int .i64 d.next, v1, v2, v3] 35)).alloc (.cells #[.int .i64 k, .string n, .string t, .string x] 39)).alloc (.cells #[.int .i64 0, .int .i64 0, .slice none 0 0, .slice none 0 0, .slice none 0 0] 35)) := (((Below.refl _ w).alloc (Nat.le_refl _) _).alloc (by simp only [World.size_alloc]; omega) _).alloc (by simp only [World.size_alloc]; omega) _
  have bA := ((Blk.new w #[.int .i64 d.room, .int .i64 d.next, v1, v2, v3] 35).alloc (.cells #[.int .i64 k, .string n, .string t, .string x] 39)).alloc (.cells #[.int .i64 0, .int .i64 0, .slice none 0 0, .slice none 0 0, .slice none 0 0] 35)
  have bJ := (Blk.new (w.alloc (.cells #[.int .i64 d.room, .int .i64 d.next, v1, v2, v3] 35)) #[.int .i64 k, .string n, .string t, .string x] 39).alloc (.cells #[.int .i64 0, .int .i64 0, .slice none 0 0, .slice none 0 0, .slice none 0 0] 35)
  have bR := Blk.new ((w.alloc (.cells #[.int .i64 d.room, .int .i64 d.next, v1, v2, v3] 35)).alloc (.cells #[.int .i64 k, .string n, .string t, .string x] 39)) #[.int .i64 0, .int .i64 0, .slice none 0 0, .slice none 0 0, .slice none 0 0] 35
  simp only [World.size_alloc] at bR bJ
  generalize (((w.alloc (.cells #[.int .i64 d.room, .int .i64 d.next, v1, v2, v3] 35)).alloc (.cells #[.int .i64 k, .string n, .string t, .string x] 39)).alloc (.cells #[.int .i64 0, .int .i64 0, .slice none 0 0, .slice none 0 0, .slice none 0 0] 35)) = W at *
  have BW : Hid (Below w.heap.size w W) := hb0
  have KW : Hid (Blk W w.heap.size #[.int .i64 d.room, .int .i64 d.next, v1, v2, v3] 35) := bA
  have JW : Hid (Blk W (w.heap.size + 1) #[.int .i64 k, .string n, .string t, .string x] 39) := bJ
  have RW : Hid (Blk W (w.heap.size + 1 + 1) #[.int .i64 0, .int .i64 0, .slice none 0 0, .slice none 0 0, .slice none 0 0] 35) := bR
  clear hb0 bA bJ bR
  refine wp_region_until (fun w' => w'.cell? ⟨w.heap.size, 0, none⟩ = some (.int .i64 d.room) ∧ w'.cell? ⟨w.heap.size, 1, none⟩ = some (.int .i64 d.next) ∧ w'.cell? ⟨w.heap.size, 2, none⟩ = some (v1) ∧ w'.cell? ⟨w.heap.size, 3, none⟩ = some (v2) ∧ w'.cell? ⟨w.heap.size, 4, none⟩ = some (v3) ∧ w'.cell? ⟨w.heap.size + 1, 0, none⟩ = some (.int .i64 k) ∧ w'.cell? ⟨w.heap.size + 1, 1, none⟩ = some (.string n) ∧ w'.cell? ⟨w.heap.size + 1, 2, none⟩ = some (.string t) ∧ w'.cell? ⟨w.heap.size + 1, 3, none⟩ = some (.string x)) (fun i => i == 6) 8 (by rfl) (by kernel_rfl) ?_
  have BX : Hid (Below w.heap.size w W.drew) := BW.out.drew
  have KX : Hid (Blk W.drew w.heap.size #[.int .i64 d.room, .int .i64 d.next, v1, v2, v3] 35) := KW.out
  have JX : Hid (Blk W.drew (w.heap.size + 1) #[.int .i64 k, .string n, .string t, .string x] 39) := JW.out
  have RX : Hid (Blk W.drew (w.heap.size + 1 + 1) #[.int .i64 0, .int .i64 0, .slice none 0 0, .slice none 0 0, .slice none 0 0] 35) := RW.out
  clear BW KW JW RW
  generalize W.drew = X at *
  have S0 : Hid (X.cell? ⟨w.heap.size, 0, none⟩ = some (.int .i64 d.room) ∧ X.cell? ⟨w.heap.size, 1, none⟩ = some (.int .i64 d.next) ∧ X.cell? ⟨w.heap.size, 2, none⟩ = some (v1) ∧ X.cell? ⟨w.heap.size, 3, none⟩ = some (v2) ∧ X.cell? ⟨w.heap.size, 4, none⟩ = some (v3) ∧ X.cell? ⟨w.heap.size + 1, 0, none⟩ = some (.int .i64 k) ∧ X.cell? ⟨w.heap.size + 1, 1, none⟩ = some (.string n) ∧ X.cell? ⟨w.heap.size + 1, 2, none⟩ = some (.string t) ∧ X.cell? ⟨w.heap.size + 1, 3, none⟩ = some (.string x)) := ⟨KX.out.cell 0 _ rfl, KX.out.cell 1 _ rfl, KX.out.cell 2 _ rfl, KX.out.cell 3 _ rfl, KX.out.cell 4 _ rfl, JX.out.cell 0 _ rfl, JX.out.cell 1 _ rfl, JX.out.cell 2 _ rfl, JX.out.cell 3 _ rfl⟩
  refine until_take 0 (v := ?_) (by rfl) (by kernel_rfl) (by exact fun _ _ _ h => h) (by rfl) ?_ S0.out ?_
  rotate_left
  · intro w hSw
    try dsimp only at hSw
    go_simp
    try with_reducible rfl
  try simp only [Act.put, List.setIfInBounds_toArray, List.set_cons_zero, List.set_cons_succ]
  refine until_take 1 (v := ?_) (by rfl) (by kernel_rfl) (by exact fun _ _ _ h => h) (by rfl) ?_ S0.out ?_
  rotate_left
  · intro w hSw
    try dsimp only at hSw
    go_simp
    try with_reducible rfl
  try simp only [Act.put, List.setIfInBounds_toArray, List.set_cons_zero, List.set_cons_succ]
  refine until_one 2 (by rfl) (by kernel_rfl) (fun K hK => ?_)
  go_simp
  refine (actOfV d k n t x X HW.out HN.out HT.out HX.out).mono ?_
  rintro e w1 ⟨F, caps, rfl, hA, hbx, hb1⟩
  have Bw1 : Hid (Below w.heap.size w w1) := BX.out.trans (hb1.mono BX.out.size)
  have Kw1 : Hid (Blk w1 w.heap.size #[.int .i64 d.room, .int .i64 d.next, v1, v2, v3] 35) := KX.out.on hb1 KX.out.lt
  have Jw1 : Hid (Blk w1 (w.heap.size + 1) #[.int .i64 k, .string n, .string t, .string x] 39) := JX.out.on hb1 JX.out.lt
  have Rw1 : Hid (Blk w1 (w.heap.size + 1 + 1) #[.int .i64 0, .int .i64 0, .slice none 0 0, .slice none 0 0, .slice none 0 0] 35) := RX.out.on hb1 RX.out.lt
  have A1 : Hid (ActOk d k n t x X.heap.size F caps) := hA
  have P1 : Hid (Blk w1 X.heap.size #[.int .i64 k, .string n, .string t, .string x] 39) := hbx
  clear hb1 hA hbx S0
  clear BX KX JX RX
  go_wp2_with fail
  refine hK.out _ _ (fun _ _ => ⟨Kw1.out.cell 0 _ rfl, Kw1.out.cell 1 _ rfl, Kw1.out.cell 2 _ rfl, Kw1.out.cell 3 _ rfl, Kw1.out.cell 4 _ rfl, Jw1.out.cell 0 _ rfl, Jw1.out.cell 1 _ rfl, Jw1.out.cell 2 _ rfl, Jw1.out.cell 3 _ rfl⟩) ?_
  clear hK K
  try simp only [Act.put, List.setIfInBounds_toArray, List.set_cons_zero, List.set_cons_succ]
  refine until_one 3 (by rfl) (by kernel_rfl) (fun K hK => ?_)
  go_simp
  refine (changedV d (.agg #[.int .i64 d.room, .int .i64 d.next, v1, v2, v3]) w1 B (HV.out.on (Bw1.out.mono HB.out)) HF.out HI.out HW.out (Nat.le_trans HB.out Bw1.out.size) F caps (stepY d k n t x).1 (stepY d k n t x).2 A1.out.1 (fun w2 base p bi bd bw gs u hd hb hl hl2 hO => A1.out.2 w2 base p bi bd bw gs u hd hl2 (P1.out.on hb P1.out.lt) hO)).mono ?_
  rintro e w3 ⟨y, c, rfl, hx, hb3⟩
  have Bw3 : Hid (Below w.heap.size w w3) := Bw1.out.trans (hb3.mono Bw1.out.size)
  have Kw3 : Hid (Blk w3 w.heap.size #[.int .i64 d.room, .int .i64 d.next, v1, v2, v3] 35) := Kw1.out.on hb3 Kw1.out.lt
  have Jw3 : Hid (Blk w3 (w.heap.size + 1) #[.int .i64 k, .string n, .string t, .string x] 39) := Jw1.out.on hb3 Jw1.out.lt
  have Rw3 : Hid (Blk w3 (w.heap.size + 1 + 1) #[.int .i64 0, .int .i64 0, .slice none 0 0, .slice none 0 0, .slice none 0 0] 35) := Rw1.out.on hb3 Rw1.out.lt
  have HY : Hid (c = (doStepR d k n t x).2 ∧ DiskO w3 w.heap.size y (doStepR d k n t x).1) := by
    rcases hx with ⟨hk, rfl, ho⟩ | ⟨hk, rfl, ho⟩
    · rw [doStepR_yes hk]
      exact ⟨rfl, ho.mono Bw1.out.size⟩
    · rw [doStepR_no hk]
      exact ⟨rfl, ho.mono Bw1.out.size⟩
  clear hx hb3 A1 P1
  clear Bw1 Kw1 Jw1 Rw1
  generalize hRR : doStepR d k n t x = RR at HY
  obtain ⟨rfl, hO3⟩ := HY.out
  obtain ⟨x1, x2, x3, rfl, o1, o2, o3⟩ := hO3
  obtain ⟨A1, m1, k1, rfl⟩ := o1.shape
  obtain ⟨A2, m2, k2, rfl⟩ := o2.shape
  obtain ⟨A3, m3, k3, rfl⟩ := o3.shape
  have O1 : Hid (Owns w3 w.heap.size 76 3 (.slice A1 m1 k1) (nodR RR.1.nods)) := o1
  have O2 : Hid (Owns w3 w.heap.size 79 2 (.slice A2 m2 k2) (lnkR RR.1.dir)) := o2
  have O3 : Hid (Owns w3 w.heap.size 81 4 (.slice A3 m3 k3) (movR RR.1.movs)) := o3
  clear HY o1 o2 o3
  go_wp2_with fail
  refine hK.out _ _ (fun _ _ => ⟨Kw3.out.cell 0 _ rfl, Kw3.out.cell 1 _ rfl, Kw3.out.cell 2 _ rfl, Kw3.out.cell 3 _ rfl, Kw3.out.cell 4 _ rfl, Jw3.out.cell 0 _ rfl, Jw3.out.cell 1 _ rfl, Jw3.out.cell 2 _ rfl, Jw3.out.cell 3 _ rfl⟩) ?_
  clear hK K
  try simp only [Act.put, List.setIfInBounds_toArray, List.set_cons_zero, List.set_cons_succ]
  refine until_pure 4 (v := ?_) (by rfl) (by kernel_rfl) (by exact fun _ _ _ h => h) (by rfl) ?_ ?_
  rotate_left
  · intro w
    go_simp
    try with_reducible rfl
  try simp only [Act.put, List.setIfInBounds_toArray, List.set_cons_zero, List.set_cons_succ]
  refine until_pure 5 (v := ?_) (by rfl) (by kernel_rfl) (by exact fun _ _ _ h => h) (by rfl) ?_ ?_
  rotate_left
  · intro w
    go_simp
    try with_reducible rfl
  try simp only [Act.put, List.setIfInBounds_toArray, List.set_cons_zero, List.set_cons_succ]
  have g0 := Rw3.out.cell 0 _ rfl
  have f0 := Rw3.out.free 0
  have g1 := Rw3.out.cell 1 _ rfl
  have f1 := Rw3.out.free 1
  have g2 := Rw3.out.cell 2 _ rfl
  have f2 := Rw3.out.free 2
  have g3 := Rw3.out.cell 3 _ rfl
  have f3 := Rw3.out.free 3
  have g4 := Rw3.out.cell 4 _ rfl
  have f4 := Rw3.out.free 4
  refine until_one 6 (by rfl) (by kernel_rfl) (fun K hK => ?_)
  go_simp
  try go_wp2_with fail
  refine hK.out _ _ (fun h => by cases h) ?_
  clear hK K
  try simp only [Act.put, List.setIfInBounds_toArray, List.set_cons_zero, List.set_cons_succ]
  have hg : w.heap.size ≤ w.heap.size + 1 + 1 := by omega
  have hB := Bw3.out
  have FB := (((((hB.setCell hg (.int .i64 RR.1.room) (p := ⟨_, 0, none⟩)).setCell hg (.int .i64 RR.1.next) (p := ⟨_, 1, none⟩)).setCell hg (.slice A1 m1 k1) (p := ⟨_, 2, none⟩)).setCell hg (.slice A2 m2 k2) (p := ⟨_, 3, none⟩)).setCell hg (.slice A3 m3 k3) (p := ⟨_, 4, none⟩))
  have hF := (((((Rw3.out.set 0 (.int .i64 RR.1.room)).set 1 (.int .i64 RR.1.next)).set 2 (.slice A1 m1 k1)).set 3 (.slice A2 m2 k2)).set 4 (.slice A3 m3 k3))
  have mm0 := O1.out.notBlk Rw3.out (by decide)
  have F0 := (((((O1.out.other mm0 0 (.int .i64 RR.1.room)).other mm0 1 (.int .i64 RR.1.next)).other mm0 2 (.slice A1 m1 k1)).other mm0 3 (.slice A2 m2 k2)).other mm0 4 (.slice A3 m3 k3))
  have mm1 := O2.out.notBlk Rw3.out (by decide)
  have F1 := (((((O2.out.other mm1 0 (.int .i64 RR.1.room)).other mm1 1 (.int .i64 RR.1.next)).other mm1 2 (.slice A1 m1 k1)).other mm1 3 (.slice A2 m2 k2)).other mm1 4 (.slice A3 m3 k3))
  have mm2 := O3.out.notBlk Rw3.out (by decide)
  have F2 := (((((O3.out.other mm2 0 (.int .i64 RR.1.room)).other mm2 1 (.int .i64 RR.1.next)).other mm2 2 (.slice A1 m1 k1)).other mm2 3 (.slice A2 m2 k2)).other mm2 4 (.slice A3 m3 k3))
  clear g0 f0 g1 f1 g2 f2 g3 f3 g4 f4
  generalize (((((w3.setCell ⟨w.heap.size + 1 + 1, 0, none⟩ (.int .i64 RR.1.room)).setCell ⟨w.heap.size + 1 + 1, 1, none⟩ (.int .i64 RR.1.next)).setCell ⟨w.heap.size + 1 + 1, 2, none⟩ (.slice A1 m1 k1)).setCell ⟨w.heap.size + 1 + 1, 3, none⟩ (.slice A2 m2 k2)).setCell ⟨w.heap.size + 1 + 1, 4, none⟩ (.slice A3 m3 k3)) = WF at *
  have hG : Blk WF (w.heap.size + 1 + 1) #[.int .i64 RR.1.room, .int .i64 RR.1.next, .slice A1 m1 k1, .slice A2 m2 k2, .slice A3 m3 k3] 35 := hF
  have l0 := hG.cell 0 (.int .i64 RR.1.room) rfl
  have l1 := hG.cell 1 (.int .i64 RR.1.next) rfl
  have l2 := hG.cell 2 (.slice A1 m1 k1) rfl
  have l3 := hG.cell 3 (.slice A2 m2 k2) rfl
  have l4 := hG.cell 4 (.slice A3 m3 k3) rfl
  refine until_pure 7 (v := ?_) (by rfl) (by kernel_rfl) (by exact fun _ _ _ h => h) (by rfl) ?_ ?_
  rotate_left
  · intro w
    go_simp
    try with_reducible rfl
  try simp only [Act.put, List.setIfInBounds_toArray, List.set_cons_zero, List.set_cons_succ]
  refine until_done (by kernel_rfl) ?_ _
  try go_wp2_with fail
  exact bodyPost_ret (v := .tuple #[.agg #[.int .i64 RR.1.room, .int .i64 RR.1.next, .slice A1 m1 k1, .slice A2 m2 k2, .slice A3 m3 k3], .int .i64 RR.2]) (by simp [results, go_sem, l0, l1, l2, l3, l4]) rfl (by rw [hRR]; exact ⟨_, rfl, ⟨_, _, _, rfl, F0, F1, F2⟩, FB⟩)
end Go.Proofs.YtnnfnhpehacelaaGreat
