/-
  Contracts of impl.readParts at impl.Answer, and of impl.ReadAnswer.
-/
import Derived.Test.YtaaefceknjhloaaRows
import Derived.Test.YtaaefceknjhloaaCmAns
namespace Go.Proofs.Ytaaefceknjhloaa
open Go.ChangeShapes Go.WideShapes Go.ChangeAt Go.RowKit Go.PlainAid
set_option linter.unusedVariables false

theorem catchAns_panicking (u : TypeId) (pv : Value) (older : List PanicEntry) (w : World) :
    CallsD Try.prog 22 #[] (.panicking ({ v := .iface u pv, recovered := false } :: older)) w fun e u' w' =>
      e = .returned (.tuple #[]) ∧ u' = .panicking ({ v := .iface u pv, recovered := true } :: older) ∧ w' = w := by
  refine callsD_of_wpS Try.func22 rfl fun c₀ cs hu => ?_
  apply wpS_region
  simp [wpOpsS, go_sem, recoverD, hu, Try.ntmps22, bodyPostS, results, Try.results22]
theorem catchAns_idle (w : World) :
    CallsD Try.prog 22 #[] .returning w fun e u' w' => e = .returned (.tuple #[]) ∧ u' = .returning ∧ w' = w := by
  refine callsD_of_wpS Try.func22 rfl fun c₀ cs hu => ?_
  apply wpS_region
  simp [wpOpsS, go_sem, recoverD, hu, Try.ntmps22, bodyPostS, results, Try.results22]
  cases c₀
  simp_all
set_option maxHeartbeats 2000000 in
theorem partsAns (s : ByteArray) (w : World) (hs : s.size ≤ 1048576) :
    Calls Try.prog 17 #[.string s, .func (.func 18) #[] #[]] w fun e w' => AnsA s e ∧ Below w.heap.size w w' := by
  have hmf : ∀ (fn : Fn) (first cap : Array Value) (w : World), (Instr.makeFunc fn first cap).run Try.prog w = .ok (.func fn first cap) w := fun _ _ _ _ => rfl
  have k0 := (Blk.new w #[.int .i64 0, .int .i64 0, .int .i64 0, .string ⟨#[]⟩] 26).alloc (.cells #[.string s] 47)
  have p0 : Prt ((w.alloc (.cells #[.int .i64 0, .int .i64 0, .int .i64 0, .string ⟨#[]⟩] 26)).alloc (.cells #[.string s] 47)) (w.heap.size + 1) s := by
    have := heap_alloc_new (w.alloc (.cells #[.int .i64 0, .int .i64 0, .int .i64 0, .string ⟨#[]⟩] 26)) (.cells #[.string s] 47)
    rw [World.size_alloc] at this
    exact this
  have hb0 := below_c2 w (.cells #[.int .i64 0, .int .i64 0, .int .i64 0, .string ⟨#[]⟩] 26) (.cells #[.string s] 47)
  go_enter_defers Try.func17, Try.ntmps17
  go_wp2_with fail
  generalize (w.alloc (.cells #[.int .i64 0, .int .i64 0, .int .i64 0, .string ⟨#[]⟩] 26)).alloc (.cells #[.string s] 47) = X at *
  refine (takeAns (w.heap.size + 1) s X p0 hs).mono ?_
  rintro e w1 ⟨hR, hk⟩
  have k1 := hk.blk k0 (by omega)
  have B1 : Hid (Below w.heap.size w w1) := hb0.trans (hk.1.mono (by omega))
  clear hk hb0 p0 k0 hs
  rcases hR with ⟨x, hx, rfl⟩ | ⟨hn, rfl⟩
  · have HX : Hid (AnsRd s x) := hx
    unfold vAns
    clear hx
    obtain ⟨⟨r0, s0⟩, ⟨r1, s1⟩, ⟨r2, s2⟩, ⟨r3, s3⟩, y0, y1, y2, y3⟩ := resC4 (x0 := .int .i64 x.code) (x1 := .int .i64 x.index) (x2 := .int .i64 x.mark) (x3 := .string x.data) k1
    have B2 : Hid (Below w.heap.size w _) := belowC4 B1.out (Nat.le_refl _) (.int .i64 x.code) (.int .i64 x.index) (.int .i64 x.mark) (.string x.data)
    clear k1
    go_wp2_with fail
    refine leaves_cons (f := 22) (args := #[]) (by simp) (by simp [go_sem]) ?_
    refine (catchAns_idle _).mono ?_
    rintro e u' w'' ⟨rfl, rfl, rfl⟩
    refine ⟨.tuple #[.agg #[.int .i64 x.code, .int .i64 x.index, .int .i64 x.mark, .string x.data], .bool true], ?_, .inl ⟨x, HX.out, rfl⟩, B2.out⟩
    simp [results, Try.results17, go_sem, y0, y1, y2, y3]
  · have HN : Hid (∀ x, ¬ AnsRd s x) := hn
    clear hn
    have hz := cellsC4 k1
    obtain ⟨y0, y1, y2, y3⟩ := hz
    clear k1
    go_wp2_with fail
    refine leaves_cons (f := 22) (args := #[]) (by simp) (by simp [go_sem]) ?_
    refine (catchAns_panicking _ _ [] _).mono ?_
    rintro e u' w'' ⟨rfl, rfl, rfl⟩
    refine ⟨.tuple #[.agg #[.int .i64 0, .int .i64 0, .int .i64 0, .string ⟨#[]⟩], .bool false], ?_, .inr ⟨HN.out, rfl⟩, B1.out⟩
    simp [results, Try.results17, go_sem, y0, y1, y2, y3]
set_option maxHeartbeats 1000000 in
theorem implReadAnswer (s : ByteArray) (w : World) (hs : s.size ≤ 1048576) :
    Calls Try.prog 10 #[.string s] w fun e w' => AnsA s e ∧ Below w.heap.size w w' := by
  have c := fun wx => partsAns s wx hs
  have k0 := Blk.new w #[.int .i64 0, .int .i64 0, .int .i64 0, .string ⟨#[]⟩] 26
  have hb0 := (Below.refl w.heap.size w).alloc (Nat.le_refl _) (.cells #[.int .i64 0, .int .i64 0, .int .i64 0, .string ⟨#[]⟩] 26)
  clear hs
  go_enter Try.func10, Try.ntmps10
  go_wp2_with fail
  generalize w.alloc (.cells #[.int .i64 0, .int .i64 0, .int .i64 0, .string ⟨#[]⟩] 26) = X at *
  refine (c _).mono ?_
  rintro e w1 ⟨hR, hb1⟩
  have k1 := k0.on hb1 k0.lt
  have B1 : Hid (Below w.heap.size w w1) := hb0.trans (hb1.mono hb0.size)
  have HR : Hid (AnsA s e) := hR
  obtain ⟨x, b, rfl⟩ := hR.form
  clear hb0 hb1 c k0 hR
  unfold vAns at *
  obtain ⟨⟨r0, s0⟩, ⟨r1, s1⟩, ⟨r2, s2⟩, ⟨r3, s3⟩, y0, y1, y2, y3⟩ := resC4 (x0 := .int .i64 x.code) (x1 := .int .i64 x.index) (x2 := .int .i64 x.mark) (x3 := .string x.data) k1
  have B2 : Hid (Below w.heap.size w _) := belowC4 B1.out (Nat.le_refl _) (.int .i64 x.code) (.int .i64 x.index) (.int .i64 x.mark) (.string x.data)
  clear k1 B1
  go_wp2_with fail
  exact bodyPost_ret (v := .tuple #[.agg #[.int .i64 x.code, .int .i64 x.index, .int .i64 x.mark, .string x.data], .bool b]) (by simp [results, go_sem, y0, y1, y2, y3]) rfl ⟨HR.out, B2.out⟩
end Go.Proofs.Ytaaefceknjhloaa
