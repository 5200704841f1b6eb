/-
  The contract of spec.l4Find.
-/
import Derived.Test.YtnnfnhpehacelaaGreatRows
import Derived.Test.YtnnfnhpehacelaaGreatDkNames
namespace Go.Proofs.YtnnfnhpehacelaaGreat
open Go.ChangeShapes Go.WideShapes Go.ChangeAt Go.RowKit Go.PlainAid
set_option linter.unusedVariables false

/-- The links of a disk as they are now. -/
def now (d : Dsk) : List Lnk := names d.dir d.movs
/-- The place of the inode that has a name now. -/
def find (d : Dsk) (name : ByteArray) : Option Nat :=
  match linkAt (now d) name with
  | none => none
  | some i => nodAt d.nods ((now d).getD i default).id
theorem find_no {d : Dsk} {name : ByteArray} (h : linkAt (now d) name = none) : find d name = none := by unfold find; rw [h]
theorem find_yes {d : Dsk} {name : ByteArray} {i : Nat} (h : linkAt (now d) name = some i) : find d name = nodAt d.nods ((now d).getD i default).id := by unfold find; rw [h]
theorem now_len (d : Dsk) : (now d).length ≤ d.dir.length + d.movs.length := names_len _ _

set_option maxRecDepth 20000 in
set_option maxHeartbeats 1000000 in
theorem findV (d : Dsk) (v : Value) (name : ByteArray) (w : World) (B : Nat) (hv : DiskV w B v d) (hf : Fits d) (hn : d.dir.length + d.movs.length ≤ 1048575) (hnn : d.nods.length ≤ 1048576) (hB : B ≤ w.heap.size) :
    Calls Tryz.prog 48 #[v, .string name] w fun e w' => e = .returned (.int .i64 (idxV (find d name))) ∧ Below w.heap.size w w' := by
  have HV : Hid (DiskV w B v d) := hv
  have HF : Hid (Fits d) := hf
  have HB : Hid (B ≤ w.heap.size) := hB
  have HN : Hid (d.dir.length + d.movs.length ≤ 1048575) := hn
  have HNN : Hid (d.nods.length ≤ 1048576) := hnn
  obtain ⟨v1, v2, v3, rfl, h1, h2, h3⟩ := hv
  obtain ⟨A3, c3, rfl, _⟩ := mov_look h3
  clear h1 h2 h3 hf hB hn hnn
  have HL : Hid ((now d).length ≤ 1048575) := Nat.le_trans (now_len d) HN.out
  have HT : Hid (d.movs.take (d.movs.length : Int).toNat = d.movs) := List.take_length
  have cN := fun wx hx hb => namesV d (.agg #[.int .i64 d.room, .int .i64 d.next, v1, v2, .slice A3 d.movs.length c3]) (d.movs.length : Int) wx B hx HF.out HN.out hb
  rw [HT.out] at cN
  go_enter Tryz.func48, Tryz.ntmps48
  go_wp2_with fail
  have hb0 : Below w.heap.size w (w.alloc (.cells #[.int .i64 d.room, .int .i64 d.next, v1, v2, .slice A3 d.movs.length c3] 35)) := (Below.refl _ _).alloc (Nat.le_refl _) _
  have kA := Blk.new w #[.int .i64 d.room, .int .i64 d.next, v1, v2, .slice A3 d.movs.length c3] 35
  generalize w.alloc (.cells #[.int .i64 d.room, .int .i64 d.next, v1, v2, .slice A3 d.movs.length c3] 35) = W at *
  have B0 : Hid (Below w.heap.size w W) := hb0
  have K0 : Hid (Blk W w.heap.size #[.int .i64 d.room, .int .i64 d.next, v1, v2, .slice A3 d.movs.length c3] 35) := kA
  clear hb0 kA
  refine (cN W (HV.out.on (B0.out.mono HB.out)) (Nat.le_trans HB.out B0.out.size)).mono ?_
  rintro e w2 ⟨u, rfl, hO, hb⟩
  have O2 : Hid (Owns w2 W.heap.size 79 2 u (lnkR (now d))) := hO
  have K2 : Hid (Blk w2 w.heap.size #[.int .i64 d.room, .int .i64 d.next, v1, v2, .slice A3 d.movs.length c3] 35) := K0.out.on hb K0.out.lt
  have B2 : Hid (Below w.heap.size w w2) := B0.out.trans (hb.mono B0.out.size)
  clear hO hb cN
  obtain ⟨A, cap, rfl, hlk⟩ := lnk_look O2.out.lies
  have HK : Hid (∀ j, j < (now d).length → ∃ g off, A = some ⟨g, off, none⟩ ∧ g < w2.heap.size ∧ _) := hlk
  have cA := atV4 (now d) (.slice A (now d).length cap) name w2 w2.heap.size O2.out.lies (by have := HL.out; omega)
  clear hlk
  go_wp2_with fail
  refine cA.mono ?_
  rintro e w1 ⟨rfl, rfl⟩
  clear cA
  rcases hat : linkAt (now d) name with _ | i
  · have e1 : idxV (none : Option Nat) = -1 := rfl
    rw [e1]
    go_wp2_with fail
    go_ret
    exact ⟨by rw [find_no hat]; rfl, B2.out⟩
  · have e1 : idxV (some i) = (i : Int) := rfl
    rw [e1]
    have hi := idx_lt hat
    obtain ⟨g, off, rfl, hg, hc0, hc1⟩ := HK.out i hi
    have HY : Hid (find d name = nodAt d.nods ((now d).getD i default).id) := find_yes hat
    have q4 : (i : Int) < ((now d).length : Int) := by omega
    have j1 : decide ((i : Int) < 0) = false := decide_eq_false (by omega)
    have y0 := K2.out.cell 0 _ rfl
    have y1 := K2.out.cell 1 _ rfl
    have y2 := K2.out.cell 2 _ rfl
    have y3 := K2.out.cell 3 _ rfl
    have y4 := K2.out.cell 4 _ rfl
    have hVd : DiskV w2.drew B (.agg #[.int .i64 d.room, .int .i64 d.next, v1, v2, .slice A3 d.movs.length c3]) d := HV.out.on ((B2.out.trans ((below_drewN' w2 1).mono B2.out.size)).mono HB.out)
    have hBd : B ≤ w2.drew.heap.size := Nat.le_trans HB.out B2.out.size
    have cI := inodeV d (.agg #[.int .i64 d.room, .int .i64 d.next, v1, v2, .slice A3 d.movs.length c3]) ((now d).getD i default).id w2.drew B hVd HNN.out hBd
    have q5 : ((now d).length : Int) ≤ 1048575 := by have := HL.out; omega
    have HG : Hid (g < w2.heap.size) := hg
    have HW : Hid (w.heap.size < w2.heap.size) := K2.out.lt
    clear hat hVd hBd hc0 hg hi
    generalize ((now d).getD i default).id = li at *
    generalize (now d).length = nn at *
    generalize d.movs.length = M at *
    have Z2 : Hid (w.heap.size ≤ w2.heap.size) := B2.out.size
    generalize hws : w.heap.size = ws at *
    go_wp2_with fail
    have S0 : Hid (w2.drew.cell? ⟨ws, 0, none⟩ = some (.int .i64 d.room) ∧ w2.drew.cell? ⟨ws, 1, none⟩ = some (.int .i64 d.next) ∧ w2.drew.cell? ⟨ws, 2, none⟩ = some v1 ∧ w2.drew.cell? ⟨ws, 3, none⟩ = some v2 ∧ w2.drew.cell? ⟨ws, 4, none⟩ = some (.slice A3 M c3) ∧ w2.drew.cell? ⟨g, off + i * 2 + 1, none⟩ = some (.int .i64 li)) := ⟨y0, y1, y2, y3, y4, hc1⟩
    go_region_held3 (fun w' => w'.cell? ⟨ws, 0, none⟩ = some (.int .i64 d.room) ∧ w'.cell? ⟨ws, 1, none⟩ = some (.int .i64 d.next) ∧ w'.cell? ⟨ws, 2, none⟩ = some v1 ∧ w'.cell? ⟨ws, 3, none⟩ = some v2 ∧ w'.cell? ⟨ws, 4, none⟩ = some (.slice A3 M c3) ∧ w'.cell? ⟨g, off + i * 2 + 1, none⟩ = some (.int .i64 li)) (first | exact S2.out | exact S0.out)
      ((go_at_call 46; refine cI.mono ?_; rintro e w3 ⟨rfl, hb⟩; have S2 : Hid (w3.cell? ⟨ws, 0, none⟩ = some (.int .i64 d.room) ∧ w3.cell? ⟨ws, 1, none⟩ = some (.int .i64 d.next) ∧ w3.cell? ⟨ws, 2, none⟩ = some v1 ∧ w3.cell? ⟨ws, 3, none⟩ = some v2 ∧ w3.cell? ⟨ws, 4, none⟩ = some (.slice A3 M c3) ∧ w3.cell? ⟨g, off + i * 2 + 1, none⟩ = some (.int .i64 li)) := ⟨(hb.cell (p := ⟨ws, 0, none⟩) HW.out).trans y0, (hb.cell (p := ⟨ws, 1, none⟩) HW.out).trans y1, (hb.cell (p := ⟨ws, 2, none⟩) HW.out).trans y2, (hb.cell (p := ⟨ws, 3, none⟩) HW.out).trans y3, (hb.cell (p := ⟨ws, 4, none⟩) HW.out).trans y4, (hb.cell (p := ⟨g, off + i * 2 + 1, none⟩) HG.out).trans hc1⟩))
    go_wp2_with fail
    have B3 : Below ws w w3 := B2.out.trans (((below_drewN' w2 1).mono Z2.out).trans (hb.mono Z2.out))
    go_ret
    exact ⟨by rw [HY.out]; rfl, hws ▸ B3⟩
end Go.Proofs.YtnnfnhpehacelaaGreat
