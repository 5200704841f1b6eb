/-
  The contracts of (impl.openDisk).makeFile and impl.Make.
-/
import Derived.Test.YtpmemmghilipaaaGreatRows
import Derived.Test.YtpmemmghilipaaaGreatImMoveO
namespace Go.Proofs.YtpmemmghilipaaaGreat
open Go.ChangeShapes Go.WideShapes Go.ChangeAt Go.RowKit Go.PlainAid
set_option linter.unusedVariables false

/-- The code of a Make. -/
def makeC (d : Dsk) (name : ByteArray) : Int := if nameOk name = false then 1 else if find d name ≠ none then 3 else if 10 ≤ d.nods.length ∨ 20 ≤ d.movs.length ∨ 1000000 ≤ d.next then 4 else 0
/-- A disk behind a Make. -/
def makeD (d : Dsk) (name : ByteArray) : Dsk := if makeC d name = 0 then ⟨d.room, d.next + 1, d.nods ++ [⟨d.next, ⟨#[]⟩, 0⟩], d.dir, d.movs ++ [⟨1, name, ⟨#[]⟩, d.next⟩]⟩ else d
theorem makeC_bad {d : Dsk} {name : ByteArray} (h : nameOk name = false) : makeC d name = 1 := by unfold makeC; rw [if_pos h]
theorem makeC_there {d : Dsk} {name : ByteArray} {j : Nat} (h : nameOk name = true) (hf : find d name = some j) : makeC d name = 3 := by unfold makeC; rw [if_neg (by rw [h]; simp), if_pos (by rw [hf]; simp)]
theorem makeC_full {d : Dsk} {name : ByteArray} (h : nameOk name = true) (hf : find d name = none) (hx : 10 ≤ d.nods.length ∨ 20 ≤ d.movs.length ∨ 1000000 ≤ d.next) : makeC d name = 4 := by unfold makeC; rw [if_neg (by rw [h]; simp), if_neg (by rw [hf]; simp), if_pos hx]
theorem makeC_ok {d : Dsk} {name : ByteArray} (h : nameOk name = true) (hf : find d name = none) (hx : ¬ (10 ≤ d.nods.length ∨ 20 ≤ d.movs.length ∨ 1000000 ≤ d.next)) : makeC d name = 0 := by unfold makeC; rw [if_neg (by rw [h]; simp), if_neg (by rw [hf]; simp), if_neg hx]
theorem makeD_no {d : Dsk} {name : ByteArray} (h : makeC d name ≠ 0) : makeD d name = d := by unfold makeD; rw [if_neg h]
theorem makeD_ok {d : Dsk} {name : ByteArray} (h : makeC d name = 0) : makeD d name = ⟨d.room, d.next + 1, d.nods ++ [⟨d.next, ⟨#[]⟩, 0⟩], d.dir, d.movs ++ [⟨1, name, ⟨#[]⟩, d.next⟩]⟩ := by unfold makeD; rw [if_pos h]
theorem nod_below {d : Dsk} (hd : Whole d) : ∀ x ∈ d.nods, x.id < d.next := fun x hx => by
  obtain ⟨k, hk, rfl⟩ := List.getElem_of_mem hx
  have hg := hd.nod k hk
  unfold nodGood at hg
  simp only [Bool.and_eq_true, decide_eq_true_eq] at hg
  rw [getD_at d.nods k hk]
  have h1 := hg.1.1.1
  omega

set_option maxRecDepth 20000 in
set_option maxHeartbeats 4000000 in
theorem makeFileV (w : World) (base p : Nat) (d : Dsk) (bi bd bw : Nat) (gs : List Nat) (u : Value) (name : ByteArray) (h : OpenD w base p d bi bd bw gs u) (hd : Whole d) (hw : wtD d ≤ 1048576) (hs : name.size ≤ maxLen) (hB : base ≤ w.heap.size) :
    Calls Tryz.prog 23 #[.pointer (some ⟨p, 0, none⟩), .string name] w fun e w' => e = .returned (.int .i64 (makeC d name)) ∧ Tellable w' p (makeD d name) ∧ Below base w w' := by
  have cF := findI w base p d bi bd bw gs u name h hd hs
  have hR := (sizeOk_iff d).1 hd.size
  have HO : Hid (OpenD w base p d bi bd bw gs u) := h
  have HD : Hid (Whole d) := hd
  have HB : Hid (base ≤ w.heap.size) := hB
  have HT : Hid (Tellable w p d) := h.tell hd hw
  have cM := fun (hn : nameOk name = true) => addMoveO w base p d bi bd bw gs u 1 name ⟨#[]⟩ d.next h hd hw (by have := name_size hn; omega) (by show (0 : Nat) ≤ 1000; omega) hB
  have hlen := fun ty => h.it.len ty
  rw [prs_length h.held.len] at hlen
  have x1 := h.blk.cell 1 _ rfl
  have x2 := h.blk.cell 2 _ rfl
  have HX : Hid (1 ≤ d.next ∧ d.next ≤ 1000000 ∧ d.nods.length ≤ 10) := ⟨hR.x0, hR.x1, hR.n⟩
  have q1 : (d.nods.length : Int) ≤ 10 := by have := hR.n; omega
  have q2 : d.next ≤ 1000000 := hR.x1
  have q3 : 1 ≤ d.next := hR.x0
  clear h hd hs hB hR hw
  go_enter Tryz.func23, Tryz.ntmps23
  go_wp2_with fail
  refine cF.mono ?_
  rintro e w1 ⟨rfl, hF⟩
  clear cF
  rcases hF with ⟨hn, rfl⟩ | ⟨hn, hf, rfl⟩ | ⟨hn, j, hf, hj, rfl⟩
  · have hc : makeC d name = 1 := makeC_bad hn
    have HR : Hid (makeC d name = 1 ∧ makeD d name = d) := ⟨hc, makeD_no (by rw [hc]; omega)⟩
    clear hn cM hc
    go_wp2_with fail
    go_ret
    exact ⟨by rw [HR.out.1]; rfl, by rw [HR.out.2]; exact HT.out, Below.refl _ _⟩
  · by_cases hx : 10 ≤ d.nods.length
    · have hc : makeC d name = 4 := makeC_full hn hf (.inl hx)
      have HR : Hid (makeC d name = 4 ∧ makeD d name = d) := ⟨hc, makeD_no (by rw [hc]; omega)⟩
      have t1 : decide ((10 : Int) ≤ (d.nods.length : Int)) = true := decide_eq_true (by omega)
      clear hn hf cM hc hx
      generalize d.nods.length = nl at *
      go_wp2_with fail
      go_ret
      exact ⟨by rw [HR.out.1]; rfl, by rw [HR.out.2]; exact HT.out, Below.refl _ _⟩
    · have t1 : decide ((10 : Int) ≤ (d.nods.length : Int)) = false := decide_eq_false (by omega)
      by_cases hy : 1000000 ≤ d.next
      · have hc : makeC d name = 4 := makeC_full hn hf (.inr (.inr hy))
        have HR : Hid (makeC d name = 4 ∧ makeD d name = d) := ⟨hc, makeD_no (by rw [hc]; omega)⟩
        have t2 : decide ((1000000 : Int) ≤ d.next) = true := decide_eq_true hy
        clear hn hf cM hc hx hy
        generalize d.nods.length = nl at *
        go_wp2_with fail
        go_ret
        exact ⟨by rw [HR.out.1]; rfl, by rw [HR.out.2]; exact HT.out, Below.refl _ _⟩
      · have t2 : decide ((1000000 : Int) ≤ d.next) = false := decide_eq_false hy
        have HCF : Hid (20 ≤ d.movs.length → makeC d name = 4 ∧ makeD d name = d) := fun hm => by
          have hc : makeC d name = 4 := makeC_full hn hf (.inr (.inl hm))
          exact ⟨hc, makeD_no (by rw [hc]; omega)⟩
        have HCO : Hid (¬ 20 ≤ d.movs.length → makeC d name = 0 ∧ makeD d name = ⟨d.room, d.next + 1, d.nods ++ [⟨d.next, ⟨#[]⟩, 0⟩], d.dir, d.movs ++ [⟨1, name, ⟨#[]⟩, d.next⟩]⟩) := fun hm => by
          have hc : makeC d name = 0 := makeC_ok hn hf (by omega)
          exact ⟨hc, makeD_ok hc⟩
        have cM := cM hn
        have HNM : Hid (name.size ≤ 1000) := by have := name_size hn; unfold Hid; omega
        have HNL : Hid (d.nods.length < 10) := by unfold Hid; omega
        have HNX : Hid (d.next < 1000000) := by unfold Hid; omega
        have hmc : ∀ e : Int, (20 ≤ d.movs.length → (movedD d ⟨1, name, ⟨#[]⟩, d.next⟩).2 = 4) ∧ (¬ 20 ≤ d.movs.length → (movedD d ⟨1, name, ⟨#[]⟩, d.next⟩).2 = 0) := fun _ => ⟨fun h => by rw [movedD_full h], fun h => by rw [movedD_room h]⟩
        have HMC := hmc 0
        clear hn hf hx hy hmc
        generalize hnl : d.nods.length = nl at *
        generalize hmc2 : (movedD d ⟨1, name, ⟨#[]⟩, d.next⟩).2 = mc at *
        go_wp2_with fail
        refine cM.mono ?_
        rintro e w2 ⟨rfl, hD, hb2⟩
        have B2 : Hid (Below base w w2) := hb2
        clear cM hb2 x1 x2 hlen
        rcases hD with ⟨hfull, hT2⟩ | ⟨hroom, u', hk2, hI2, hH2, hN2, hO2⟩
        · have HR : Hid (makeC d name = 4 ∧ makeD d name = d) := HCF.out hfull
          have HT2 : Hid (Tellable w2 p d) := hT2
          have e4 := HMC.1 hfull
          subst e4
          clear hfull hT2
          go_wp2_with fail
          go_ret
          exact ⟨by rw [HR.out.1]; rfl, by rw [HR.out.2]; exact HT2.out, B2.out⟩
        · have HR : Hid (makeC d name = 0 ∧ makeD d name = ⟨d.room, d.next + 1, d.nods ++ [⟨d.next, ⟨#[]⟩, 0⟩], d.dir, d.movs ++ [⟨1, name, ⟨#[]⟩, d.next⟩]⟩) := HCO.out hroom
          have e0 := HMC.2 hroom
          subst e0
          have HML : Hid (d.movs.length < 20) := by unfold Hid; omega
          have K2 : Hid (Blk w2 p #[.int .i64 d.room, .int .i64 d.next, .map (some bi), .map (some bd), u', .map (some bw)] 91) := hk2
          have I2 : Hid (IT w2 bi (prs d.nods gs)) := hI2
          have H2 : Hid (Held w2 d.nods gs) := hH2
          have N2 : Hid (NT w2 bd d.dir) := hN2
          have O2 : Hid (Owns w2 base 49 4 u' (movR (d.movs ++ [⟨1, name, ⟨#[]⟩, d.next⟩]))) := hO2
          have PL : Hid (p < w2.heap.size) := hk2.lt
          have IL : Hid (bi < w2.heap.size) := hI2.lt
          have hBA : Below w2.heap.size w2 (w2.alloc (.cells #[.int .i64 d.next, .string ⟨#[]⟩, .int .i64 0] 47)).drew := ((Below.refl _ w2).alloc (Nat.le_refl _) _).drew
          have kN : Blk (w2.alloc (.cells #[.int .i64 d.next, .string ⟨#[]⟩, .int .i64 0] 47)).drew w2.heap.size #[.int .i64 d.next, .string ⟨#[]⟩, .int .i64 0] 47 := Blk.new w2 _ _
          have iN : IT (w2.alloc (.cells #[.int .i64 d.next, .string ⟨#[]⟩, .int .i64 0] 47)).drew bi (prs d.nods gs) := hI2.on hBA hI2.lt
          have HTT : ∀ q ∈ prs d.nods gs, q.1 < d.next := fun q hq => by
            obtain ⟨x, hx, e⟩ := prs_mem hq
            have := nod_below HD.out x hx
            omega
          obtain ⟨w3, r3, hI3, hB3, hS3⟩ := iN.put d.next w2.heap.size ⟨by omega, by omega⟩ (by rw [prs_length hH2.len]; unfold maxLen; have := HNL.out; omega) HTT
          have hgs : ∀ g ∈ gs, g ≠ bi := fun g hg => (HO.out.gl g hg).2.2.1
          have hnb : w2.heap.size ≠ bi := by have := IL.out; omega
          have I3 : Hid (IT w3 bi (prs (d.nods ++ [⟨d.next, ⟨#[]⟩, 0⟩]) (gs ++ [w2.heap.size]))) := by unfold Hid; rw [prs_snoc hH2.len]; exact hI3
          have H3 : Hid (Held w3 (d.nods ++ [⟨d.next, ⟨#[]⟩, 0⟩]) (gs ++ [w2.heap.size])) := ((hH2.on hBA hH2.lt).snoc (x := ⟨d.next, ⟨#[]⟩, 0⟩) kN).but hB3 (fun g hg e => by
            rcases List.mem_append.1 hg with hg | hg
            · exact hgs g hg e
            · rw [List.mem_singleton] at hg
              omega)
          have K3 : Hid (Blk w3 p #[.int .i64 d.room, .int .i64 d.next, .map (some bi), .map (some bd), u', .map (some bw)] 91) := hB3.blk (hk2.on hBA hk2.lt) HO.out.pi
          have N3 : Hid (NT w3 bd d.dir) := (hN2.on hBA hN2.lt).kept (hB3.block bd (by have := hN2.lt; simp; omega) HO.out.id.symm)
          have O3 : Hid (Owns w3 base 49 4 u' (movR (d.movs ++ [⟨1, name, ⟨#[]⟩, d.next⟩]))) := (hO2.on hBA).kept fun g hg ho => hB3.block g hg (fun e => by subst e; exact iN.notOwn (hO2.on hBA) ho)
          have B3 : Hid (Below base w w3) := (B2.out.trans (hBA.mono (Nat.le_trans HB.out B2.out.size))).trans (hB3.below base (by have := B2.out.size; have := HB.out; simp; omega) fun i hi e => by have := HO.out.lo.2.1; omega)
          have S1 : Hid ((w2.alloc (.cells #[.int .i64 d.next, .string ⟨#[]⟩, .int .i64 0] 47)).drew.cell? ⟨p, 1, none⟩ = some (.int .i64 d.next) ∧ (w2.alloc (.cells #[.int .i64 d.next, .string ⟨#[]⟩, .int .i64 0] 47)).drew.cell? ⟨p, 2, none⟩ = some (.map (some bi))) := ⟨(hk2.on hBA hk2.lt).cell 1 _ rfl, (hk2.on hBA hk2.lt).cell 2 _ rfl⟩
          have S2 : Hid (w3.cell? ⟨p, 1, none⟩ = some (.int .i64 d.next) ∧ w3.cell? ⟨p, 2, none⟩ = some (.map (some bi))) := ⟨K3.out.cell 1 _ rfl, K3.out.cell 2 _ rfl⟩
          have S0 : Hid (w2.drew.cell? ⟨p, 1, none⟩ = some (.int .i64 d.next) ∧ w2.drew.cell? ⟨p, 2, none⟩ = some (.map (some bi))) := ⟨hk2.cell 1 _ rfl, hk2.cell 2 _ rfl⟩
          clear hk2 hI2 hH2 hN2 hO2 hBA kN iN HTT hI3 hB3 hS3 hgs hnb hroom HCF HCO HMC
          go_wp2_with fail
          go_region_held3 (fun w' => w'.cell? ⟨p, 1, none⟩ = some (.int .i64 d.next) ∧ w'.cell? ⟨p, 2, none⟩ = some (.map (some bi))) (first | exact S0.out | exact S1.out | exact S2.out) (fail)
          have y1 := K3.out.cell 1 _ rfl
          have y2 := K3.out.free 1
          have z1 : wrap64 (d.next + 1) = d.next + 1 := by unfold wrap64; omega
          go_wp2_with fail
          go_ret
          have hkeep : ∀ g, g ≠ p → (w3.setCell ⟨p, 1, none⟩ (.int .i64 (d.next + 1))).heap[g]? = w3.heap[g]? := fun g hg => Below.heap_setCell _ ⟨p, 1, none⟩ _ _ hg
          refine ⟨by rw [HR.out.1]; rfl, ?_, B3.out.setCell (p := ⟨p, 1, none⟩) HO.out.lo.1 _⟩
          rw [HR.out.2]
          have hlast := nod_below HD.out
          refine ⟨⟨bi, bd, gs ++ [w2.heap.size], u', _, K3.out.set 1 _, I3.out.kept (hkeep bi HO.out.pi.symm), H3.out.kept fun g hg => hkeep g ?_, N3.out.kept (hkeep bd HO.out.pd.symm), ?_⟩, ?_, HT.out.sorted, HT.out.ok, ?_, HT.out.n2, ?_, ?_, ?_⟩
          · rcases List.mem_append.1 hg with hg | hg
            · exact (HO.out.gl g hg).2.1
            · rw [List.mem_singleton] at hg
              have := PL.out
              omega
          · have hO4 := O3.out.other (O3.out.notBlk K3.out (by decide)) 1 (.int .i64 (d.next + 1))
            exact hO4.lies
          · show Rising (d.nods ++ [⟨d.next, ⟨#[]⟩, 0⟩])
            unfold Rising
            rw [List.pairwise_append]
            refine ⟨HT.out.rise, List.pairwise_singleton _ _, fun a ha b hb => ?_⟩
            rw [List.mem_singleton] at hb
            subst hb
            exact hlast a ha
          · show (d.nods ++ [_]).length ≤ 1000
            rw [List.length_append, List.length_singleton]
            have := HNL.out
            omega
          · show (d.movs ++ [_]).length ≤ 1000
            rw [List.length_append, List.length_singleton]
            have := HML.out
            omega
          · intro x hx
            have hx' : x ∈ d.nods ++ [⟨d.next, ⟨#[]⟩, 0⟩] := hx
            rcases List.mem_append.1 hx' with h1 | h1
            · exact HT.out.nx x h1
            · obtain rfl := List.mem_singleton.1 h1
              exact ⟨⟨by show _ ≤ d.next; omega, by show d.next ≤ _; omega⟩, by show (0 : Nat) ≤ _; omega⟩
          · intro x hx
            have hx' : x ∈ d.movs ++ [⟨1, name, ⟨#[]⟩, d.next⟩] := hx
            rcases List.mem_append.1 hx' with h1 | h1
            · exact HT.out.mx x h1
            · obtain rfl := List.mem_singleton.1 h1
              have := HNM.out
              exact ⟨by show name.size ≤ _; omega, by show (0 : Nat) ≤ _; omega⟩
  · have hc : makeC d name = 3 := makeC_there hn hf
    have HR : Hid (makeC d name = 3 ∧ makeD d name = d) := ⟨hc, makeD_no (by rw [hc]; omega)⟩
    generalize gs.getD j 0 = gj at *
    clear hn hf hj cM hc
    go_wp2_with fail
    go_ret
    exact ⟨by rw [HR.out.1]; rfl, by rw [HR.out.2]; exact HT.out, Below.refl _ _⟩


/-- What Make answers. -/
def makeR (d : Dsk) (name : ByteArray) : Dsk × Int := if diskOk d = true then (makeD d name, makeC d name) else (zeroD, 1)
theorem makeR_yes {d : Dsk} {name : ByteArray} (h : diskOk d = true) : makeR d name = (makeD d name, makeC d name) := by unfold makeR; rw [if_pos h]
theorem makeR_no {d : Dsk} {name : ByteArray} (h : diskOk d = false) : makeR d name = (zeroD, 1) := by unfold makeR; rw [if_neg (by rw [h]; simp)]

set_option maxHeartbeats 1000000 in
theorem make1V (w : World) (base p : Nat) (d : Dsk) (bi bd bw : Nat) (gs : List Nat) (u : Value) (name : ByteArray) (b0 : Nat) (h : OpenD w base p d bi bd bw gs u) (hd : Whole d) (hw : wtD d ≤ 1048576) (hs0 : name.size ≤ maxLen) (hB : base ≤ w.heap.size) (hc0 : w.cell? ⟨b0, 0, none⟩ = some (.string name)) :
    Calls Tryz.prog 22 #[.pointer (some ⟨p, 0, none⟩), .pointer (some ⟨b0, 0, none⟩)] w fun e w' => e = .returned (.int .i64 (makeC d name)) ∧ Tellable w' p (makeD d name) ∧ Below base w w' := by
  have cF := makeFileV w base p d bi bd bw gs u name h hd hw hs0 hB
  clear h hd hw hB hs0
  go_enter Tryz.func22, Tryz.ntmps22
  go_wp2_with fail
  refine cF.mono ?_
  rintro e w1 ⟨rfl, hT, hb⟩
  have HT : Hid (Tellable w1 p (makeD d name)) := hT
  clear hT
  go_wp2_with fail
  go_ret
  exact ⟨rfl, HT.out, hb⟩

set_option maxRecDepth 20000 in
set_option maxHeartbeats 2000000 in
theorem implMakeV (d : Dsk) (v : Value) (name : ByteArray) (w : World) (B : Nat) (hv : DiskV w B v d) (hf : Fits d) (hi : IntsOk d) (hw : wtD d ≤ 1048576) (hB : B ≤ w.heap.size) (hs0 : name.size ≤ maxLen) :
    Calls Tryz.prog 7 #[v, .string name] w fun e w' => ∃ x, e = .returned (.tuple #[x, .int .i64 (makeR d name).2]) ∧ DiskO w' w.heap.size x (makeR d name).1 ∧ Below w.heap.size w w' := by
  have HV : Hid (DiskV w B v d) := hv
  have HB : Hid (B ≤ w.heap.size) := hB
  have HF : Hid (Fits d) := hf
  have HI : Hid (IntsOk d) := hi
  have HW : Hid (wtD d ≤ 1048576) := hw
  have HS0 : Hid (name.size ≤ maxLen) := hs0
  obtain ⟨v1, v2, v3, rfl, h1, h2, h3⟩ := hv
  clear h1 h2 h3 hB hf hi hw hs0
  go_enter Tryz.func7, Tryz.ntmps7
  go_wp2_with fail
  have hsz : (((w.alloc (.cells #[.int .i64 d.room, .int .i64 d.next, v1, v2, v3] 32)).alloc (.cells #[.string name] 9)).alloc (.cells #[.int .i64 0, .int .i64 0, .slice none 0 0, .slice none 0 0, .slice none 0 0] 32)).heap.size = w.heap.size + 1 + 1 + 1 := by simp
  have hb0 : Below w.heap.size w ((w.alloc (.cells #[.int .i64 d.room, .int .i64 d.next, v1, v2, v3] 32)).alloc (.cells #[.string name] 9)) := (((Below.refl _ w).alloc (Nat.le_refl _) _).alloc (by simp only [World.size_alloc]; omega) _)
  have bR := Blk.new ((w.alloc (.cells #[.int .i64 d.room, .int .i64 d.next, v1, v2, v3] 32)).alloc (.cells #[.string name] 9)) #[.int .i64 0, .int .i64 0, .slice none 0 0, .slice none 0 0, .slice none 0 0] 32
  have bn0 := Blk.new (w.alloc (.cells #[.int .i64 d.room, .int .i64 d.next, v1, v2, v3] 32)) #[.string name] 9
  simp only [World.size_alloc] at bR bn0
  have cn0 := (bn0.alloc (.cells #[.int .i64 0, .int .i64 0, .slice none 0 0, .slice none 0 0, .slice none 0 0] 32))
  have hb1 := hb0.alloc (by simp only [World.size_alloc]; omega) (.cells #[.int .i64 0, .int .i64 0, .slice none 0 0, .slice none 0 0, .slice none 0 0] 32)
  clear hb0 bn0
  generalize ((w.alloc (.cells #[.int .i64 d.room, .int .i64 d.next, v1, v2, v3] 32)).alloc (.cells #[.string name] 9)).alloc (.cells #[.int .i64 0, .int .i64 0, .slice none 0 0, .slice none 0 0, .slice none 0 0] 32) = W at *
  have B0 : Hid (Below w.heap.size w W) := hb1
  have R0 : Hid (Blk W (w.heap.size + 1 + 1) #[.int .i64 0, .int .i64 0, .slice none 0 0, .slice none 0 0, .slice none 0 0] 32) := bR
  have N0 : Hid (Blk W (w.heap.size + 1) #[.string name] 9) := cn0
  have SZ : Hid (W.heap.size = w.heap.size + 1 + 1 + 1) := hsz
  clear hb1 bR hsz cn0
  have cC := changedV d (.agg #[.int .i64 d.room, .int .i64 d.next, v1, v2, v3]) W B (HV.out.on (B0.out.mono HB.out)) HF.out HI.out HW.out (Nat.le_trans HB.out B0.out.size) 22 #[.pointer (some ⟨w.heap.size + 1, 0, none⟩)] (makeD d name) (makeC d name) (enters_of Tryz.func22 (by kernel_rfl) rfl)
    (fun w1 base p bi bd bw gs u hd hb hl hl2 hO => make1V w1 base p d bi bd bw gs u name (w.heap.size + 1) hO hd HW.out HS0.out hl2 ((N0.out.on hb N0.out.lt).cell 0 _ rfl))
  have hmf : ∀ (fn : Fn) (first cap : Array Value) (w : World), (Instr.makeFunc fn first cap).run Tryz.prog w = .ok (.func fn first cap) w := fun _ _ _ _ => rfl
  try go_wp2_with fail
  refine cC.mono ?_
  rintro e w3 ⟨x, y, rfl, hx, hb3⟩
  have B3 : Hid (Below w.heap.size w w3) := B0.out.trans (hb3.mono B0.out.size)
  have R3 : Hid (Blk w3 (w.heap.size + 1 + 1) #[.int .i64 0, .int .i64 0, .slice none 0 0, .slice none 0 0, .slice none 0 0] 32) := R0.out.on hb3 R0.out.lt
  have HX : Hid (y = (makeR d name).2 ∧ DiskO w3 w.heap.size x (makeR d name).1) := by
    rcases hx with ⟨hk, rfl, ho⟩ | ⟨hk, rfl, ho⟩
    · rw [makeR_yes hk]
      exact ⟨rfl, ho.mono B0.out.size⟩
    · rw [makeR_no hk]
      exact ⟨rfl, ho.mono B0.out.size⟩
  clear cC hx hb3
  generalize hRR : makeR d name = RR at HX
  obtain ⟨rfl, hO3⟩ := HX.out
  obtain ⟨x1, x2, x3, rfl, o1, o2, o3⟩ := hO3
  obtain ⟨A1, m1, k1, rfl⟩ := o1.shape
  obtain ⟨A2, m2, k2, rfl⟩ := o2.shape
  obtain ⟨A3, m3, k3, rfl⟩ := o3.shape
  have O1 : Hid (Owns w3 w.heap.size 47 3 (.slice A1 m1 k1) (nodR RR.1.nods)) := o1
  have O2 : Hid (Owns w3 w.heap.size 74 2 (.slice A2 m2 k2) (lnkR RR.1.dir)) := o2
  have O3 : Hid (Owns w3 w.heap.size 49 4 (.slice A3 m3 k3) (movR RR.1.movs)) := o3
  clear HX o1 o2 o3
  have g0 := R3.out.cell 0 _ rfl
  have f0 := R3.out.free 0
  have g1 := R3.out.cell 1 _ rfl
  have f1 := R3.out.free 1
  have g2 := R3.out.cell 2 _ rfl
  have f2 := R3.out.free 2
  have g3 := R3.out.cell 3 _ rfl
  have f3 := R3.out.free 3
  have g4 := R3.out.cell 4 _ rfl
  have f4 := R3.out.free 4
  go_wp2_with fail
  have hg : w.heap.size ≤ w.heap.size + 1 + 1 := by omega
  have hB := B3.out
  have FB := (((((hB.setCell hg (.int .i64 RR.1.room) (p := ⟨_, 0, none⟩)).setCell hg (.int .i64 RR.1.next) (p := ⟨_, 1, none⟩)).setCell hg (.slice A1 m1 k1) (p := ⟨_, 2, none⟩)).setCell hg (.slice A2 m2 k2) (p := ⟨_, 3, none⟩)).setCell hg (.slice A3 m3 k3) (p := ⟨_, 4, none⟩))
  have hF := (((((R3.out.set 0 (.int .i64 RR.1.room)).set 1 (.int .i64 RR.1.next)).set 2 (.slice A1 m1 k1)).set 3 (.slice A2 m2 k2)).set 4 (.slice A3 m3 k3))
  have mm0 := O1.out.notBlk R3.out (by decide)
  have F0 := (((((O1.out.other mm0 0 (.int .i64 RR.1.room)).other mm0 1 (.int .i64 RR.1.next)).other mm0 2 (.slice A1 m1 k1)).other mm0 3 (.slice A2 m2 k2)).other mm0 4 (.slice A3 m3 k3))
  have mm1 := O2.out.notBlk R3.out (by decide)
  have F1 := (((((O2.out.other mm1 0 (.int .i64 RR.1.room)).other mm1 1 (.int .i64 RR.1.next)).other mm1 2 (.slice A1 m1 k1)).other mm1 3 (.slice A2 m2 k2)).other mm1 4 (.slice A3 m3 k3))
  have mm2 := O3.out.notBlk R3.out (by decide)
  have F2 := (((((O3.out.other mm2 0 (.int .i64 RR.1.room)).other mm2 1 (.int .i64 RR.1.next)).other mm2 2 (.slice A1 m1 k1)).other mm2 3 (.slice A2 m2 k2)).other mm2 4 (.slice A3 m3 k3))
  clear g0 f0 g1 f1 g2 f2 g3 f3 g4 f4
  generalize (((((w3.setCell ⟨w.heap.size + 1 + 1, 0, none⟩ (.int .i64 RR.1.room)).setCell ⟨w.heap.size + 1 + 1, 1, none⟩ (.int .i64 RR.1.next)).setCell ⟨w.heap.size + 1 + 1, 2, none⟩ (.slice A1 m1 k1)).setCell ⟨w.heap.size + 1 + 1, 3, none⟩ (.slice A2 m2 k2)).setCell ⟨w.heap.size + 1 + 1, 4, none⟩ (.slice A3 m3 k3)) = WF at *
  have hG : Blk WF (w.heap.size + 1 + 1) #[.int .i64 RR.1.room, .int .i64 RR.1.next, .slice A1 m1 k1, .slice A2 m2 k2, .slice A3 m3 k3] 32 := hF
  have l0 := hG.cell 0 (.int .i64 RR.1.room) rfl
  have l1 := hG.cell 1 (.int .i64 RR.1.next) rfl
  have l2 := hG.cell 2 (.slice A1 m1 k1) rfl
  have l3 := hG.cell 3 (.slice A2 m2 k2) rfl
  have l4 := hG.cell 4 (.slice A3 m3 k3) rfl
  exact bodyPost_ret (v := .tuple #[.agg #[.int .i64 RR.1.room, .int .i64 RR.1.next, .slice A1 m1 k1, .slice A2 m2 k2, .slice A3 m3 k3], .int .i64 RR.2]) (by simp [results, go_sem, l0, l1, l2, l3, l4]) rfl (by rw [hRR]; exact ⟨_, rfl, ⟨_, _, _, rfl, F0, F1, F2⟩, FB⟩)
end Go.Proofs.YtpmemmghilipaaaGreat
