/-
  Contracts: SwapSides of both sides.
-/
import Derived.Test.YtgfdgcoimfjhbaaSwC
namespace Go.Proofs.Ytgfdgcoimfjhbaa
open Go.RowKit Fl
set_option linter.unusedVariables false

set_option maxRecDepth 100000 in
set_option maxHeartbeats 4000000 in
theorem swI_any (v : Value) (p q : Int) (xs : List Nat) (w : World) (h : Rd w w.heap.size v (fl xs)) (hm : xs.length ≤ 1048576) (hx : ∀ x ∈ xs, x < 2 ^ 32) :
    Calls Try.prog 33 #[.agg #[.int .i64 p, .int .i64 q, v]] w (RetSw p q xs w) := by
  have hrd := h
  obtain ⟨A, c, hv, hnc, hcm, hcell⟩ := id h
  rw [fl_len] at hv hnc hcell
  subst hv
  have hb2 : Below w.heap.size w ((w.alloc (.cells #[.int .i64 p, .int .i64 q, .slice A xs.length c] 27)).alloc (.cells #[.int .i64 0, .int .i64 0, .slice none 0 0] 27)) := ((Below.refl _ _).alloc (Nat.le_refl _) _).alloc (by simp) _
  have HV := Lib.hid (vpI_any (.slice A xs.length c) p q xs _ (h.step hb2) hm hx)
  have HB2 := Lib.hid hb2
  have HC := Lib.hid hcell
  have HX := Lib.hid hx
  clear hb2 h hx hcell hrd
  cases hs : vpcB p q xs with
  | false =>
    rw [retSw_no hs]
    rw [hs] at HV
    clear hs
    go_enter Try.func33, Try.ntmps33
    go_wp2_with fail
    refine HV.out.mono ?_
    rintro e w1 ⟨rfl, hb1⟩
    obtain ⟨hc, hf⟩ := bcell hb1
    have r0 : w1.cell? ⟨w.heap.size + 1, 0, none⟩ = some (.int .i64 0) := (hc _ _ (by simp)).trans (by simp [go_sem])
    have r1 : w1.cell? ⟨w.heap.size + 1, 1, none⟩ = some (.int .i64 0) := (hc _ _ (by simp)).trans (by simp [go_sem])
    have r2 : w1.cell? ⟨w.heap.size + 1, 2, none⟩ = some (.slice none 0 0) := (hc _ _ (by simp)).trans (by simp [go_sem])
    have e0 : w1.frozen? ⟨w.heap.size + 1, 0, none⟩ = false := (hf _ _ (by simp)).trans (by simp [go_sem])
    have e1 : w1.frozen? ⟨w.heap.size + 1, 1, none⟩ = false := (hf _ _ (by simp)).trans (by simp [go_sem])
    have e2 : w1.frozen? ⟨w.heap.size + 1, 2, none⟩ = false := (hf _ _ (by simp)).trans (by simp [go_sem])
    have hb0 : Below w.heap.size w w1 := HB2.out.trans (hb1.mono HB2.out.size)
    have HB := Lib.hid (((hb0.setCell (p := ⟨w.heap.size + 1, 0, none⟩) (by show _ ≤ w.heap.size + 1; omega) (.int .i64 0)).setCell (p := ⟨w.heap.size + 1, 1, none⟩) (by show _ ≤ w.heap.size + 1; omega) (.int .i64 0)).setCell (p := ⟨w.heap.size + 1, 2, none⟩) (by show _ ≤ w.heap.size + 1; omega) (.slice none 0 0))
    clear hc hf hb1 hb0
    go_wp2_with fail
    exact bodyPost_ret (v := .tuple #[.agg #[.int .i64 0, .int .i64 0, .slice none 0 0], .bool false]) (by simp [results, Try.results33, go_sem, r0, r1, r2]) rfl (retPc_no _ _ HB.out)
  | true =>
    obtain ⟨b1, b2, hl, _⟩ := vpcB_out hs
    rw [retSw_yes hs]
    rw [hs] at HV
    obtain ⟨g, hg⟩ : ∃ g : Nat → Nat → Nat, g = swG p xs := ⟨_, rfl⟩
    rw [← hg]
    clear hs
    have hbd := mul_bd b1 b2
    obtain ⟨b, off, rfl, hbw, hcells⟩ := HC.out (by omega)
    clear HC
    go_enter Try.func33, Try.ntmps33
    go_wp2_with fail
    refine HV.out.mono ?_
    rintro e W ⟨rfl, hb1⟩
    obtain ⟨hc, hf⟩ := bcell hb1
    have r0 : W.cell? ⟨w.heap.size + 1, 0, none⟩ = some (.int .i64 0) := (hc _ _ (by simp)).trans (by simp [go_sem])
    have r1 : W.cell? ⟨w.heap.size + 1, 1, none⟩ = some (.int .i64 0) := (hc _ _ (by simp)).trans (by simp [go_sem])
    have r2 : W.cell? ⟨w.heap.size + 1, 2, none⟩ = some (.slice none 0 0) := (hc _ _ (by simp)).trans (by simp [go_sem])
    have e0 : W.frozen? ⟨w.heap.size + 1, 0, none⟩ = false := (hf _ _ (by simp)).trans (by simp [go_sem])
    have e1 : W.frozen? ⟨w.heap.size + 1, 1, none⟩ = false := (hf _ _ (by simp)).trans (by simp [go_sem])
    have e2 : W.frozen? ⟨w.heap.size + 1, 2, none⟩ = false := (hf _ _ (by simp)).trans (by simp [go_sem])
    have q0 : W.cell? ⟨w.heap.size, 0, none⟩ = some (.int .i64 p) := (hc _ _ (by simp; try omega)).trans (by simp [go_sem])
    have q1 : W.cell? ⟨w.heap.size, 1, none⟩ = some (.int .i64 q) := (hc _ _ (by simp; try omega)).trans (by simp [go_sem])
    have q2 : W.cell? ⟨w.heap.size, 2, none⟩ = some (.slice (some ⟨b, off, none⟩) xs.length c) := (hc _ _ (by simp; try omega)).trans (by simp [go_sem])
    have hb0 : Below w.heap.size w W := HB2.out.trans (hb1.mono HB2.out.size)
    have hz : w.heap.size + 2 ≤ W.heap.size := by have := hb1.size; simp at this; omega
    have hlt2 : w.heap.size + 1 < W.heap.size := by omega
    have HP := Lib.hid (poW_any q p w.heap.size g W (fun x y w' hb hx hy => by
      rw [hg]
      exact swC_any x y w.heap.size p q xs b off c w' b1 b2 hl hx hy (by have := hb.size; omega) hnc hcm ((hb.cell (p := ⟨w.heap.size, 0, none⟩) (by show w.heap.size < W.heap.size; omega)).trans q0) ((hb.cell (p := ⟨w.heap.size, 1, none⟩) (by show w.heap.size < W.heap.size; omega)).trans q1) ((hb.cell (p := ⟨w.heap.size, 2, none⟩) (by show w.heap.size < W.heap.size; omega)).trans q2)
        (fun i hi => ((hb0.trans (hb.mono hb0.size)).cell (p := ⟨b, off + i, none⟩) hbw).trans (hcells i _ (fl_get xs i hi))) HX.out))
    have HB0 := Lib.hid hb0
    clear hc hf hb1 hb0 hg hcells
    go_wp2_with fail
    refine HP.out.mono ?_
    rintro e w5 h5
    clear q0 q1 q2
    rcases retGr_or h5 with ⟨hpc, v, rfl, ho5, hb5⟩ | ⟨hpc, v, rfl, ho5, hb5⟩
    · obtain ⟨A5, c5, hv5, _, _, _⟩ := id ho5
      subst hv5
      obtain ⟨hc6, hf6⟩ := bcell hb5
      replace r0 := (hc6 (w.heap.size + 1) 0 hlt2).trans r0
      replace r1 := (hc6 (w.heap.size + 1) 1 hlt2).trans r1
      replace r2 := (hc6 (w.heap.size + 1) 2 hlt2).trans r2
      replace e0 := (hf6 (w.heap.size + 1) 0 hlt2).trans e0
      replace e1 := (hf6 (w.heap.size + 1) 1 hlt2).trans e1
      replace e2 := (hf6 (w.heap.size + 1) 2 hlt2).trans e2
      have hb7 : Below w.heap.size w w5 := HB0.out.trans (hb5.mono HB0.out.size)
      clear hc6 hf6 hb5
      have HB := Lib.hid (((hb7.setCell (p := ⟨(w.heap.size + 1), 0, none⟩) (by show _ ≤ (w.heap.size + 1); omega) (.int .i64 q)).setCell (p := ⟨(w.heap.size + 1), 1, none⟩) (by show _ ≤ (w.heap.size + 1); omega) (.int .i64 p)).setCell (p := ⟨(w.heap.size + 1), 2, none⟩) (by show _ ≤ (w.heap.size + 1); omega) (.slice A5 (fl (grd q p g)).length c5))
      clear hb7
      have HOF := Lib.hid ((((ho5.setLess (a := ⟨w.heap.size + 1, 0, none⟩) hlt2 (.int .i64 q)).setLess (a := ⟨w.heap.size + 1, 1, none⟩) hlt2 (.int .i64 p)).setLess (a := ⟨w.heap.size + 1, 2, none⟩) hlt2 (.slice A5 (fl (grd q p g)).length c5)).less (lo' := w.heap.size) HB0.out.size)
      have HPC := Lib.hid hpc
      clear hpc ho5
      go_wp2_with fail
      exact bodyPost_ret (v := .tuple #[.agg #[.int .i64 q, .int .i64 p, .slice A5 (fl (grd q p g)).length c5], .bool true]) (by simp [results, Try.results33, go_sem, r0, r1, r2]) rfl (by rw [retGr_yes HPC.out]; exact ⟨_, rfl, HOF.out, HB.out⟩)
    · obtain ⟨A5, c5, hv5, _, _, _⟩ := id ho5
      subst hv5
      obtain ⟨hc6, hf6⟩ := bcell hb5
      replace r0 := (hc6 (w.heap.size + 1) 0 hlt2).trans r0
      replace r1 := (hc6 (w.heap.size + 1) 1 hlt2).trans r1
      replace r2 := (hc6 (w.heap.size + 1) 2 hlt2).trans r2
      replace e0 := (hf6 (w.heap.size + 1) 0 hlt2).trans e0
      replace e1 := (hf6 (w.heap.size + 1) 1 hlt2).trans e1
      replace e2 := (hf6 (w.heap.size + 1) 2 hlt2).trans e2
      have hb7 : Below w.heap.size w w5 := HB0.out.trans (hb5.mono HB0.out.size)
      clear hc6 hf6 hb5
      have HB := Lib.hid (((hb7.setCell (p := ⟨(w.heap.size + 1), 0, none⟩) (by show _ ≤ (w.heap.size + 1); omega) (.int .i64 0)).setCell (p := ⟨(w.heap.size + 1), 1, none⟩) (by show _ ≤ (w.heap.size + 1); omega) (.int .i64 0)).setCell (p := ⟨(w.heap.size + 1), 2, none⟩) (by show _ ≤ (w.heap.size + 1); omega) (.slice A5 (fl []).length c5))
      clear hb7
      have HOF := Lib.hid ((((ho5.setLess (a := ⟨w.heap.size + 1, 0, none⟩) hlt2 (.int .i64 0)).setLess (a := ⟨w.heap.size + 1, 1, none⟩) hlt2 (.int .i64 0)).setLess (a := ⟨w.heap.size + 1, 2, none⟩) hlt2 (.slice A5 (fl []).length c5)).less (lo' := w.heap.size) HB0.out.size)
      have HPC := Lib.hid hpc
      clear hpc ho5
      go_wp2_with fail
      exact bodyPost_ret (v := .tuple #[.agg #[.int .i64 0, .int .i64 0, .slice A5 (fl []).length c5], .bool false]) (by simp [results, Try.results33, go_sem, r0, r1, r2]) rfl (by rw [retGr_no HPC.out]; exact ⟨_, rfl, HOF.out, HB.out⟩)

set_option maxRecDepth 100000 in
set_option maxHeartbeats 4000000 in
theorem swS_any (v : Value) (p q : Int) (xs : List Nat) (w : World) (h : Rd w w.heap.size v (fl xs)) (hm : xs.length ≤ 1048576) (hx : ∀ x ∈ xs, x < 2 ^ 32) :
    Calls Try.prog 32 #[.agg #[.int .i64 p, .int .i64 q, v]] w (RetSw p q xs w) := by
  obtain ⟨A, c, hv, hnc, hcm, hcell⟩ := id h
  rw [fl_len] at hv hnc hcell
  subst hv
  obtain ⟨W, hW⟩ : ∃ W, W = ((w.alloc (.cells #[.int .i64 p, .int .i64 q, .slice A xs.length c] 27)).alloc (.cells #[.int .i64 0, .int .i64 0, .slice none 0 0] 27)) := ⟨_, rfl⟩
  have hb2 : Below w.heap.size w W := by rw [hW]; exact ((Below.refl _ _).alloc (Nat.le_refl _) _).alloc (by simp) _
  have q0 : W.cell? ⟨w.heap.size, 0, none⟩ = some (.int .i64 p) := by rw [hW]; simp [go_sem]
  have q1 : W.cell? ⟨w.heap.size, 1, none⟩ = some (.int .i64 q) := by rw [hW]; simp [go_sem]
  have q2 : W.cell? ⟨w.heap.size, 2, none⟩ = some (.slice A xs.length c) := by rw [hW]; simp [go_sem]
  have r0 : W.cell? ⟨w.heap.size + 1, 0, none⟩ = some (.int .i64 0) := by rw [hW]; simp [go_sem]
  have r1 : W.cell? ⟨w.heap.size + 1, 1, none⟩ = some (.int .i64 0) := by rw [hW]; simp [go_sem]
  have r2 : W.cell? ⟨w.heap.size + 1, 2, none⟩ = some (.slice none 0 0) := by rw [hW]; simp [go_sem]
  have e0 : W.frozen? ⟨w.heap.size + 1, 0, none⟩ = false := by rw [hW]; simp [go_sem]
  have e1 : W.frozen? ⟨w.heap.size + 1, 1, none⟩ = false := by rw [hW]; simp [go_sem]
  have e2 : W.frozen? ⟨w.heap.size + 1, 2, none⟩ = false := by rw [hW]; simp [go_sem]
  have hz : W.heap.size = w.heap.size + 2 := by rw [hW]; simp
  have hlt2 : w.heap.size + 1 < W.heap.size := by omega
  have HV := Lib.hid (vpP_any w.heap.size (.slice A xs.length c) p q xs W w.heap.size (h.below hb2) q0 q1 q2 hm hx)
  have HB0 := Lib.hid hb2
  have HC := Lib.hid hcell
  have HX := Lib.hid hx
  have HZ := Lib.hid hz
  clear hb2 h hx hcell hz
  cases hs : vpcB p q xs with
  | false =>
    rw [retSw_no hs]
    rw [hs] at HV
    clear hs
    go_enter Try.func32, Try.ntmps32
    go_wp2_with fail
    rw [← hW]
    refine HV.out.mono ?_
    rintro e w1 ⟨rfl, n1, rfl⟩
    have HB := Lib.hid ((((below_drawn HB0.out n1).setCell (p := ⟨w.heap.size + 1, 0, none⟩) (by show _ ≤ w.heap.size + 1; omega) (.int .i64 0)).setCell (p := ⟨w.heap.size + 1, 1, none⟩) (by show _ ≤ w.heap.size + 1; omega) (.int .i64 0)).setCell (p := ⟨w.heap.size + 1, 2, none⟩) (by show _ ≤ w.heap.size + 1; omega) (.slice none 0 0))
    clear hW
    go_wp2_with fail
    exact bodyPost_ret (v := .tuple #[.agg #[.int .i64 0, .int .i64 0, .slice none 0 0], .bool false]) (by simp [results, Try.results32, go_sem, r0, r1, r2]) rfl (retPc_no _ _ HB.out)
  | true =>
    obtain ⟨b1, b2, hl, _⟩ := vpcB_out hs
    have hpc := sw_pc hs
    rw [retSw_yes hs, retGr_yes hpc]
    rw [hs] at HV
    have heq := isLs_eq (swL_is p q xs b1.1 b2.1 HX.out) (by unfold pcB at hpc; rw [Bool.and_eq_true] at hpc; exact hpc.2)
    rw [← heq]
    clear hs hpc heq
    have hbd := mul_bd b1 b2
    obtain ⟨b, off, rfl, hbw, hcells⟩ := HC.out (by omega)
    clear HC
    have HL := Lib.hid (fun n1 => swL_any w.heap.size p q xs b off c (W.drewN n1) b1 b2 hl (by show w.heap.size < W.heap.size; omega) (by show b < W.heap.size; omega) q0 q1 q2 (fun i hi => (HB0.out.cell (p := ⟨b, off + i, none⟩) hbw).trans (hcells i _ (fl_get xs i hi))))
    clear hcells
    go_enter Try.func32, Try.ntmps32
    go_wp2_with fail
    rw [← hW]
    refine HV.out.mono ?_
    rintro e w1 ⟨rfl, n1, rfl⟩
    go_wp2_with fail
    rw [← hW]
    refine (HL.out n1).mono ?_
    rintro e w5 ⟨v, rfl, ho5, hb50⟩
    have hb5 : Below W.heap.size W w5 := (below_drawn (Below.refl _ _) n1).trans hb50
    replace ho5 : Own w5 W.heap.size v (fl (swL p.toNat q.toNat xs)) := ho5
    clear hb50 q0 q1 q2 hW
    obtain ⟨A5, c5, hv5, _, _, _⟩ := id ho5
    subst hv5
    obtain ⟨hc6, hf6⟩ := bcell hb5
    replace r0 := (hc6 (w.heap.size + 1) 0 hlt2).trans r0
    replace r1 := (hc6 (w.heap.size + 1) 1 hlt2).trans r1
    replace r2 := (hc6 (w.heap.size + 1) 2 hlt2).trans r2
    replace e0 := (hf6 (w.heap.size + 1) 0 hlt2).trans e0
    replace e1 := (hf6 (w.heap.size + 1) 1 hlt2).trans e1
    replace e2 := (hf6 (w.heap.size + 1) 2 hlt2).trans e2
    have hb7 : Below w.heap.size w w5 := HB0.out.trans (hb5.mono HB0.out.size)
    clear hc6 hf6 hb5
    have HB := Lib.hid (((hb7.setCell (p := ⟨(w.heap.size + 1), 0, none⟩) (by show _ ≤ (w.heap.size + 1); omega) (.int .i64 q)).setCell (p := ⟨(w.heap.size + 1), 1, none⟩) (by show _ ≤ (w.heap.size + 1); omega) (.int .i64 p)).setCell (p := ⟨(w.heap.size + 1), 2, none⟩) (by show _ ≤ (w.heap.size + 1); omega) (.slice A5 (fl (swL p.toNat q.toNat xs)).length c5))
    clear hb7
    have HOF := Lib.hid ((((ho5.setLess (a := ⟨w.heap.size + 1, 0, none⟩) hlt2 (.int .i64 q)).setLess (a := ⟨w.heap.size + 1, 1, none⟩) hlt2 (.int .i64 p)).setLess (a := ⟨w.heap.size + 1, 2, none⟩) hlt2 (.slice A5 (fl (swL p.toNat q.toNat xs)).length c5)).less (lo' := w.heap.size) HB0.out.size)
    clear ho5
    go_wp2_with fail
    exact bodyPost_ret (v := .tuple #[.agg #[.int .i64 q, .int .i64 p, .slice A5 (fl (swL p.toNat q.toNat xs)).length c5], .bool true]) (by simp [results, Try.results32, go_sem, r0, r1, r2]) rfl ⟨_, rfl, HOF.out, HB.out⟩
def swP (p q : Int) (xs : List Nat) (x : Int) : Int := if vpcB p q xs then gP q p (swG p xs) x else 0
def swQ (p q : Int) (xs : List Nat) : List Nat := if vpcB p q xs then gL q p (swG p xs) else []
def swB (p q : Int) (xs : List Nat) : Bool := vpcB p q xs && pcB q p (swG p xs)
theorem retSw_pc (p q : Int) (xs : List Nat) (w : World) : RetSw p q xs w = RetPc (swP p q xs q) (swP p q xs p) (swQ p q xs) (swB p q xs) w := by
  unfold swP swQ swB
  cases h : vpcB p q xs with
  | true => rw [retSw_yes h, retGr_pc]; rfl
  | false => rw [retSw_no h]; rfl
theorem swQ_len (p q : Int) (xs : List Nat) : (swQ p q xs).length ≤ 1048576 := by
  unfold swQ
  split
  · exact gL_len _ _ _
  · simp
end Go.Proofs.Ytgfdgcoimfjhbaa
