/-
  Contracts: plain pictures, of both sides.
-/
import Derived.Test.YtgfdgcoimfjhbaaPlK
import Derived.Test.YtgfdgcoimfjhbaaPo
namespace Go.Proofs.Ytgfdgcoimfjhbaa
open Go.RowKit Fl
set_option linter.unusedVariables false

theorem plC_any (x y : Nat) (k l : Nat) (w : World) (hl : l < 2 ^ 32) (hc : w.cell? ⟨k, 0, none⟩ = some (.float .f32 l)) :
    Calls Try.prog 59 #[.int .i64 x, .int .i64 y, .pointer (some ⟨k, 0, none⟩)] w (RetCl (cn .f32 l) w) := by
  go_enter Try.func59, Try.ntmps59
  go_wp2_with fail
  go_ret
  exact ⟨l, rfl, ⟨rfl, hl⟩, Below.refl _ _⟩
set_option maxRecDepth 100000 in
set_option maxHeartbeats 4000000 in
theorem plI_any (p q : Int) (l : Nat) (w : World) (hl : l < 2 ^ 32) :
    Calls Try.prog 23 #[.int .i64 p, .int .i64 q, .float .f32 l] w (RetGr p q (fun _ _ => cn .f32 l) w) := by
  obtain ⟨g, hg⟩ : ∃ g : Nat → Nat → Nat, g = fun _ _ => cn .f32 l := ⟨_, rfl⟩
  rw [← hg]
  obtain ⟨W, hW⟩ : ∃ W, W = (w.alloc (.cells #[.float .f32 l] 32)).alloc (.cells #[.int .i64 0, .int .i64 0, .slice none 0 0] 27) := ⟨_, rfl⟩
  have hb0 : Below w.heap.size w W := by rw [hW]; exact ((Below.refl _ _).alloc (Nat.le_refl _) _).alloc (by simp) _
  have hk : W.cell? ⟨w.heap.size, 0, none⟩ = some (.float .f32 l) := by rw [hW]; simp [go_sem]
  have hz : W.heap.size = w.heap.size + 2 := by rw [hW]; simp
  have r0 : W.cell? ⟨w.heap.size + 1, 0, none⟩ = some (.int .i64 0) := by rw [hW]; simp [go_sem]
  have r1 : W.cell? ⟨w.heap.size + 1, 1, none⟩ = some (.int .i64 0) := by rw [hW]; simp [go_sem]
  have r2 : W.cell? ⟨w.heap.size + 1, 2, none⟩ = some (.slice none 0 0) := by rw [hW]; simp [go_sem]
  have e0 : W.frozen? ⟨w.heap.size + 1, 0, none⟩ = false := by rw [hW]; simp [go_sem]
  have e1 : W.frozen? ⟨w.heap.size + 1, 1, none⟩ = false := by rw [hW]; simp [go_sem]
  have e2 : W.frozen? ⟨w.heap.size + 1, 2, none⟩ = false := by rw [hW]; simp [go_sem]
  have hlt2 : w.heap.size + 1 < W.heap.size := by omega
  have HP := Lib.hid (poP_any p q w.heap.size g W (fun x y w' hb hx hy => by rw [hg]; exact plC_any x y w.heap.size l w' hl ((hb.cell (p := ⟨w.heap.size, 0, none⟩) (by show w.heap.size < W.heap.size; omega)).trans hk)))
  have HB0 := Lib.hid hb0
  clear hb0 hk hg
  go_enter Try.func23, Try.ntmps23
  go_wp2_with fail
  rw [← hW]
  clear hW
  refine HP.out.mono ?_
  rintro e w5 h5
  rcases retGr_or h5 with ⟨hpc, v, rfl, ho5, hb5⟩ | ⟨hpc, v, rfl, ho5, hb5⟩
  · obtain ⟨A5, c5, hv5, _, _, _⟩ := id ho5
    subst hv5
    obtain ⟨hc6, hf6⟩ := bcell hb5
    replace r0 := (hc6 (w.heap.size + 1) 0 hlt2).trans r0
    replace r1 := (hc6 (w.heap.size + 1) 1 hlt2).trans r1
    replace r2 := (hc6 (w.heap.size + 1) 2 hlt2).trans r2
    replace e0 := (hf6 (w.heap.size + 1) 0 hlt2).trans e0
    replace e1 := (hf6 (w.heap.size + 1) 1 hlt2).trans e1
    replace e2 := (hf6 (w.heap.size + 1) 2 hlt2).trans e2
    have hb7 : Below w.heap.size w w5 := HB0.out.trans (hb5.mono HB0.out.size)
    clear hc6 hf6 hb5
    have HB := Lib.hid (((hb7.setCell (p := ⟨(w.heap.size + 1), 0, none⟩) (by show _ ≤ (w.heap.size + 1); omega) (.int .i64 p)).setCell (p := ⟨(w.heap.size + 1), 1, none⟩) (by show _ ≤ (w.heap.size + 1); omega) (.int .i64 q)).setCell (p := ⟨(w.heap.size + 1), 2, none⟩) (by show _ ≤ (w.heap.size + 1); omega) (.slice A5 (fl (grd p q g)).length c5))
    clear hb7
    have HOF := Lib.hid ((((ho5.setLess (a := ⟨w.heap.size + 1, 0, none⟩) hlt2 (.int .i64 p)).setLess (a := ⟨w.heap.size + 1, 1, none⟩) hlt2 (.int .i64 q)).setLess (a := ⟨w.heap.size + 1, 2, none⟩) hlt2 (.slice A5 (fl (grd p q g)).length c5)).less (lo' := w.heap.size) HB0.out.size)
    have HPC := Lib.hid hpc
    clear hpc ho5
    go_wp2_with fail
    exact bodyPost_ret (v := .tuple #[.agg #[.int .i64 p, .int .i64 q, .slice A5 (fl (grd p q g)).length c5], .bool true]) (by simp [results, Try.results23, go_sem, r0, r1, r2]) rfl (by rw [retGr_yes HPC.out]; exact ⟨_, rfl, HOF.out, HB.out⟩)
  · obtain ⟨A5, c5, hv5, _, _, _⟩ := id ho5
    subst hv5
    obtain ⟨hc6, hf6⟩ := bcell hb5
    replace r0 := (hc6 (w.heap.size + 1) 0 hlt2).trans r0
    replace r1 := (hc6 (w.heap.size + 1) 1 hlt2).trans r1
    replace r2 := (hc6 (w.heap.size + 1) 2 hlt2).trans r2
    replace e0 := (hf6 (w.heap.size + 1) 0 hlt2).trans e0
    replace e1 := (hf6 (w.heap.size + 1) 1 hlt2).trans e1
    replace e2 := (hf6 (w.heap.size + 1) 2 hlt2).trans e2
    have hb7 : Below w.heap.size w w5 := HB0.out.trans (hb5.mono HB0.out.size)
    clear hc6 hf6 hb5
    have HB := Lib.hid (((hb7.setCell (p := ⟨(w.heap.size + 1), 0, none⟩) (by show _ ≤ (w.heap.size + 1); omega) (.int .i64 0)).setCell (p := ⟨(w.heap.size + 1), 1, none⟩) (by show _ ≤ (w.heap.size + 1); omega) (.int .i64 0)).setCell (p := ⟨(w.heap.size + 1), 2, none⟩) (by show _ ≤ (w.heap.size + 1); omega) (.slice A5 (fl []).length c5))
    clear hb7
    have HOF := Lib.hid ((((ho5.setLess (a := ⟨w.heap.size + 1, 0, none⟩) hlt2 (.int .i64 0)).setLess (a := ⟨w.heap.size + 1, 1, none⟩) hlt2 (.int .i64 0)).setLess (a := ⟨w.heap.size + 1, 2, none⟩) hlt2 (.slice A5 (fl []).length c5)).less (lo' := w.heap.size) HB0.out.size)
    have HPC := Lib.hid hpc
    clear hpc ho5
    go_wp2_with fail
    exact bodyPost_ret (v := .tuple #[.agg #[.int .i64 0, .int .i64 0, .slice A5 (fl []).length c5], .bool false]) (by simp [results, Try.results23, go_sem, r0, r1, r2]) rfl (by rw [retGr_no HPC.out]; exact ⟨_, rfl, HOF.out, HB.out⟩)

set_option maxRecDepth 100000 in
set_option maxHeartbeats 4000000 in
theorem plS_any (p q : Int) (l : Nat) (w : World) (hl : l < 2 ^ 32) :
    Calls Try.prog 22 #[.int .i64 p, .int .i64 q, .float .f32 l] w (RetGr p q (fun _ _ => cn .f32 l) w) := by
  have hgg : (fun _ _ => cn .f32 l) = stG 0 l l := by funext x y; simp [stG]
  rw [hgg]
  obtain ⟨g, hg⟩ : ∃ g : Nat → Nat → Nat, g = stG 0 l l := ⟨_, rfl⟩
  rw [← hg]
  obtain ⟨W, hW⟩ : ∃ W, W = w.alloc (.cells #[.int .i64 0, .int .i64 0, .slice none 0 0] 27) := ⟨_, rfl⟩
  have hb0 : Below w.heap.size w W := by rw [hW]; exact (Below.refl _ _).alloc (Nat.le_refl _) _
  have hz : W.heap.size = w.heap.size + 1 := by rw [hW]; simp
  have r0 : W.cell? ⟨w.heap.size, 0, none⟩ = some (.int .i64 0) := by rw [hW]; simp [go_sem]
  have r1 : W.cell? ⟨w.heap.size, 1, none⟩ = some (.int .i64 0) := by rw [hW]; simp [go_sem]
  have r2 : W.cell? ⟨w.heap.size, 2, none⟩ = some (.slice none 0 0) := by rw [hW]; simp [go_sem]
  have e0 : W.frozen? ⟨w.heap.size, 0, none⟩ = false := by rw [hW]; simp [go_sem]
  have e1 : W.frozen? ⟨w.heap.size, 1, none⟩ = false := by rw [hW]; simp [go_sem]
  have e2 : W.frozen? ⟨w.heap.size, 2, none⟩ = false := by rw [hW]; simp [go_sem]
  have hlt2 : w.heap.size < W.heap.size := by omega
  have HSS := Lib.hid (fun w => ssS_any p q w)
  have HB0 := Lib.hid hb0
  clear hb0
  go_enter Try.func22, Try.ntmps22
  go_wp2_with fail
  refine (HSS.out _).mono ?_
  rintro e w1 ⟨rfl, rfl⟩
  rw [← hW]
  clear hW
  cases hs : ssB p q with
  | false =>
    have HPC := Lib.hid (show pcB p q g = false by unfold pcB; rw [hs]; rfl)
    have HB := Lib.hid (((HB0.out.setCell (p := ⟨w.heap.size, 0, none⟩) (Nat.le_refl _) (.int .i64 0)).setCell (p := ⟨w.heap.size, 1, none⟩) (Nat.le_refl _) (.int .i64 0)).setCell (p := ⟨w.heap.size, 2, none⟩) (Nat.le_refl _) (.slice none 0 0))
    clear hs
    go_wp2_with fail
    exact bodyPost_ret (v := .tuple #[.agg #[.int .i64 0, .int .i64 0, .slice none 0 0], .bool false]) (by simp [results, Try.results22, go_sem, r0, r1, r2]) rfl (by rw [retGr_no HPC.out]; exact retPc_no _ _ HB.out)
  | true =>
    obtain ⟨b1, b2⟩ := ssB_out hs
    have HI := Lib.hid (stF_grd p q 0 l l b1.1 hl hl)
    have HST := Lib.hid (stS_any p q 0 l l W b1 b2)
    rw [← hg] at HI
    obtain ⟨L, hL⟩ : ∃ L, L = (List.range (p * q).toNat).map (stF p 0 l l) := ⟨_, rfl⟩
    rw [← hL] at HI HST
    have HVP := Lib.hid (grd_pc HI.out hs)
    have HM := Lib.hid (show L.length ≤ 1048576 by have := mul_bd b1 b2; rw [hL]; simp; omega)
    clear hL hg hgg hs b1 b2
    go_wp2_with fail
    refine HST.out.mono ?_
    rintro e w3 ⟨v, rfl, ho3, hb3⟩
    obtain ⟨A3, c3, hv3, _, _, _⟩ := id ho3
    rw [fl_len] at hv3
    subst hv3
    go_wp2_with fail
    refine (gvS_any p q A3 c3 L w3 ho3.rd HM.out (isLs_lt HI.out)).mono ?_
    rintro e w5 ⟨rfl, hb4⟩
    have hb5 : Below W.heap.size W w5 := hb3.trans (hb4.mono hb3.size)
    have ho5 := ho3.below hb4
    rw [HVP.out]
    clear hb3 hb4 ho3
    cases hpc : pcB p q g with
    | true =>
      have heq : L = grd p q g := isLs_eq HI.out (by unfold pcB at hpc; rw [Bool.and_eq_true] at hpc; exact hpc.2)
      obtain ⟨hc6, hf6⟩ := bcell hb5
      replace r0 := (hc6 (w.heap.size) 0 hlt2).trans r0
      replace r1 := (hc6 (w.heap.size) 1 hlt2).trans r1
      replace r2 := (hc6 (w.heap.size) 2 hlt2).trans r2
      replace e0 := (hf6 (w.heap.size) 0 hlt2).trans e0
      replace e1 := (hf6 (w.heap.size) 1 hlt2).trans e1
      replace e2 := (hf6 (w.heap.size) 2 hlt2).trans e2
      have hb7 : Below w.heap.size w w5 := HB0.out.trans (hb5.mono HB0.out.size)
      clear hc6 hf6 hb5
      have HB := Lib.hid (((hb7.setCell (p := ⟨(w.heap.size), 0, none⟩) (by show _ ≤ (w.heap.size); omega) (.int .i64 p)).setCell (p := ⟨(w.heap.size), 1, none⟩) (by show _ ≤ (w.heap.size); omega) (.int .i64 q)).setCell (p := ⟨(w.heap.size), 2, none⟩) (by show _ ≤ (w.heap.size); omega) (.slice A3 L.length c3))
      clear hb7
      have HOF := Lib.hid ((((ho5.setLess (a := ⟨w.heap.size, 0, none⟩) hlt2 (.int .i64 p)).setLess (a := ⟨w.heap.size, 1, none⟩) hlt2 (.int .i64 q)).setLess (a := ⟨w.heap.size, 2, none⟩) hlt2 (.slice A3 L.length c3)).less (lo' := w.heap.size) HB0.out.size)
      have HPC := Lib.hid hpc
      have HEQ := Lib.hid heq
      clear hpc ho5 heq
      unfold ivV
      go_wp2_with fail
      exact bodyPost_ret (v := .tuple #[.agg #[.int .i64 p, .int .i64 q, .slice A3 L.length c3], .bool true]) (by simp [results, Try.results22, go_sem, r0, r1, r2]) rfl (by rw [retGr_yes HPC.out, ← HEQ.out]; exact ⟨_, rfl, HOF.out, HB.out⟩)
    | false =>
      obtain ⟨hc6, hf6⟩ := bcell hb5
      replace r0 := (hc6 (w.heap.size) 0 hlt2).trans r0
      replace r1 := (hc6 (w.heap.size) 1 hlt2).trans r1
      replace r2 := (hc6 (w.heap.size) 2 hlt2).trans r2
      replace e0 := (hf6 (w.heap.size) 0 hlt2).trans e0
      replace e1 := (hf6 (w.heap.size) 1 hlt2).trans e1
      replace e2 := (hf6 (w.heap.size) 2 hlt2).trans e2
      have hb7 : Below w.heap.size w w5 := HB0.out.trans (hb5.mono HB0.out.size)
      clear hc6 hf6 hb5
      have HB := Lib.hid (((hb7.setCell (p := ⟨(w.heap.size), 0, none⟩) (by show _ ≤ (w.heap.size); omega) (.int .i64 0)).setCell (p := ⟨(w.heap.size), 1, none⟩) (by show _ ≤ (w.heap.size); omega) (.int .i64 0)).setCell (p := ⟨(w.heap.size), 2, none⟩) (by show _ ≤ (w.heap.size); omega) (.slice none 0 0))
      clear hb7
      have HPC := Lib.hid hpc
      clear hpc ho5
      unfold ivV
      go_wp2_with fail
      exact bodyPost_ret (v := .tuple #[.agg #[.int .i64 0, .int .i64 0, .slice none 0 0], .bool false]) (by simp [results, Try.results22, go_sem, r0, r1, r2]) rfl (by rw [retGr_no HPC.out]; exact retPc_no _ _ HB.out)
end Go.Proofs.Ytgfdgcoimfjhbaa
