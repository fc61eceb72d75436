/-
  Contracts: step pictures, by the program.
-/
import Derived.Test.YtgfdgcoimfjhbaaStK
import Derived.Test.YtgfdgcoimfjhbaaPoS
namespace Go.Proofs.Ytgfdgcoimfjhbaa
open Go.RowKit Fl
set_option linter.unusedVariables false

theorem stC_any (x y k0 k1 k2 : Nat) (at_ : Int) (l r : Nat) (w : World) (hl : l < 2 ^ 32) (hr : r < 2 ^ 32) (h0 : w.cell? ⟨k0, 0, none⟩ = some (.int .i64 at_)) (h1 : w.cell? ⟨k1, 0, none⟩ = some (.float .f32 l)) (h2 : w.cell? ⟨k2, 0, none⟩ = some (.float .f32 r)) :
    Calls Try.prog 65 #[.int .i64 x, .int .i64 y, .pointer (some ⟨k0, 0, none⟩), .pointer (some ⟨k1, 0, none⟩), .pointer (some ⟨k2, 0, none⟩)] w (RetCl (stG at_ l r x y) w) := by
  by_cases hx : (x : Int) < at_
  · rw [show stG at_ l r x y = cn .f32 l by simp [stG, hx]]
    go_enter Try.func65, Try.ntmps65
    go_wp2_with fail
    go_ret
    exact ⟨l, rfl, ⟨rfl, hl⟩, Below.refl _ _⟩
  · rw [show stG at_ l r x y = cn .f32 r by simp [stG, hx]]
    have hx' : at_ ≤ (x : Int) := by omega
    clear hx
    go_enter Try.func65, Try.ntmps65
    go_wp2_with fail
    go_ret
    exact ⟨r, rfl, ⟨rfl, hr⟩, Below.refl _ _⟩
set_option maxRecDepth 100000 in
set_option maxHeartbeats 8000000 in
theorem stI_any (p q at_ : Int) (l r : Nat) (w : World) (hl : l < 2 ^ 32) (hr : r < 2 ^ 32) :
    Calls Try.prog 27 #[.int .i64 p, .int .i64 q, .int .i64 at_, .float .f32 l, .float .f32 r] w (RetSt p q at_ l r w) := by
  obtain ⟨W, hW⟩ : ∃ W, W = ((((w.alloc (.cells #[.int .i64 at_] 2)).alloc (.cells #[.float .f32 l] 32)).alloc (.cells #[.float .f32 r] 32)).alloc (.cells #[.int .i64 0, .int .i64 0, .slice none 0 0] 27)) := ⟨_, rfl⟩
  have hb0 : Below w.heap.size w W := by rw [hW]; exact (((Below.refl _ _).alloc (Nat.le_refl _) _).alloc (by simp) _ |>.alloc (by simp; try omega) _).alloc (by simp; try omega) _
  have r0 : W.cell? ⟨w.heap.size + 3, 0, none⟩ = some (.int .i64 0) := by rw [hW]; simp [go_sem]
  have r1 : W.cell? ⟨w.heap.size + 3, 1, none⟩ = some (.int .i64 0) := by rw [hW]; simp [go_sem]
  have r2 : W.cell? ⟨w.heap.size + 3, 2, none⟩ = some (.slice none 0 0) := by rw [hW]; simp [go_sem]
  have e0 : W.frozen? ⟨w.heap.size + 3, 0, none⟩ = false := by rw [hW]; simp [go_sem]
  have e1 : W.frozen? ⟨w.heap.size + 3, 1, none⟩ = false := by rw [hW]; simp [go_sem]
  have e2 : W.frozen? ⟨w.heap.size + 3, 2, none⟩ = false := by rw [hW]; simp [go_sem]
  have hz : W.heap.size = w.heap.size + 4 := by rw [hW]; simp
  have hlt2 : w.heap.size + 3 < W.heap.size := by omega
  have k0 : W.cell? ⟨w.heap.size, 0, none⟩ = some (.int .i64 at_) := by rw [hW]; simp [go_sem]
  have k1 : W.cell? ⟨w.heap.size + 1, 0, none⟩ = some (.float .f32 l) := by rw [hW]; simp [go_sem]
  have k2 : W.cell? ⟨w.heap.size + 2, 0, none⟩ = some (.float .f32 r) := by rw [hW]; simp [go_sem]
  have HBX := Lib.hid (show Below w.heap.size w ((((w.alloc (.cells #[.int .i64 at_] 2)).alloc (.cells #[.float .f32 l] 32)).alloc (.cells #[.float .f32 r] 32)).alloc (.cells #[.int .i64 0, .int .i64 0, .slice none 0 0] 27)) by rw [← hW]; exact hb0)
  have HB0 := Lib.hid hb0
  clear hb0
  by_cases h0 : at_ < 0
  · rw [retSt_no (by unfold okS; rw [decide_eq_false (by omega)]; rfl)]
    go_enter Try.func27, Try.ntmps27
    go_wp2_with fail
    exact bodyPost_ret (v := .tuple #[.agg #[.int .i64 0, .int .i64 0, .slice none 0 0], .bool false]) (by simp [results, Try.results27, go_sem]) rfl (retPc_no _ _ (by first | exact HBX.out | exact below_drawn HBX.out _ | exact (((below_drawn HBX.out _).setCell (p := ⟨w.heap.size + 3, 0, none⟩) (by show _ ≤ w.heap.size + 3; omega) _).setCell (p := ⟨w.heap.size + 3, 1, none⟩) (by show _ ≤ w.heap.size + 3; omega) _).setCell (p := ⟨w.heap.size + 3, 2, none⟩) (by show _ ≤ w.heap.size + 3; omega) _))
  have h0' : 0 ≤ at_ := by omega
  clear h0
  by_cases h16 : 16 < at_
  · rw [retSt_no (by unfold okS; rw [decide_eq_false (by omega)]; rfl)]
    go_enter Try.func27, Try.ntmps27
    go_wp2_with fail
    exact bodyPost_ret (v := .tuple #[.agg #[.int .i64 0, .int .i64 0, .slice none 0 0], .bool false]) (by simp [results, Try.results27, go_sem]) rfl (retPc_no _ _ (by first | exact HBX.out | exact below_drawn HBX.out _ | exact (((below_drawn HBX.out _).setCell (p := ⟨w.heap.size + 3, 0, none⟩) (by show _ ≤ w.heap.size + 3; omega) _).setCell (p := ⟨w.heap.size + 3, 1, none⟩) (by show _ ≤ w.heap.size + 3; omega) _).setCell (p := ⟨w.heap.size + 3, 2, none⟩) (by show _ ≤ w.heap.size + 3; omega) _))
  have h16' : at_ ≤ 16 := by omega
  clear h16
  cases hfl : finB .f32 l with
  | false =>
    have HL := Lib.hid hfl
    have HR := Lib.hid (rfl : finB .f32 r = finB .f32 r)
    rw [retSt_no (by unfold okS; rw [hfl]; simp)]
    clear hfl
    go_enter Try.func27, Try.ntmps27
    go_wp2_with (first | (go_at_call_of 64 l; refine (implFin_any l _ hl).mono ?_; rintro e w1 ⟨rfl, n1, rfl⟩; rw [HL.out]) | (go_at_call_of 64 r; refine (implFin_any r _ hr).mono ?_; rintro e w2 ⟨rfl, n2, rfl⟩; rw [HR.out]))
    exact bodyPost_ret (v := .tuple #[.agg #[.int .i64 0, .int .i64 0, .slice none 0 0], .bool false]) (by simp [results, Try.results27, go_sem]) rfl (retPc_no _ _ (by first | exact HBX.out | exact below_drawn HBX.out _ | exact (((below_drawn HBX.out _).setCell (p := ⟨w.heap.size + 3, 0, none⟩) (by show _ ≤ w.heap.size + 3; omega) _).setCell (p := ⟨w.heap.size + 3, 1, none⟩) (by show _ ≤ w.heap.size + 3; omega) _).setCell (p := ⟨w.heap.size + 3, 2, none⟩) (by show _ ≤ w.heap.size + 3; omega) _))
  | true =>
    have HL := Lib.hid hfl
    cases hfr : finB .f32 r with
    | false =>
      have HR := Lib.hid hfr
      rw [retSt_no (by unfold okS; rw [hfr]; simp)]
      clear hfl hfr
      go_enter Try.func27, Try.ntmps27
      go_wp2_with (first | (go_at_call_of 64 l; refine (implFin_any l _ hl).mono ?_; rintro e w1 ⟨rfl, n1, rfl⟩; rw [HL.out]) | (go_at_call_of 64 r; refine (implFin_any r _ hr).mono ?_; rintro e w2 ⟨rfl, n2, rfl⟩; rw [HR.out]))
      exact bodyPost_ret (v := .tuple #[.agg #[.int .i64 0, .int .i64 0, .slice none 0 0], .bool false]) (by simp [results, Try.results27, go_sem]) rfl (retPc_no _ _ (by first | exact HBX.out | exact below_drawn HBX.out _ | exact (((below_drawn HBX.out _).setCell (p := ⟨w.heap.size + 3, 0, none⟩) (by show _ ≤ w.heap.size + 3; omega) _).setCell (p := ⟨w.heap.size + 3, 1, none⟩) (by show _ ≤ w.heap.size + 3; omega) _).setCell (p := ⟨w.heap.size + 3, 2, none⟩) (by show _ ≤ w.heap.size + 3; omega) _))
    | true =>
      have HR := Lib.hid hfr
      rw [retSt_yes (by unfold okS; rw [hfl, hfr, decide_eq_true ⟨h0', h16'⟩]; rfl)]
      obtain ⟨g, hg⟩ : ∃ g : Nat → Nat → Nat, g = stG at_ l r := ⟨_, rfl⟩
      rw [← hg]
      have HP := Lib.hid (fun n => (poS_any p q w.heap.size (w.heap.size + 1) (w.heap.size + 2) g (W.drewN n) (fun x y w' hb hx hy => by rw [hg]; exact stC_any x y _ _ _ at_ l r w' hl hr ((hb.cell (p := ⟨w.heap.size, 0, none⟩) (by show w.heap.size < W.heap.size; omega)).trans k0) ((hb.cell (p := ⟨w.heap.size + 1, 0, none⟩) (by show w.heap.size + 1 < W.heap.size; omega)).trans k1) ((hb.cell (p := ⟨w.heap.size + 2, 0, none⟩) (by show w.heap.size + 2 < W.heap.size; omega)).trans k2))).mono (R' := fun e w' => RetGr p q g W e w') fun e w' h => retGr_drawn h)
      clear hfl hfr hg
      go_enter Try.func27, Try.ntmps27
      go_wp2_with (first | (go_at_call_of 64 l; refine (implFin_any l _ hl).mono ?_; rintro e w1 ⟨rfl, n1, rfl⟩; rw [HL.out]) | (go_at_call_of 64 r; refine (implFin_any r _ hr).mono ?_; rintro e w2 ⟨rfl, n2, rfl⟩; rw [HR.out]))
      rw [← hW]
      refine (HP.out _).mono ?_
      rintro e w5 h5
      clear k0 k1 k2 hW
      rcases retGr_or h5 with ⟨hpc, v, rfl, ho5, hb5⟩ | ⟨hpc, v, rfl, ho5, hb5⟩
      · obtain ⟨A5, c5, hv5, _, _, _⟩ := id ho5
        subst hv5
        obtain ⟨hc6, hf6⟩ := bcell hb5
        replace r0 := (hc6 (w.heap.size + 3) 0 hlt2).trans r0
        replace r1 := (hc6 (w.heap.size + 3) 1 hlt2).trans r1
        replace r2 := (hc6 (w.heap.size + 3) 2 hlt2).trans r2
        replace e0 := (hf6 (w.heap.size + 3) 0 hlt2).trans e0
        replace e1 := (hf6 (w.heap.size + 3) 1 hlt2).trans e1
        replace e2 := (hf6 (w.heap.size + 3) 2 hlt2).trans e2
        have hb7 : Below w.heap.size w w5 := HB0.out.trans (hb5.mono HB0.out.size)
        clear hc6 hf6 hb5
        have HB := Lib.hid (((hb7.setCell (p := ⟨(w.heap.size + 3), 0, none⟩) (by show _ ≤ (w.heap.size + 3); omega) (.int .i64 p)).setCell (p := ⟨(w.heap.size + 3), 1, none⟩) (by show _ ≤ (w.heap.size + 3); omega) (.int .i64 q)).setCell (p := ⟨(w.heap.size + 3), 2, none⟩) (by show _ ≤ (w.heap.size + 3); omega) (.slice A5 (fl (grd p q g)).length c5))
        clear hb7
        have HOF := Lib.hid ((((ho5.setLess (a := ⟨w.heap.size + 3, 0, none⟩) hlt2 (.int .i64 p)).setLess (a := ⟨w.heap.size + 3, 1, none⟩) hlt2 (.int .i64 q)).setLess (a := ⟨w.heap.size + 3, 2, none⟩) hlt2 (.slice A5 (fl (grd p q g)).length c5)).less (lo' := w.heap.size) HB0.out.size)
        have HPC := Lib.hid hpc
        clear hpc ho5
        go_wp2_with fail
        exact bodyPost_ret (v := .tuple #[.agg #[.int .i64 p, .int .i64 q, .slice A5 (fl (grd p q g)).length c5], .bool true]) (by simp [results, Try.results27, go_sem, r0, r1, r2]) rfl (by rw [retGr_yes HPC.out]; exact ⟨_, rfl, HOF.out, HB.out⟩)
      · obtain ⟨A5, c5, hv5, _, _, _⟩ := id ho5
        subst hv5
        obtain ⟨hc6, hf6⟩ := bcell hb5
        replace r0 := (hc6 (w.heap.size + 3) 0 hlt2).trans r0
        replace r1 := (hc6 (w.heap.size + 3) 1 hlt2).trans r1
        replace r2 := (hc6 (w.heap.size + 3) 2 hlt2).trans r2
        replace e0 := (hf6 (w.heap.size + 3) 0 hlt2).trans e0
        replace e1 := (hf6 (w.heap.size + 3) 1 hlt2).trans e1
        replace e2 := (hf6 (w.heap.size + 3) 2 hlt2).trans e2
        have hb7 : Below w.heap.size w w5 := HB0.out.trans (hb5.mono HB0.out.size)
        clear hc6 hf6 hb5
        have HB := Lib.hid (((hb7.setCell (p := ⟨(w.heap.size + 3), 0, none⟩) (by show _ ≤ (w.heap.size + 3); omega) (.int .i64 0)).setCell (p := ⟨(w.heap.size + 3), 1, none⟩) (by show _ ≤ (w.heap.size + 3); omega) (.int .i64 0)).setCell (p := ⟨(w.heap.size + 3), 2, none⟩) (by show _ ≤ (w.heap.size + 3); omega) (.slice A5 (fl []).length c5))
        clear hb7
        have HOF := Lib.hid ((((ho5.setLess (a := ⟨w.heap.size + 3, 0, none⟩) hlt2 (.int .i64 0)).setLess (a := ⟨w.heap.size + 3, 1, none⟩) hlt2 (.int .i64 0)).setLess (a := ⟨w.heap.size + 3, 2, none⟩) hlt2 (.slice A5 (fl []).length c5)).less (lo' := w.heap.size) HB0.out.size)
        have HPC := Lib.hid hpc
        clear hpc ho5
        go_wp2_with fail
        exact bodyPost_ret (v := .tuple #[.agg #[.int .i64 0, .int .i64 0, .slice A5 (fl []).length c5], .bool false]) (by simp [results, Try.results27, go_sem, r0, r1, r2]) rfl (by rw [retGr_no HPC.out]; exact ⟨_, rfl, HOF.out, HB.out⟩)
end Go.Proofs.Ytgfdgcoimfjhbaa
