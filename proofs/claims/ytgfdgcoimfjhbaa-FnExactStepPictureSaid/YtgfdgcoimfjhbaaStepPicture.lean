/-
  At any sides, place and lights, StepPicture answers as its model does, in memory of its own.
-/
import Derived.Test.YtgfdgcoimfjhbaaRows
import Derived.ProofKit
import Derived.OpenShut
import Derived.WalkLawsBesides
import Derived.KernelRfl
import Derived.Test.YtgfdgcoimfjhbaaPiM
import Derived.Test.YtgfdgcoimfjhbaaSt
import Derived.Test.YtgfdgcoimfjhbaaStS
namespace Go.Proofs.Ytgfdgcoimfjhbaa
open Go.RowKit Fl
set_option linter.unusedVariables false
set_option maxRecDepth 100000 in
set_option maxHeartbeats 8000000 in
theorem fnExactStepPicture.walk (w : World) (a0 : Int) (w0 : (Lit.int .i64 a0).wf = true) (a1 : Int) (w1 : (Lit.int .i64 a1).wf = true) (a2 : Int) (w2 : (Lit.int .i64 a2).wf = true) (a3 : Nat) (w3 : (Lit.float .f32 a3).wf = true) (a4 : Nat) (w4 : (Lit.float .f32 a4).wf = true) :
    Calls Try.prog 6 #[.int .i64 a0, .int .i64 a1, .int .i64 a2, .float .f32 a3, .float .f32 a4] w fun e w' => e = .returned (.bool true) ∧ Below w.heap.size w w' := by
  obtain ⟨P, hPe⟩ : ∃ x, x = stP a0 a1 a2 a3 a4 a0 := ⟨_, rfl⟩
  obtain ⟨Q, hQe⟩ : ∃ x, x = stP a0 a1 a2 a3 a4 a1 := ⟨_, rfl⟩
  obtain ⟨L, hLe⟩ : ∃ x, x = stQ a0 a1 a2 a3 a4 := ⟨_, rfl⟩
  obtain ⟨b, hbe⟩ : ∃ x, x = stB a0 a1 a2 a3 a4 := ⟨_, rfl⟩
  have hL : L.length ≤ 1048576 := by rw [hLe]; exact stQ_len _ _ _ _ _
  have HS0 := Lib.hid (fun  (w' : World)   => (show Calls Try.prog 26 #[.int .i64 a0, .int .i64 a1, .int .i64 a2, .float .f32 a3, .float .f32 a4] w' (RetPs P Q L b w') from Calls.mono (show Calls Try.prog 26 #[.int .i64 a0, .int .i64 a1, .int .i64 a2, .float .f32 a3, .float .f32 a4] w' (RetPc P Q L b w') by rw [hPe, hQe, hLe, hbe]; exact (by rw [← retSt_pc]; exact stP_any a0 a1 a2 a3 a4 w' (by simpa [Lit.wf] using w3) (by simpa [Lit.wf] using w4))) fun e w'' h => retPs h))
  have HI0 := Lib.hid (fun  (w' : World)   => (show Calls Try.prog 27 #[.int .i64 a0, .int .i64 a1, .int .i64 a2, .float .f32 a3, .float .f32 a4] w' (RetPs P Q L b w') from Calls.mono (show Calls Try.prog 27 #[.int .i64 a0, .int .i64 a1, .int .i64 a2, .float .f32 a3, .float .f32 a4] w' (RetPc P Q L b w') by rw [hPe, hQe, hLe, hbe]; exact (by rw [← retSt_pc]; exact stI_any a0 a1 a2 a3 a4 w' (by simpa [Lit.wf] using w3) (by simpa [Lit.wf] using w4))) fun e w'' h => retPs h))
  clear hPe hQe hLe hbe
  have hsf : ∀ (a : Addr) (x : Nat) (w : World), (store a (.float .f32 x)).run Try.prog w = stored Try.prog w a (.float .f32 x) .plain := fun a x w => run_store _ w a _ _ rfl
  go_enter Try.func6, Try.ntmps6
  have B_w : Below w.heap.size w w := Below.refl _ _
  have HS := HS0
  have HI := HI0
  clear HS0 HI0
  go_wp2_with fail
  refine (HS.out _  ).mono ?_
  rintro e w1 ⟨Ar, cr, rfl, O1x, hb1⟩
  have B_w1 : Below w.heap.size w w1 := B_w.trans (hb1.mono B_w.size)
  have S_r0 : w.heap.size ≤ w.heap.size := B_w.size
  clear B_w
  have F_r0_w1 : In w1 w.heap.size w1.heap.size (.slice Ar L.length cr) (fl L) := In.made O1x
  have T_r0_w1 : w1.heap.size ≤ w1.heap.size := Nat.le_refl _
  clear O1x
  clear hb1
  go_wp2_with fail
  have hb2 : Below w1.heap.size w1 (w1.alloc (.cells #[.int .i64 P, .int .i64 Q, .slice Ar L.length cr] 27)) := (Below.refl _ _).alloc (Nat.le_refl _) _
  have O2 := own_box3 w1 (.int .i64 P) (.int .i64 Q) (.slice Ar L.length cr) 27
  generalize w1.alloc (.cells #[.int .i64 P, .int .i64 Q, .slice Ar L.length cr] 27) = w2 at *
  have F_r0_w2 : In w2 w.heap.size w1.heap.size (.slice Ar L.length cr) (fl L) := F_r0_w1.step hb2
  have T_r0_w2 : w1.heap.size ≤ w2.heap.size := Nat.le_trans T_r0_w1 hb2.size
  have B_w2 : Below w.heap.size w w2 := B_w1.trans (hb2.mono B_w1.size)
  have S_pr : w.heap.size ≤ w1.heap.size := B_w1.size
  have D_r0_pr : w1.heap.size ≤ w1.heap.size := T_r0_w1
  clear F_r0_w1 T_r0_w1 B_w1
  have F_pr_w2 : In w2 w1.heap.size w2.heap.size (.slice (some ⟨w1.heap.size, 0, none⟩) 3 3) ([.int .i64 P, .int .i64 Q, .slice Ar L.length cr]) := In.made O2
  have T_pr_w2 : w2.heap.size ≤ w2.heap.size := Nat.le_refl _
  clear O2
  clear hb2
  refine (HI.out _  ).mono ?_
  rintro e w3 ⟨Ag, cg, rfl, O3x, hb3⟩
  have F_r0_w3 : In w3 w.heap.size w1.heap.size (.slice Ar L.length cr) (fl L) := F_r0_w2.step hb3
  have T_r0_w3 : w1.heap.size ≤ w3.heap.size := Nat.le_trans T_r0_w2 hb3.size
  have F_pr_w3 : In w3 w1.heap.size w2.heap.size (.slice (some ⟨w1.heap.size, 0, none⟩) 3 3) ([.int .i64 P, .int .i64 Q, .slice Ar L.length cr]) := F_pr_w2.step hb3
  have T_pr_w3 : w2.heap.size ≤ w3.heap.size := Nat.le_trans T_pr_w2 hb3.size
  have B_w3 : Below w.heap.size w w3 := B_w2.trans (hb3.mono B_w2.size)
  have S_g0 : w.heap.size ≤ w2.heap.size := B_w2.size
  have D_r0_g0 : w1.heap.size ≤ w2.heap.size := T_r0_w2
  have D_pr_g0 : w2.heap.size ≤ w2.heap.size := T_pr_w2
  clear F_r0_w2 T_r0_w2 F_pr_w2 T_pr_w2 B_w2
  have F_g0_w3 : In w3 w2.heap.size w3.heap.size (.slice Ag L.length cg) (fl L) := In.made O3x
  have T_g0_w3 : w3.heap.size ≤ w3.heap.size := Nat.le_refl _
  clear O3x
  clear hb3
  obtain ⟨_, Z_pr_w3, c44, _⟩ := F_pr_w3.1.cells' (by decide)
  have Q_pr0_w3 : w3.cell? ⟨w1.heap.size, 0, none⟩ = some (.int .i64 P) := c44 0 _ rfl
  have Q_pr1_w3 : w3.cell? ⟨w1.heap.size, 1, none⟩ = some (.int .i64 Q) := c44 1 _ rfl
  have Q_pr2_w3 : w3.cell? ⟨w1.heap.size, 2, none⟩ = some (.slice Ar L.length cr) := c44 2 _ rfl
  clear c44
  go_wp2_with fail
  clear Z_pr_w3 Q_pr0_w3 Q_pr1_w3 Q_pr2_w3
  have hb4 : Below w3.heap.size w3 (w3.alloc (.cells #[.int .i64 P, .int .i64 Q, .slice Ag L.length cg] 27)) := (Below.refl _ _).alloc (Nat.le_refl _) _
  have O4 := own_box3 w3 (.int .i64 P) (.int .i64 Q) (.slice Ag L.length cg) 27
  generalize w3.alloc (.cells #[.int .i64 P, .int .i64 Q, .slice Ag L.length cg] 27) = w4 at *
  have F_r0_w4 : In w4 w.heap.size w1.heap.size (.slice Ar L.length cr) (fl L) := F_r0_w3.step hb4
  have T_r0_w4 : w1.heap.size ≤ w4.heap.size := Nat.le_trans T_r0_w3 hb4.size
  have F_pr_w4 : In w4 w1.heap.size w2.heap.size (.slice (some ⟨w1.heap.size, 0, none⟩) 3 3) ([.int .i64 P, .int .i64 Q, .slice Ar L.length cr]) := F_pr_w3.step hb4
  have T_pr_w4 : w2.heap.size ≤ w4.heap.size := Nat.le_trans T_pr_w3 hb4.size
  have F_g0_w4 : In w4 w2.heap.size w3.heap.size (.slice Ag L.length cg) (fl L) := F_g0_w3.step hb4
  have T_g0_w4 : w3.heap.size ≤ w4.heap.size := Nat.le_trans T_g0_w3 hb4.size
  have B_w4 : Below w.heap.size w w4 := B_w3.trans (hb4.mono B_w3.size)
  have S_pg : w.heap.size ≤ w3.heap.size := B_w3.size
  have D_r0_pg : w1.heap.size ≤ w3.heap.size := T_r0_w3
  have D_pr_pg : w2.heap.size ≤ w3.heap.size := T_pr_w3
  have D_g0_pg : w3.heap.size ≤ w3.heap.size := T_g0_w3
  clear F_r0_w3 T_r0_w3 F_pr_w3 T_pr_w3 F_g0_w3 T_g0_w3 B_w3
  have F_pg_w4 : In w4 w3.heap.size w4.heap.size (.slice (some ⟨w3.heap.size, 0, none⟩) 3 3) ([.int .i64 P, .int .i64 Q, .slice Ag L.length cg]) := In.made O4
  have T_pg_w4 : w4.heap.size ≤ w4.heap.size := Nat.le_refl _
  clear O4
  clear hb4
  refine (eqPic_any _ _ _ _ L L _ F_g0_w4.rd F_r0_w4.rd (Worth.refl _) hL).mono ?_
  rintro e w5 ⟨rfl, hb5⟩
  have F_r0_w5 : In w5 w.heap.size w1.heap.size (.slice Ar L.length cr) (fl L) := F_r0_w4.step hb5
  have T_r0_w5 : w1.heap.size ≤ w5.heap.size := Nat.le_trans T_r0_w4 hb5.size
  have F_pr_w5 : In w5 w1.heap.size w2.heap.size (.slice (some ⟨w1.heap.size, 0, none⟩) 3 3) ([.int .i64 P, .int .i64 Q, .slice Ar L.length cr]) := F_pr_w4.step hb5
  have T_pr_w5 : w2.heap.size ≤ w5.heap.size := Nat.le_trans T_pr_w4 hb5.size
  have F_g0_w5 : In w5 w2.heap.size w3.heap.size (.slice Ag L.length cg) (fl L) := F_g0_w4.step hb5
  have T_g0_w5 : w3.heap.size ≤ w5.heap.size := Nat.le_trans T_g0_w4 hb5.size
  have F_pg_w5 : In w5 w3.heap.size w4.heap.size (.slice (some ⟨w3.heap.size, 0, none⟩) 3 3) ([.int .i64 P, .int .i64 Q, .slice Ag L.length cg]) := F_pg_w4.step hb5
  have T_pg_w5 : w4.heap.size ≤ w5.heap.size := Nat.le_trans T_pg_w4 hb5.size
  have B_w5 : Below w.heap.size w w5 := B_w4.trans (hb5.mono B_w4.size)
  clear F_r0_w4 T_r0_w4 F_pr_w4 T_pr_w4 F_g0_w4 T_g0_w4 F_pg_w4 T_pg_w4 B_w4
  clear hb5
  obtain ⟨_, Z_pg_w5, c83, _⟩ := F_pg_w5.1.cells' (by decide)
  have Q_pg0_w5 : w5.cell? ⟨w3.heap.size, 0, none⟩ = some (.int .i64 P) := c83 0 _ rfl
  have Q_pg1_w5 : w5.cell? ⟨w3.heap.size, 1, none⟩ = some (.int .i64 Q) := c83 1 _ rfl
  have Q_pg2_w5 : w5.cell? ⟨w3.heap.size, 2, none⟩ = some (.slice Ag L.length cg) := c83 2 _ rfl
  clear c83
  go_wp2_with fail
  clear Z_pg_w5 Q_pg0_w5 Q_pg1_w5 Q_pg2_w5
  refine (markPic_any _ _ _ L _ _ _ F_g0_w5.1 hL (by omega) (by omega)).mono ?_
  rintro e w7 ⟨rfl, w6, hb6, hw7⟩
  have F_r0_w6 : In w6 w.heap.size w1.heap.size (.slice Ar L.length cr) (fl L) := F_r0_w5.step hb6
  have T_r0_w6 : w1.heap.size ≤ w6.heap.size := Nat.le_trans T_r0_w5 hb6.size
  have F_pr_w6 : In w6 w1.heap.size w2.heap.size (.slice (some ⟨w1.heap.size, 0, none⟩) 3 3) ([.int .i64 P, .int .i64 Q, .slice Ar L.length cr]) := F_pr_w5.step hb6
  have T_pr_w6 : w2.heap.size ≤ w6.heap.size := Nat.le_trans T_pr_w5 hb6.size
  have F_g0_w6 : In w6 w2.heap.size w3.heap.size (.slice Ag L.length cg) (fl L) := F_g0_w5.step hb6
  have T_g0_w6 : w3.heap.size ≤ w6.heap.size := Nat.le_trans T_g0_w5 hb6.size
  have F_pg_w6 : In w6 w3.heap.size w4.heap.size (.slice (some ⟨w3.heap.size, 0, none⟩) 3 3) ([.int .i64 P, .int .i64 Q, .slice Ag L.length cg]) := F_pg_w5.step hb6
  have T_pg_w6 : w4.heap.size ≤ w6.heap.size := Nat.le_trans T_pg_w5 hb6.size
  have B_w6 : Below w.heap.size w w6 := B_w5.trans (hb6.mono B_w5.size)
  clear F_r0_w5 T_r0_w5 F_pr_w5 T_pr_w5 F_g0_w5 T_g0_w5 F_pg_w5 T_pg_w5 B_w5
  clear hb6
  have ht7 : Tw w2.heap.size w3.heap.size w6 w7 := by rw [hw7]; exact over_tw F_g0_w6.1 F_g0_w6.2 _
  have NF7 : In w7 w2.heap.size w3.heap.size (.slice Ag L.length cg) ((List.range L.length).map (mkF (1))) := by rw [hw7]; have := F_g0_w6.over (mkF (1)); rw [fl_len] at this; exact this
  clear hw7
  have F_r0_w7 : In w7 w.heap.size w1.heap.size (.slice Ar L.length cr) (fl L) := F_r0_w6.tw ht7 (.inl D_r0_g0)
  have T_r0_w7 : w1.heap.size ≤ w7.heap.size := Nat.le_trans T_r0_w6 ht7.size
  have F_pr_w7 : In w7 w1.heap.size w2.heap.size (.slice (some ⟨w1.heap.size, 0, none⟩) 3 3) ([.int .i64 P, .int .i64 Q, .slice Ar L.length cr]) := F_pr_w6.tw ht7 (.inl D_pr_g0)
  have T_pr_w7 : w2.heap.size ≤ w7.heap.size := Nat.le_trans T_pr_w6 ht7.size
  have F_g0_w7 : In w7 w2.heap.size w3.heap.size (.slice Ag L.length cg) ((List.range L.length).map (mkF (1))) := NF7
  have T_g0_w7 : w3.heap.size ≤ w7.heap.size := Nat.le_trans T_g0_w6 ht7.size
  have F_pg_w7 : In w7 w3.heap.size w4.heap.size (.slice (some ⟨w3.heap.size, 0, none⟩) 3 3) ([.int .i64 P, .int .i64 Q, .slice Ag L.length cg]) := F_pg_w6.tw ht7 (.inr D_g0_pg)
  have T_pg_w7 : w4.heap.size ≤ w7.heap.size := Nat.le_trans T_pg_w6 ht7.size
  have B_w7 : Below w.heap.size w w7 := B_w6.trans (ht7.below S_g0 B_w6.size)
  clear F_r0_w6 T_r0_w6 F_pr_w6 T_pr_w6 F_g0_w6 T_g0_w6 F_pg_w6 T_pg_w6 B_w6
  clear ht7 NF7
  obtain ⟨_, Z_pg_w7, c117, _⟩ := F_pg_w7.1.cells' (by decide)
  have Q_pg0_w7 : w7.cell? ⟨w3.heap.size, 0, none⟩ = some (.int .i64 P) := c117 0 _ rfl
  have Q_pg1_w7 : w7.cell? ⟨w3.heap.size, 1, none⟩ = some (.int .i64 Q) := c117 1 _ rfl
  have Q_pg2_w7 : w7.cell? ⟨w3.heap.size, 2, none⟩ = some (.slice Ag L.length cg) := c117 2 _ rfl
  clear c117
  go_wp2_with fail
  clear Z_pg_w7 Q_pg0_w7 Q_pg1_w7 Q_pg2_w7
  refine (heldPic_any _ _ _ L.length _ _ F_g0_w7.rd hL (by omega) (by omega)).mono ?_
  rintro e w8 ⟨rfl, hb8⟩
  have F_r0_w8 : In w8 w.heap.size w1.heap.size (.slice Ar L.length cr) (fl L) := F_r0_w7.step hb8
  have T_r0_w8 : w1.heap.size ≤ w8.heap.size := Nat.le_trans T_r0_w7 hb8.size
  have F_pr_w8 : In w8 w1.heap.size w2.heap.size (.slice (some ⟨w1.heap.size, 0, none⟩) 3 3) ([.int .i64 P, .int .i64 Q, .slice Ar L.length cr]) := F_pr_w7.step hb8
  have T_pr_w8 : w2.heap.size ≤ w8.heap.size := Nat.le_trans T_pr_w7 hb8.size
  have F_g0_w8 : In w8 w2.heap.size w3.heap.size (.slice Ag L.length cg) ((List.range L.length).map (mkF (1))) := F_g0_w7.step hb8
  have T_g0_w8 : w3.heap.size ≤ w8.heap.size := Nat.le_trans T_g0_w7 hb8.size
  have F_pg_w8 : In w8 w3.heap.size w4.heap.size (.slice (some ⟨w3.heap.size, 0, none⟩) 3 3) ([.int .i64 P, .int .i64 Q, .slice Ag L.length cg]) := F_pg_w7.step hb8
  have T_pg_w8 : w4.heap.size ≤ w8.heap.size := Nat.le_trans T_pg_w7 hb8.size
  have B_w8 : Below w.heap.size w w8 := B_w7.trans (hb8.mono B_w7.size)
  clear F_r0_w7 T_r0_w7 F_pr_w7 T_pr_w7 F_g0_w7 T_g0_w7 F_pg_w7 T_pg_w7 B_w7
  clear hb8
  go_wp2_with fail
  refine (HI.out _  ).mono ?_
  rintro e w9 ⟨Ah, ch, rfl, O9x, hb9⟩
  have F_r0_w9 : In w9 w.heap.size w1.heap.size (.slice Ar L.length cr) (fl L) := F_r0_w8.step hb9
  have T_r0_w9 : w1.heap.size ≤ w9.heap.size := Nat.le_trans T_r0_w8 hb9.size
  have F_pr_w9 : In w9 w1.heap.size w2.heap.size (.slice (some ⟨w1.heap.size, 0, none⟩) 3 3) ([.int .i64 P, .int .i64 Q, .slice Ar L.length cr]) := F_pr_w8.step hb9
  have T_pr_w9 : w2.heap.size ≤ w9.heap.size := Nat.le_trans T_pr_w8 hb9.size
  have F_g0_w9 : In w9 w2.heap.size w3.heap.size (.slice Ag L.length cg) ((List.range L.length).map (mkF (1))) := F_g0_w8.step hb9
  have T_g0_w9 : w3.heap.size ≤ w9.heap.size := Nat.le_trans T_g0_w8 hb9.size
  have F_pg_w9 : In w9 w3.heap.size w4.heap.size (.slice (some ⟨w3.heap.size, 0, none⟩) 3 3) ([.int .i64 P, .int .i64 Q, .slice Ag L.length cg]) := F_pg_w8.step hb9
  have T_pg_w9 : w4.heap.size ≤ w9.heap.size := Nat.le_trans T_pg_w8 hb9.size
  have B_w9 : Below w.heap.size w w9 := B_w8.trans (hb9.mono B_w8.size)
  have S_h0 : w.heap.size ≤ w8.heap.size := B_w8.size
  have D_r0_h0 : w1.heap.size ≤ w8.heap.size := T_r0_w8
  have D_pr_h0 : w2.heap.size ≤ w8.heap.size := T_pr_w8
  have D_g0_h0 : w3.heap.size ≤ w8.heap.size := T_g0_w8
  have D_pg_h0 : w4.heap.size ≤ w8.heap.size := T_pg_w8
  clear F_r0_w8 T_r0_w8 F_pr_w8 T_pr_w8 F_g0_w8 T_g0_w8 F_pg_w8 T_pg_w8 B_w8
  have F_h0_w9 : In w9 w8.heap.size w9.heap.size (.slice Ah L.length ch) (fl L) := In.made O9x
  have T_h0_w9 : w9.heap.size ≤ w9.heap.size := Nat.le_refl _
  clear O9x
  clear hb9
  obtain ⟨_, Z_pr_w9, c159, _⟩ := F_pr_w9.1.cells' (by decide)
  have Q_pr0_w9 : w9.cell? ⟨w1.heap.size, 0, none⟩ = some (.int .i64 P) := c159 0 _ rfl
  have Q_pr1_w9 : w9.cell? ⟨w1.heap.size, 1, none⟩ = some (.int .i64 Q) := c159 1 _ rfl
  have Q_pr2_w9 : w9.cell? ⟨w1.heap.size, 2, none⟩ = some (.slice Ar L.length cr) := c159 2 _ rfl
  clear c159
  go_wp2_with fail
  clear Z_pr_w9 Q_pr0_w9 Q_pr1_w9 Q_pr2_w9
  have hb10 : Below w9.heap.size w9 (w9.alloc (.cells #[.int .i64 P, .int .i64 Q, .slice Ah L.length ch] 27)) := (Below.refl _ _).alloc (Nat.le_refl _) _
  have O10 := own_box3 w9 (.int .i64 P) (.int .i64 Q) (.slice Ah L.length ch) 27
  generalize w9.alloc (.cells #[.int .i64 P, .int .i64 Q, .slice Ah L.length ch] 27) = w10 at *
  have F_r0_w10 : In w10 w.heap.size w1.heap.size (.slice Ar L.length cr) (fl L) := F_r0_w9.step hb10
  have T_r0_w10 : w1.heap.size ≤ w10.heap.size := Nat.le_trans T_r0_w9 hb10.size
  have F_pr_w10 : In w10 w1.heap.size w2.heap.size (.slice (some ⟨w1.heap.size, 0, none⟩) 3 3) ([.int .i64 P, .int .i64 Q, .slice Ar L.length cr]) := F_pr_w9.step hb10
  have T_pr_w10 : w2.heap.size ≤ w10.heap.size := Nat.le_trans T_pr_w9 hb10.size
  have F_g0_w10 : In w10 w2.heap.size w3.heap.size (.slice Ag L.length cg) ((List.range L.length).map (mkF (1))) := F_g0_w9.step hb10
  have T_g0_w10 : w3.heap.size ≤ w10.heap.size := Nat.le_trans T_g0_w9 hb10.size
  have F_pg_w10 : In w10 w3.heap.size w4.heap.size (.slice (some ⟨w3.heap.size, 0, none⟩) 3 3) ([.int .i64 P, .int .i64 Q, .slice Ag L.length cg]) := F_pg_w9.step hb10
  have T_pg_w10 : w4.heap.size ≤ w10.heap.size := Nat.le_trans T_pg_w9 hb10.size
  have F_h0_w10 : In w10 w8.heap.size w9.heap.size (.slice Ah L.length ch) (fl L) := F_h0_w9.step hb10
  have T_h0_w10 : w9.heap.size ≤ w10.heap.size := Nat.le_trans T_h0_w9 hb10.size
  have B_w10 : Below w.heap.size w w10 := B_w9.trans (hb10.mono B_w9.size)
  have S_ph : w.heap.size ≤ w9.heap.size := B_w9.size
  have D_r0_ph : w1.heap.size ≤ w9.heap.size := T_r0_w9
  have D_pr_ph : w2.heap.size ≤ w9.heap.size := T_pr_w9
  have D_g0_ph : w3.heap.size ≤ w9.heap.size := T_g0_w9
  have D_pg_ph : w4.heap.size ≤ w9.heap.size := T_pg_w9
  have D_h0_ph : w9.heap.size ≤ w9.heap.size := T_h0_w9
  clear F_r0_w9 T_r0_w9 F_pr_w9 T_pr_w9 F_g0_w9 T_g0_w9 F_pg_w9 T_pg_w9 F_h0_w9 T_h0_w9 B_w9
  have F_ph_w10 : In w10 w9.heap.size w10.heap.size (.slice (some ⟨w9.heap.size, 0, none⟩) 3 3) ([.int .i64 P, .int .i64 Q, .slice Ah L.length ch]) := In.made O10
  have T_ph_w10 : w10.heap.size ≤ w10.heap.size := Nat.le_refl _
  clear O10
  clear hb10
  refine (eqPic_any _ _ _ _ L L _ F_h0_w10.rd F_r0_w10.rd (Worth.refl _) hL).mono ?_
  rintro e w11 ⟨rfl, hb11⟩
  have F_r0_w11 : In w11 w.heap.size w1.heap.size (.slice Ar L.length cr) (fl L) := F_r0_w10.step hb11
  have T_r0_w11 : w1.heap.size ≤ w11.heap.size := Nat.le_trans T_r0_w10 hb11.size
  have F_pr_w11 : In w11 w1.heap.size w2.heap.size (.slice (some ⟨w1.heap.size, 0, none⟩) 3 3) ([.int .i64 P, .int .i64 Q, .slice Ar L.length cr]) := F_pr_w10.step hb11
  have T_pr_w11 : w2.heap.size ≤ w11.heap.size := Nat.le_trans T_pr_w10 hb11.size
  have F_g0_w11 : In w11 w2.heap.size w3.heap.size (.slice Ag L.length cg) ((List.range L.length).map (mkF (1))) := F_g0_w10.step hb11
  have T_g0_w11 : w3.heap.size ≤ w11.heap.size := Nat.le_trans T_g0_w10 hb11.size
  have F_pg_w11 : In w11 w3.heap.size w4.heap.size (.slice (some ⟨w3.heap.size, 0, none⟩) 3 3) ([.int .i64 P, .int .i64 Q, .slice Ag L.length cg]) := F_pg_w10.step hb11
  have T_pg_w11 : w4.heap.size ≤ w11.heap.size := Nat.le_trans T_pg_w10 hb11.size
  have F_h0_w11 : In w11 w8.heap.size w9.heap.size (.slice Ah L.length ch) (fl L) := F_h0_w10.step hb11
  have T_h0_w11 : w9.heap.size ≤ w11.heap.size := Nat.le_trans T_h0_w10 hb11.size
  have F_ph_w11 : In w11 w9.heap.size w10.heap.size (.slice (some ⟨w9.heap.size, 0, none⟩) 3 3) ([.int .i64 P, .int .i64 Q, .slice Ah L.length ch]) := F_ph_w10.step hb11
  have T_ph_w11 : w10.heap.size ≤ w11.heap.size := Nat.le_trans T_ph_w10 hb11.size
  have B_w11 : Below w.heap.size w w11 := B_w10.trans (hb11.mono B_w10.size)
  clear F_r0_w10 T_r0_w10 F_pr_w10 T_pr_w10 F_g0_w10 T_g0_w10 F_pg_w10 T_pg_w10 F_h0_w10 T_h0_w10 F_ph_w10 T_ph_w10 B_w10
  clear hb11
  obtain ⟨_, Z_pg_w11, c208, _⟩ := F_pg_w11.1.cells' (by decide)
  have Q_pg0_w11 : w11.cell? ⟨w3.heap.size, 0, none⟩ = some (.int .i64 P) := c208 0 _ rfl
  have Q_pg1_w11 : w11.cell? ⟨w3.heap.size, 1, none⟩ = some (.int .i64 Q) := c208 1 _ rfl
  have Q_pg2_w11 : w11.cell? ⟨w3.heap.size, 2, none⟩ = some (.slice Ag L.length cg) := c208 2 _ rfl
  clear c208
  go_wp2_with fail
  clear Z_pg_w11 Q_pg0_w11 Q_pg1_w11 Q_pg2_w11
  refine (heldPic_any _ _ _ L.length _ _ F_g0_w11.rd hL (by omega) (by omega)).mono ?_
  rintro e w12 ⟨rfl, hb12⟩
  have F_r0_w12 : In w12 w.heap.size w1.heap.size (.slice Ar L.length cr) (fl L) := F_r0_w11.step hb12
  have T_r0_w12 : w1.heap.size ≤ w12.heap.size := Nat.le_trans T_r0_w11 hb12.size
  have F_pr_w12 : In w12 w1.heap.size w2.heap.size (.slice (some ⟨w1.heap.size, 0, none⟩) 3 3) ([.int .i64 P, .int .i64 Q, .slice Ar L.length cr]) := F_pr_w11.step hb12
  have T_pr_w12 : w2.heap.size ≤ w12.heap.size := Nat.le_trans T_pr_w11 hb12.size
  have F_g0_w12 : In w12 w2.heap.size w3.heap.size (.slice Ag L.length cg) ((List.range L.length).map (mkF (1))) := F_g0_w11.step hb12
  have T_g0_w12 : w3.heap.size ≤ w12.heap.size := Nat.le_trans T_g0_w11 hb12.size
  have F_pg_w12 : In w12 w3.heap.size w4.heap.size (.slice (some ⟨w3.heap.size, 0, none⟩) 3 3) ([.int .i64 P, .int .i64 Q, .slice Ag L.length cg]) := F_pg_w11.step hb12
  have T_pg_w12 : w4.heap.size ≤ w12.heap.size := Nat.le_trans T_pg_w11 hb12.size
  have F_h0_w12 : In w12 w8.heap.size w9.heap.size (.slice Ah L.length ch) (fl L) := F_h0_w11.step hb12
  have T_h0_w12 : w9.heap.size ≤ w12.heap.size := Nat.le_trans T_h0_w11 hb12.size
  have F_ph_w12 : In w12 w9.heap.size w10.heap.size (.slice (some ⟨w9.heap.size, 0, none⟩) 3 3) ([.int .i64 P, .int .i64 Q, .slice Ah L.length ch]) := F_ph_w11.step hb12
  have T_ph_w12 : w10.heap.size ≤ w12.heap.size := Nat.le_trans T_ph_w11 hb12.size
  have B_w12 : Below w.heap.size w w12 := B_w11.trans (hb12.mono B_w11.size)
  clear F_r0_w11 T_r0_w11 F_pr_w11 T_pr_w11 F_g0_w11 T_g0_w11 F_pg_w11 T_pg_w11 F_h0_w11 T_h0_w11 F_ph_w11 T_ph_w11 B_w11
  clear hb12
  go_wp2_with fail
  go_ret
  exact ⟨rfl, B_w12⟩

namespace fnExactStepPicture
open Go.ChangeShapes Go.WideShapes Go.ChangeAt Go.RowKit
open Go.ChangeMaps (open_string)
set_option linter.unusedVariables false
theorem own : ownKnob Try.prog.godebug = none := by kernel_rfl
theorem laidOut : laidOutB Try.prog = true := by kernel_rfl
set_option maxRecDepth 100000 in
theorem lifted (os : Os) (started : os.Started) (H : Type) (enc : TypeId × Value → H) :
    ReturnsInHanded {} Try.checked os 6 .any (Rows.fnExactStepPictureSpec.pre6 enc Try.prog Try.f6 Rows.fnExactStepPictureRow.domain false) (Rows.fnExactStepPictureSpec.post enc Try.prog Try.f6 false true false false) := by
  refine returnsInHanded_of_change (C := Try.checked) own started (by kernel_rfl) Try.func6
    (ChangeSpec.witness6 (enc := enc) (C := Try.checked) false ⟨#[], #[.int .i64 0, .int .i64 0, .int .i64 0, .float .f32 0, .float .f32 0], []⟩ 8 (by kernel_rfl) (by kernel_rfl) (by kernel_rfl) (by kernel_rfl)) ?_
  intro W base args ds gs before hval0 hW hcnd _
  have hval : ∀ (j : Nat) t v, Try.f6.params[j]? = some t → args[j]? = some v → Value.okWide Try.prog W .any base t v := hval0
  have hW' := hW
  have hlt0 := hW.lt
  obtain ⟨p, q, hA0, hV, rfl, hfz, hnd⟩ := hW
  have hA : DataW.TrodAll enc Try.prog W 0 (fun _ => true) true Try.f6.params.toList args.toList ds p := hA0
  have hAk := hA
  have hltp : ∀ x ∈ p, x.block < W.heap.size := fun x hx => hlt0 x (List.mem_append_left _ hx)
  have hread : ∀ t ∈ Try.f6.params.toList, Try.prog.readableRec t = true ∧ t < Try.prog.types.size := by
    rw [Try.params6]
    intro t ht
    simp only [List.mem_cons, List.not_mem_nil, or_false] at ht
    rcases ht with rfl | rfl | rfl | rfl | rfl <;> exact ⟨by kernel_rfl, of_decide_eq_true (by kernel_rfl)⟩
  rw [Try.params6] at hA hval
  obtain ⟨v0, vs0, d0, ds0, p0, q0, hargs, rfl, rfl, h0, r0⟩ := trodAll_cons hA
  obtain ⟨v1, vs1, d1, ds1, p1, q1, rfl, rfl, rfl, h1, r1⟩ := trodAll_cons r0
  obtain ⟨v2, vs2, d2, ds2, p2, q2, rfl, rfl, rfl, h2, r2⟩ := trodAll_cons r1
  obtain ⟨v3, vs3, d3, ds3, p3, q3, rfl, rfl, rfl, h3, r3⟩ := trodAll_cons r2
  obtain ⟨v4, vs4, d4, ds4, p4, q4, rfl, rfl, rfl, h4, r4⟩ := trodAll_cons r3
  obtain ⟨rfl, rfl, rfl⟩ := trodAll_nil r4
  obtain rfl : args = #[v0, v1, v2, v3, v4] := by cases args; simp_all
  obtain ⟨rfl, rfl⟩ := trodVars_none hV
  obtain ⟨a0, rfl, rfl, rfl, w0⟩ := open_int Try.underlying2 (hval 0 2 v0 rfl rfl) h0
  obtain ⟨a1, rfl, rfl, rfl, w1⟩ := open_int Try.underlying2 (hval 1 2 v1 rfl rfl) h1
  obtain ⟨a2, rfl, rfl, rfl, w2⟩ := open_int Try.underlying2 (hval 2 2 v2 rfl rfl) h2
  obtain ⟨a3, rfl, rfl, rfl, w3⟩ := open_float Try.underlying32 (hval 3 32 v3 rfl rfl) h3
  obtain ⟨a4, rfl, rfl, rfl, w4⟩ := open_float Try.underlying32 (hval 4 32 v4 rfl rfl) h4
  clear hA0 hval0
  refine (walk W a0 w0 a1 w1 a2 w2 a3 w3 a4 w4).mono fun e W' ⟨he, hg⟩ => ?_
  subst he
  exact ⟨_, rfl, post_grown (pv := []) hW' hg (fun _ _ _ => (trodAll_cons_mk (shut_bool Try.underlying4 _) trodAll_mk0)) (trodAll_low laidOut hg _ _ _ _ hread hltp hAk) rfl rfl⟩

theorem over : Rows.fnExactStepPictureRow.holds Try.pinned (OpenSpec.ofChange Rows.fnExactStepPictureSpec) :=
  OpenClaim.holds_of_wide 6 Try.f6 rfl rfl rfl rfl rfl rfl rfl ⟨rfl, rfl, rfl, rfl, rfl⟩ rfl rfl rfl rfl rfl (by kernel_rfl) Try.func6 (by kernel_rfl)
    (of_decide_eq_true (by kernel_rfl)) (by unfold Func.isWrapper; first | (rw [if_pos (by decide +kernel)]; kernel_rfl) | (rw [if_neg (by decide +kernel)]; exact ⟨rfl, rfl⟩))
    (fun os started H enc _ => lifted os started H enc)

theorem proved : Rows.FnExactStepPictureSaid := over
end fnExactStepPicture
end Go.Proofs.Ytgfdgcoimfjhbaa
