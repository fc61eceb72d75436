/-
  Contracts: a picture whose lights a closure tells, by the program.
-/
import Derived.Test.YtfbdmhkmkmbipaaPoK
namespace Go.Proofs.Ytfbdmhkmkmbipaa
open Go.RowKit Fl
set_option linter.unusedVariables false

set_option maxRecDepth 100000 in
set_option maxHeartbeats 4000000 in
theorem poB_any (p q : Int) (k0 k1 k2 : Nat) (g : Nat → Nat → Nat) (w : World)
    (HCL : ∀ (x y : Nat) (w' : World), Below w.heap.size w w' → (x : Int) < p → (y : Int) < q → Calls Try.prog 89 #[.int .i64 x, .int .i64 y, .pointer (some ⟨k0, 0, none⟩), .pointer (some ⟨k1, 0, none⟩), .pointer (some ⟨k2, 0, none⟩)] w' (RetClG (g x y) w')) :
    Calls Try.prog 88 #[.agg #[.int .i64 p, .int .i64 q], .func (.func 89) #[] #[.pointer (some ⟨k0, 0, none⟩), .pointer (some ⟨k1, 0, none⟩), .pointer (some ⟨k2, 0, none⟩)]] w (RetGr p q g w) := by
  obtain ⟨i0, hi, hz0, hz1, hz2⟩ := info_parts infoF
  have HC := Lib.hid HCL
  clear HCL
  go_enter Try.func88, Try.ntmps88
  go_wp2_with fail
  refine (arv_any p q _).mono ?_
  rintro e w1 ⟨rfl, hb1⟩
  obtain ⟨hc, hf⟩ := bcell hb1
  have c0 : w1.cell? ⟨w.heap.size, 0, none⟩ = some (.int .i64 p) := (hc _ _ (by simp; try omega)).trans (by simp [go_sem])
  have c1 : w1.cell? ⟨w.heap.size, 1, none⟩ = some (.int .i64 q) := (hc _ _ (by simp; try omega)).trans (by simp [go_sem])
  have r0 : w1.cell? ⟨w.heap.size + 1, 0, none⟩ = some (.int .i64 0) := (hc _ _ (by simp)).trans (by simp [go_sem])
  have r1 : w1.cell? ⟨w.heap.size + 1, 1, none⟩ = some (.int .i64 0) := (hc _ _ (by simp)).trans (by simp [go_sem])
  have r2 : w1.cell? ⟨w.heap.size + 1, 2, none⟩ = some (.slice none 0 0) := (hc _ _ (by simp)).trans (by simp [go_sem])
  have e0 : w1.frozen? ⟨w.heap.size + 1, 0, none⟩ = false := (hf _ _ (by simp)).trans (by simp [go_sem])
  have e1 : w1.frozen? ⟨w.heap.size + 1, 1, none⟩ = false := (hf _ _ (by simp)).trans (by simp [go_sem])
  have e2 : w1.frozen? ⟨w.heap.size + 1, 2, none⟩ = false := (hf _ _ (by simp)).trans (by simp [go_sem])
  have hz : w.heap.size + 2 ≤ w1.heap.size := by have := hb1.size; simp at this; omega
  have hb0 : Below w.heap.size w w1 := (((Below.refl _ _).alloc (Nat.le_refl _) _).alloc (by simp) _).trans (hb1.mono (by simp; omega))
  clear hc hf hb1
  cases hs : ssB p q with
  | false =>
    have HB := Lib.hid (((hb0.setCell (p := ⟨w.heap.size + 1, 0, none⟩) (by show _ ≤ w.heap.size + 1; omega) (.int .i64 0)).setCell (p := ⟨w.heap.size + 1, 1, none⟩) (by show _ ≤ w.heap.size + 1; omega) (.int .i64 0)).setCell (p := ⟨w.heap.size + 1, 2, none⟩) (by show _ ≤ w.heap.size + 1; omega) (.slice none 0 0))
    have HR := Lib.hid (show pcB p q g = false by unfold pcB; rw [hs]; rfl)
    clear hs hb0
    go_wp2_with fail
    exact bodyPost_ret (v := .tuple #[.agg #[.int .i64 0, .int .i64 0, .slice none 0 0], .bool false]) (by simp [results, Try.results88, go_sem, r0, r1, r2]) rfl (by rw [retGr_no HR.out]; exact retPc_no _ _ HB.out)
  | true =>
    obtain ⟨b1, b2⟩ := ssB_out hs
    have hbd := mul_bd b1 b2
    obtain ⟨n, hne⟩ : ∃ n, n = (p * q).toNat := ⟨_, rfl⟩
    have hmul : p * q = (n : Int) := by rw [hne]; exact mul_nat b1 b2
    clear hne
    have hn : 1 ≤ n ∧ n ≤ 256 := by omega
    have hlt1 : w.heap.size < w1.heap.size := by omega
    have hlt2 : w.heap.size + 1 < w1.heap.size := by omega
    have hmk : ∀ W : World, (Instr.makeSlice 22 (.int .i64 0) (.int .i64 (n : Int))).run Try.prog W = .ok (.slice (some ⟨W.heap.size, 0, none⟩) 0 n) (W.alloc (.cells (madeCells #[.float .f32 0] n) 23)) := fun W => by
      have h := run_make (P := Try.prog) W 22 23 i0 (.float .f32 0) Try.underlying22 hi hz0 .i64 .i64 0 (n : Int) (by omega) (by omega) (by rw [hz2]; omega) (by omega)
      rw [h, hz1]; simp [Value.cells]
    go_wp2_with fail
    go_region
    · have hG : Gro w1 w1.heap.size (w1.heap.size + 1) p q 0 [] (.slice (some ⟨w1.heap.size, 0, none⟩) 0 n) (((w1.alloc (.cells (madeCells #[.float .f32 0] n) 23)).alloc (.cells #[.int .i64 p, .int .i64 q, .slice (some ⟨w1.heap.size, 0, none⟩) 0 n] 50)).drew) := by
        refine ⟨by simp [go_sem], by simp [go_sem], by simp [go_sem], by simp [go_sem], by simp; try omega, by simp [Value.ownBlock], ?_, ?_, by simp; try omega, by omega, Nat.le_refl _⟩
        · have h := ((made_row w1 n hn.2).alloc (.cells #[.int .i64 p, .int .i64 q, .slice (some ⟨w1.heap.size, 0, none⟩) 0 n] 50)).drew
          simpa using h
        · exact below_drawn (((Below.refl _ _).alloc (Nat.le_refl _) _).alloc (by simp) _) 1
      generalize ((w1.alloc (.cells (madeCells #[.float .f32 0] n) 23)).alloc (.cells #[.int .i64 p, .int .i64 q, .slice (some ⟨w1.heap.size, 0, none⟩) 0 n] 50)).drew = w2 at *
      have HG := Lib.hid hG
      clear hG
      obtain ⟨k0_, k1_, k2_, kf_, kz_, _⟩ := id HG.out
      obtain ⟨P, hP⟩ : ∃ P : Nat, p = (P : Int) := ⟨p.toNat, by omega⟩
      obtain ⟨Q, hQ⟩ : ∃ Q : Nat, q = (Q : Int) := ⟨q.toNat, by omega⟩
      have hPQ : Q * P = n := by
        have : ((Q * P : Nat) : Int) = (n : Int) := by rw [← hmul, hP, hQ, Int.mul_comm]; simp
        omega
      have hgrd : grd p q g = gl P g n := by unfold grd gl; rw [hmul, hP]; simp
      have HP := Lib.hid hP
      have HQ := Lib.hid hQ
      have HM := Lib.hid hmul
      clear hP hQ hmul
      go_wp2_with fail
      go_loopw [26] (OutRel w1 w1.heap.size (w1.heap.size + 1) p q P Q g) (fun i _ => Q - (intOf i).toNat)
      case atStart => exact ⟨0, _, [], Nat.zero_le _, rfl, by simpa [gl] using isLs_nil, by simpa using HG.out⟩
      case round =>
        clear k0_ k1_ k2_ kf_ kz_ HG
        obtain ⟨y, v, cur, hy, rfl, hI, hG⟩ := hrel
        have HG := Lib.hid hG
        have HI := Lib.hid hI
        clear hG hI
        obtain ⟨k0_, k1_, k2_, kf_, kz_, _⟩ := id HG.out
        by_cases hlt : y < Q
        · have hyq : (y : Int) < q := by rw [HQ.out]; omega
          have hyP : y * P + P ≤ n := by rw [← hPQ, ← Nat.succ_mul]; exact Nat.mul_le_mul_right _ hlt
          go_wp2_with fail
          go_loopw [31] (InnRel w1 w1.heap.size (w1.heap.size + 1) p q P y g) (fun i _ => P - (intOf i).toNat)
          case atStart => exact ⟨0, _, cur, Nat.zero_le _, rfl, by rw [Nat.add_zero]; exact HI.out, by rw [Nat.add_zero]; exact HG.out⟩
          case round =>
            clear k0_ k1_ k2_ kf_ kz_ HG HI
            rename_i wr0 _
            obtain ⟨x, v, cur, hx, rfl, hI, hG⟩ := hrel
            have HG := Lib.hid hG
            have HI := Lib.hid hI
            clear hG hI
            obtain ⟨k0_, k1_, k2_, kf_, kz_, _⟩ := id HG.out
            by_cases hlx : x < P
            · have hxp : (x : Int) < p := by rw [HP.out]; omega
              have HB2 := Lib.hid (hb0.trans (HG.out.2.2.2.2.2.2.2.1.mono hb0.size))
              go_wp2_with fail
              go_region_law (first | (refine step_append_lies _ rfl _ _ 22 rfl w1.heap.size 23 i0 (.float .f32 0) 1 4 Try.underlying22 hi hz0 hz1 hz2 rfl (by decide) _ _ _ rfl (HG3.out.2.2.2.2.2.2.1.alloc _) ⟨w3.heap.size, 0, none⟩ 1 1 [.float .f32 r3] rfl rfl (one_newG _ _ _) (one_cellG _) (by decide) (by unfold maxLen; omega) (by omega) (by simp; have := HG3.out.2.2.2.2.2.2.2.2.1; omega) _ rfl ?_; intro g4 cap4 w4 hown hgrow hat hlt4; obtain ⟨hG4, hc4, hf4⟩ := HG3.out.push hown hgrow hat; have HG4 := Lib.hid hG4; clear hown hgrow hat hG4) | (go_simp; go_at_call 89; refine (HC.out x y _ ?_ hxp hyq).mono ?_; exact below_drawn HB2.out 1; rintro e w3 ⟨r3, rfl, hr3, hb3⟩; have HG3 := Lib.hid (HG.out.step (below_draw1 hb3)); have cq := HG3.out.2.2.1; have cz := HG3.out.2.2.2.2.1))
              all_goals go_wp2_with fail
              all_goals go_roundw
              all_goals try (first
                | (refine ⟨x + 1, _, cur ++ [r3], by omega, by go_num, ?_, HG4.out⟩; have hq := isLs_app HI.out hr3; rw [show y * P + (x + 1) = (y * P + x) + 1 by omega, gl_push hlx]; exact hq)
                | (simp [intOf]; omega))
            · obtain rfl : x = P := by omega
              have hpx : p ≤ (x : Int) := by rw [HP.out]; omega
              go_wp2_with fail
              go_roundw
              case rel => exact ⟨y + 1, v, cur, by omega, by go_num, by rw [Nat.succ_mul]; exact HI.out, by rw [Nat.succ_mul]; exact HG.out⟩
              case measure => simp [intOf]; omega
        · obtain rfl : y = Q := by omega
          have hqy : q ≤ (y : Int) := by rw [HQ.out]; omega
          obtain ⟨-, -, -, -, -, -, hrow, hbr, -⟩ := HG.out
          have HI2 : IsLs cur (grd p q g) := by rw [hgrd, ← hPQ]; exact HI.out
          have hlen : cur.length = n := by have h := hrow.1; rw [fl_len] at h; omega
          have hvb : vpcB p q cur = pcB p q g := by unfold vpcB pcB; rw [isLs_fin HI2, decide_eq_true (show (cur.length : Int) = p * q by rw [hlen]; exact HM.out.symm), Bool.and_true]
          have hO := row_own hrow
          obtain ⟨A, c, hv, _, _, _⟩ := id hO
          rw [fl_len] at hv
          subst hv
          have HIV := Lib.hid (ivI_any p q A c cur wr hO.rd (by omega) (isLs_lt HI2))
          rw [hvb] at HIV
          have HBW := Lib.hid (show Below w.heap.size w wr from hb0.trans (hbr.mono hb0.size))
          have HR := Lib.hid hbr
          have HO := Lib.hid hO
          have HE := Lib.hid HI2
          have hzr := hbr.size
          clear hO HI2 hbr hrow HI hlen
          go_wp2_with fail
          refine HIV.out.mono ?_
          rintro e w5 ⟨rfl, hb5⟩
          have hb6 : Below w1.heap.size w1 w5 := HR.out.trans (hb5.mono hzr)
          obtain ⟨hc6, hf6⟩ := bcell hb6
          replace r0 := (hc6 (w.heap.size + 1) 0 hlt2).trans r0
          replace r1 := (hc6 (w.heap.size + 1) 1 hlt2).trans r1
          replace r2 := (hc6 (w.heap.size + 1) 2 hlt2).trans r2
          replace e0 := (hf6 (w.heap.size + 1) 0 hlt2).trans e0
          replace e1 := (hf6 (w.heap.size + 1) 1 hlt2).trans e1
          replace e2 := (hf6 (w.heap.size + 1) 2 hlt2).trans e2
          have HO5 := Lib.hid (HO.out.below hb5)
          have hb7 : Below w.heap.size w w5 := HBW.out.trans (hb5.mono HBW.out.size)
          clear hc6 hf6 hb5 hb6
          cases hpc : pcB p q g with
          | true =>
            have heq : cur = grd p q g := isLs_eq HE.out (by unfold pcB at hpc; rw [Bool.and_eq_true] at hpc; exact hpc.2)
            have HB := Lib.hid (((hb7.setCell (p := ⟨w.heap.size + 1, 0, none⟩) (by show _ ≤ w.heap.size + 1; omega) (.int .i64 p)).setCell (p := ⟨w.heap.size + 1, 1, none⟩) (by show _ ≤ w.heap.size + 1; omega) (.int .i64 q)).setCell (p := ⟨w.heap.size + 1, 2, none⟩) (by show _ ≤ w.heap.size + 1; omega) (.slice A cur.length c))
            have HOF := Lib.hid ((((HO5.out.setLess (a := ⟨w.heap.size + 1, 0, none⟩) hlt2 (.int .i64 p)).setLess (a := ⟨w.heap.size + 1, 1, none⟩) hlt2 (.int .i64 q)).setLess (a := ⟨w.heap.size + 1, 2, none⟩) hlt2 (.slice A cur.length c)).less (lo' := w.heap.size) (by omega))
            have HPC := Lib.hid hpc
            have HEQ := Lib.hid heq
            clear hpc hb7 heq
            unfold ivV
            go_wp2_with fail
            exact bodyPost_ret (v := .tuple #[.agg #[.int .i64 p, .int .i64 q, .slice A cur.length c], .bool true]) (by simp [results, Try.results88, go_sem, r0, r1, r2]) rfl (by rw [retGr_yes HPC.out, ← HEQ.out]; exact ⟨_, rfl, HOF.out, HB.out⟩)
          | false =>
            have HB := Lib.hid (((hb7.setCell (p := ⟨w.heap.size + 1, 0, none⟩) (by show _ ≤ w.heap.size + 1; omega) (.int .i64 0)).setCell (p := ⟨w.heap.size + 1, 1, none⟩) (by show _ ≤ w.heap.size + 1; omega) (.int .i64 0)).setCell (p := ⟨w.heap.size + 1, 2, none⟩) (by show _ ≤ w.heap.size + 1; omega) (.slice none 0 0))
            have HPC := Lib.hid hpc
            clear hpc hb7
            unfold ivV
            go_wp2_with fail
            exact bodyPost_ret (v := .tuple #[.agg #[.int .i64 0, .int .i64 0, .slice none 0 0], .bool false]) (by simp [results, Try.results88, go_sem, r0, r1, r2]) rfl (by rw [retGr_no HPC.out]; exact retPc_no _ _ HB.out)
    · have hG : Gro w1 w1.heap.size (w1.heap.size) p q 0 [] (.slice (some ⟨w1.heap.size + 1, 0, none⟩) 0 n) (((w1.alloc (.cells #[.int .i64 p, .int .i64 q, .slice (some ⟨w1.heap.size + 1, 0, none⟩) 0 n] 50)).alloc (.cells (madeCells #[.float .f32 0] n) 23)).drew) := by
        refine ⟨by simp [go_sem], by simp [go_sem], by simp [go_sem], by simp [go_sem], by simp; try omega, by simp [Value.ownBlock], ?_, ?_, by simp; try omega, by omega, Nat.le_refl _⟩
        · have h := (row_low (made_row (w1.alloc (.cells #[.int .i64 p, .int .i64 q, .slice (some ⟨w1.heap.size + 1, 0, none⟩) 0 n] 50)) n hn.2) w1.heap.size (by simp)).drew
          simpa using h
        · exact below_drawn (((Below.refl _ _).alloc (Nat.le_refl _) _).alloc (by simp) _) 1
      generalize ((w1.alloc (.cells #[.int .i64 p, .int .i64 q, .slice (some ⟨w1.heap.size + 1, 0, none⟩) 0 n] 50)).alloc (.cells (madeCells #[.float .f32 0] n) 23)).drew = w2 at *
      have HG := Lib.hid hG
      clear hG
      obtain ⟨k0_, k1_, k2_, kf_, kz_, _⟩ := id HG.out
      obtain ⟨P, hP⟩ : ∃ P : Nat, p = (P : Int) := ⟨p.toNat, by omega⟩
      obtain ⟨Q, hQ⟩ : ∃ Q : Nat, q = (Q : Int) := ⟨q.toNat, by omega⟩
      have hPQ : Q * P = n := by
        have : ((Q * P : Nat) : Int) = (n : Int) := by rw [← hmul, hP, hQ, Int.mul_comm]; simp
        omega
      have hgrd : grd p q g = gl P g n := by unfold grd gl; rw [hmul, hP]; simp
      have HP := Lib.hid hP
      have HQ := Lib.hid hQ
      have HM := Lib.hid hmul
      clear hP hQ hmul
      go_wp2_with fail
      go_loopw [26] (OutRel w1 w1.heap.size (w1.heap.size) p q P Q g) (fun i _ => Q - (intOf i).toNat)
      case atStart => exact ⟨0, _, [], Nat.zero_le _, rfl, by simpa [gl] using isLs_nil, by simpa using HG.out⟩
      case round =>
        clear k0_ k1_ k2_ kf_ kz_ HG
        obtain ⟨y, v, cur, hy, rfl, hI, hG⟩ := hrel
        have HG := Lib.hid hG
        have HI := Lib.hid hI
        clear hG hI
        obtain ⟨k0_, k1_, k2_, kf_, kz_, _⟩ := id HG.out
        by_cases hlt : y < Q
        · have hyq : (y : Int) < q := by rw [HQ.out]; omega
          have hyP : y * P + P ≤ n := by rw [← hPQ, ← Nat.succ_mul]; exact Nat.mul_le_mul_right _ hlt
          go_wp2_with fail
          go_loopw [31] (InnRel w1 w1.heap.size (w1.heap.size) p q P y g) (fun i _ => P - (intOf i).toNat)
          case atStart => exact ⟨0, _, cur, Nat.zero_le _, rfl, by rw [Nat.add_zero]; exact HI.out, by rw [Nat.add_zero]; exact HG.out⟩
          case round =>
            clear k0_ k1_ k2_ kf_ kz_ HG HI
            rename_i wr0 _
            obtain ⟨x, v, cur, hx, rfl, hI, hG⟩ := hrel
            have HG := Lib.hid hG
            have HI := Lib.hid hI
            clear hG hI
            obtain ⟨k0_, k1_, k2_, kf_, kz_, _⟩ := id HG.out
            by_cases hlx : x < P
            · have hxp : (x : Int) < p := by rw [HP.out]; omega
              have HB2 := Lib.hid (hb0.trans (HG.out.2.2.2.2.2.2.2.1.mono hb0.size))
              go_wp2_with fail
              go_region_law (first | (refine step_append_lies _ rfl _ _ 22 rfl w1.heap.size 23 i0 (.float .f32 0) 1 4 Try.underlying22 hi hz0 hz1 hz2 rfl (by decide) _ _ _ rfl (HG3.out.2.2.2.2.2.2.1.alloc _) ⟨w3.heap.size, 0, none⟩ 1 1 [.float .f32 r3] rfl rfl (one_newG _ _ _) (one_cellG _) (by decide) (by unfold maxLen; omega) (by omega) (by simp; have := HG3.out.2.2.2.2.2.2.2.2.1; omega) _ rfl ?_; intro g4 cap4 w4 hown hgrow hat hlt4; obtain ⟨hG4, hc4, hf4⟩ := HG3.out.push hown hgrow hat; have HG4 := Lib.hid hG4; clear hown hgrow hat hG4) | (go_simp; go_at_call 89; refine (HC.out x y _ ?_ hxp hyq).mono ?_; exact below_drawn HB2.out 1; rintro e w3 ⟨r3, rfl, hr3, hb3⟩; have HG3 := Lib.hid (HG.out.step (below_draw1 hb3)); have cq := HG3.out.2.2.1; have cz := HG3.out.2.2.2.2.1))
              all_goals go_wp2_with fail
              all_goals go_roundw
              all_goals try (first
                | (refine ⟨x + 1, _, cur ++ [r3], by omega, by go_num, ?_, HG4.out⟩; have hq := isLs_app HI.out hr3; rw [show y * P + (x + 1) = (y * P + x) + 1 by omega, gl_push hlx]; exact hq)
                | (simp [intOf]; omega))
            · obtain rfl : x = P := by omega
              have hpx : p ≤ (x : Int) := by rw [HP.out]; omega
              go_wp2_with fail
              go_roundw
              case rel => exact ⟨y + 1, v, cur, by omega, by go_num, by rw [Nat.succ_mul]; exact HI.out, by rw [Nat.succ_mul]; exact HG.out⟩
              case measure => simp [intOf]; omega
        · obtain rfl : y = Q := by omega
          have hqy : q ≤ (y : Int) := by rw [HQ.out]; omega
          obtain ⟨-, -, -, -, -, -, hrow, hbr, -⟩ := HG.out
          have HI2 : IsLs cur (grd p q g) := by rw [hgrd, ← hPQ]; exact HI.out
          have hlen : cur.length = n := by have h := hrow.1; rw [fl_len] at h; omega
          have hvb : vpcB p q cur = pcB p q g := by unfold vpcB pcB; rw [isLs_fin HI2, decide_eq_true (show (cur.length : Int) = p * q by rw [hlen]; exact HM.out.symm), Bool.and_true]
          have hO := row_own hrow
          obtain ⟨A, c, hv, _, _, _⟩ := id hO
          rw [fl_len] at hv
          subst hv
          have HIV := Lib.hid (ivI_any p q A c cur wr hO.rd (by omega) (isLs_lt HI2))
          rw [hvb] at HIV
          have HBW := Lib.hid (show Below w.heap.size w wr from hb0.trans (hbr.mono hb0.size))
          have HR := Lib.hid hbr
          have HO := Lib.hid hO
          have HE := Lib.hid HI2
          have hzr := hbr.size
          clear hO HI2 hbr hrow HI hlen
          go_wp2_with fail
          refine HIV.out.mono ?_
          rintro e w5 ⟨rfl, hb5⟩
          have hb6 : Below w1.heap.size w1 w5 := HR.out.trans (hb5.mono hzr)
          obtain ⟨hc6, hf6⟩ := bcell hb6
          replace r0 := (hc6 (w.heap.size + 1) 0 hlt2).trans r0
          replace r1 := (hc6 (w.heap.size + 1) 1 hlt2).trans r1
          replace r2 := (hc6 (w.heap.size + 1) 2 hlt2).trans r2
          replace e0 := (hf6 (w.heap.size + 1) 0 hlt2).trans e0
          replace e1 := (hf6 (w.heap.size + 1) 1 hlt2).trans e1
          replace e2 := (hf6 (w.heap.size + 1) 2 hlt2).trans e2
          have HO5 := Lib.hid (HO.out.below hb5)
          have hb7 : Below w.heap.size w w5 := HBW.out.trans (hb5.mono HBW.out.size)
          clear hc6 hf6 hb5 hb6
          cases hpc : pcB p q g with
          | true =>
            have heq : cur = grd p q g := isLs_eq HE.out (by unfold pcB at hpc; rw [Bool.and_eq_true] at hpc; exact hpc.2)
            have HB := Lib.hid (((hb7.setCell (p := ⟨w.heap.size + 1, 0, none⟩) (by show _ ≤ w.heap.size + 1; omega) (.int .i64 p)).setCell (p := ⟨w.heap.size + 1, 1, none⟩) (by show _ ≤ w.heap.size + 1; omega) (.int .i64 q)).setCell (p := ⟨w.heap.size + 1, 2, none⟩) (by show _ ≤ w.heap.size + 1; omega) (.slice A cur.length c))
            have HOF := Lib.hid ((((HO5.out.setLess (a := ⟨w.heap.size + 1, 0, none⟩) hlt2 (.int .i64 p)).setLess (a := ⟨w.heap.size + 1, 1, none⟩) hlt2 (.int .i64 q)).setLess (a := ⟨w.heap.size + 1, 2, none⟩) hlt2 (.slice A cur.length c)).less (lo' := w.heap.size) (by omega))
            have HPC := Lib.hid hpc
            have HEQ := Lib.hid heq
            clear hpc hb7 heq
            unfold ivV
            go_wp2_with fail
            exact bodyPost_ret (v := .tuple #[.agg #[.int .i64 p, .int .i64 q, .slice A cur.length c], .bool true]) (by simp [results, Try.results88, go_sem, r0, r1, r2]) rfl (by rw [retGr_yes HPC.out, ← HEQ.out]; exact ⟨_, rfl, HOF.out, HB.out⟩)
          | false =>
            have HB := Lib.hid (((hb7.setCell (p := ⟨w.heap.size + 1, 0, none⟩) (by show _ ≤ w.heap.size + 1; omega) (.int .i64 0)).setCell (p := ⟨w.heap.size + 1, 1, none⟩) (by show _ ≤ w.heap.size + 1; omega) (.int .i64 0)).setCell (p := ⟨w.heap.size + 1, 2, none⟩) (by show _ ≤ w.heap.size + 1; omega) (.slice none 0 0))
            have HPC := Lib.hid hpc
            clear hpc hb7
            unfold ivV
            go_wp2_with fail
            exact bodyPost_ret (v := .tuple #[.agg #[.int .i64 0, .int .i64 0, .slice none 0 0], .bool false]) (by simp [results, Try.results88, go_sem, r0, r1, r2]) rfl (by rw [retGr_no HPC.out]; exact retPc_no _ _ HB.out)
end Go.Proofs.Ytfbdmhkmkmbipaa
