/-
  Contract: RoughestPlace of the program.
-/
import Derived.Test.YtfbdmhkmkmbipaaRpK
import Derived.Test.YtfbdmhkmkmbipaaFip
import Derived.Test.YtfbdmhkmkmbipaaAbs
import Derived.Test.YtfbdmhkmkmbipaaRgi
import Derived.Test.YtfbdmhkmkmbipaaPv
import Derived.Deep.QuietTactic
import Derived.BigQuiet
namespace Go.Proofs.Ytfbdmhkmkmbipaa
open Go.RowKit Fl
set_option linter.unusedVariables false
set_option maxRecDepth 100000
def RhRel (w0 : World) (f : Nat → Nat) (M : List Nat) (a i : Value) (wr : World) : Prop := ∃ j N : Nat, j ≤ M.length ∧ i = .int .i64 j ∧ a = .int .i64 (rgP f M j : Nat) ∧ wr = w0.drewN N
set_option maxHeartbeats 8000000 in
theorem rghI_any (v : Value) (p q : Int) (xs : List Nat) (l : Int) (w : World) (h : Rd w w.heap.size v (fl xs)) (hm : xs.length ≤ 1048576) (hx : ∀ x ∈ xs, x < 2 ^ 32) :
    Calls Try.prog 54 #[.agg #[.int .i64 p, .int .i64 q, v], .int .i64 l] w (RetRp p q xs l w) := by
  obtain ⟨A, c, hv, hnc, hcm, hcell⟩ := id h
  rw [fl_len] at hv hnc hcell
  subst hv
  obtain ⟨w0, hw0⟩ : ∃ w0, w.alloc (.cells #[.int .i64 p, .int .i64 q, .slice A xs.length c] 50) = w0 := ⟨_, rfl⟩
  have hb0 : Below w.heap.size w w0 := by rw [← hw0]; exact (Below.refl _ _).alloc (Nat.le_refl _) _
  have hlt : w.heap.size < w0.heap.size := by rw [← hw0]; simp
  have x0 : w0.cell? ⟨w.heap.size, 0, none⟩ = some (.int .i64 p) := by rw [← hw0]; simp [go_sem]
  have x1 : w0.cell? ⟨w.heap.size, 1, none⟩ = some (.int .i64 q) := by rw [← hw0]; simp [go_sem]
  have x2 : w0.cell? ⟨w.heap.size, 2, none⟩ = some (.slice A xs.length c) := by rw [← hw0]; simp [go_sem]
  have HV := Lib.hid (vpI_any (.slice A xs.length c) p q xs w0 (h.step hb0) hm hx)
  have HL := Lib.hid (fun W => (show Calls Try.prog 102 #[.int .i64 l] W fun e w' => e = .returned (.bool (lvB l)) ∧ W = w' from lvI_any l W))
  have HB0 := Lib.hid hb0
  have HC := Lib.hid hcell
  have HXX := Lib.hid hx
  clear hb0 h hx hcell
  cases hs : vpcB p q xs with
  | false =>
    have HN := Lib.hid (fun (w' : World) (hb : Below w.heap.size w w') => retRp_no (show rpB p q xs l = false by unfold rpB; rw [hs]; rfl) hb)
    rw [hs] at HV
    clear hs
    go_enter Try.func54, Try.ntmps54
    go_wp2_with fail
    with_reducible refine HV.out.mono ?_
    rintro e w1 ⟨rfl, hb1⟩
    have HB1 := Lib.hid (HB0.out.trans (hb1.mono HB0.out.size))
    replace x0 := (hb1.cell (p := ⟨w.heap.size, 0, none⟩) hlt).trans x0
    replace x1 := (hb1.cell (p := ⟨w.heap.size, 1, none⟩) hlt).trans x1
    replace x2 := (hb1.cell (p := ⟨w.heap.size, 2, none⟩) hlt).trans x2
    replace hlt : w.heap.size < w1.heap.size := Nat.lt_of_lt_of_le hlt hb1.size
    clear hb1 hw0
    go_wp2_with fail
    exact bodyPost_ret (by simp [results, Try.results54, go_sem]) rfl (HN.out _ HB1.out)
  | true =>
    rw [hs] at HV
    cases hll : lvB l with
    | false =>
      have HN := Lib.hid (fun (w' : World) (hb : Below w.heap.size w w') => retRp_no (show rpB p q xs l = false by unfold rpB; rw [hll]; simp) hb)
      rw [hll] at HL
      clear hs hll
      go_enter Try.func54, Try.ntmps54
      go_wp2_with fail
      with_reducible refine HV.out.mono ?_
      rintro e w1 ⟨rfl, hb1⟩
      have HB1 := Lib.hid (HB0.out.trans (hb1.mono HB0.out.size))
      replace x0 := (hb1.cell (p := ⟨w.heap.size, 0, none⟩) hlt).trans x0
      replace x1 := (hb1.cell (p := ⟨w.heap.size, 1, none⟩) hlt).trans x1
      replace x2 := (hb1.cell (p := ⟨w.heap.size, 2, none⟩) hlt).trans x2
      replace hlt : w.heap.size < w1.heap.size := Nat.lt_of_lt_of_le hlt hb1.size
      clear hb1 hw0
      go_wp2_with fail
      with_reducible refine (HL.out _).mono ?_
      rintro e w2 ⟨rfl, hw2⟩
      subst hw2
      go_wp2_with fail
      exact bodyPost_ret (by simp [results, Try.results54, go_sem]) rfl (HN.out _ HB1.out)
    | true =>
      rw [hll] at HL
      obtain ⟨b1, b2, hl, hfin⟩ := vpcB_out hs
      have hbd := mul_bd b1 b2
      have hl4 := of_decide_eq_true hll
      obtain ⟨L, rfl⟩ : ∃ L : Nat, l = (L : Int) := ⟨l.toNat, by omega⟩
      have hn : (p * q).toNat = xs.length := by omega
      have hx256 : xs.length ≤ 256 := by omega
      obtain ⟨bk, off, rfl, hbw, hcells⟩ := HC.out (by omega)
      have HSRC := Lib.hid (show ∀ (i : Nat) (h : i < xs.length), w.cell? ⟨bk, off + i, none⟩ = some (.float .f32 (xs.getD i 0)) from fun i hi => by have := hcells i _ (fl_get xs i hi); simpa [List.getD, hi] using this)
      have HFX := Lib.hid (fun i => getD_finR hfin i)
      clear hcells HC hfin
      obtain ⟨M, hM⟩ : ∃ M, M = rpL p q (L : Int) := ⟨_, rfl⟩
      have hML : M = fiN (csB p q L) xs.length := by rw [hM, ← hn]; rfl
      have hMl : M.length ≤ xs.length := by rw [hML]; exact fiN_len _ _
      have HFI := Lib.hid (fun W => (show Calls Try.prog 115 #[.agg #[.int .i64 p, .int .i64 q], .int .i64 (L : Int)] W (RetJ1 (M.map fun i : Nat => (i : Int)) W) by rw [hML, ← hn]; exact fiI_any p q L W b1 b2 (by omega)))
      have HMX := Lib.hid (show ∀ i ∈ M, i < xs.length from fun i hi => by rw [hML] at hi; exact List.mem_range.1 (List.mem_filter.1 hi).1)
      by_cases hE : M = []
      · have HN := Lib.hid (fun (w' : World) (hb : Below w.heap.size w w') => retRp_no (show rpB p q xs (L : Int) = false by unfold rpB; rw [← hM, hE]; simp) hb)
        have hl0 : M.length = 0 := by rw [hE]; rfl
        clear hs hll hM hML hl hbd hn hE
        go_enter Try.func54, Try.ntmps54
        go_wp2_with fail
        with_reducible refine HV.out.mono ?_
        rintro e w1 ⟨rfl, hb1⟩
        have HB1 := Lib.hid (HB0.out.trans (hb1.mono HB0.out.size))
        replace x0 := (hb1.cell (p := ⟨w.heap.size, 0, none⟩) hlt).trans x0
        replace x1 := (hb1.cell (p := ⟨w.heap.size, 1, none⟩) hlt).trans x1
        replace x2 := (hb1.cell (p := ⟨w.heap.size, 2, none⟩) hlt).trans x2
        replace hlt : w.heap.size < w1.heap.size := Nat.lt_of_lt_of_le hlt hb1.size
        clear hb1 hw0
        go_wp2_with fail
        with_reducible refine (HL.out _).mono ?_
        rintro e w2 ⟨rfl, hw2⟩
        subst hw2
        go_wp2_with fail
        with_reducible refine (sid_any p q (some ⟨bk, off, none⟩) xs.length c _).mono ?_
        rintro e w3 ⟨rfl, hb3⟩
        replace x0 := (hb3.cell (p := ⟨w.heap.size, 0, none⟩) hlt).trans x0
        replace x1 := (hb3.cell (p := ⟨w.heap.size, 1, none⟩) hlt).trans x1
        replace x2 := (hb3.cell (p := ⟨w.heap.size, 2, none⟩) hlt).trans x2
        replace hlt : w.heap.size < w3.heap.size := Nat.lt_of_lt_of_le hlt hb3.size
        have HB3 := Lib.hid (HB1.out.trans (hb3.mono HB1.out.size))
        clear hb3
        go_wp2_with fail
        with_reducible refine (HFI.out _).mono ?_
        rintro e w4 ⟨v, rfl, ho4, hb4⟩
        replace x0 := (hb4.cell (p := ⟨w.heap.size, 0, none⟩) hlt).trans x0
        replace x1 := (hb4.cell (p := ⟨w.heap.size, 1, none⟩) hlt).trans x1
        replace x2 := (hb4.cell (p := ⟨w.heap.size, 2, none⟩) hlt).trans x2
        replace hlt : w.heap.size < w4.heap.size := Nat.lt_of_lt_of_le hlt hb4.size
        have HB4 := Lib.hid (HB3.out.trans (hb4.mono HB3.out.size))
        clear hb4
        obtain ⟨A5, c5, hv5, hn5, hm5, hcell5⟩ := id ho4
        rw [show (il (M.map fun i : Nat => (i : Int))).length = M.length by simp [il]] at hv5 hn5 hcell5
        subst hv5
        clear hcell5 ho4
        rw [hl0]
        go_wp2_with fail
        exact bodyPost_ret (by simp [results, Try.results54, go_sem]) rfl (HN.out _ HB4.out)
      · have HY := Lib.hid (fun (w' : World) (hb : Below w.heap.size w w') => retRp_yes (show rpB p q xs (L : Int) = true by unfold rpB; rw [hs, hll, ← hM]; cases M with | nil => exact absurd rfl hE | cons a t => rfl) hb)
        unfold rpA at HY
        rw [← hM] at HY
        have hm0 : 1 ≤ M.length := List.length_pos_iff.2 hE
        have HPL := Lib.hid (fun j hj => rgP_lt (rpF xs) hE HMX.out j hj)
        have HPA := Lib.hid (rgP_all (rpF xs) hE)
        have HP0 := Lib.hid (show rgP (rpF xs) M 0 = M[0] by have hm0p : 0 < M.length := hm0; simp [rgP, hm0p])
        rw [← HPA.out] at HY
        clear hs hll hM hML hl hbd hn hE
        go_enter Try.func54, Try.ntmps54
        go_wp2_with fail
        with_reducible refine HV.out.mono ?_
        rintro e w1 ⟨rfl, hb1⟩
        have HB1 := Lib.hid (HB0.out.trans (hb1.mono HB0.out.size))
        replace x0 := (hb1.cell (p := ⟨w.heap.size, 0, none⟩) hlt).trans x0
        replace x1 := (hb1.cell (p := ⟨w.heap.size, 1, none⟩) hlt).trans x1
        replace x2 := (hb1.cell (p := ⟨w.heap.size, 2, none⟩) hlt).trans x2
        replace hlt : w.heap.size < w1.heap.size := Nat.lt_of_lt_of_le hlt hb1.size
        clear hb1 hw0
        go_wp2_with fail
        with_reducible refine (HL.out _).mono ?_
        rintro e w2 ⟨rfl, hw2⟩
        subst hw2
        go_wp2_with fail
        with_reducible refine (sid_any p q (some ⟨bk, off, none⟩) xs.length c _).mono ?_
        rintro e w3 ⟨rfl, hb3⟩
        replace x0 := (hb3.cell (p := ⟨w.heap.size, 0, none⟩) hlt).trans x0
        replace x1 := (hb3.cell (p := ⟨w.heap.size, 1, none⟩) hlt).trans x1
        replace x2 := (hb3.cell (p := ⟨w.heap.size, 2, none⟩) hlt).trans x2
        replace hlt : w.heap.size < w3.heap.size := Nat.lt_of_lt_of_le hlt hb3.size
        have HB3 := Lib.hid (HB1.out.trans (hb3.mono HB1.out.size))
        clear hb3
        go_wp2_with fail
        with_reducible refine (HFI.out _).mono ?_
        rintro e w4 ⟨v, rfl, ho4, hb4⟩
        replace x0 := (hb4.cell (p := ⟨w.heap.size, 0, none⟩) hlt).trans x0
        replace x1 := (hb4.cell (p := ⟨w.heap.size, 1, none⟩) hlt).trans x1
        replace x2 := (hb4.cell (p := ⟨w.heap.size, 2, none⟩) hlt).trans x2
        replace hlt : w.heap.size < w4.heap.size := Nat.lt_of_lt_of_le hlt hb4.size
        have HB4 := Lib.hid (HB3.out.trans (hb4.mono HB3.out.size))
        clear hb4
        obtain ⟨A5, c5, hv5, hn5, hm5, hcell5⟩ := id ho4
        rw [show (il (M.map fun i : Nat => (i : Int))).length = M.length by simp [il]] at hv5 hn5 hcell5
        subst hv5
        obtain ⟨b5, o5, rfl, hlo5, hbw5, hcc5, hff5⟩ := hcell5 (by omega)
        have HMC := Lib.hid (show ∀ (j : Nat) (h : j < M.length), w4.cell? ⟨b5, o5 + j, none⟩ = some (.int .i64 ((M[j] : Nat) : Int)) from fun j h => hcc5 j _ (by simp [il, h]))
        clear hcc5 hff5 ho4 hbw5 hlo5
        have hSR : ∀ (i : Nat) (h : i < xs.length), w4.cell? ⟨bk, off + i, none⟩ = some (.float .f32 (xs.getD i 0)) := fun i hi => (HB4.out.cell (p := ⟨bk, off + i, none⟩) hbw).trans (HSRC.out i hi)
        have HSR := Lib.hid hSR
        clear hSR
        have HBE := Lib.hid (fun n => below_drawn HB4.out n)
        have hm00 : ¬ M.length = 0 := by omega
        have hm01 : ¬ (M.length : Int) = 0 := by omega
        have hbe : ((M.length : Int) == 0) = false := by rw [beq_eq_false_iff_ne]; exact hm01
        have hz0 : w4.cell? ⟨b5, o5, none⟩ = some (.int .i64 ((M[0] : Nat) : Int)) := HMC.out 0 (by omega)
        have hm1i : (0 : Int) < (M.length : Int) := by omega
        go_wp2_with fail
        skip
        go_loopw [9, 32] (RhRel w4 (rpF xs) M) (fun _ i _ => M.length - (intOf i).toNat)
        case atStart => exact ⟨0, 0, Nat.zero_le _, rfl, by rw [HP0.out], rfl⟩
        case round =>
          clear hz0
          obtain ⟨j, N, hj, rfl, rfl, rfl⟩ := hrel
          by_cases hjm : j < M.length
          · have hmc := HMC.out j hjm
            have hiM := HMX.out _ (List.getElem_mem hjm)
            have haM := HPL.out j (by omega)
            have hst : rgP (rpF xs) M (j + 1) = if gt32 (xs.getD M[j] 0 % 2 ^ 31) (xs.getD (rgP (rpF xs) M j) 0 % 2 ^ 31) then M[j] else rgP (rpF xs) M j := rgP_succ (rpF xs) hjm
            have HST := Lib.hid hst
            clear hst
            have hs1 := HSR.out _ hiM
            have hs2 := HSR.out _ haM
            have HQ1 := Lib.hid (fun a => (absI_fin (xs.getD M[j] 0) (w4.drewN (N + a)) (HFX.out _)).mono (R' := fun e w'' => e = .returned (.float .f32 (xs.getD M[j] 0 % 2 ^ 31)) ∧ ∃ q, w'' = w4.drewN (N + q)) fun e w' ⟨he, n, hw⟩ => ⟨he, a + n, by rw [hw, World.drewN_drewN, Nat.add_assoc]⟩)
            have HQ2 := Lib.hid (fun a => (absI_fin (xs.getD (rgP (rpF xs) M j) 0) (w4.drewN (N + a)) (HFX.out _)).mono (R' := fun e w'' => e = .returned (.float .f32 (xs.getD (rgP (rpF xs) M j) 0 % 2 ^ 31)) ∧ ∃ q, w'' = w4.drewN (N + q)) fun e w' ⟨he, n, hw⟩ => ⟨he, a + n, by rw [hw, World.drewN_drewN, Nat.add_assoc]⟩)
            generalize rgP (rpF xs) M j = a at *
            generalize M[j] = i at *
            generalize xs.getD i 0 = u at *
            generalize xs.getD a 0 = t at *
            generalize u % 2 ^ 31 = X at *
            generalize t % 2 ^ 31 = Y at *
            have hii : (i : Int) < (xs.length : Int) := by omega
            have hai : (a : Int) < (xs.length : Int) := by omega
            have hji : (j : Int) < (M.length : Int) := by omega
            cases hg : gt32 X Y with
            | true =>
              have hg' : (FloatKind.f32.format.order X Y == some .gt) = true := hg
              rw [hg] at HST
              clear hg
              go_wp2_with fail
              go_quiet ((first | with_reducible exact HQ1.out _ | with_reducible exact HQ2.out _))
              go_wp2
              go_roundw
              case rel => exact ⟨j + 1, _, by omega, by go_num, by rw [HST.out]; rfl, by first | rfl | rw [World.drewN_drewN]⟩
              case measure => simp [intOf]; omega
            | false =>
              have hg' : (FloatKind.f32.format.order X Y == some .gt) = false := hg
              rw [hg] at HST
              clear hg
              go_wp2_with fail
              go_quiet ((first | with_reducible exact HQ1.out _ | with_reducible exact HQ2.out _))
              go_wp2
              go_roundw
              case rel => exact ⟨j + 1, _, by omega, by go_num, by rw [HST.out]; rfl, by first | rfl | rw [World.drewN_drewN]⟩
              case measure => simp [intOf]; omega
          · obtain rfl : j = M.length := by omega
            have haM := HPL.out M.length (Nat.le_refl _)
            have hs2 := HSR.out _ haM
            obtain ⟨P, rfl⟩ : ∃ P : Nat, p = (P : Int) := ⟨p.toNat, by omega⟩
            rw [Int.toNat_natCast] at HY
            have HYF := Lib.hid (show rpF xs (rgP (rpF xs) M M.length) = xs.getD (rgP (rpF xs) M M.length) 0 % 2 ^ 31 from rfl)
            rw [HYF.out] at HY
            have HQ2 := Lib.hid (fun a => (absI_fin (xs.getD (rgP (rpF xs) M M.length) 0) (w4.drewN (N + a)) (HFX.out _)).mono (R' := fun e w'' => e = .returned (.float .f32 (xs.getD (rgP (rpF xs) M M.length) 0 % 2 ^ 31)) ∧ ∃ q, w'' = w4.drewN (N + q)) fun e w' ⟨he, n, hw⟩ => ⟨he, a + n, by rw [hw, World.drewN_drewN, Nat.add_assoc]⟩)
            clear HYF HPL HPA HP0
            generalize rgP (rpF xs) M M.length = a at *
            generalize xs.getD a 0 = t at *
            generalize t % 2 ^ 31 = Y at *
            have hpz : ¬ (P : Int) = 0 := by omega
            have hpzN : ¬ P = 0 := by omega
            have hrem : (a : Int).tmod (P : Int) = ((a % P : Nat) : Int) := by rw [Int.tmod_eq_emod_of_nonneg (by omega)]; simp
            have hquo : (a : Int).tdiv (P : Int) = ((a / P : Nat) : Int) := by rw [Int.tdiv_eq_ediv_of_nonneg (by omega)]; simp
            have hql : a / P ≤ a := Nat.div_le_self _ _
            generalize a % P = x at *
            generalize a / P = y at *
            have hyw : IntKind.i64.wrap (y : Int) = (y : Int) := by rw [IntKind.wrap_i64]; omega
            have hai : (a : Int) < (xs.length : Int) := by omega
            go_wp2_with fail
            go_quiet (exact HQ2.out _)
            go_wp2
            exact bodyPost_ret (by simp [results, Try.results54, go_sem]) rfl (HY.out _ (by first | exact HBE.out _ | (rw [World.drewN_drewN]; exact HBE.out _)))
end Go.Proofs.Ytfbdmhkmkmbipaa
