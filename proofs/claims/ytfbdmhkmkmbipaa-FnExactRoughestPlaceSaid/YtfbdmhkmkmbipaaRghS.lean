/-
  Contract: RoughestPlace of the model.
-/
import Derived.Test.YtfbdmhkmkmbipaaRpK
import Derived.Test.YtfbdmhkmkmbipaaCoS
import Derived.Test.YtfbdmhkmkmbipaaPv
import Derived.Deep.QuietTactic
import Derived.BigQuiet
namespace Go.Proofs.Ytfbdmhkmkmbipaa
open Go.RowKit Fl
set_option linter.unusedVariables false
set_option maxRecDepth 100000
def RmRel (w0 : World) (f : Nat → Nat) (c : Nat → Bool) (n : Nat) (a m i : Value) (wr : World) : Prop := ∃ k N : Nat, k ≤ n ∧ i = .int .i64 k ∧ a = .int .i64 (rmI f (fiN c k)) ∧ m = .float .f32 (rmC f (fiN c k)) ∧ wr = w0.drewN N
set_option maxHeartbeats 8000000 in
theorem rghS_any (v : Value) (p q : Int) (xs : List Nat) (l : Int) (w : World) (h : Rd w w.heap.size v (fl xs)) (hm : xs.length ≤ 1048576) (hx : ∀ x ∈ xs, x < 2 ^ 32) :
    Calls Try.prog 53 #[.agg #[.int .i64 p, .int .i64 q, v], .int .i64 l] w (RetRp p q xs l w) := by
  obtain ⟨A, c, hv, hnc, hcm, hcell⟩ := id h
  rw [fl_len] at hv hnc hcell
  subst hv
  obtain ⟨w0, hw0⟩ : ∃ w0, w.alloc (.cells #[.int .i64 p, .int .i64 q, .slice A xs.length c] 50) = w0 := ⟨_, rfl⟩
  have hb0 : Below w.heap.size w w0 := by rw [← hw0]; exact (Below.refl _ _).alloc (Nat.le_refl _) _
  have hlt : w.heap.size < w0.heap.size := by rw [← hw0]; simp
  have x0 : w0.cell? ⟨w.heap.size, 0, none⟩ = some (.int .i64 p) := by rw [← hw0]; simp [go_sem]
  have x1 : w0.cell? ⟨w.heap.size, 1, none⟩ = some (.int .i64 q) := by rw [← hw0]; simp [go_sem]
  have x2 : w0.cell? ⟨w.heap.size, 2, none⟩ = some (.slice A xs.length c) := by rw [← hw0]; simp [go_sem]
  have HV := Lib.hid (vpP_any w.heap.size (.slice A xs.length c) p q xs w0 w.heap.size (h.below hb0) x0 x1 x2 hm hx)
  have HL := Lib.hid (fun W => (show Calls Try.prog 95 #[.int .i64 l] W fun e w' => e = .returned (.bool (lvB l)) ∧ W = w' from lvS_any l W))
  have HB0 := Lib.hid hb0
  have HC := Lib.hid hcell
  have HXX := Lib.hid hx
  clear hb0 h hx hcell
  cases hs : vpcB p q xs with
  | false =>
    have HN := Lib.hid (fun (w' : World) (hb : Below w.heap.size w w') => retRp_no (show rpB p q xs l = false by unfold rpB; rw [hs]; rfl) hb)
    rw [hs] at HV
    clear hs
    go_enter Try.func53, Try.ntmps53
    go_wp2_with fail
    with_reducible refine HV.out.mono ?_
    rintro e w1 ⟨rfl, n1, hw1⟩
    have hb1 : Below w0.heap.size w0 w1 := by rw [hw1]; exact below_drawn (Below.refl _ _) _
    have HB1 := Lib.hid (HB0.out.trans (hb1.mono HB0.out.size))
    replace x0 := (hb1.cell (p := ⟨w.heap.size, 0, none⟩) hlt).trans x0
    replace x1 := (hb1.cell (p := ⟨w.heap.size, 1, none⟩) hlt).trans x1
    replace x2 := (hb1.cell (p := ⟨w.heap.size, 2, none⟩) hlt).trans x2
    replace hlt : w.heap.size < w1.heap.size := Nat.lt_of_lt_of_le hlt hb1.size
    clear hb1 hw1 hw0
    go_wp2_with fail
    exact bodyPost_ret (by simp [results, Try.results53, go_sem]) rfl (HN.out _ HB1.out)
  | true =>
    rw [hs] at HV
    cases hll : lvB l with
    | false =>
      have HN := Lib.hid (fun (w' : World) (hb : Below w.heap.size w w') => retRp_no (show rpB p q xs l = false by unfold rpB; rw [hll]; simp) hb)
      rw [hll] at HL
      clear hs hll
      go_enter Try.func53, Try.ntmps53
      go_wp2_with fail
      with_reducible refine HV.out.mono ?_
      rintro e w1 ⟨rfl, n1, hw1⟩
      have hb1 : Below w0.heap.size w0 w1 := by rw [hw1]; exact below_drawn (Below.refl _ _) _
      have HB1 := Lib.hid (HB0.out.trans (hb1.mono HB0.out.size))
      replace x0 := (hb1.cell (p := ⟨w.heap.size, 0, none⟩) hlt).trans x0
      replace x1 := (hb1.cell (p := ⟨w.heap.size, 1, none⟩) hlt).trans x1
      replace x2 := (hb1.cell (p := ⟨w.heap.size, 2, none⟩) hlt).trans x2
      replace hlt : w.heap.size < w1.heap.size := Nat.lt_of_lt_of_le hlt hb1.size
      clear hb1 hw1 hw0
      go_wp2_with fail
      with_reducible refine (HL.out _).mono ?_
      rintro e w2 ⟨rfl, hw2⟩
      subst hw2
      go_wp2_with fail
      exact bodyPost_ret (by simp [results, Try.results53, go_sem]) rfl (HN.out _ HB1.out)
    | true =>
      rw [hll] at HL
      obtain ⟨b1, b2, hl, hfin⟩ := vpcB_out hs
      have hbd := mul_bd b1 b2
      have hl4 := of_decide_eq_true hll
      obtain ⟨L, rfl⟩ : ∃ L : Nat, l = (L : Int) := ⟨l.toNat, by omega⟩
      have hn : (p * q).toNat = xs.length := by omega
      have hx256 : xs.length ≤ 256 := by omega
      obtain ⟨bk, off, rfl, hbw, hcells⟩ := HC.out (by omega)
      have HSRC := Lib.hid (show ∀ (i : Nat) (h : i < xs.length), w.cell? ⟨bk, off + i, none⟩ = some (.float .f32 (xs.getD i 0)) from fun i hi => by have := hcells i _ (fl_get xs i hi); simpa [List.getD, hi] using this)
      have HFX := Lib.hid (fun i => getD_finR hfin i)
      clear hcells HC hfin
      obtain ⟨M, hM⟩ : ∃ M, M = rpL p q (L : Int) := ⟨_, rfl⟩
      have hML : M = fiN (csB p q L) xs.length := by rw [hM, ← hn]; rfl
      have hMl : M.length ≤ xs.length := by rw [hML]; exact fiN_len _ _
      have HCS := Lib.hid (fun (W : World) (k : Nat) (hk : k < xs.length) (h0 : W.cell? ⟨w.heap.size, 0, none⟩ = some (.int .i64 p)) (h1 : W.cell? ⟨w.heap.size, 1, none⟩ = some (.int .i64 q)) => csS_any w.heap.size p q L k W b1 b2 (by omega) (by omega) h0 h1)
      have HGX := Lib.hid (fun i => getD_ltR HXX.out i)
      generalize hcc : csB p q L = cc at *
      have HRP := Lib.hid (show rpB p q xs (L : Int) = !M.isEmpty by unfold rpB; rw [hs, hll, ← hM]; rfl)
      have HRA := Lib.hid (show rpA p q xs (L : Int) = rgK (rpF xs) M by unfold rpA; rw [← hM])
      have hpq : p * q = (xs.length : Int) := hl.symm
      have hpqw : IntKind.i64.wrap (p * q) = (xs.length : Int) := by rw [hpq, IntKind.wrap_i64]; omega
      have HMN := Lib.hid hML
      clear hs hll hM hML hl hbd hn hpq hcc
      go_enter Try.func53, Try.ntmps53
      go_wp2_with fail
      with_reducible refine HV.out.mono ?_
      rintro e w1 ⟨rfl, n1, hw1⟩
      have hb1 : Below w0.heap.size w0 w1 := by rw [hw1]; exact below_drawn (Below.refl _ _) _
      have HB1 := Lib.hid (HB0.out.trans (hb1.mono HB0.out.size))
      replace x0 := (hb1.cell (p := ⟨w.heap.size, 0, none⟩) hlt).trans x0
      replace x1 := (hb1.cell (p := ⟨w.heap.size, 1, none⟩) hlt).trans x1
      replace x2 := (hb1.cell (p := ⟨w.heap.size, 2, none⟩) hlt).trans x2
      replace hlt : w.heap.size < w1.heap.size := Nat.lt_of_lt_of_le hlt hb1.size
      clear hb1 hw1 hw0
      go_wp2_with fail
      with_reducible refine (HL.out _).mono ?_
      rintro e w2 ⟨rfl, hw2⟩
      subst hw2
      have HSR := Lib.hid (fun (i : Nat) (hi : i < xs.length) => (HB1.out.cell (p := ⟨bk, off + i, none⟩) hbw).trans (HSRC.out i hi))
      have HBE := Lib.hid (fun n => below_drawn HB1.out n)
      go_wp2_with fail
      go_loopw [8, 9, 10] (RmRel w1 (rpF xs) cc xs.length) (fun _ _ i _ => xs.length - (intOf i).toNat)
      case atStart => exact ⟨0, 0, Nat.zero_le _, rfl, rfl, rfl, rfl⟩
      case round =>
        obtain ⟨k, N, hk, rfl, rfl, rfl, rfl⟩ := hrel
        by_cases hkn : k < xs.length
        · have hsk := HSR.out k hkn
          have hkni : (k : Int) < (xs.length : Int) := by omega
          have HS := Lib.hid (siz2_any (xs.getD k 0) (w1.drewN N) (HGX.out k) (HFX.out k))
          have HQ := Lib.hid (fun m => HCS.out (w1.drewN m) k hkn x0 x1)
          have HFK := Lib.hid (show rpF xs k = xs.getD k 0 % 2 ^ 31 from rfl)
          rw [← HFK.out] at HS
          generalize hfk : rpF xs k = X at *
          have HFE := Lib.hid hfk
          clear hfk
          generalize xs.getD k 0 = u at *
          cases hck : cc k with
          | true =>
            have HCK := Lib.hid hck
            have HF := Lib.hid (fiN_yes hck)
            clear hck
            skip
            obtain ⟨bi, hbi⟩ : ∃ x, x = rmI (rpF xs) (fiN cc k) := ⟨_, rfl⟩
            obtain ⟨bc, hbc⟩ : ∃ x, x = rmC (rpF xs) (fiN cc k) := ⟨_, rfl⟩
            rw [← hbi, ← hbc]
            have HBI := Lib.hid hbi
            have HBC := Lib.hid hbc
            clear hbi hbc
            go_wp2_with fail
            with_reducible refine HS.out.mono ?_
            rintro e w3 ⟨rfl, m1, rfl⟩
            go_wp2_with fail
            with_reducible refine (HQ.out (N + m1)).mono ?_
            rintro e w4 ⟨rfl, m2, rfl⟩
            rw [HCK.out]
            go_wp2_with fail
            go_roundw
            case rel => exact ⟨k + 1, _, by omega, by go_num, by rw [HF.out, ← HBI.out], by rw [HF.out, ← HBC.out], by first | rw [World.drewN_drewN, World.drewN_drewN] | rw [World.drewN_drewN] | rfl⟩
            case measure => simp [intOf]; omega
          | false =>
            by_cases hE : fiN cc k = []
            · have HCK := Lib.hid hck
              have HF := Lib.hid (fiN_no hck)
              clear hck
              have HE := Lib.hid hE
              clear hE
              rw [show rmI (rpF xs) (fiN cc k) = -1 by rw [HE.out]; rfl, show rmC (rpF xs) (fiN cc k) = 0 by rw [HE.out]; rfl]
              go_wp2_with fail
              with_reducible refine HS.out.mono ?_
              rintro e w3 ⟨rfl, m1, rfl⟩
              go_wp2_with fail
              with_reducible refine (HQ.out (N + m1)).mono ?_
              rintro e w4 ⟨rfl, m2, rfl⟩
              rw [HCK.out]
              go_wp2_with fail
              go_roundw
              case rel => exact ⟨k + 1, _, by omega, by go_num, by rw [HF.out, HE.out]; rfl, by rw [HF.out, HE.out, ← HFE.out]; rfl, by first | rw [World.drewN_drewN, World.drewN_drewN] | rw [World.drewN_drewN] | rfl⟩
              case measure => simp [intOf]; omega
            · have HCK := Lib.hid hck
              have HF := Lib.hid (fiN_no hck)
              have HA := Lib.hid (rgK_app (rpF xs) hE k)
              have hEm : (fiN cc k).isEmpty = false := by cases hq : fiN cc k with | nil => exact absurd hq hE | cons a t => rfl
              have hEn : (fiN cc k ++ [k]).isEmpty = false := by cases hq : fiN cc k with | nil => rfl | cons a t => rfl
              have HR1 := Lib.hid (show rmI (rpF xs) (fiN cc (k + 1)) = ((rgS (rpF xs) (rgK (rpF xs) (fiN cc k)) k : Nat) : Int) by unfold rmI; rw [HF.out, hEn, HA.out]; rfl)
              have HR2 := Lib.hid (show rmC (rpF xs) (fiN cc (k + 1)) = rpF xs (rgS (rpF xs) (rgK (rpF xs) (fiN cc k)) k) by unfold rmC; rw [HF.out, hEn, HA.out]; rfl)
              rw [show rmI (rpF xs) (fiN cc k) = ((rgK (rpF xs) (fiN cc k) : Nat) : Int) by unfold rmI; rw [hEm]; rfl, show rmC (rpF xs) (fiN cc k) = rpF xs (rgK (rpF xs) (fiN cc k)) by unfold rmC; rw [hEm]; rfl]
              clear hck hEm hEn HA HF hE
              unfold rgS at HR1 HR2
              rw [HFE.out] at HR1 HR2
              generalize rgK (rpF xs) (fiN cc k) = a at *
              generalize hY : rpF xs a = Y at *
              have HYE := Lib.hid hY
              clear hY
              have hanb : ¬ ((a : Int) < 0) := by omega
              cases hg : gt32 X Y with
              | true =>
                have hg' : (FloatKind.f32.format.order X Y == some .gt) = true := hg
                rw [hg] at HR1 HR2
                clear hg
                go_wp2_with fail
                with_reducible refine HS.out.mono ?_
                rintro e w3 ⟨rfl, m1, rfl⟩
                go_wp2_with fail
                with_reducible refine (HQ.out (N + m1)).mono ?_
                rintro e w4 ⟨rfl, m2, rfl⟩
                rw [HCK.out]
                go_wp2_with fail
                go_roundw
                case rel => exact ⟨k + 1, _, by omega, by go_num, by rw [HR1.out]; rfl, by rw [HR2.out]; exact congrArg _ HFE.out.symm, by first | rw [World.drewN_drewN, World.drewN_drewN] | rw [World.drewN_drewN] | rfl⟩
                case measure => simp [intOf]; omega
              | false =>
                have hg' : (FloatKind.f32.format.order X Y == some .gt) = false := hg
                rw [hg] at HR1 HR2
                clear hg
                go_wp2_with fail
                with_reducible refine HS.out.mono ?_
                rintro e w3 ⟨rfl, m1, rfl⟩
                go_wp2_with fail
                with_reducible refine (HQ.out (N + m1)).mono ?_
                rintro e w4 ⟨rfl, m2, rfl⟩
                rw [HCK.out]
                go_wp2_with fail
                go_roundw
                case rel => exact ⟨k + 1, _, by omega, by go_num, by rw [HR1.out]; rfl, by rw [HR2.out]; exact congrArg _ HYE.out.symm, by first | rw [World.drewN_drewN, World.drewN_drewN] | rw [World.drewN_drewN] | rfl⟩
                case measure => simp [intOf]; omega
        · obtain rfl : k = xs.length := by omega
          rw [← HMN.out]
          by_cases hE : M = []
          · have HN := Lib.hid (fun (w' : World) (hb : Below w.heap.size w w') => retRp_no (show rpB p q xs (L : Int) = false by rw [HRP.out, hE]; rfl) hb)
            rw [show rmI (rpF xs) M = -1 by rw [hE]; rfl]
            clear hE
            go_wp2_with fail
            exact bodyPost_ret (by simp [results, Try.results53, go_sem]) rfl (HN.out _ (HBE.out _))
          · have HY := Lib.hid (fun (w' : World) (hb : Below w.heap.size w w') => retRp_yes (show rpB p q xs (L : Int) = true by rw [HRP.out]; cases M with | nil => exact absurd rfl hE | cons a t => rfl) hb)
            have hEm : M.isEmpty = false := by cases M with | nil => exact absurd rfl hE | cons a t => rfl
            rw [show rmI (rpF xs) M = ((rgK (rpF xs) M : Nat) : Int) by unfold rmI; rw [hEm]; rfl, show rmC (rpF xs) M = rpF xs (rgK (rpF xs) M) by unfold rmC; rw [hEm]; rfl]
            rw [HRA.out] at HY
            obtain ⟨P, rfl⟩ : ∃ P : Nat, p = (P : Int) := ⟨p.toNat, by omega⟩
            rw [Int.toNat_natCast] at HY
            have ha256 : rgK (rpF xs) M < xs.length := by rw [← rgP_all (rpF xs) hE]; exact rgP_lt (rpF xs) hE (fun i hi => by rw [HMN.out] at hi; exact List.mem_range.1 (List.mem_filter.1 hi).1) _ (Nat.le_refl _)
            clear hEm hE HRP HRA HMN
            generalize rgK (rpF xs) M = a at *
            generalize rpF xs a = Y at *
            have hpz : ¬ (P : Int) = 0 := by omega
            have hpzN : ¬ P = 0 := by omega
            have hrem : (a : Int).tmod (P : Int) = ((a % P : Nat) : Int) := by rw [Int.tmod_eq_emod_of_nonneg (by omega)]; simp
            have hquo : (a : Int).tdiv (P : Int) = ((a / P : Nat) : Int) := by rw [Int.tdiv_eq_ediv_of_nonneg (by omega)]; simp
            have hql : a / P ≤ a := Nat.div_le_self _ _
            generalize a % P = x at *
            generalize a / P = y at *
            have hyw : IntKind.i64.wrap (y : Int) = (y : Int) := by rw [IntKind.wrap_i64]; omega
            have hanb : ¬ ((a : Int) < 0) := by omega
            go_wp2_with fail
            go_quiet (fail)
            go_wp2
            exact bodyPost_ret (by simp [results, Try.results53, go_sem]) rfl (HY.out _ (by first | exact HBE.out _ | (rw [World.drewN_drewN]; exact HBE.out _)))
end Go.Proofs.Ytfbdmhkmkmbipaa
