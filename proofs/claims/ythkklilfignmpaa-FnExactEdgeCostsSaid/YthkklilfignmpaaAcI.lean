/-
  Contracts: what a block of costs is, by one side.
-/
import Derived.Test.YthkklilfignmpaaAc
namespace Go.Proofs.Ythkklilfignmpaa
open Go.RowKit Fl
set_option linter.unusedVariables false
set_option maxRecDepth 100000 in
set_option maxHeartbeats 8000000 in
theorem acI_any (v : Value) (xs : List (Int × Nat)) (w : World) (h : RdC w w.heap.size v xs) (hm : xs.length ≤ 1048576) (hx : ∀ x ∈ xs, x.2 < 2 ^ 32) :
    Calls Try.prog 98 #[v] w fun e w' => e = .returned (.bool (acB xs)) ∧ Below w.heap.size w w' := by
  obtain ⟨A, c, hv, h3⟩ := h
  subst hv
  obtain ⟨n, hn⟩ : ∃ n, xs.length = n := ⟨_, rfl⟩
  have HX := Lib.hid hx
  rw [hn] at h3 hm ⊢
  by_cases hg : 1 ≤ n ∧ n ≤ 16
  · obtain ⟨g1, g2⟩ := hg
    have HL := Lib.hid hn
    have H3 := Lib.hid h3
    clear h3 hn hx
    go_enter Try.func98, Try.ntmps98
    have hsf : ∀ (a : Addr) (x : Nat) (w : World), (store a (.float .f32 x)).run Try.prog w = stored Try.prog w a (.float .f32 x) .plain := fun a x w => run_store _ w a _ _ rfl
    go_wp2_with fail
    go_loopw [15] (AcR w xs) (fun i _ => n - (intOf i).toNat)
    case atStart => exact ⟨0, Nat.zero_le _, rfl, fun i hi => absurd hi (by omega), Below.refl _ _⟩
    case round =>
      obtain ⟨k, hk, rfl, hok, hbl⟩ := hrel
      rw [HL.out] at hk
      by_cases hlt : k < n
      · obtain ⟨b, off, rfl, hb, hc⟩ := H3.out (by omega)
        have hI : (k : Int) < n := by omega
        have c0 := (hbl.cell (p := ⟨b, off + k * 2, none⟩) hb).trans (hc k hlt).1
        have c1 := (hbl.cell (p := ⟨b, off + k * 2 + 1, none⟩) hb).trans (hc k hlt).2
        have hxk : (xs.getD k (0, 0)).2 < 2 ^ 32 := HX.out _ (by rw [show xs.getD k (0, 0) = xs[k]'(by rw [HL.out]; exact hlt) by simp [List.getD, show k < xs.length by rw [HL.out]; exact hlt]]; exact List.getElem_mem _)
        have HB := Lib.hid hbl
        have HK := Lib.hid hok
        have A0 := Lib.hid (show ∀ z, xs.getD k (0, 0) = z → xs.getD k (0, 0) = z from fun _ h => h)
        obtain ⟨a0, ha0⟩ : ∃ z, (xs.getD k (0, 0)).1 = z := ⟨_, rfl⟩
        obtain ⟨x0, hx0⟩ : ∃ z, (xs.getD k (0, 0)).2 = z := ⟨_, rfl⟩
        rw [ha0] at c0
        rw [hx0] at c1 hxk
        have E0 := Lib.hid ha0
        have E1 := Lib.hid hx0
        clear hok hbl ha0 hx0
        by_cases hin : 0 ≤ a0 ∧ a0 ≤ 512
        · have hin1 := hin.1
          have hin2 := hin.2
          have hin : decide (0 ≤ a0 ∧ a0 ≤ 512) = true := decide_eq_true hin
          cases hls : lsB x0 with
          | false =>
            clear hc
            go_wp2_with (first | (go_at_call 154; refine (lsI_any _ _ hxk).mono ?_; rintro e w' ⟨rfl, n1, rfl⟩; rw [hls]))
            go_ret
            exact ⟨by rw [acB_no (by rw [HL.out]; exact hlt) (by unfold acOk; rw [E0.out, E1.out, hls]; simp)]; rfl, by first | exact (below_drawn (HB.out.alloc HB.out.size _) _) | exact (HB.out.alloc HB.out.size _)⟩
          | true =>
            by_cases hk0 : k = 0
            · subst hk0
              clear hc
              simp only [Nat.zero_mul, Nat.add_zero] at c0 c1
              go_wp2_with (first | (go_at_call 154; refine (lsI_any _ _ hxk).mono ?_; rintro e w' ⟨rfl, n1, rfl⟩; rw [hls]))
              go_quiet (fail)
              go_wp2_with fail
              go_roundw
              case rel => exact ⟨1, by rw [HL.out]; omega, by go_num, fun i hi => by (obtain rfl : i = 0 := by omega); unfold acOk; rw [E0.out, E1.out, hls, hin]; simp, by first | exact (below_drawn (HB.out.alloc HB.out.size _) _) | exact below_drawn (below_drawn (HB.out.alloc HB.out.size _) _) _ | exact below_drawn (HB.out.alloc HB.out.size _) _⟩
              case measure => simp [intOf]; omega
            · obtain ⟨q, rfl⟩ : ∃ q, k = q + 1 := ⟨k - 1, by omega⟩
              have d0 := (HB.out.cell (p := ⟨b, off + q * 2, none⟩) hb).trans (hc q (by omega)).1
              have d1 := (HB.out.cell (p := ⟨b, off + q * 2 + 1, none⟩) hb).trans (hc q (by omega)).2
              have HQ := Lib.hid (show (decide (q + 1 = 0) || (decide ((xs.getD (q + 1 - 1) (0, 0)).1 < (xs.getD (q + 1) (0, 0)).1) && !geB' (xs.getD (q + 1) (0, 0)).2 (xs.getD (q + 1 - 1) (0, 0)).2)) = (decide ((xs.getD q (0, 0)).1 < a0) && !geB' x0 (xs.getD q (0, 0)).2) by rw [E0.out, E1.out, decide_eq_false (by omega), Bool.false_or, Nat.add_sub_cancel])
              generalize (xs.getD q (0, 0)).1 = b0 at *
              generalize (xs.getD q (0, 0)).2 = y0 at *
              clear hc
              have hq0 : q < n := by omega
              have hz1 : (0 : Int) ≤ (q : Int) + 1 := by omega
              have hz0 : (0 : Int) ≤ (q : Int) := by omega
              have hz2 : (q : Int) + 1 < n := by omega
              have hz3 : (q : Int) < n := by omega
              have hwq : IntKind.i64.wrap (q : Int) = (q : Int) := by
                rw [IntKind.wrap_i64]; omega
              have hbw : b < wr.heap.size := Nat.lt_of_lt_of_le hb HB.out.size
              have d0a : ∀ o : Obj, (wr.alloc o).cell? ⟨b, off + q * 2, none⟩ = some (.int .i64 b0) := fun o => (((Below.refl wr.heap.size wr).alloc (Nat.le_refl _) o).cell (p := ⟨b, off + q * 2, none⟩) hbw).trans d0
              have d1a : ∀ o : Obj, (wr.alloc o).cell? ⟨b, off + q * 2 + 1, none⟩ = some (.float .f32 y0) := fun o => (((Below.refl wr.heap.size wr).alloc (Nat.le_refl _) o).cell (p := ⟨b, off + q * 2 + 1, none⟩) hbw).trans d1
              by_cases hle : a0 ≤ b0
              · have HLE := Lib.hid (show decide (b0 < a0) = false from decide_eq_false (by omega))
                go_wp2_with (first | (go_at_call 154; refine (lsI_any _ _ hxk).mono ?_; rintro e w' ⟨rfl, n1, rfl⟩; rw [hls]))
                go_quiet (fail)
                go_wp2_with fail
                go_ret
                exact ⟨by rw [acB_no (by rw [HL.out]; exact hlt) (by unfold acOk; rw [HQ.out, HLE.out]; simp)]; rfl, by first | exact (below_drawn (HB.out.alloc HB.out.size _) _) | exact below_drawn (below_drawn (HB.out.alloc HB.out.size _) _) _ | exact below_drawn (HB.out.alloc HB.out.size _) _⟩
              · have HLE := Lib.hid (show decide (b0 < a0) = true from decide_eq_true (by omega))
                cases hge : geB' x0 y0 with
                | true =>
                  have hgo : (FloatKind.f32.format.order x0 y0 == some .gt || FloatKind.f32.format.order x0 y0 == some .eq) = true := hge
                  have HGE := Lib.hid hge
                  clear hge
                  go_wp2_with (first | (go_at_call 154; refine (lsI_any _ _ hxk).mono ?_; rintro e w' ⟨rfl, n1, rfl⟩; rw [hls]))
                  go_quiet (first | (trace_state; fail) | fail)
                  go_wp2_with fail
                  go_ret
                  exact ⟨by rw [acB_no (by rw [HL.out]; exact hlt) (by unfold acOk; rw [HQ.out, HGE.out]; simp)]; rfl, by first | exact (below_drawn (HB.out.alloc HB.out.size _) _) | exact below_drawn (below_drawn (HB.out.alloc HB.out.size _) _) _ | exact below_drawn (HB.out.alloc HB.out.size _) _⟩
                | false =>
                  have hgo : (FloatKind.f32.format.order x0 y0 == some .gt || FloatKind.f32.format.order x0 y0 == some .eq) = false := hge
                  have HGE := Lib.hid hge
                  clear hge
                  go_wp2_with (first | (go_at_call 154; refine (lsI_any _ _ hxk).mono ?_; rintro e w' ⟨rfl, n1, rfl⟩; rw [hls]))
                  go_quiet (fail)
                  go_wp2_with fail
                  go_roundw
                  case rel => exact ⟨q + 2, by rw [HL.out]; omega, by go_num, fun i hi => by
                    by_cases he : i = q + 1
                    · subst he; unfold acOk; rw [HQ.out, E0.out, E1.out, hls, hin, HGE.out, HLE.out]; rfl
                    · exact HK.out i (by omega), by first | exact (below_drawn (HB.out.alloc HB.out.size _) _) | exact below_drawn (below_drawn (HB.out.alloc HB.out.size _) _) _ | exact below_drawn (HB.out.alloc HB.out.size _) _⟩
                  case measure => first | (simp [intOf]; done) | (simp [intOf]; omega)
        · have hin' : a0 < 0 ∨ 512 < a0 := by omega
          have hin : decide (0 ≤ a0 ∧ a0 ≤ 512) = false := decide_eq_false hin
          rcases hin' with hin1 | hin1
          · clear hc
            have hin2 : ¬ 0 ≤ a0 := by omega
            go_wp2_with (first | (go_at_call 154; refine (lsI_any _ _ hxk).mono ?_; rintro e w' ⟨rfl, n1, rfl⟩; rw [hls]))
            go_ret
            exact ⟨by rw [acB_no (by rw [HL.out]; exact hlt) (by unfold acOk; rw [E0.out, hin]; simp)]; rfl, by first | exact (below_drawn (HB.out.alloc HB.out.size _) _) | exact (HB.out.alloc HB.out.size _)⟩
          · clear hc
            have hin2 : 0 ≤ a0 := by omega
            have hin3 : ¬ a0 ≤ 512 := by omega
            go_wp2_with (first | (go_at_call 154; refine (lsI_any _ _ hxk).mono ?_; rintro e w' ⟨rfl, n1, rfl⟩; rw [hls]))
            go_ret
            exact ⟨by rw [acB_no (by rw [HL.out]; exact hlt) (by unfold acOk; rw [E0.out, hin]; simp)]; rfl, by first | exact (below_drawn (HB.out.alloc HB.out.size _) _) | exact (HB.out.alloc HB.out.size _)⟩
      · obtain rfl : k = n := by omega
        have HB := Lib.hid hbl
        have hB : acB xs = true := acB_yes (by rw [HL.out]; omega) (by rw [HL.out]; omega) (by rw [HL.out]; exact hok)
        have HBB := Lib.hid hB
        clear hok hbl hB
        go_wp2_with fail
        go_ret
        exact ⟨by rw [HBB.out]; rfl, HB.out⟩
  · have hB : acB xs = false := by
      unfold acB; rw [decide_eq_false (by rw [hn]; exact hg)]; rfl
    rw [hB]
    have hg' : n < 1 ∨ 16 < n := by omega
    clear h3 hn hx hg hB HX
    rcases hg' with g | g
    · go_enter Try.func98, Try.ntmps98
      go_wp2_with fail
      go_ret
      exact ⟨rfl, Below.refl _ _⟩
    · have g0 : ¬ n < 1 := by omega
      go_enter Try.func98, Try.ntmps98
      go_wp2_with fail
      go_ret
      exact ⟨rfl, Below.refl _ _⟩
end Go.Proofs.Ythkklilfignmpaa
