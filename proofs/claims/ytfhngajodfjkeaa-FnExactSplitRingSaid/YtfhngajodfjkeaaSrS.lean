/-
  Contract: SplitRing of the model's side.
-/
import Derived.Test.YtfhngajodfjkeaaSr
namespace Go.Proofs.Ytfhngajodfjkeaa
open Go.RowKit Fl
set_option linter.unusedVariables false
/-- Returns a copy of the list, of the call's own. -/
def MadeQ (xs : List Nat) (w : World) (e : Ending) (w' : World) : Prop :=
  ∃ g, e = .returned (.slice (some ⟨g, 0, none⟩) xs.length xs.length) ∧ Own w' w.heap.size (.slice (some ⟨g, 0, none⟩) xs.length xs.length) (fl xs) ∧ Below w.heap.size w w'
theorem toFP_any (v : Value) (xs : List Nat) (w : World) (h : Rd w w.heap.size v (fl xs)) (hm : xs.length ≤ 1048576) :
    Calls Try.prog 34 #[v] w (MadeQ xs w) := by
  refine (toF_any v xs w _ h (Nat.le_refl _) hm).mono ?_
  rintro e w1 ⟨g, rfl, P, hb⟩
  exact ⟨g, rfl, Own.row P, hb⟩
theorem srL_len (list taps : List Nat) (h : list.length ≤ 1048576) : (srL list taps).length ≤ 1048576 := by
  unfold srL; split
  · rw [tpK_len]; omega
  · simp
theorem srH_len (list taps : List Nat) (h : list.length ≤ 1048576) : (srH list taps).length ≤ 1048576 := by
  unfold srH; split
  · rw [tpK_len]; omega
  · simp
set_option maxRecDepth 100000 in
set_option maxHeartbeats 4000000 in
theorem srS_any (v u : Value) (list taps : List Nat) (w : World) (h : Rd w w.heap.size v (fl list)) (k : Rd w w.heap.size u (fl taps)) (hm : list.length ≤ 1048576) (hm2 : taps.length ≤ 1048576) (hx : ∀ x ∈ list, x < 2 ^ 32) (hy : ∀ x ∈ taps, x < 2 ^ 32) :
    Calls Try.prog 33 #[v, .agg #[u]] w (RetTwo (srL list taps) (srH list taps) (srB list taps) w) := by
  have hb2 : Below w.heap.size w (w.alloc (.cells #[u] 24)) := (Below.refl _ _).alloc (Nat.le_refl _) _
  have hcell : (w.alloc (.cells #[u] 24)).cell? ⟨w.heap.size, 0, none⟩ = some u := (cell_of_row _ _ _ _ _ _ (heap_alloc_new w _)).trans rfl
  have hz : w.heap.size < (w.alloc (.cells #[u] 24)).heap.size := by simp
  have HRL := Lib.hid (h.step hb2)
  have HRT := Lib.hid (k.step hb2)
  have HLN := Lib.hid (lngS_any v list _ _ (h.step hb2) hm hx)
  have HVP := Lib.hid (fun n => vpP_any w.heap.size u taps ((w.alloc (.cells #[u] 24)).drewN n) _ ((k.step hb2).step (below_drawn (Below.refl _ _) n)) hcell hm2 hy)
  obtain ⟨A, c, hv, q1, q2, q3⟩ := id h
  obtain ⟨A', c', hu, q4, q5, q6⟩ := id k
  rw [fl_len] at hv hu
  subst hv hu
  clear hx hy h k q1 q2 q3 q4 q5 q6
  cases hil : isL list with
  | false =>
    have HSB := Lib.hid (show srB list taps = false by unfold srB; rw [hil]; simp)
    rw [hil] at HLN
    clear hil HVP
    go_enter Try.func33, Try.ntmps33
    go_wp2_with fail
    refine HLN.out.mono ?_
    rintro e w1 ⟨rfl, n1, rfl⟩
    go_wp2_with fail
    go_ret3
    unfold srL srH
    rw [HSB.out]
    exact retTwo_nil (below_drawn hb2 _)
  | true =>
    have HIL := Lib.hid hil
    obtain ⟨m1, m2, m3⟩ := isL_len hil
    rw [hil] at HLN
    clear hil m3
    by_cases hev : list.length % 2 = 0
    · have hme : ((list.length : Int) % 2 != 0) = false := by rw [bne_eq_false_iff_eq]; omega
      have HEV := Lib.hid hev
      clear hev
      cases hvp : vpB taps with
      | false =>
        have HSB := Lib.hid (show srB list taps = false by unfold srB; rw [hvp]; simp)
        rw [hvp] at HVP
        clear hvp
        go_enter Try.func33, Try.ntmps33
        go_wp2_with fail
        refine HLN.out.mono ?_
        rintro e w1 ⟨rfl, n1, rfl⟩
        go_wp2_with fail
        refine (HVP.out _).mono ?_
        rintro e w1 ⟨rfl, n2, rfl⟩
        go_wp2_with fail
        go_ret3
        unfold srL srH
        rw [HSB.out]
        exact retTwo_nil (below_drawn hb2 _)
      | true =>
        have HV := Lib.hid hvp
        obtain ⟨k1, k2, k3, k4⟩ := vpB_len hvp
        rw [hvp] at HVP
        clear hvp k3 k4
        go_enter Try.func33, Try.ntmps33
        go_wp2_with fail
        refine HLN.out.mono ?_
        rintro e w1 ⟨rfl, n1, rfl⟩
        go_wp2_with fail
        refine (HVP.out _).mono ?_
        rintro e w1 ⟨rfl, n2, rfl⟩
        have hb3 := below_drawn (Below.refl (w.alloc (.cells #[Value.slice A' taps.length c'] 24)).heap.size (w.alloc (.cells #[Value.slice A' taps.length c'] 24))) (n1 + n2)
        have HT1 := Lib.hid (tpS_any _ _ list taps ((w.alloc (.cells #[Value.slice A' taps.length c'] 24)).drewN (n1 + n2)) (HRL.out.step hb3) (HRT.out.step hb3) HEV.out m1 m2 (by omega) k2)
        go_wp2_with fail
        refine HT1.out.mono ?_
        rintro e w3 ⟨v3, L1, rfl, o1, i1, hb4⟩
        have hc3 := (hb4.cell (p := ⟨w.heap.size, 0, none⟩) hz).trans hcell
        have hb5 : Below (w.alloc (.cells #[Value.slice A' taps.length c'] 24)).heap.size (w.alloc (.cells #[Value.slice A' taps.length c'] 24)) w3 := hb3.trans hb4
        have HH := Lib.hid (hiP_any w.heap.size _ taps w3 (HRT.out.step hb5) (Nat.lt_of_lt_of_le hz hb5.size) hc3 (by omega) k2)
        go_wp2_with fail
        refine HH.out.mono ?_
        rintro e w4 ⟨v4, rfl, o2, hb6⟩
        have hb7 := hb5.trans (hb6.mono hb5.size)
        have HT2 := Lib.hid (tpS_any _ _ list (hiK taps taps.length) w4 (HRL.out.step hb7) o2.rd HEV.out m1 m2 (by rw [hiK_len]; omega) (by rw [hiK_len]; exact k2))
        have P1 := Lib.hid (show In w4 _ _ v3 (fl L1) from (In.made o1).step hb6)
        obtain ⟨A3, c3, hv3, _, _, _⟩ := id o1
        rw [fl_len] at hv3
        subst hv3
        go_wp2_with fail
        refine HT2.out.mono ?_
        rintro e w5 ⟨v5, L2, rfl, o3, i2, hb8⟩
        have P2 := Lib.hid (P1.out.step hb8)
        have P3 := Lib.hid (In.made o3)
        have HS6 := Lib.hid hb6.size
        have HB := Lib.hid (show Below w.heap.size w w5 from hb2.trans ((hb7.trans (hb8.mono hb7.size)).mono hb2.size))
        have HS8 := Lib.hid hb8.size
        have HS4 := Lib.hid hb4.size
        obtain ⟨A5, c5, hv5, _, _, _⟩ := id o3
        rw [fl_len] at hv5
        subst hv5
        have hL1 : L1.length ≤ 1048576 := by have := i1.1; rw [tpK_len] at this; omega
        have hL2 : L2.length ≤ 1048576 := by have := i2.1; rw [tpK_len] at this; omega
        have HF1 := Lib.hid (finS_any _ L1 w5 _ P2.out.rd hL1 (isLs_lt i1))
        have HF2 := Lib.hid (fun n => finS_any _ L2 (w5.drewN n) _ (P3.out.drewN n).rd hL2 (isLs_lt i2))
        rw [isLs_fin i1] at HF1
        rw [isLs_fin i2] at HF2
        have I1 := Lib.hid i1
        have I2 := Lib.hid i2
        clear hL1 hL2 o1 o2 o3 i1 i2 hb4 hb5 hb6 hb7 hb8 hb3 hc3
        cases ha : finA (tpK list taps (list.length / 2)) with
        | false =>
          rw [ha] at HF1
          have HSB := Lib.hid (show srB list taps = false by unfold srB; rw [ha]; simp)
          clear ha
          go_wp2_with fail
          refine HF1.out.mono ?_
          rintro e w6 ⟨rfl, n5, rfl⟩
          go_wp2_with fail
          go_ret3
          unfold srL srH
          rw [HSB.out]
          exact retTwo_nil (below_drawn HB.out _)
        | true =>
          rw [ha] at HF1
          have HA := Lib.hid ha
          cases hc : finA (tpK list (hiK taps taps.length) (list.length / 2)) with
          | false =>
            rw [hc] at HF2
            have HSB := Lib.hid (show srB list taps = false by unfold srB; rw [hc]; simp)
            clear ha hc
            go_wp2_with fail
            refine HF1.out.mono ?_
            rintro e w6 ⟨rfl, n5, rfl⟩
            go_wp2_with fail
            refine (HF2.out _).mono ?_
            rintro e w7 ⟨rfl, n6, rfl⟩
            go_wp2_with fail
            go_ret3
            unfold srL srH
            rw [HSB.out]
            exact retTwo_nil (below_drawn HB.out _)
          | true =>
            rw [hc] at HF2
            have HC := Lib.hid hc
            have HSB := Lib.hid (show srB list taps = true by unfold srB; rw [hc, ha, HV.out, HIL.out]; simp [HEV.out])
            clear ha hc
            go_wp2_with fail
            refine HF1.out.mono ?_
            rintro e w6 ⟨rfl, n5, rfl⟩
            go_wp2_with fail
            refine (HF2.out _).mono ?_
            rintro e w7 ⟨rfl, n6, rfl⟩
            go_wp2_with fail
            go_ret3
            unfold srL srH
            rw [HSB.out, if_pos rfl, if_pos rfl, ← isLs_eq I1.out HA.out, ← isLs_eq I2.out HC.out]
            exact ⟨_, _, _, _, _, _, rfl, P2.out.drewN _, P3.out.drewN _, hb2.size, Nat.le_trans hb2.size (Nat.le_trans HS4.out HS6.out), Nat.le_trans HS6.out HS8.out, Nat.le_refl _, .inl HS6.out, below_drawn HB.out _⟩
    · have HSB := Lib.hid (show srB list taps = false by unfold srB; simp [hev])
      have hme : ((list.length : Int) % 2 != 0) = true := by simp; omega
      clear hev HVP
      go_enter Try.func33, Try.ntmps33
      go_wp2_with fail
      refine HLN.out.mono ?_
      rintro e w1 ⟨rfl, n1, rfl⟩
      go_wp2_with fail
      go_ret3
      unfold srL srH
      rw [HSB.out]
      exact retTwo_nil (below_drawn hb2 _)
end Go.Proofs.Ytfhngajodfjkeaa
