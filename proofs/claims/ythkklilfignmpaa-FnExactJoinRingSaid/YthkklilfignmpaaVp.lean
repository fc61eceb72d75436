/-
  Contracts: valid pairs, of both sides.
-/
import Derived.Test.YthkklilfignmpaaDn
import Derived.Test.YthkklilfignmpaaPai
import Derived.Test.YthkklilfignmpaaFloTol
import Derived.Deep.RegionHeld3
import Derived.Deep.QuietTactic
import Derived.BigQuiet
namespace Go.Proofs.Ythkklilfignmpaa
open Go.RowKit Fl Ieee
set_option linter.unusedVariables false

set_option maxRecDepth 100000 in
theorem absR_any (x : Nat) (w : World) : Calls Try.prog 184 #[.float .f32 x] w (RetF32 (absF x) w) := by
  have HW := Lib.hid (rfl : (0 : Nat) = 0)
  go_enter Try.func184, Try.ntmps184
  go_wp2_with (first | (refine up_wide (by rw [Try.underlying23]; rfl) Try.underlying82 ?_; intro r n hr) | (go_at_call 186; refine (abs_any _ _ (And.right (by assumption))).mono ?_; rintro e w' ⟨rfl, rfl⟩) | (refine up_narrow (by rw [Try.underlying82]; rfl) Try.underlying23 (abs_road (by assumption)).1 ?_; intro r2 n2 hr2))
  go_ret
  exact ⟨_, _, rfl, by rw [← (abs_road (by assumption)).2]; assumption, rfl⟩

theorem vpT_is {r c : Nat} (h : Is .f32 r c) : vpT r = vpT c := by unfold vpT; rw [absF_is h]

/-- The sum of products for a shift; 1 less for no shift. -/
def vpS (xs : List Nat) (s : Nat) : Nat := if s = 0 then ar .sub .f32 (dotK xs (xs.drop s) (xs.length - s)) 1065353216 else dotK xs (xs.drop s) (xs.length - s)
def vpE (xs : List Nat) : Bool := decide (∀ i (h : i < xs.length), i % 2 = 0 → vpT (vpS xs i) = true)
def VpTo (xs : List Nat) (k : Nat) : Prop := ∀ i, i < xs.length → i < k → i % 2 = 0 → vpT (vpS xs i) = true
theorem vpE_yes {xs : List Nat} {k : Nat} (hk : xs.length ≤ k) (h : VpTo xs k) : vpE xs = true := decide_eq_true fun i hi h2 => h i hi (by omega) h2
theorem vpE_no {xs : List Nat} {k : Nat} (hk : k < xs.length) (h2 : k % 2 = 0) (h : vpT (vpS xs k) = false) : vpE xs = false := decide_eq_false fun hh => by rw [hh k hk h2] at h; cases h
theorem vpTo_succ {xs : List Nat} {k : Nat} (h2 : k % 2 = 0) (h : VpTo xs k) (h1 : vpT (vpS xs k) = true) : VpTo xs (k + 2) := by
  intro i hi hik he
  by_cases hk : i = k
  · subst hk; exact h1
  · exact h i hi (by omega) he
def vpB (xs : List Nat) : Bool := decide (2 ≤ xs.length ∧ xs.length ≤ 8 ∧ xs.length % 2 = 0) && finA xs && vpE xs
theorem vpB_len {xs : List Nat} (h : vpB xs = true) : 2 ≤ xs.length ∧ xs.length ≤ 8 ∧ xs.length % 2 = 0 ∧ finA xs = true := by
  unfold vpB at h
  rw [Bool.and_eq_true, Bool.and_eq_true] at h
  have := of_decide_eq_true h.1.1
  exact ⟨this.1, this.2.1, this.2.2, h.1.2⟩

def VpRelI (w0 : World) (xs : List Nat) (i : Value) (wr : World) : Prop := ∃ k m : Nat, k ≤ xs.length ∧ k % 2 = 0 ∧ i = .int .i64 k ∧ VpTo xs k ∧ wr = w0.drewN m
def RetBB' (b : Bool) (w : World) (e : Ending) (w' : World) : Prop := e = .returned (.bool b) ∧ Below w.heap.size w w'
set_option maxRecDepth 100000 in
set_option maxHeartbeats 2000000 in
theorem vpI_any (v : Value) (xs : List Nat) (w : World) (h : Rd w w.heap.size v (fl xs)) (hm : xs.length ≤ 1048576) (hx : ∀ x ∈ xs, x < 2 ^ 32) :
    Calls Try.prog 171 #[.agg #[v]] w (RetBB' (vpB xs) w) := by
  have hb2 : Below w.heap.size w (w.alloc (.cells #[v] 91)) := (Below.refl _ _).alloc (Nat.le_refl _) _
  have hr := h.below hb2
  obtain ⟨A, c, hv, q1, q2, q3⟩ := id hr
  rw [fl_len] at hv q1 q3
  have hcell : (w.alloc (.cells #[v] 91)).cell? ⟨w.heap.size, 0, none⟩ = some v := (cell_of_row _ _ _ _ _ _ (heap_alloc_new w _)).trans rfl
  subst hv
  have HX := Lib.hid hx
  have HR := Lib.hid hr
  have HB := Lib.hid hb2
  clear h hx hr hb2
  generalize hW : w.alloc (.cells #[.slice A xs.length c] 91) = W at *
  by_cases h1 : xs.length < 2
  · have HV := Lib.hid (show vpB xs = false by unfold vpB; rw [decide_eq_false (by omega)]; rfl)
    clear q1 q3
    go_enter Try.func171, Try.ntmps171
    go_wp2_with fail
    go_ret
    rw [HV.out]
    exact ⟨rfl, HB.out⟩
  · by_cases h8 : 8 < xs.length
    · have HV := Lib.hid (show vpB xs = false by unfold vpB; rw [decide_eq_false (by omega)]; rfl)
      have h2 : 2 ≤ xs.length := by omega
      clear q1 q3 h1
      go_enter Try.func171, Try.ntmps171
      go_wp2_with fail
      go_ret
      rw [HV.out]
      exact ⟨rfl, HB.out⟩
    · obtain ⟨b, off, rfl, hbl, hcc⟩ := q3 (by omega)
      clear q3 hcc
      have h2 : 2 ≤ xs.length := by omega
      have h9 : xs.length ≤ 8 := by omega
      clear h1 h8
      by_cases hev : xs.length % 2 = 0
      · have hme : ((xs.length : Int) % 2 != 0) = false := by rw [bne_eq_false_iff_eq]; omega
        cases hfi : finA xs with
        | false =>
          have HFI := Lib.hid hfi
          have HV := Lib.hid (show vpB xs = false by unfold vpB; rw [hfi]; simp)
          clear hfi
          go_enter Try.func171, Try.ntmps171
          go_wp2_with fail
          refine (finI_any _ xs _ _ HR.out hm HX.out).mono ?_
          rintro e w' ⟨rfl, n1, rfl⟩
          rw [HFI.out]
          go_wp2_with fail
          go_ret
          rw [HV.out]
          exact ⟨rfl, below_drawn HB.out _⟩
        | true =>
          have HFI := Lib.hid hfi
          have HVE := Lib.hid (show vpB xs = vpE xs by unfold vpB; rw [hfi, decide_eq_true ⟨h2, h9, hev⟩]; rfl)
          clear hfi
          go_enter Try.func171, Try.ntmps171
          go_wp2_with fail
          refine (finI_any _ xs _ _ HR.out hm HX.out).mono ?_
          rintro e w' ⟨rfl, n1, rfl⟩
          rw [HFI.out]
          go_wp2_with fail
          go_loopw [4] (VpRelI W xs) (fun i _ => xs.length - (intOf i).toNat)
          case atStart => exact ⟨0, _, Nat.zero_le _, rfl, rfl, fun i _ h => by omega, rfl⟩
          case round =>
            obtain ⟨k, m, hk, hk2, rfl, ht, rfl⟩ := hrel
            have HT := Lib.hid ht
            clear ht
            by_cases hlt : k < xs.length
            · obtain ⟨d, hd⟩ : ∃ d : Nat, d = xs.length - k := ⟨_, rfl⟩
              have hp1 := Rd.prefix' HR.out (xs.length - k) (by omega)
              have hp2 := Rd.suffix' HR.out k (by omega)
              rw [← fl_take] at hp1
              rw [← fl_drop] at hp2
              have hDot := fun n => dotN_any _ _ (xs.take (xs.length - k)) (xs.drop k) (W.drewN n) w.heap.size (hp1.drewN n) (hp2.drewN n) (by rw [List.length_drop, List.length_take]; omega) (by rw [List.length_take]; omega)
              rw [show (xs.take (xs.length - k)).length = xs.length - k by rw [List.length_take]; omega] at hDot
              rw [dotK_take xs (xs.drop k) _ _ (Nat.le_refl _)] at hDot
              rw [← hd] at hDot
              have HDot := Lib.hid hDot
              have hmi : (xs.length : Int) - (k : Int) = (d : Int) := by omega
              have hd1 : 1 ≤ d := by omega
              have hd2 : d ≤ 8 := by omega
              have hdc : d ≤ c := by omega
              have hkn : k ≤ xs.length := hk
              have HD := Lib.hid hd
              have hkc : k ≤ c := by omega
              have hsc : ∀ n, (W.drewN n).cell? ⟨w.heap.size, 0, none⟩ = some (.slice (some ⟨b, off, none⟩) xs.length c) := fun n => hcell
              have hsd : ∀ n, (W.drewN n).drew.cell? ⟨w.heap.size, 0, none⟩ = some (.slice (some ⟨b, off, none⟩) xs.length c) := fun n => hcell
              have hdn : xs.length - k = d := hd.symm
              have hwd : IntKind.i64.wrap (d : Int) = (d : Int) := by rw [IntKind.wrap_i64]; omega
              have hck : ¬ (c = k) := by omega
              clear hDot hp1 hp2 hd hk
              go_wp2_with fail
              go_region_held3 (fun w' => w'.cell? ⟨w.heap.size, 0, none⟩ = some (.slice (some ⟨b, off, none⟩) xs.length c)) (first | exact hsd _ | exact hsc _ | exact hcell) ((first | (go_at_call 183; refine (HDot.out _).mono ?_; rintro e w' ⟨r, n, rfl, hr, rfl⟩)))
              by_cases hk0 : k = 0
              · have ek : (((k : Nat) : Int) == 0) = true := by rw [beq_iff_eq]; omega
                have hS : vpS xs k = ar .sub .f32 (dotK xs (xs.drop k) d) 1065353216 := by unfold vpS; rw [if_pos hk0, hdn]
                clear hk0 hdn hmi hwd hck hd1 hd2 hdc hkc hsc hsd HDot HD
                cases hvt : vpT (vpS xs k) with
                | true =>
                  have HN := Lib.hid (vpTo_succ hk2 HT.out hvt)
                  have HVT := Lib.hid (by rw [hS] at hvt; exact hvt : vpT (ar .sub .f32 (dotK xs (xs.drop k) d) 1065353216) = true)
                  have HK2 := Lib.hid (show k + 2 ≤ xs.length ∧ (k + 2) % 2 = 0 by omega)
                  clear hvt hS hk2 HT hev hkn
                  generalize dotK xs (xs.drop k) d = D at *
                  go_wp2_with (first | (refine up_ar2 (op := .sub) rfl hr (is_lit (k := .f32) (c := 1065353216) (by decide)) ?_; intro r2 n2 hr2) | (go_at_call 184; refine (absR_any _ _).mono ?_; rintro e w' ⟨r3, n3, rfl, hr3, rfl⟩; have hq : (FloatKind.f32.format.order r3 981668463 == some .lt || FloatKind.f32.format.order r3 981668463 == some .eq) = true := by rw [order_is_l hr3, absF_is hr2]; exact HVT.out))
                  go_roundw
                  case rel => exact ⟨k + 2, _, HK2.out.1, HK2.out.2, by go_num, HN.out, rfl⟩
                  case measure => simp [intOf]; omega
                | false =>
                  have HN := Lib.hid (vpE_no hlt hk2 hvt)
                  have HVT := Lib.hid (by rw [hS] at hvt; exact hvt : vpT (ar .sub .f32 (dotK xs (xs.drop k) d) 1065353216) = false)
                  have HK2 := Lib.hid (show k + 2 ≤ xs.length ∧ (k + 2) % 2 = 0 by omega)
                  clear hvt hS hk2 HT hev hkn
                  generalize dotK xs (xs.drop k) d = D at *
                  go_wp2_with (first | (refine up_ar2 (op := .sub) rfl hr (is_lit (k := .f32) (c := 1065353216) (by decide)) ?_; intro r2 n2 hr2) | (go_at_call 184; refine (absR_any _ _).mono ?_; rintro e w' ⟨r3, n3, rfl, hr3, rfl⟩; have hq : (FloatKind.f32.format.order r3 981668463 == some .lt || FloatKind.f32.format.order r3 981668463 == some .eq) = false := by rw [order_is_l hr3, absF_is hr2]; exact HVT.out))
                  go_ret
                  rw [HVE.out, HN.out]
                  exact ⟨rfl, below_drawn HB.out _⟩
              · have ek : (((k : Nat) : Int) == 0) = false := by rw [beq_eq_false_iff_ne]; omega
                have hS : vpS xs k = dotK xs (xs.drop k) d := by unfold vpS; rw [if_neg hk0, hdn]
                clear hk0 hdn hmi hwd hck hd1 hd2 hdc hkc hsc hsd HDot HD
                cases hvt : vpT (vpS xs k) with
                | true =>
                  have HN := Lib.hid (vpTo_succ hk2 HT.out hvt)
                  have HVT := Lib.hid (by rw [hS] at hvt; exact hvt : vpT (dotK xs (xs.drop k) d) = true)
                  have HK2 := Lib.hid (show k + 2 ≤ xs.length ∧ (k + 2) % 2 = 0 by omega)
                  clear hvt hS hk2 HT hev hkn
                  generalize dotK xs (xs.drop k) d = D at *
                  go_wp2_with (first | (go_at_call 184; refine (absR_any _ _).mono ?_; rintro e w' ⟨r3, n3, rfl, hr3, rfl⟩; have hq : (FloatKind.f32.format.order r3 981668463 == some .lt || FloatKind.f32.format.order r3 981668463 == some .eq) = true := by rw [order_is_l hr3, absF_is hr]; exact HVT.out))
                  go_roundw
                  case rel => exact ⟨k + 2, _, HK2.out.1, HK2.out.2, by go_num, HN.out, rfl⟩
                  case measure => simp [intOf]; omega
                | false =>
                  have HN := Lib.hid (vpE_no hlt hk2 hvt)
                  have HVT := Lib.hid (by rw [hS] at hvt; exact hvt : vpT (dotK xs (xs.drop k) d) = false)
                  have HK2 := Lib.hid (show k + 2 ≤ xs.length ∧ (k + 2) % 2 = 0 by omega)
                  clear hvt hS hk2 HT hev hkn
                  generalize dotK xs (xs.drop k) d = D at *
                  go_wp2_with (first | (go_at_call 184; refine (absR_any _ _).mono ?_; rintro e w' ⟨r3, n3, rfl, hr3, rfl⟩; have hq : (FloatKind.f32.format.order r3 981668463 == some .lt || FloatKind.f32.format.order r3 981668463 == some .eq) = false := by rw [order_is_l hr3, absF_is hr]; exact HVT.out))
                  go_ret
                  rw [HVE.out, HN.out]
                  exact ⟨rfl, below_drawn HB.out _⟩
            · have hge : xs.length ≤ k := by omega
              have HV := Lib.hid (vpE_yes hge HT.out)
              go_wp2
              go_ret
              rw [HVE.out, HV.out]
              exact ⟨rfl, below_drawn HB.out _⟩
      · have hme : ((xs.length : Int) % 2 != 0) = true := by rw [bne_iff_ne]; omega
        have HV := Lib.hid (show vpB xs = false by unfold vpB; rw [decide_eq_false (by omega)]; rfl)
        go_enter Try.func171, Try.ntmps171
        go_wp2_with fail
        go_ret
        rw [HV.out]
        exact ⟨rfl, HB.out⟩
end Go.Proofs.Ythkklilfignmpaa
