/-
  Contracts: the best break, of the model.
-/
import Derived.Test.YtpckljkhmaghmaaBbf
namespace Go.Proofs.Ytpckljkhmaghmaa
open Go.RowKit Fl Ieee
set_option linter.unusedVariables false

def BbRel (w0 : World) (xs : List Nat) (p q i : Value) (wr : World) : Prop := ∃ k m : Nat, k + 1 ≤ xs.length ∧ i = .int .i64 ((k : Int) + 1) ∧ p = .int .i64 ((bsK (gnX xs (mnX xs)) k).1 : Int) ∧ q = .float .f32 (bsK (gnX xs (mnX xs)) k).2 ∧ (∀ i, i ≤ k → 1 ≤ i → finB .f32 (gnX xs (mnX xs) i) = true) ∧ finB .f32 (bsK (gnX xs (mnX xs)) k).2 = true ∧ (bsK (gnX xs (mnX xs)) k).2 < 2 ^ 32 ∧ wr = w0.drewN m
set_option maxRecDepth 100000 in
set_option maxHeartbeats 8000000 in
theorem brS_any (v : Value) (xs : List Nat) (w : World) (h : Rd w w.heap.size v (fl xs)) (hlong : isL xs = true) (h2 : 2 ≤ xs.length) :
    Calls Try.prog 81 #[v] w (RetIB (bb1 xs) (bb2 xs) (bbG xs) w) := by
  have hlen := (isL_len hlong).2.1
  have R0 := Lib.hid h
  have HM := Lib.hid (mnS_any v xs w _ h (by omega))
  have HGG := Lib.hid (show bbG xs = bbA xs by unfold bbG; rw [hlong, decide_eq_true h2]; rfl)
  obtain ⟨A, c, hv, q1, q2, q3⟩ := id h
  rw [fl_len] at hv q1 q3
  subst hv
  obtain ⟨b, off, rfl, hbl, hcc⟩ := q3 (by omega)
  clear q3 hcc h hlong
  go_enter Try.func81, Try.ntmps81
  go_wp2_with (go_at_call 104; refine HM.out.mono ?_; rintro e w' ⟨rm, nm, rfl, hM, rfl⟩)
  go_loopw [6, 7, 9] (BbRel w xs) (fun _ _ i _ => xs.length - (intOf i).toNat)
  case atStart => exact ⟨0, _, by omega, rfl, rfl, rfl, fun i h3 h4 => by omega, by show finB .f32 0 = true; decide, by show (0 : Nat) < 2 ^ 32; decide, rfl⟩
  case round =>
    clear HM
    obtain ⟨k, m, hk, rfl, rfl, rfl, hto, hfk, hlk, rfl⟩ := hrel
    have HTO := Lib.hid hto
    have HFK := Lib.hid hfk
    have HLK := Lib.hid hlk
    clear hto hfk hlk
    by_cases hlt : k + 1 < xs.length
    · obtain ⟨k1, hk1⟩ : ∃ k1, k1 = k + 1 := ⟨_, rfl⟩
      have hki : (k : Int) + 1 = (k1 : Int) := by omega
      rw [hki]
      obtain ⟨d, hd⟩ : ∃ d, xs.length - k1 = d := ⟨_, rfl⟩
      have hp1 := Rd.prefix' R0.out k1 (by omega)
      have hp2 := Rd.suffix' R0.out k1 (by omega)
      rw [← fl_take] at hp1
      rw [← fl_drop, hd] at hp2
      have HP1 := Lib.hid (fun n => mnS_any _ (xs.take k1) (w.drewN n) _ (hp1.drewN n) (by rw [List.length_take]; omega))
      have HP2 := Lib.hid (fun n => mnS_any _ (xs.drop k1) (w.drewN n) _ (hp2.drewN n) (by rw [List.length_drop]; omega))
      obtain ⟨f1, hf1⟩ : ∃ q, floatOfInt .f32 (k1 : Int) = q := ⟨_, rfl⟩
      obtain ⟨f2, hf2⟩ : ∃ q, floatOfInt .f32 ((xs.length : Int) - (k1 : Int)) = q := ⟨_, rfl⟩
      have hI1 : Is .f32 f1 (fi (xs.take k1).length) := by rw [← hf1, List.length_take, Nat.min_eq_left (by omega)]; exact is_fi _
      have hI2 : Is .f32 f2 (fi (xs.drop k1).length) := by rw [← hf2, List.length_drop, show (xs.length : Int) - (k1 : Int) = ((xs.length - k1 : Nat) : Int) by omega]; exact is_fi _
      obtain ⟨z, hz⟩ : ∃ z, gnX xs (mnX xs) k1 = z := ⟨_, rfl⟩
      have HZ := Lib.hid (show z = ar .add .f32 (ar .mul .f32 (ar .mul .f32 (fi (xs.take k1).length) (ar .sub .f32 (mnX (xs.take k1)) (mnX xs))) (ar .sub .f32 (mnX (xs.take k1)) (mnX xs))) (ar .mul .f32 (ar .mul .f32 (fi (xs.drop k1).length) (ar .sub .f32 (mnX (xs.drop k1)) (mnX xs))) (ar .sub .f32 (mnX (xs.drop k1)) (mnX xs))) from hz.symm)
      have HZ2 := Lib.hid hz
      have HKK := Lib.hid hk1
      have hck : ¬ (c = k1) := by omega
      have hkc : k1 ≤ c := by omega
      have hkn : k1 ≤ xs.length := by omega
      have hk1l : (k1 : Int) < (xs.length : Int) := by omega
      have hwk : IntKind.i64.wrap (k1 : Int) = (k1 : Int) := by rw [IntKind.wrap_i64]; omega
      have hwd : IntKind.i64.wrap ((xs.length : Int) - (k1 : Int)) = (xs.length : Int) - (k1 : Int) := by rw [IntKind.wrap_i64]; omega
      clear hz hp1 hp2 hki hk1 hk
      obtain ⟨p, hp⟩ : ∃ p, (bsK (gnX xs (mnX xs)) k).1 = p := ⟨_, rfl⟩
      obtain ⟨y, hy⟩ : ∃ y, (bsK (gnX xs (mnX xs)) k).2 = y := ⟨_, rfl⟩
      rw [hp, hy]
      have hpl : p ≤ k := by rw [← hp]; exact bsK_le _ _
      have HPL := Lib.hid hpl
      have HP := Lib.hid hp
      have HY := Lib.hid hy
      clear hp hy hpl
      go_wp2_with (first | (go_at_call_of 104 d; refine (HP2.out _).mono ?_; rintro e w' ⟨r2, n2, rfl, h2', rfl⟩) | (go_at_call 104; refine (HP1.out _).mono ?_; rintro e w' ⟨r1, n1, rfl, h1, rfl⟩) | (refine up_ar2 (op := .sub) rfl h1 hM ?_; intro r3 n3 h3) | (refine up_ar2 (op := .sub) rfl h2' hM ?_; intro r4 n4 h4) | (refine up_ar2 (op := .mul) rfl hI1 h3 ?_; intro r5 n5 h5) | (refine up_ar2 (op := .mul) rfl h5 h3 ?_; intro r6 n6 h6) | (refine up_ar2 (op := .mul) rfl hI2 h4 ?_; intro r7 n7 h7) | (refine up_ar2 (op := .mul) rfl h7 h4 ?_; intro r8 n8 h8) | (refine up_ar2 (op := .add) rfl h6 h8 ?_; intro r9 n9 h9))
      rw [← HZ.out] at h9
      clear h1 h2' h3 h4 h5 h6 h7 h8 hI1 hI2 HP1 HP2 hf1 hf2 hck hkc hkn hwk hwd
      cases hfz : finB .f32 z with
      | false =>
        have HF := Lib.hid hfz
        have HR9 := Lib.hid h9
        have HG0 := Lib.hid (show bbG xs = false by rw [HGG.out]; exact decide_eq_false fun hh => by have := hh k1 (by omega) (by have := HKK.out; omega); rw [HZ2.out, hfz] at this; cases this)
        clear hfz
        go_wp2_with (go_at_call 47; refine (specFin_any _ _ HR9.out.2).mono ?_; rintro e w' ⟨rfl, n10, rfl⟩; rw [fin_is HR9.out, HF.out])
        go_ret3
        exact retIB_bb HG0.out (below_drawn (Below.refl _ _) _)
      | true =>
        have HF := Lib.hid hfz
        have h9e := is_eq h9 (nan_fin hfz)
        subst h9e
        have HR9 := Lib.hid h9
        clear hfz h9
        by_cases hcs : p = 0 ∨ gt32 r9 y = true
        · have HS := Lib.hid (show bsK (gnX xs (mnX xs)) k1 = (k1, r9) by rw [HKK.out, bsK_yes (by rw [HP.out, HY.out, ← HKK.out, HZ2.out]; exact hcs), ← HKK.out, HZ2.out])
          by_cases hp0 : p = 0
          · subst hp0
            clear hcs
            go_wp2_with (go_at_call 47; refine (specFin_any _ _ HR9.out.2).mono ?_; rintro e w' ⟨rfl, n10, rfl⟩; rw [HF.out])
            go_roundw
            case rel => exact ⟨k1, _, by omega, by go_num, by rw [HS.out], by rw [HS.out], fun i h3 h4 => by (by_cases he : i ≤ k; exact HTO.out i he h4; (have he2 : i = k1 := by have := HKK.out; omega); subst he2; rw [HZ2.out]; exact HF.out), by rw [HS.out]; exact HF.out, by rw [HS.out]; exact HR9.out.2, rfl⟩
            case measure => simp [intOf]; have := HKK.out; omega
          · have hgt : (FloatKind.f32.format.order r9 y == some .gt) = true := hcs.resolve_left hp0
            have hp1 : (((p : Nat) : Int) == 0) = false := by rw [beq_eq_false_iff_ne]; omega
            clear hcs
            go_wp2_with (go_at_call 47; refine (specFin_any _ _ HR9.out.2).mono ?_; rintro e w' ⟨rfl, n10, rfl⟩; rw [HF.out])
            go_roundw
            case rel => exact ⟨k1, _, by omega, by go_num, by rw [HS.out], by rw [HS.out], fun i h3 h4 => by (by_cases he : i ≤ k; exact HTO.out i he h4; (have he2 : i = k1 := by have := HKK.out; omega); subst he2; rw [HZ2.out]; exact HF.out), by rw [HS.out]; exact HF.out, by rw [HS.out]; exact HR9.out.2, rfl⟩
            case measure => simp [intOf]; have := HKK.out; omega
        · have HS := Lib.hid (show bsK (gnX xs (mnX xs)) k1 = bsK (gnX xs (mnX xs)) k by rw [HKK.out]; exact bsK_no (by rw [HP.out, HY.out, ← HKK.out, HZ2.out]; exact hcs))
          have hgt : (FloatKind.f32.format.order r9 y == some .gt) = false := by
            cases hc : gt32 r9 y with
            | false => exact hc
            | true => exact absurd (Or.inr hc) hcs
          have hp1 : (((p : Nat) : Int) == 0) = false := by rw [beq_eq_false_iff_ne]; have : ¬ p = 0 := fun h => hcs (Or.inl h); omega
          clear hcs
          go_wp2_with (go_at_call 47; refine (specFin_any _ _ HR9.out.2).mono ?_; rintro e w' ⟨rfl, n10, rfl⟩; rw [HF.out])
          go_roundw
          case rel => exact ⟨k1, _, by omega, by go_num, by rw [HS.out, HP.out], by rw [HS.out, HY.out], fun i h3 h4 => by (by_cases he : i ≤ k; exact HTO.out i he h4; (have he2 : i = k1 := by have := HKK.out; omega); subst he2; rw [HZ2.out]; exact HF.out), by rw [HS.out]; exact HFK.out, by rw [HS.out]; exact HLK.out, rfl⟩
          case measure => simp [intOf]; have := HKK.out; omega
    · have hkl : k = xs.length - 1 := by omega
      have hki : (k : Int) + 1 = (xs.length : Int) := by omega
      rw [hki]
      have HG1 := Lib.hid (show bbG xs = true by rw [HGG.out]; exact decide_eq_true fun i h3 h4 => HTO.out i (by omega) h4)
      have HE := Lib.hid hkl
      clear hkl hki hlt
      go_wp2_with fail
      go_ret3
      rw [(bb_yes HG1.out).1, (bb_yes HG1.out).2, HG1.out, ← HE.out]
      exact ⟨_, rfl, ⟨cn_fin HFK.out, HLK.out⟩, below_drawn (Below.refl _ _) _⟩
end Go.Proofs.Ytpckljkhmaghmaa
