/-
  Contracts: the limit with the least risk, of both sides.
-/
import Derived.Test.YtpckljkhmaghmaaRko
namespace Go.Proofs.Ytpckljkhmaghmaa
open Go.RowKit Fl Ieee
set_option linter.unusedVariables false

/-- The best limit and its risk, below k. -/
def blK (xs : List Nat) (a : Nat) : Nat → Nat × Nat
  | 0 => (0, rkX xs a 0)
  | k + 1 => if lt32 (rkX xs a (xs.getD k 0 % 2 ^ 31)) (blK xs a k).2 then (xs.getD k 0 % 2 ^ 31, rkX xs a (xs.getD k 0 % 2 ^ 31)) else blK xs a k
def rkFin (xs : List Nat) (a i : Nat) : Bool := finB .f32 (rkX xs a (xs.getD i 0 % 2 ^ 31))
def BlTo (xs : List Nat) (a k : Nat) : Prop := ∀ i, i < k → rkFin xs a i = true
def blA (xs : List Nat) (a : Nat) : Bool := decide (∀ i, i < xs.length → rkFin xs a i = true)
def blG (xs : List Nat) (a : Nat) : Bool := isL xs && psB a && finB .f32 (rkX xs a 0) && blA xs a
theorem blA_yes {xs : List Nat} {a : Nat} (h : BlTo xs a xs.length) : blA xs a = true := decide_eq_true h
theorem blA_no {xs : List Nat} {a k : Nat} (hk : k < xs.length) (h : rkFin xs a k = false) : blA xs a = false := decide_eq_false fun hh => by rw [hh k hk] at h; cases h
theorem blTo_succ {xs : List Nat} {a k : Nat} (h : BlTo xs a k) (h1 : rkFin xs a k = true) : BlTo xs a (k + 1) := by
  intro i hi
  by_cases he : i = k
  · subst he; exact h1
  · exact h i (by omega)
def bl1 (xs : List Nat) (a : Nat) : Nat := if blG xs a then (blK xs a xs.length).1 else 0
def bl2 (xs : List Nat) (a : Nat) : Nat := if blG xs a then (blK xs a xs.length).2 else 0
theorem bl_no {xs : List Nat} {a : Nat} (h : blG xs a = false) : bl1 xs a = 0 ∧ bl2 xs a = 0 := by unfold bl1 bl2; rw [h]; exact ⟨rfl, rfl⟩
theorem bl_yes {xs : List Nat} {a : Nat} (h : blG xs a = true) : bl1 xs a = (blK xs a xs.length).1 ∧ bl2 xs a = (blK xs a xs.length).2 := by unfold bl1 bl2; rw [h]; exact ⟨rfl, rfl⟩
theorem retB2_bl {xs : List Nat} {a : Nat} {w w' : World} (hG : blG xs a = false) (h : Below w.heap.size w w') : RetB2 (bl1 xs a) (bl2 xs a) (blG xs a) w (.returned (.tuple #[.float .f32 0, .float .f32 0, .bool false])) w' := by
  rw [(bl_no hG).1, (bl_no hG).2, hG]; exact retB2_no h
theorem ls_abs {x : Nat} (h : finB .f32 x = true) : lsB (x % 2 ^ 31) = true := by
  obtain ⟨s, m, e, hr⟩ := fin_num h
  have hm := read_mod32 x
  rw [hr] at hm
  simp only [] at hm
  unfold lsB geB'
  rw [num_fin hm, order_num hm read_0, cmp_gt_iff, cmp_eq_iff, signed_zero, Bool.true_and]
  have := sgn_nn m (e - min e (-149)).toNat
  by_cases h0 : signed false m (e - min e (-149)).toNat = 0
  · rw [decide_eq_true h0, Bool.or_true]
  · rw [decide_eq_true (show 0 < signed false m (e - min e (-149)).toNat by omega), Bool.true_or]
theorem ls_0 : lsB 0 = true := by decide
theorem blK_fst_lt (xs : List Nat) (a : Nat) : ∀ k, (blK xs a k).1 < 2 ^ 32
  | 0 => by show (0 : Nat) < 2 ^ 32; decide
  | k + 1 => by
    simp only [blK]
    split
    · exact abs_lt _
    · exact blK_fst_lt xs a k
def BlRel (w0 : World) (xs : List Nat) (a : Nat) (p q i : Value) (wr : World) : Prop := ∃ k m : Nat, k ≤ xs.length ∧ i = .int .i64 k ∧ p = .float .f32 (blK xs a k).1 ∧ q = .float .f32 (blK xs a k).2 ∧ BlTo xs a k ∧ finB .f32 (blK xs a k).2 = true ∧ (blK xs a k).2 < 2 ^ 32 ∧ wr = w0.drewN m
def BlRelI (w0 : World) (xs : List Nat) (a : Nat) (p q i : Value) (wr : World) : Prop := ∃ k : Nat, k ≤ xs.length ∧ i = .int .i64 k ∧ p = .float .f32 (blK xs a k).1 ∧ q = .float .f32 (blK xs a k).2 ∧ BlTo xs a k ∧ finB .f32 (blK xs a k).2 = true ∧ (blK xs a k).2 < 2 ^ 32 ∧ Below w0.heap.size w0 wr
theorem blK_yes {xs : List Nat} {a k y : Nat} (hy : xs.getD k 0 % 2 ^ 31 = y) (h : lt32 (rkX xs a y) (blK xs a k).2 = true) : blK xs a (k + 1) = (y, rkX xs a y) := by simp only [blK, hy, h, if_true]
theorem blK_non {xs : List Nat} {a k y : Nat} (hy : xs.getD k 0 % 2 ^ 31 = y) (h : lt32 (rkX xs a y) (blK xs a k).2 = false) : blK xs a (k + 1) = blK xs a k := by simp only [blK, hy, h, if_false, Bool.false_eq_true]
theorem is_fin2 {r : Nat} (hr : r < 2 ^ 32) (hf : finB .f32 r = true) : Is .f32 r r := ⟨cn_fin hf, hr⟩
theorem blK_fst_fin {xs : List Nat} (a : Nat) (hf : finA xs = true) : ∀ k, k ≤ xs.length → finB .f32 (blK xs a k).1 = true
  | 0, _ => by show finB .f32 0 = true; decide
  | k + 1, hk => by
    simp only [blK]
    split
    · have := finA_out hf k (by omega)
      have e : xs.getD k 0 = xs[k] := by simp [show k < xs.length by omega]
      rw [e]
      exact abs_fin this
    · exact blK_fst_fin a hf k (by omega)
set_option maxRecDepth 100000 in
set_option maxHeartbeats 4000000 in
theorem blS_ok (v : Value) (xs : List Nat) (a : Nat) (w : World) (hv : Rd w w.heap.size v (fl xs)) (hm : xs.length ≤ 1048576) (hx : ∀ x ∈ xs, x < 2 ^ 32) (ha : a < 2 ^ 32) (hlong : isL xs = true) (hpa : psB a = true) :
    Calls Try.prog 30 #[v, .float .f32 a] w (RetB2 (bl1 xs a) (bl2 xs a) (blG xs a) w) := by
  have hfin := (isL_len hlong).2.2
  have hlen := (isL_len hlong).2.1
  have H1 := Lib.hid (lngS_any v xs w _ hv hm hx)
  have H2 := Lib.hid (fun w' => psS_any a w' ha)
  have T1 := Lib.hid hlong
  have T2 := Lib.hid hpa
  obtain ⟨A, c, ev, q1, q2, q3⟩ := id hv
  rw [fl_len] at ev q1 q3
  subst ev
  have HQ := Lib.hid q3
  have HX := Lib.hid hx
  have R0 := Lib.hid hv
  have HF := Lib.hid (fun (l : Nat) (hl : l < 2 ^ 32) (hls : lsB l = true) (w' : World) (hr : Rd w' w'.heap.size (.slice A xs.length c) (fl xs)) => rkS_any _ xs a l w' hr hlen hx hfin ha (psB_fin hpa) hl hls)
  have HG := Lib.hid (show blG xs a = (finB .f32 (rkX xs a 0) && blA xs a) by unfold blG; rw [hlong, hpa]; rfl)
  clear q3 hx hv hlong hpa
  cases hf0 : finB .f32 (rkX xs a 0) with
  | false =>
    have HG0 := Lib.hid (show blG xs a = false by rw [HG.out, hf0]; rfl)
    have HT := Lib.hid hf0
    clear hf0 HG
    go_enter Try.func30, Try.ntmps30
    go_wp2_with (first | (go_at_call 52; refine H1.out.mono ?_; rintro e w' ⟨rfl, n1, rfl⟩; rw [T1.out]) | (go_at_call 64; refine (H2.out _).mono ?_; rintro e w' ⟨rfl, n2, rfl⟩; rw [T2.out]) | (go_at_call 65; refine (HF.out 0 (by decide) ls_0 _ (by exact R0.out)).mono ?_; rintro e w' ⟨r3, n3, rfl, h3, rfl⟩) | (go_at_call 47; refine (specFin_any _ _ h3.2).mono ?_; rintro e w' ⟨rfl, n4, rfl⟩; rw [fin_is h3, HT.out]))
    go_ret3
    exact retB2_bl HG0.out (by first | exact below_drawn (Below.refl _ _) _ | exact below_drawn (below_drawn (Below.refl _ _) _) _)
  | true =>
    have HT := Lib.hid hf0
    have HE := Lib.hid (nan_fin hf0)
    clear hf0
    go_enter Try.func30, Try.ntmps30
    go_wp2_with (first | (go_at_call 52; refine H1.out.mono ?_; rintro e w' ⟨rfl, n1, rfl⟩; rw [T1.out]) | (go_at_call 64; refine (H2.out _).mono ?_; rintro e w' ⟨rfl, n2, rfl⟩; rw [T2.out]) | (go_at_call 65; refine (HF.out 0 (by decide) ls_0 _ (by exact R0.out)).mono ?_; rintro e w' ⟨r3, n3, rfl, h3, rfl⟩) | (go_at_call 47; refine (specFin_any _ _ h3.2).mono ?_; rintro e w' ⟨rfl, n4, rfl⟩; rw [fin_is h3, HT.out]))
    obtain rfl := is_eq h3 HE.out
    go_loopw [7, 8, 28] (BlRel w xs a) (fun _ _ i _ => xs.length - (intOf i).toNat)
    case atStart => exact ⟨0, _, Nat.zero_le _, rfl, rfl, rfl, fun i hi => by omega, HT.out, h3.2, rfl⟩
    case round =>
      clear h3
      obtain ⟨k, m, hk, rfl, rfl, rfl, hto, hfk, hlk, rfl⟩ := hrel
      have HTO := Lib.hid hto
      have HFK := Lib.hid hfk
      have HLK := Lib.hid hlk
      clear hto hfk hlk
      by_cases hlt : k < xs.length
      · obtain ⟨b, off, rfl, hbl, hcc⟩ := HQ.out (by omega)
        have h1 : w.cell? ⟨b, off + k, none⟩ = some (.float .f32 xs[k]) := hcc k _ (fl_get xs k hlt)
        have hfx := finA_out hfin k hlt
        have hxk := HX.out _ (List.getElem_mem hlt)
        have HZ := Lib.hid (fun w' => sizS_any xs[k] w' hxk hfx)
        obtain ⟨y, hy⟩ : ∃ y, xs[k] % 2 ^ 31 = y := ⟨_, rfl⟩
        have hy2 : xs.getD k 0 % 2 ^ 31 = y := by rw [← hy]; simp [hlt]
        have HY := Lib.hid hy2
        have hly : y < 2 ^ 32 := by rw [← hy]; exact abs_lt _
        have hsy : lsB y = true := by rw [← hy]; exact ls_abs hfx
        have HFY := Lib.hid (HF.out y hly hsy)
        have HRF := Lib.hid (show rkFin xs a k = finB .f32 (rkX xs a y) by unfold rkFin; rw [hy2])
        rw [hy] at HZ
        clear hcc hfx hxk hy hy2 hly hsy HF
        generalize xs[k] = x at *
        cases hf : finB .f32 (rkX xs a y) with
        | false =>
          have HF1 := Lib.hid hf
          have HG0 := Lib.hid (show blG xs a = false by rw [HG.out, blA_no hlt (HRF.out.trans hf), Bool.and_false])
          clear hf
          go_wp2_with (first | (go_at_call 68; refine (HZ.out _).mono ?_; rintro e w' ⟨rfl, n1, rfl⟩) | (go_at_call 65; refine (HFY.out _ (by exact R0.out)).mono ?_; rintro e w' ⟨r3, n3, rfl, h3, rfl⟩) | (go_at_call 47; refine (specFin_any _ _ h3.2).mono ?_; rintro e w' ⟨rfl, n4, rfl⟩; rw [fin_is h3, HF1.out]))
          go_ret3
          exact retB2_bl HG0.out (by first | exact below_drawn (Below.refl _ _) _ | exact below_drawn (below_drawn (Below.refl _ _) _) _)
        | true =>
          have HF1 := Lib.hid hf
          have HN1 := Lib.hid (nan_fin hf)
          obtain ⟨r, hr⟩ : ∃ r, rkX xs a y = r := ⟨_, rfl⟩
          have HR := Lib.hid hr
          rw [hr] at HFY HRF HF1 HN1
          clear hf hr
          obtain ⟨z, hz⟩ : ∃ z, (blK xs a k).2 = z := ⟨_, rfl⟩
          have HZ2 := Lib.hid hz
          rw [hz]
          clear hz
          cases hg : lt32 r z
          all_goals
            have hg' : (FloatKind.f32.format.order r z == some .lt) = _ := hg
            have HGG := Lib.hid hg
            clear hg
            go_wp2_with (first | (go_at_call 68; refine (HZ.out _).mono ?_; rintro e w' ⟨rfl, n1, rfl⟩) | (go_at_call 65; refine (HFY.out _ (by exact R0.out)).mono ?_; rintro e w' ⟨r3, n3, rfl, h3, rfl⟩; (have h3e := is_eq h3 HN1.out); subst h3e) | (go_at_call 47; refine (specFin_any _ _ h3.2).mono ?_; rintro e w' ⟨rfl, n4, rfl⟩; rw [HF1.out]))
            go_roundw
            case rel =>
              first
                | exact ⟨k + 1, _, by omega, by go_num, by rw [blK_yes HY.out (by rw [HR.out, HZ2.out]; exact HGG.out)], by rw [blK_yes HY.out (by rw [HR.out, HZ2.out]; exact HGG.out), HR.out], blTo_succ HTO.out (HRF.out.trans HF1.out), by rw [blK_yes HY.out (by rw [HR.out, HZ2.out]; exact HGG.out)]; rw [HR.out]; exact HF1.out, by rw [blK_yes HY.out (by rw [HR.out, HZ2.out]; exact HGG.out)]; rw [HR.out]; exact h3.2, rfl⟩
                | exact ⟨k + 1, _, by omega, by go_num, by rw [blK_non HY.out (by rw [HR.out, HZ2.out]; exact HGG.out)], by rw [blK_non HY.out (by rw [HR.out, HZ2.out]; exact HGG.out), HZ2.out], blTo_succ HTO.out (HRF.out.trans HF1.out), by rw [blK_non HY.out (by rw [HR.out, HZ2.out]; exact HGG.out)]; exact HFK.out, by rw [blK_non HY.out (by rw [HR.out, HZ2.out]; exact HGG.out)]; exact HLK.out, rfl⟩
            case measure => simp [intOf]; omega
      · obtain rfl : k = xs.length := by omega
        have HG1 := Lib.hid (show blG xs a = true by rw [HG.out, HT.out, blA_yes HTO.out]; rfl)
        go_wp2_with fail
        go_ret3
        rw [(bl_yes HG1.out).1, (bl_yes HG1.out).2, HG1.out]
        exact ⟨_, _, rfl, is_fin2 (blK_fst_lt _ _ _) (blK_fst_fin a hfin _ (Nat.le_refl _)), is_fin2 HLK.out HFK.out, below_drawn (Below.refl _ _) _⟩
end Go.Proofs.Ytpckljkhmaghmaa
