/-
  Contracts: the maxima of a list of finite numbers, of both sides.
-/
import Derived.Test.YtfhngajodfjkeabLng
import Derived.Test.YtfhngajodfjkeabFloAbs
import Derived.Test.YtfhngajodfjkeabLi
import Derived.Test.YtfhngajodfjkeabTw
namespace Go.Proofs.Ytfhngajodfjkeab
open Go.RowKit Fl
set_option linter.unusedVariables false

/-- A slice of int64, and an int64, as the model lays them. -/
theorem infoJ : (Try.prog.info? 2).map (fun i => (i.zero, i.size, i.bytes)) = some (some (.int .i64 0), 1, 8) := by kernel_rfl
theorem one_newJ (w : World) (x : Value) (E : TypeId) : ∀ j u, [x][j]? = some u → (w.alloc (.cells #[x] E)).cell? ((⟨w.heap.size, 0, none⟩ : Addr).add j) = some u := by
  intro j u hu
  cases j with
  | zero =>
    simp at hu; subst hu
    rw [Go.WideShapes.add_plain]
    exact (cell_of_row _ _ _ _ _ _ (heap_alloc_new w _)).trans rfl
  | succ j => simp at hu
theorem one_cellJ (k : IntKind) (n : Int) : ∀ u ∈ [Value.int k n], u.oneCell' = true := ints_oneCell k [n]
theorem il_appJ (xs : List Int) (x : Int) : il (xs ++ [x]) = il xs ++ [.int .i64 x] := by simp [il]
theorem own_nilJ (w : World) (lo : Nat) : Own w lo (.slice none 0 0) (il []) := ⟨none, 0, rfl, Nat.le_refl _, Nat.zero_le _, fun h => absurd h (by simp [il])⟩
/-- Returns a list and whether there is one. -/
def RetJ (xs : List Int) (b : Bool) (w : World) (e : Ending) (w' : World) : Prop := ∃ v, e = .returned (.tuple #[v, .bool b]) ∧ Own w' w.heap.size v (il xs) ∧ Below w.heap.size w w'

set_option maxRecDepth 100000 in
theorem absI_any (x : Nat) (w : World) : Calls Try.prog 108 #[.float .f32 x] w fun e w' => ∃ r n, e = .returned (.float .f32 r) ∧ Is .f32 r (absF x) ∧ w' = w.drewN n := by
  go_enter Try.func108, Try.ntmps108
  go_wp2_with (first | (refine up_wide (by rw [Try.underlying68]; rfl) Try.underlying72 ?_; intro r n hr) | (go_at_call 137; refine (abs_any _ _ (And.right (by assumption))).mono ?_; rintro e w' ⟨rfl, rfl⟩) | (refine up_narrow (by rw [Try.underlying72]; rfl) Try.underlying68 (abs_road (by assumption)).1 ?_; intro r2 n2 hr2))
  go_ret
  exact ⟨_, _, rfl, by rw [← (abs_road (by assumption)).2]; assumption, rfl⟩
theorem absI_fin (x : Nat) (w : World) (hf : finB .f32 x = true) : Calls Try.prog 108 #[.float .f32 x] w fun e w' => e = .returned (.float .f32 (x % 2 ^ 31)) ∧ ∃ n, w' = w.drewN n := by
  refine (absI_any x w).mono ?_
  rintro e w' ⟨r, n, rfl, hr, rfl⟩
  rw [absF_fin x hf] at hr
  have hn : isN .f32 (x % 2 ^ 31) = false := by
    rw [isN_mod32]
    unfold finB at hf
    unfold isN
    cases hq : FloatKind.f32.format.read x <;> rw [hq] at hf <;> simp_all [Ieee.Datum.isNaN]
  exact ⟨by rw [is_eq hr hn], n, rfl⟩
set_option maxHeartbeats 400000 in
theorem sizS_any (x : Nat) (w : World) (hx : x < 2 ^ 32) (hf : finB .f32 x = true) : Calls Try.prog 106 #[.float .f32 x] w fun e w' => e = .returned (.float .f32 (x % 2 ^ 31)) ∧ ∃ n, w' = w.drewN n := by
  have hn : isN .f32 (x % 2 ^ 31) = false := by
    rw [isN_mod32]
    unfold finB at hf
    unfold isN
    cases hq : FloatKind.f32.format.read x <;> rw [hq] at hf <;> simp_all [Ieee.Datum.isNaN]
  cases hle : leB x 0 with
  | true =>
    have HA := Lib.hid (neg_abs x hx hf hle)
    have HN := Lib.hid hn
    have hle' : (FloatKind.f32.format.order x 0 == some .lt || FloatKind.f32.format.order x 0 == some .eq) = true := hle
    clear hle hf hn
    go_enter Try.func106, Try.ntmps106
    go_wp2_with (refine up_ar rfl ?_; intro r n hr)
    go_ret
    refine ⟨?_, _, rfl⟩
    rw [← is_eq (show Is .f32 r (x % 2 ^ 31) by rw [← HA.out]; exact hr) HN.out]
    rfl
  | false =>
    have HA := Lib.hid (pos_abs x hx hf hle)
    have hle' : (FloatKind.f32.format.order x 0 == some .lt || FloatKind.f32.format.order x 0 == some .eq) = false := hle
    clear hle hf hn
    go_enter Try.func106, Try.ntmps106
    go_wp2_with fail
    go_ret
    exact ⟨by rw [HA.out]; rfl, 0, rfl⟩

def gt32 (a b : Nat) : Bool := FloatKind.f32.format.order a b == some .gt
def ge32 (a b : Nat) : Bool := FloatKind.f32.format.order a b == some .gt || FloatKind.f32.format.order a b == some .eq
def abA (xs : List Nat) (i : Nat) : Nat := xs.getD i 0 % 2 ^ 31
/-- Whether there is a maximum at i. -/
def mxB (xs : List Nat) (i : Nat) : Bool := gt32 (abA xs i) 0 && (decide (i = 0) || gt32 (abA xs i) (abA xs (i - 1))) && (decide (i + 1 = xs.length) || ge32 (abA xs i) (abA xs (i + 1)))
/-- The maxima below k. -/
def mxL (xs : List Nat) (k : Nat) : List Int := ((List.range k).filter (mxB xs)).map fun (i : Nat) => (i : Int)
theorem mxL_yes {xs : List Nat} {k : Nat} (h : mxB xs k = true) : mxL xs (k + 1) = mxL xs k ++ [(k : Int)] := by
  unfold mxL; rw [List.range_succ, List.filter_append, List.map_append]; simp [h]
theorem mxL_no {xs : List Nat} {k : Nat} (h : mxB xs k = false) : mxL xs (k + 1) = mxL xs k := by
  unfold mxL; rw [List.range_succ, List.filter_append, List.map_append]; simp [h]
theorem mxL_len (xs : List Nat) (k : Nat) : (mxL xs k).length ≤ k := by
  unfold mxL
  rw [List.length_map]
  exact Nat.le_trans (List.length_filter_le _ _) (by simp)
def MxRel (w0 : World) (xs : List Nat) (v i : Value) (wr : World) : Prop :=
  ∃ k : Nat, k ≤ xs.length ∧ i = .int .i64 k ∧ wr.ownsRow w0.heap.size 2 1 v (mxL xs k).length (il (mxL xs k)) ∧ Below w0.heap.size w0 wr
def RetI (xs : List Int) (w : World) (e : Ending) (w' : World) : Prop := ∃ v, e = .returned v ∧ Own w' w.heap.size v (il xs) ∧ Below w.heap.size w w'
theorem rowDrew {w : World} {base : Nat} {e : TypeId} {size : Nat} {v : Value} {n : Nat} {xs : List Value} (h : w.ownsRow base e size v n xs) (m : Nat) : (w.drewN m).ownsRow base e size v n xs := h
set_option maxRecDepth 100000 in
set_option maxHeartbeats 2000000 in
theorem mxI_any (v : Value) (xs : List Nat) (w : World) (B : Nat) (h : Rd w B v (fl xs)) (hB : B ≤ w.heap.size) (h1 : 1 ≤ xs.length) (hm : xs.length ≤ 128) (hx : ∀ x ∈ xs, x < 2 ^ 32) (hf : finA xs = true) :
    Calls Try.prog 68 #[v] w (RetI (mxL xs xs.length) w) := by
  obtain ⟨i0, hi, hz0, hz1, hz2⟩ := info_parts infoJ
  obtain ⟨A, c, hv, hc1, hc2, hcell⟩ := h
  rw [fl_len] at hv hc1 hcell
  subst hv
  obtain ⟨b, off, rfl, hbl, hcc⟩ := hcell (by omega)
  have HCC := Lib.hid hcc
  have HX := Lib.hid hx
  have HF := Lib.hid (finA_out hf)
  clear hcc hcell hx hf
  go_enter Try.func68, Try.ntmps68
  go_wp2
  have hown : (w.alloc (Obj.cells #[] 2)).ownsRow w.heap.size 2 1 (.slice (some ⟨w.heap.size, 0, none⟩) 0 0) 0 (il []) := World.ownsRow_made w #[] 0 (Nat.le_refl _) (Nat.zero_le _) rfl
  have hb0 : Below w.heap.size w (w.alloc (Obj.cells #[] 2)) := (Below.refl _ _).alloc (Nat.le_refl _) _
  go_loopw [3, 14] (MxRel w xs) (fun _ i _ => xs.length - (intOf i).toNat)
  case atStart => exact ⟨0, Nat.zero_le _, rfl, hown, hb0⟩
  case round =>
    clear hown hb0
    obtain ⟨k, hk, rfl, hown, hb⟩ := hrel
    have hlen := mxL_len xs k
    have HOW := Lib.hid hown
    have HB := Lib.hid hb
    clear hown hb
    by_cases hlt : k < xs.length
    · have hbw : b < wr.heap.size := by have := HB.out.size; omega
      have cell : ∀ i (hi : i < xs.length), ∀ m, (wr.drewN m).cell? ⟨b, off + i, none⟩ = some (.float .f32 xs[i]) := fun i hi m => (HB.out.cell (p := ⟨b, off + i, none⟩) (by show b < _; omega)).trans (HCC.out i _ (fl_get xs i hi))
      have con : ∀ i (hi : i < xs.length), ∀ w', Calls Try.prog 108 #[.float .f32 xs[i]] w' fun e w'' => e = .returned (.float .f32 (abA xs i)) ∧ ∃ n, w'' = w'.drewN n := fun i hi w' => by
        have := absI_fin xs[i] w' (HF.out i hi)
        rw [show xs[i] % 2 ^ 31 = abA xs i by unfold abA; simp [List.getD, hi]] at this
        exact this
      have hs0 := cell k hlt
      have hs0' : wr.cell? ⟨b, off + k, none⟩ = some (.float .f32 xs[k]) := hs0 0
      have HC0 := Lib.hid (con k hlt)
      cases g1 : gt32 (abA xs k) 0 with
      | false =>
        have e1 : (FloatKind.f32.format.order (abA xs k) 0 == some .gt) = false := g1
        have HC1 := HC0
        have HC2 := HC0
        clear cell con HCC HF
        generalize xs[k] = x0 at *
        have HM := Lib.hid (show mxB xs k = false by unfold mxB; rw [g1]; simp)
        have HN := Lib.hid (mxL_no HM.out)
        clear HM HX
        generalize hL : mxL xs (k + 1) = L1 at *
        go_wp2_with (go_at_call 108; first | (refine (HC0.out _).mono ?_; rintro e w' ⟨rfl, n0, rfl⟩) | (refine (HC1.out _).mono ?_; rintro e w' ⟨rfl, n1, rfl⟩) | (refine (HC2.out _).mono ?_; rintro e w' ⟨rfl, n2, rfl⟩))
        go_roundw
        case rel => exact ⟨k + 1, by omega, by go_num, by rw [hL, HN.out]; exact rowDrew HOW.out _, below_drawn HB.out _⟩
        case measure => simp [intOf]; omega
      | true =>
        have e1 : (FloatKind.f32.format.order (abA xs k) 0 == some .gt) = true := g1
        by_cases hk0 : k = 0
        · have ek : (((k : Nat) : Int) == 0) = true := by rw [beq_iff_eq]; omega
          by_cases hl : k + 1 = xs.length
          · have el : (((k : Nat) : Int) + 1 == ((xs.length : Nat) : Int)) = true := by rw [beq_iff_eq]; omega
            have el' : (((k : Nat) : Int) == ((xs.length : Nat) : Int) - 1) = true := by rw [beq_iff_eq]; omega
            have HC1 := HC0
            have HC2 := HC0
            clear cell con HCC HF
            generalize xs[k] = x0 at *
            have HM := Lib.hid (show mxB xs k = true by unfold mxB; rw [g1, decide_eq_true hk0, decide_eq_true hl]; simp)
            have HN := Lib.hid (mxL_yes HM.out)
            clear HM HX hk0 hl
            generalize hL : mxL xs (k + 1) = L1 at *
            go_wp2_with (first | (go_at_call 108; first | (refine (HC0.out _).mono ?_; rintro e w' ⟨rfl, n0, rfl⟩) | (refine (HC1.out _).mono ?_; rintro e w' ⟨rfl, n1, rfl⟩) | (refine (HC2.out _).mono ?_; rintro e w' ⟨rfl, n2, rfl⟩)) | (at_builtin; refine wpList_append_own _ rfl _ _ 23 rfl w.heap.size 2 i0 (.int .i64 0) 1 8 Try.underlying23 hi hz0 hz1 hz2 rfl (by decide) _ _ _ rfl ((rowDrew HOW.out _).alloc _) ⟨wr.heap.size, 0, none⟩ 1 1 [.int .i64 k] rfl rfl (one_newJ _ _ _) (one_cellJ _ _) (by unfold maxLen; omega) (by omega) (by simp; have := HB.out.size; omega) ?_; intro v' w1 hown' hgrow _))
            have hown2 : w1.ownsRow w.heap.size 2 1 v' ((mxL xs k).length + 1) (il (mxL xs k ++ [(k : Int)])) := by rw [il_appJ]; exact hown'
            have hb2 : Below w.heap.size w w1 := ((below_drawn HB.out _).alloc (by exact HB.out.size) _).grown hgrow (by simp; have := HB.out.size; omega) (fun j hj => (HOW.out.lt j hj).1)
            rw [← HN.out, show (mxL xs k).length + 1 = L1.length by rw [HN.out]; simp] at hown2
            have HO := Lib.hid hown2
            have HB2 := Lib.hid hb2
            clear hown' hgrow hown2 hb2
            go_wp2
            go_roundw
            case rel => exact ⟨k + 1, by omega, by go_num, by rw [hL]; exact HO.out, HB2.out⟩
            case measure => simp [intOf]; omega
          · have el : (((k : Nat) : Int) + 1 == ((xs.length : Nat) : Int)) = false := by rw [beq_eq_false_iff_ne]; omega
            have el' : (((k : Nat) : Int) == ((xs.length : Nat) : Int) - 1) = false := by rw [beq_eq_false_iff_ne]; omega
            have hk2 : k + 1 < xs.length := by omega
            have hs2 := cell (k + 1) (by omega)
            have hs2' : wr.cell? ⟨b, off + (k + 1), none⟩ = some (.float .f32 xs[k + 1]) := hs2 0
            have HC1 := HC0
            have HC2 := Lib.hid (con (k + 1) (by omega))
            cases g3 : ge32 (abA xs k) (abA xs (k + 1)) with
            | false =>
              have e3 : (FloatKind.f32.format.order (abA xs k) (abA xs (k + 1)) == some .gt || FloatKind.f32.format.order (abA xs k) (abA xs (k + 1)) == some .eq) = false := g3
              clear cell con HCC HF
              generalize xs[k] = x0 at *
              generalize xs[k + 1] = x2 at *
              have HM := Lib.hid (show mxB xs k = false by unfold mxB; rw [g3, decide_eq_false hl]; simp)
              have HN := Lib.hid (mxL_no HM.out)
              clear HM HX hk0 hl
              generalize hL : mxL xs (k + 1) = L1 at *
              go_wp2_with (go_at_call 108; first | (refine (HC0.out _).mono ?_; rintro e w' ⟨rfl, n0, rfl⟩) | (refine (HC1.out _).mono ?_; rintro e w' ⟨rfl, n1, rfl⟩) | (refine (HC2.out _).mono ?_; rintro e w' ⟨rfl, n2, rfl⟩))
              go_roundw
              case rel => exact ⟨k + 1, by omega, by go_num, by rw [hL, HN.out]; exact rowDrew HOW.out _, below_drawn HB.out _⟩
              case measure => simp [intOf]; omega
            | true =>
              have e3 : (FloatKind.f32.format.order (abA xs k) (abA xs (k + 1)) == some .gt || FloatKind.f32.format.order (abA xs k) (abA xs (k + 1)) == some .eq) = true := g3
              clear cell con HCC HF
              generalize xs[k] = x0 at *
              generalize xs[k + 1] = x2 at *
              have HM := Lib.hid (show mxB xs k = true by unfold mxB; rw [g1, g3, decide_eq_true hk0]; simp)
              have HN := Lib.hid (mxL_yes HM.out)
              clear HM HX hk0 hl
              generalize hL : mxL xs (k + 1) = L1 at *
              go_wp2_with (first | (go_at_call 108; first | (refine (HC0.out _).mono ?_; rintro e w' ⟨rfl, n0, rfl⟩) | (refine (HC1.out _).mono ?_; rintro e w' ⟨rfl, n1, rfl⟩) | (refine (HC2.out _).mono ?_; rintro e w' ⟨rfl, n2, rfl⟩)) | (at_builtin; refine wpList_append_own _ rfl _ _ 23 rfl w.heap.size 2 i0 (.int .i64 0) 1 8 Try.underlying23 hi hz0 hz1 hz2 rfl (by decide) _ _ _ rfl ((rowDrew HOW.out _).alloc _) ⟨wr.heap.size, 0, none⟩ 1 1 [.int .i64 k] rfl rfl (one_newJ _ _ _) (one_cellJ _ _) (by unfold maxLen; omega) (by omega) (by simp; have := HB.out.size; omega) ?_; intro v' w1 hown' hgrow _))
              have hown2 : w1.ownsRow w.heap.size 2 1 v' ((mxL xs k).length + 1) (il (mxL xs k ++ [(k : Int)])) := by rw [il_appJ]; exact hown'
              have hb2 : Below w.heap.size w w1 := ((below_drawn HB.out _).alloc (by exact HB.out.size) _).grown hgrow (by simp; have := HB.out.size; omega) (fun j hj => (HOW.out.lt j hj).1)
              rw [← HN.out, show (mxL xs k).length + 1 = L1.length by rw [HN.out]; simp] at hown2
              have HO := Lib.hid hown2
              have HB2 := Lib.hid hb2
              clear hown' hgrow hown2 hb2
              go_wp2
              go_roundw
              case rel => exact ⟨k + 1, by omega, by go_num, by rw [hL]; exact HO.out, HB2.out⟩
              case measure => simp [intOf]; omega
        · have ek : (((k : Nat) : Int) == 0) = false := by rw [beq_eq_false_iff_ne]; omega
          have hkp : 0 < k := by omega
          have hs1 := cell (k - 1) (by omega)
          have hs1' : wr.cell? ⟨b, off + (k - 1), none⟩ = some (.float .f32 xs[k - 1]) := hs1 0
          have HC1 := Lib.hid (con (k - 1) (by omega))
          cases g2 : gt32 (abA xs k) (abA xs (k - 1)) with
          | false =>
            have e2 : (FloatKind.f32.format.order (abA xs k) (abA xs (k - 1)) == some .gt) = false := g2
            have HC2 := HC0
            clear cell con HCC HF
            generalize xs[k] = x0 at *
            generalize xs[k - 1] = x1 at *
            have HM := Lib.hid (show mxB xs k = false by unfold mxB; rw [g2, decide_eq_false hk0]; simp)
            have HN := Lib.hid (mxL_no HM.out)
            clear HM HX hk0
            generalize hL : mxL xs (k + 1) = L1 at *
            go_wp2_with (go_at_call 108; first | (refine (HC0.out _).mono ?_; rintro e w' ⟨rfl, n0, rfl⟩) | (refine (HC1.out _).mono ?_; rintro e w' ⟨rfl, n1, rfl⟩) | (refine (HC2.out _).mono ?_; rintro e w' ⟨rfl, n2, rfl⟩))
            go_roundw
            case rel => exact ⟨k + 1, by omega, by go_num, by rw [hL, HN.out]; exact rowDrew HOW.out _, below_drawn HB.out _⟩
            case measure => simp [intOf]; omega
          | true =>
            have e2 : (FloatKind.f32.format.order (abA xs k) (abA xs (k - 1)) == some .gt) = true := g2
            by_cases hl : k + 1 = xs.length
            · have el : (((k : Nat) : Int) + 1 == ((xs.length : Nat) : Int)) = true := by rw [beq_iff_eq]; omega
              have el' : (((k : Nat) : Int) == ((xs.length : Nat) : Int) - 1) = true := by rw [beq_iff_eq]; omega
              have HC2 := HC0
              clear cell con HCC HF
              generalize xs[k] = x0 at *
              generalize xs[k - 1] = x1 at *
              have HM := Lib.hid (show mxB xs k = true by unfold mxB; rw [g1, g2, decide_eq_true hl]; simp)
              have HN := Lib.hid (mxL_yes HM.out)
              clear HM HX hk0 hl
              generalize hL : mxL xs (k + 1) = L1 at *
              go_wp2_with (first | (go_at_call 108; first | (refine (HC0.out _).mono ?_; rintro e w' ⟨rfl, n0, rfl⟩) | (refine (HC1.out _).mono ?_; rintro e w' ⟨rfl, n1, rfl⟩) | (refine (HC2.out _).mono ?_; rintro e w' ⟨rfl, n2, rfl⟩)) | (at_builtin; refine wpList_append_own _ rfl _ _ 23 rfl w.heap.size 2 i0 (.int .i64 0) 1 8 Try.underlying23 hi hz0 hz1 hz2 rfl (by decide) _ _ _ rfl ((rowDrew HOW.out _).alloc _) ⟨wr.heap.size, 0, none⟩ 1 1 [.int .i64 k] rfl rfl (one_newJ _ _ _) (one_cellJ _ _) (by unfold maxLen; omega) (by omega) (by simp; have := HB.out.size; omega) ?_; intro v' w1 hown' hgrow _))
              have hown2 : w1.ownsRow w.heap.size 2 1 v' ((mxL xs k).length + 1) (il (mxL xs k ++ [(k : Int)])) := by rw [il_appJ]; exact hown'
              have hb2 : Below w.heap.size w w1 := ((below_drawn HB.out _).alloc (by exact HB.out.size) _).grown hgrow (by simp; have := HB.out.size; omega) (fun j hj => (HOW.out.lt j hj).1)
              rw [← HN.out, show (mxL xs k).length + 1 = L1.length by rw [HN.out]; simp] at hown2
              have HO := Lib.hid hown2
              have HB2 := Lib.hid hb2
              clear hown' hgrow hown2 hb2
              go_wp2
              go_roundw
              case rel => exact ⟨k + 1, by omega, by go_num, by rw [hL]; exact HO.out, HB2.out⟩
              case measure => simp [intOf]; omega
            · have el : (((k : Nat) : Int) + 1 == ((xs.length : Nat) : Int)) = false := by rw [beq_eq_false_iff_ne]; omega
              have el' : (((k : Nat) : Int) == ((xs.length : Nat) : Int) - 1) = false := by rw [beq_eq_false_iff_ne]; omega
              have hk2 : k + 1 < xs.length := by omega
              have hs2 := cell (k + 1) (by omega)
              have hs2' : wr.cell? ⟨b, off + (k + 1), none⟩ = some (.float .f32 xs[k + 1]) := hs2 0
              have HC2 := Lib.hid (con (k + 1) (by omega))
              cases g3 : ge32 (abA xs k) (abA xs (k + 1)) with
              | false =>
                have e3 : (FloatKind.f32.format.order (abA xs k) (abA xs (k + 1)) == some .gt || FloatKind.f32.format.order (abA xs k) (abA xs (k + 1)) == some .eq) = false := g3
                clear cell con HCC HF
                generalize xs[k] = x0 at *
                generalize xs[k - 1] = x1 at *
                generalize xs[k + 1] = x2 at *
                have HM := Lib.hid (show mxB xs k = false by unfold mxB; rw [g3, decide_eq_false hl]; simp)
                have HN := Lib.hid (mxL_no HM.out)
                clear HM HX hk0 hl
                generalize hL : mxL xs (k + 1) = L1 at *
                go_wp2_with (go_at_call 108; first | (refine (HC0.out _).mono ?_; rintro e w' ⟨rfl, n0, rfl⟩) | (refine (HC1.out _).mono ?_; rintro e w' ⟨rfl, n1, rfl⟩) | (refine (HC2.out _).mono ?_; rintro e w' ⟨rfl, n2, rfl⟩))
                go_roundw
                case rel => exact ⟨k + 1, by omega, by go_num, by rw [hL, HN.out]; exact rowDrew HOW.out _, below_drawn HB.out _⟩
                case measure => simp [intOf]; omega
              | true =>
                have e3 : (FloatKind.f32.format.order (abA xs k) (abA xs (k + 1)) == some .gt || FloatKind.f32.format.order (abA xs k) (abA xs (k + 1)) == some .eq) = true := g3
                clear cell con HCC HF
                generalize xs[k] = x0 at *
                generalize xs[k - 1] = x1 at *
                generalize xs[k + 1] = x2 at *
                have HM := Lib.hid (show mxB xs k = true by unfold mxB; rw [g1, g2, g3]; simp)
                have HN := Lib.hid (mxL_yes HM.out)
                clear HM HX hk0 hl
                generalize hL : mxL xs (k + 1) = L1 at *
                go_wp2_with (first | (go_at_call 108; first | (refine (HC0.out _).mono ?_; rintro e w' ⟨rfl, n0, rfl⟩) | (refine (HC1.out _).mono ?_; rintro e w' ⟨rfl, n1, rfl⟩) | (refine (HC2.out _).mono ?_; rintro e w' ⟨rfl, n2, rfl⟩)) | (at_builtin; refine wpList_append_own _ rfl _ _ 23 rfl w.heap.size 2 i0 (.int .i64 0) 1 8 Try.underlying23 hi hz0 hz1 hz2 rfl (by decide) _ _ _ rfl ((rowDrew HOW.out _).alloc _) ⟨wr.heap.size, 0, none⟩ 1 1 [.int .i64 k] rfl rfl (one_newJ _ _ _) (one_cellJ _ _) (by unfold maxLen; omega) (by omega) (by simp; have := HB.out.size; omega) ?_; intro v' w1 hown' hgrow _))
                have hown2 : w1.ownsRow w.heap.size 2 1 v' ((mxL xs k).length + 1) (il (mxL xs k ++ [(k : Int)])) := by rw [il_appJ]; exact hown'
                have hb2 : Below w.heap.size w w1 := ((below_drawn HB.out _).alloc (by exact HB.out.size) _).grown hgrow (by simp; have := HB.out.size; omega) (fun j hj => (HOW.out.lt j hj).1)
                rw [← HN.out, show (mxL xs k).length + 1 = L1.length by rw [HN.out]; simp] at hown2
                have HO := Lib.hid hown2
                have HB2 := Lib.hid hb2
                clear hown' hgrow hown2 hb2
                go_wp2
                go_roundw
                case rel => exact ⟨k + 1, by omega, by go_num, by rw [hL]; exact HO.out, HB2.out⟩
                case measure => simp [intOf]; omega
    · obtain rfl : k = xs.length := by omega
      clear HF
      go_wp2
      go_ret
      exact ⟨_, rfl, Own.row HOW.out, HB.out⟩
set_option maxRecDepth 100000 in
set_option maxHeartbeats 2000000 in
theorem mxS_any (v : Value) (xs : List Nat) (w : World) (B : Nat) (h : Rd w B v (fl xs)) (hB : B ≤ w.heap.size) (h1 : 1 ≤ xs.length) (hm : xs.length ≤ 128) (hx : ∀ x ∈ xs, x < 2 ^ 32) (hf : finA xs = true) :
    Calls Try.prog 66 #[v] w (RetI (mxL xs xs.length) w) := by
  obtain ⟨i0, hi, hz0, hz1, hz2⟩ := info_parts infoJ
  obtain ⟨A, c, hv, hc1, hc2, hcell⟩ := h
  rw [fl_len] at hv hc1 hcell
  subst hv
  obtain ⟨b, off, rfl, hbl, hcc⟩ := hcell (by omega)
  have HCC := Lib.hid hcc
  have HX := Lib.hid hx
  have HF := Lib.hid (finA_out hf)
  clear hcc hcell hx hf
  go_enter Try.func66, Try.ntmps66
  go_wp2
  have hown : (w.alloc (Obj.cells #[] 2)).ownsRow w.heap.size 2 1 (.slice (some ⟨w.heap.size, 0, none⟩) 0 0) 0 (il []) := World.ownsRow_made w #[] 0 (Nat.le_refl _) (Nat.zero_le _) rfl
  have hb0 : Below w.heap.size w (w.alloc (Obj.cells #[] 2)) := (Below.refl _ _).alloc (Nat.le_refl _) _
  go_loopw [3, 9] (MxRel w xs) (fun _ i _ => xs.length - (intOf i).toNat)
  case atStart => exact ⟨0, Nat.zero_le _, rfl, hown, hb0⟩
  case round =>
    clear hown hb0
    obtain ⟨k, hk, rfl, hown, hb⟩ := hrel
    have hlen := mxL_len xs k
    have HOW := Lib.hid hown
    have HB := Lib.hid hb
    clear hown hb
    by_cases hlt : k < xs.length
    · have hbw : b < wr.heap.size := by have := HB.out.size; omega
      have cell : ∀ i (hi : i < xs.length), ∀ m, (wr.drewN m).cell? ⟨b, off + i, none⟩ = some (.float .f32 xs[i]) := fun i hi m => (HB.out.cell (p := ⟨b, off + i, none⟩) (by show b < _; omega)).trans (HCC.out i _ (fl_get xs i hi))
      have con : ∀ i (hi : i < xs.length), ∀ w', Calls Try.prog 106 #[.float .f32 xs[i]] w' fun e w'' => e = .returned (.float .f32 (abA xs i)) ∧ ∃ n, w'' = w'.drewN n := fun i hi w' => by
        have := sizS_any xs[i] w' (HX.out _ (List.getElem_mem hi)) (HF.out i hi)
        rw [show xs[i] % 2 ^ 31 = abA xs i by unfold abA; simp [List.getD, hi]] at this
        exact this
      have hs0 := cell k hlt
      have hs0' : wr.cell? ⟨b, off + k, none⟩ = some (.float .f32 xs[k]) := hs0 0
      have HC0 := Lib.hid (con k hlt)
      cases g1 : gt32 (abA xs k) 0 with
      | false =>
        have e1 : (FloatKind.f32.format.order (abA xs k) 0 == some .gt) = false := g1
        have HC1 := HC0
        have HC2 := HC0
        clear cell con HCC HF
        generalize xs[k] = x0 at *
        have HM := Lib.hid (show mxB xs k = false by unfold mxB; rw [g1]; simp)
        have HN := Lib.hid (mxL_no HM.out)
        clear HM HX
        generalize hL : mxL xs (k + 1) = L1 at *
        go_wp2_with (go_at_call 106; first | (refine (HC0.out _).mono ?_; rintro e w' ⟨rfl, n0, rfl⟩) | (refine (HC1.out _).mono ?_; rintro e w' ⟨rfl, n1, rfl⟩) | (refine (HC2.out _).mono ?_; rintro e w' ⟨rfl, n2, rfl⟩))
        go_roundw
        case rel => exact ⟨k + 1, by omega, by go_num, by rw [hL, HN.out]; exact rowDrew HOW.out _, below_drawn HB.out _⟩
        case measure => simp [intOf]; omega
      | true =>
        have e1 : (FloatKind.f32.format.order (abA xs k) 0 == some .gt) = true := g1
        by_cases hk0 : k = 0
        · have ek : (((k : Nat) : Int) == 0) = true := by rw [beq_iff_eq]; omega
          by_cases hl : k + 1 = xs.length
          · have el : (((k : Nat) : Int) + 1 == ((xs.length : Nat) : Int)) = true := by rw [beq_iff_eq]; omega
            have el' : (((k : Nat) : Int) == ((xs.length : Nat) : Int) - 1) = true := by rw [beq_iff_eq]; omega
            have HC1 := HC0
            have HC2 := HC0
            clear cell con HCC HF
            generalize xs[k] = x0 at *
            have HM := Lib.hid (show mxB xs k = true by unfold mxB; rw [g1, decide_eq_true hk0, decide_eq_true hl]; simp)
            have HN := Lib.hid (mxL_yes HM.out)
            clear HM HX hk0 hl
            generalize hL : mxL xs (k + 1) = L1 at *
            go_wp2_with (first | (go_at_call 106; first | (refine (HC0.out _).mono ?_; rintro e w' ⟨rfl, n0, rfl⟩) | (refine (HC1.out _).mono ?_; rintro e w' ⟨rfl, n1, rfl⟩) | (refine (HC2.out _).mono ?_; rintro e w' ⟨rfl, n2, rfl⟩)) | (at_builtin; refine wpList_append_own _ rfl _ _ 23 rfl w.heap.size 2 i0 (.int .i64 0) 1 8 Try.underlying23 hi hz0 hz1 hz2 rfl (by decide) _ _ _ rfl ((rowDrew HOW.out _).alloc _) ⟨wr.heap.size, 0, none⟩ 1 1 [.int .i64 k] rfl rfl (one_newJ _ _ _) (one_cellJ _ _) (by unfold maxLen; omega) (by omega) (by simp; have := HB.out.size; omega) ?_; intro v' w1 hown' hgrow _))
            have hown2 : w1.ownsRow w.heap.size 2 1 v' ((mxL xs k).length + 1) (il (mxL xs k ++ [(k : Int)])) := by rw [il_appJ]; exact hown'
            have hb2 : Below w.heap.size w w1 := ((below_drawn HB.out _).alloc (by exact HB.out.size) _).grown hgrow (by simp; have := HB.out.size; omega) (fun j hj => (HOW.out.lt j hj).1)
            rw [← HN.out, show (mxL xs k).length + 1 = L1.length by rw [HN.out]; simp] at hown2
            have HO := Lib.hid hown2
            have HB2 := Lib.hid hb2
            clear hown' hgrow hown2 hb2
            go_wp2
            go_roundw
            case rel => exact ⟨k + 1, by omega, by go_num, by rw [hL]; exact HO.out, HB2.out⟩
            case measure => simp [intOf]; omega
          · have el : (((k : Nat) : Int) + 1 == ((xs.length : Nat) : Int)) = false := by rw [beq_eq_false_iff_ne]; omega
            have el' : (((k : Nat) : Int) == ((xs.length : Nat) : Int) - 1) = false := by rw [beq_eq_false_iff_ne]; omega
            have hk2 : k + 1 < xs.length := by omega
            have hs2 := cell (k + 1) (by omega)
            have hs2' : wr.cell? ⟨b, off + (k + 1), none⟩ = some (.float .f32 xs[k + 1]) := hs2 0
            have HC1 := HC0
            have HC2 := Lib.hid (con (k + 1) (by omega))
            cases g3 : ge32 (abA xs k) (abA xs (k + 1)) with
            | false =>
              have e3 : (FloatKind.f32.format.order (abA xs k) (abA xs (k + 1)) == some .gt || FloatKind.f32.format.order (abA xs k) (abA xs (k + 1)) == some .eq) = false := g3
              clear cell con HCC HF
              generalize xs[k] = x0 at *
              generalize xs[k + 1] = x2 at *
              have HM := Lib.hid (show mxB xs k = false by unfold mxB; rw [g3, decide_eq_false hl]; simp)
              have HN := Lib.hid (mxL_no HM.out)
              clear HM HX hk0 hl
              generalize hL : mxL xs (k + 1) = L1 at *
              go_wp2_with (go_at_call 106; first | (refine (HC0.out _).mono ?_; rintro e w' ⟨rfl, n0, rfl⟩) | (refine (HC1.out _).mono ?_; rintro e w' ⟨rfl, n1, rfl⟩) | (refine (HC2.out _).mono ?_; rintro e w' ⟨rfl, n2, rfl⟩))
              go_roundw
              case rel => exact ⟨k + 1, by omega, by go_num, by rw [hL, HN.out]; exact rowDrew HOW.out _, below_drawn HB.out _⟩
              case measure => simp [intOf]; omega
            | true =>
              have e3 : (FloatKind.f32.format.order (abA xs k) (abA xs (k + 1)) == some .gt || FloatKind.f32.format.order (abA xs k) (abA xs (k + 1)) == some .eq) = true := g3
              clear cell con HCC HF
              generalize xs[k] = x0 at *
              generalize xs[k + 1] = x2 at *
              have HM := Lib.hid (show mxB xs k = true by unfold mxB; rw [g1, g3, decide_eq_true hk0]; simp)
              have HN := Lib.hid (mxL_yes HM.out)
              clear HM HX hk0 hl
              generalize hL : mxL xs (k + 1) = L1 at *
              go_wp2_with (first | (go_at_call 106; first | (refine (HC0.out _).mono ?_; rintro e w' ⟨rfl, n0, rfl⟩) | (refine (HC1.out _).mono ?_; rintro e w' ⟨rfl, n1, rfl⟩) | (refine (HC2.out _).mono ?_; rintro e w' ⟨rfl, n2, rfl⟩)) | (at_builtin; refine wpList_append_own _ rfl _ _ 23 rfl w.heap.size 2 i0 (.int .i64 0) 1 8 Try.underlying23 hi hz0 hz1 hz2 rfl (by decide) _ _ _ rfl ((rowDrew HOW.out _).alloc _) ⟨wr.heap.size, 0, none⟩ 1 1 [.int .i64 k] rfl rfl (one_newJ _ _ _) (one_cellJ _ _) (by unfold maxLen; omega) (by omega) (by simp; have := HB.out.size; omega) ?_; intro v' w1 hown' hgrow _))
              have hown2 : w1.ownsRow w.heap.size 2 1 v' ((mxL xs k).length + 1) (il (mxL xs k ++ [(k : Int)])) := by rw [il_appJ]; exact hown'
              have hb2 : Below w.heap.size w w1 := ((below_drawn HB.out _).alloc (by exact HB.out.size) _).grown hgrow (by simp; have := HB.out.size; omega) (fun j hj => (HOW.out.lt j hj).1)
              rw [← HN.out, show (mxL xs k).length + 1 = L1.length by rw [HN.out]; simp] at hown2
              have HO := Lib.hid hown2
              have HB2 := Lib.hid hb2
              clear hown' hgrow hown2 hb2
              go_wp2
              go_roundw
              case rel => exact ⟨k + 1, by omega, by go_num, by rw [hL]; exact HO.out, HB2.out⟩
              case measure => simp [intOf]; omega
        · have ek : (((k : Nat) : Int) == 0) = false := by rw [beq_eq_false_iff_ne]; omega
          have hkp : 0 < k := by omega
          have hs1 := cell (k - 1) (by omega)
          have hs1' : wr.cell? ⟨b, off + (k - 1), none⟩ = some (.float .f32 xs[k - 1]) := hs1 0
          have HC1 := Lib.hid (con (k - 1) (by omega))
          cases g2 : gt32 (abA xs k) (abA xs (k - 1)) with
          | false =>
            have e2 : (FloatKind.f32.format.order (abA xs k) (abA xs (k - 1)) == some .gt) = false := g2
            have HC2 := HC0
            clear cell con HCC HF
            generalize xs[k] = x0 at *
            generalize xs[k - 1] = x1 at *
            have HM := Lib.hid (show mxB xs k = false by unfold mxB; rw [g2, decide_eq_false hk0]; simp)
            have HN := Lib.hid (mxL_no HM.out)
            clear HM HX hk0
            generalize hL : mxL xs (k + 1) = L1 at *
            go_wp2_with (go_at_call 106; first | (refine (HC0.out _).mono ?_; rintro e w' ⟨rfl, n0, rfl⟩) | (refine (HC1.out _).mono ?_; rintro e w' ⟨rfl, n1, rfl⟩) | (refine (HC2.out _).mono ?_; rintro e w' ⟨rfl, n2, rfl⟩))
            go_roundw
            case rel => exact ⟨k + 1, by omega, by go_num, by rw [hL, HN.out]; exact rowDrew HOW.out _, below_drawn HB.out _⟩
            case measure => simp [intOf]; omega
          | true =>
            have e2 : (FloatKind.f32.format.order (abA xs k) (abA xs (k - 1)) == some .gt) = true := g2
            by_cases hl : k + 1 = xs.length
            · have el : (((k : Nat) : Int) + 1 == ((xs.length : Nat) : Int)) = true := by rw [beq_iff_eq]; omega
              have el' : (((k : Nat) : Int) == ((xs.length : Nat) : Int) - 1) = true := by rw [beq_iff_eq]; omega
              have HC2 := HC0
              clear cell con HCC HF
              generalize xs[k] = x0 at *
              generalize xs[k - 1] = x1 at *
              have HM := Lib.hid (show mxB xs k = true by unfold mxB; rw [g1, g2, decide_eq_true hl]; simp)
              have HN := Lib.hid (mxL_yes HM.out)
              clear HM HX hk0 hl
              generalize hL : mxL xs (k + 1) = L1 at *
              go_wp2_with (first | (go_at_call 106; first | (refine (HC0.out _).mono ?_; rintro e w' ⟨rfl, n0, rfl⟩) | (refine (HC1.out _).mono ?_; rintro e w' ⟨rfl, n1, rfl⟩) | (refine (HC2.out _).mono ?_; rintro e w' ⟨rfl, n2, rfl⟩)) | (at_builtin; refine wpList_append_own _ rfl _ _ 23 rfl w.heap.size 2 i0 (.int .i64 0) 1 8 Try.underlying23 hi hz0 hz1 hz2 rfl (by decide) _ _ _ rfl ((rowDrew HOW.out _).alloc _) ⟨wr.heap.size, 0, none⟩ 1 1 [.int .i64 k] rfl rfl (one_newJ _ _ _) (one_cellJ _ _) (by unfold maxLen; omega) (by omega) (by simp; have := HB.out.size; omega) ?_; intro v' w1 hown' hgrow _))
              have hown2 : w1.ownsRow w.heap.size 2 1 v' ((mxL xs k).length + 1) (il (mxL xs k ++ [(k : Int)])) := by rw [il_appJ]; exact hown'
              have hb2 : Below w.heap.size w w1 := ((below_drawn HB.out _).alloc (by exact HB.out.size) _).grown hgrow (by simp; have := HB.out.size; omega) (fun j hj => (HOW.out.lt j hj).1)
              rw [← HN.out, show (mxL xs k).length + 1 = L1.length by rw [HN.out]; simp] at hown2
              have HO := Lib.hid hown2
              have HB2 := Lib.hid hb2
              clear hown' hgrow hown2 hb2
              go_wp2
              go_roundw
              case rel => exact ⟨k + 1, by omega, by go_num, by rw [hL]; exact HO.out, HB2.out⟩
              case measure => simp [intOf]; omega
            · have el : (((k : Nat) : Int) + 1 == ((xs.length : Nat) : Int)) = false := by rw [beq_eq_false_iff_ne]; omega
              have el' : (((k : Nat) : Int) == ((xs.length : Nat) : Int) - 1) = false := by rw [beq_eq_false_iff_ne]; omega
              have hk2 : k + 1 < xs.length := by omega
              have hs2 := cell (k + 1) (by omega)
              have hs2' : wr.cell? ⟨b, off + (k + 1), none⟩ = some (.float .f32 xs[k + 1]) := hs2 0
              have HC2 := Lib.hid (con (k + 1) (by omega))
              cases g3 : ge32 (abA xs k) (abA xs (k + 1)) with
              | false =>
                have e3 : (FloatKind.f32.format.order (abA xs k) (abA xs (k + 1)) == some .gt || FloatKind.f32.format.order (abA xs k) (abA xs (k + 1)) == some .eq) = false := g3
                clear cell con HCC HF
                generalize xs[k] = x0 at *
                generalize xs[k - 1] = x1 at *
                generalize xs[k + 1] = x2 at *
                have HM := Lib.hid (show mxB xs k = false by unfold mxB; rw [g3, decide_eq_false hl]; simp)
                have HN := Lib.hid (mxL_no HM.out)
                clear HM HX hk0 hl
                generalize hL : mxL xs (k + 1) = L1 at *
                go_wp2_with (go_at_call 106; first | (refine (HC0.out _).mono ?_; rintro e w' ⟨rfl, n0, rfl⟩) | (refine (HC1.out _).mono ?_; rintro e w' ⟨rfl, n1, rfl⟩) | (refine (HC2.out _).mono ?_; rintro e w' ⟨rfl, n2, rfl⟩))
                go_roundw
                case rel => exact ⟨k + 1, by omega, by go_num, by rw [hL, HN.out]; exact rowDrew HOW.out _, below_drawn HB.out _⟩
                case measure => simp [intOf]; omega
              | true =>
                have e3 : (FloatKind.f32.format.order (abA xs k) (abA xs (k + 1)) == some .gt || FloatKind.f32.format.order (abA xs k) (abA xs (k + 1)) == some .eq) = true := g3
                clear cell con HCC HF
                generalize xs[k] = x0 at *
                generalize xs[k - 1] = x1 at *
                generalize xs[k + 1] = x2 at *
                have HM := Lib.hid (show mxB xs k = true by unfold mxB; rw [g1, g2, g3]; simp)
                have HN := Lib.hid (mxL_yes HM.out)
                clear HM HX hk0 hl
                generalize hL : mxL xs (k + 1) = L1 at *
                go_wp2_with (first | (go_at_call 106; first | (refine (HC0.out _).mono ?_; rintro e w' ⟨rfl, n0, rfl⟩) | (refine (HC1.out _).mono ?_; rintro e w' ⟨rfl, n1, rfl⟩) | (refine (HC2.out _).mono ?_; rintro e w' ⟨rfl, n2, rfl⟩)) | (at_builtin; refine wpList_append_own _ rfl _ _ 23 rfl w.heap.size 2 i0 (.int .i64 0) 1 8 Try.underlying23 hi hz0 hz1 hz2 rfl (by decide) _ _ _ rfl ((rowDrew HOW.out _).alloc _) ⟨wr.heap.size, 0, none⟩ 1 1 [.int .i64 k] rfl rfl (one_newJ _ _ _) (one_cellJ _ _) (by unfold maxLen; omega) (by omega) (by simp; have := HB.out.size; omega) ?_; intro v' w1 hown' hgrow _))
                have hown2 : w1.ownsRow w.heap.size 2 1 v' ((mxL xs k).length + 1) (il (mxL xs k ++ [(k : Int)])) := by rw [il_appJ]; exact hown'
                have hb2 : Below w.heap.size w w1 := ((below_drawn HB.out _).alloc (by exact HB.out.size) _).grown hgrow (by simp; have := HB.out.size; omega) (fun j hj => (HOW.out.lt j hj).1)
                rw [← HN.out, show (mxL xs k).length + 1 = L1.length by rw [HN.out]; simp] at hown2
                have HO := Lib.hid hown2
                have HB2 := Lib.hid hb2
                clear hown' hgrow hown2 hb2
                go_wp2
                go_roundw
                case rel => exact ⟨k + 1, by omega, by go_num, by rw [hL]; exact HO.out, HB2.out⟩
                case measure => simp [intOf]; omega
    · obtain rfl : k = xs.length := by omega
      clear HF
      go_wp2
      go_ret
      exact ⟨_, rfl, Own.row HOW.out, HB.out⟩

def mxR (xs : List Nat) : List Int := if isL xs then mxL xs xs.length else []
theorem mxR_len (xs : List Nat) : (mxR xs).length ≤ 1048576 := by
  unfold mxR
  split
  · rename_i h
    have := (isL_len h).2.1
    have := mxL_len xs xs.length
    omega
  · simp
set_option maxHeartbeats 400000 in
theorem mxoI_any (v : Value) (xs : List Nat) (w : World) (h : Rd w w.heap.size v (fl xs)) (hm : xs.length ≤ 1048576) (hx : ∀ x ∈ xs, x < 2 ^ 32) : Calls Try.prog 16 #[v] w (RetJ (mxR xs) (isL xs) w) := by
  have HX := Lib.hid hx
  obtain ⟨A, c, hv, _, _, _⟩ := id h
  rw [fl_len] at hv
  subst hv
  clear hx
  cases hl : isL xs with
  | true =>
    obtain ⟨k1, k2, k3⟩ := isL_len hl
    have HL := Lib.hid hl
    have HR := Lib.hid (show mxR xs = mxL xs xs.length by unfold mxR; rw [hl]; rfl)
    clear hl
    go_enter Try.func16, Try.ntmps16
    go_wp2_with (go_at_call 67; refine (lngI_any _ xs _ _ h hm HX.out).mono ?_; rintro e w' ⟨rfl, n1, rfl⟩; rw [HL.out])
    refine (mxI_any _ xs _ _ (h.drewN _) (Nat.le_refl _) k1 k2 HX.out k3).mono ?_
    rintro e w1 ⟨v1, rfl, ho, hb⟩
    go_wp2_with fail
    go_ret2
    exact ⟨_, rfl, by rw [HR.out]; exact ho, ⟨hb.os, hb.tape, hb.output, hb.size, hb.block⟩⟩
  | false =>
    have HL := Lib.hid hl
    have HR := Lib.hid (show mxR xs = [] by unfold mxR; rw [hl]; rfl)
    clear hl
    go_enter Try.func16, Try.ntmps16
    go_wp2_with (go_at_call 67; refine (lngI_any _ xs _ _ h hm HX.out).mono ?_; rintro e w' ⟨rfl, n1, rfl⟩; rw [HL.out])
    go_ret2
    exact ⟨_, rfl, by rw [HR.out]; exact own_nilJ _ _, below_drawn (Below.refl _ _) _⟩
set_option maxHeartbeats 400000 in
theorem mxoS_any (v : Value) (xs : List Nat) (w : World) (h : Rd w w.heap.size v (fl xs)) (hm : xs.length ≤ 1048576) (hx : ∀ x ∈ xs, x < 2 ^ 32) : Calls Try.prog 14 #[v] w (RetJ (mxR xs) (isL xs) w) := by
  have HX := Lib.hid hx
  obtain ⟨A, c, hv, _, _, _⟩ := id h
  rw [fl_len] at hv
  subst hv
  clear hx
  cases hl : isL xs with
  | true =>
    obtain ⟨k1, k2, k3⟩ := isL_len hl
    have HL := Lib.hid hl
    have HR := Lib.hid (show mxR xs = mxL xs xs.length by unfold mxR; rw [hl]; rfl)
    clear hl
    go_enter Try.func14, Try.ntmps14
    go_wp2_with (go_at_call 65; refine (lngS_any _ xs _ _ h hm HX.out).mono ?_; rintro e w' ⟨rfl, n1, rfl⟩; rw [HL.out])
    refine (mxS_any _ xs _ _ (h.drewN _) (Nat.le_refl _) k1 k2 HX.out k3).mono ?_
    rintro e w1 ⟨v1, rfl, ho, hb⟩
    go_wp2_with fail
    go_ret2
    exact ⟨_, rfl, by rw [HR.out]; exact ho, ⟨hb.os, hb.tape, hb.output, hb.size, hb.block⟩⟩
  | false =>
    have HL := Lib.hid hl
    have HR := Lib.hid (show mxR xs = [] by unfold mxR; rw [hl]; rfl)
    clear hl
    go_enter Try.func14, Try.ntmps14
    go_wp2_with (go_at_call 65; refine (lngS_any _ xs _ _ h hm HX.out).mono ?_; rintro e w' ⟨rfl, n1, rfl⟩; rw [HL.out])
    go_ret2
    exact ⟨_, rfl, by rw [HR.out]; exact own_nilJ _ _, below_drawn (Below.refl _ _) _⟩
end Go.Proofs.Ytfhngajodfjkeab
