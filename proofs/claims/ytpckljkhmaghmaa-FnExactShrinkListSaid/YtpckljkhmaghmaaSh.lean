/-
  Contracts: numbers that are shrunk, of both sides.
-/
import Derived.Test.YtpckljkhmaghmaaAbs
import Derived.Test.YtpckljkhmaghmaaEn
namespace Go.Proofs.Ytpckljkhmaghmaa
open Go.RowKit Fl
set_option linter.unusedVariables false

theorem is_fin {r : Nat} (hr : r < 2 ^ 32) (hf : finB .f32 r = true) : Is .f32 r r := ⟨cn_fin hf, hr⟩
theorem lsB_fin {x : Nat} (h : lsB x = true) : finB .f32 x = true := by unfold lsB at h; rw [Bool.and_eq_true] at h; exact h.1
/-- What a number that is shrunk is, in four cases. -/
theorem shF_out {x l : Nat} (hard : Bool) (h : gt32 (x % 2 ^ 31) l = false) : shF hard x l = 0 := by unfold shF; rw [h]; rfl
theorem shF_hard {x l : Nat} (h : gt32 (x % 2 ^ 31) l = true) : shF true x l = x := by unfold shF; rw [h]; rfl
theorem shF_neg {x l : Nat} (h : gt32 (x % 2 ^ 31) l = true) (h2 : lt32 x 0 = true) : shF false x l = ar .add .f32 x l := by unfold shF; rw [h, h2]; rfl
theorem shF_pos {x l : Nat} (h : gt32 (x % 2 ^ 31) l = true) (h2 : lt32 x 0 = false) : shF false x l = ar .sub .f32 x l := by unfold shF; rw [h, h2]; rfl
theorem shrS_any (x l : Nat) (hard : Bool) (w : World) (hx : x < 2 ^ 32) (hl : l < 2 ^ 32) (hf : finB .f32 x = true) (hls : lsB l = true) :
    Calls Try.prog 49 #[.float .f32 x, .float .f32 l, .bool hard] w (RetF .f32 (shF hard x l) w) := by
  have HC := Lib.hid (fun w => sizS_any x w hx hf)
  have hcs := shr_cases hx hl hf hls
  have HN := Lib.hid (dif_nums (abs_fin hf) (lsB_fin hls))
  have HF := Lib.hid hf
  have HX := Lib.hid (is_fin hx hf)
  clear hf hls
  cases hg : gt32 (x % 2 ^ 31) l with
  | false =>
    rw [shF_out hard hg]
    have hg' : (FloatKind.f32.format.order (x % 2 ^ 31) l == some .gt) = false := hg
    clear hg hcs
    generalize x % 2 ^ 31 = a at *
    go_enter Try.func49, Try.ntmps49
    go_wp2_with (go_at_call 68; refine (HC.out _).mono ?_; rintro e w' ⟨rfl, n, rfl⟩)
    go_ret
    exact ⟨_, _, rfl, is_lit (by decide), rfl⟩
  | true =>
    have hg' : (FloatKind.f32.format.order (x % 2 ^ 31) l == some .gt) = true := hg
    cases hard with
    | true =>
      rw [shF_hard hg]
      clear hg hcs
      generalize x % 2 ^ 31 = a at *
      go_enter Try.func49, Try.ntmps49
      go_wp2_with (go_at_call 68; refine (HC.out _).mono ?_; rintro e w' ⟨rfl, n, rfl⟩)
      go_ret
      exact ⟨_, _, rfl, HX.out, rfl⟩
    | false =>
      rcases hcs with ⟨h1, h2, h3⟩ | ⟨h1, h2, h3⟩
      · obtain ⟨h4, h5⟩ := h3 (by rw [h1]; exact hg)
        rw [shF_pos hg h5]
        have h5' : (FloatKind.f32.format.order x 0 == some .lt) = false := h5
        have HV := Lib.hid h4
        clear hg h1 h2 h3 h4 h5
        generalize x % 2 ^ 31 = a at *
        go_enter Try.func49, Try.ntmps49
        go_wp2_with (first | (go_at_call 68; refine (HC.out _).mono ?_; rintro e w' ⟨rfl, n, rfl⟩) | (refine up_ar (op := .sub) rfl ?_; intro r n hr))
        go_ret
        exact ⟨_, _, rfl, by rw [← HV.out]; assumption, rfl⟩
      · obtain ⟨h4, h5⟩ := h3 hg
        rw [shF_neg hg h4]
        have h4' : (FloatKind.f32.format.order x 0 == some .lt) = true := h4
        have HV := Lib.hid h5
        have hng : ∀ r, Op.unary .neg (.float .f32 r) = pure (.float .f32 (Op.negFloat .f32 r)) := fun _ => rfl
        clear hg h1 h2 h3 h4 h5
        generalize x % 2 ^ 31 = a at *
        go_enter Try.func49, Try.ntmps49
        go_wp2_with (first | (go_at_call 68; refine (HC.out _).mono ?_; rintro e w' ⟨rfl, n, rfl⟩) | (refine up_ar (op := .sub) rfl ?_; intro r n hr))
        go_ret
        rename_i hr
        have h6 := is_eq hr HN.out
        subst h6
        exact ⟨_, _, rfl, by rw [HV.out]; exact ⟨cn_ar _ _ _ _, by rw [← HV.out]; exact neg_lt32 _ hr.2⟩, rfl⟩
theorem hrdI_any (x l : Nat) (w : World) (hx : x < 2 ^ 32) (hf : finB .f32 x = true) :
    Calls Try.prog 84 #[.float .f32 x, .float .f32 l] w (RetF .f32 (shF true x l) w) := by
  have HC := Lib.hid (fun w => absI_fin x w hf)
  have HX := Lib.hid (is_fin hx hf)
  clear hf
  cases hg : gt32 (x % 2 ^ 31) l with
  | false =>
    rw [shF_out true hg]
    have hg' : (FloatKind.f32.format.order (x % 2 ^ 31) l == some .gt) = false := hg
    clear hg
    generalize x % 2 ^ 31 = a at *
    go_enter Try.func84, Try.ntmps84
    go_wp2_with (go_at_call 67; refine (HC.out _).mono ?_; rintro e w' ⟨rfl, n, rfl⟩)
    go_ret
    exact ⟨_, _, rfl, is_lit (by decide), rfl⟩
  | true =>
    rw [shF_hard hg]
    have hg' : (FloatKind.f32.format.order (x % 2 ^ 31) l == some .gt) = true := hg
    clear hg
    generalize x % 2 ^ 31 = a at *
    go_enter Try.func84, Try.ntmps84
    go_wp2_with (go_at_call 67; refine (HC.out _).mono ?_; rintro e w' ⟨rfl, n, rfl⟩)
    go_ret
    exact ⟨_, _, rfl, HX.out, rfl⟩
theorem sftI_any (x l : Nat) (w : World) (hx : x < 2 ^ 32) (hl : l < 2 ^ 32) (hf : finB .f32 x = true) (hls : lsB l = true) :
    Calls Try.prog 85 #[.float .f32 x, .float .f32 l] w (RetF .f32 (shF false x l) w) := by
  have hcs := shr_cases hx hl hf hls
  clear hf hls
  have hng : Op.unary .neg (.float .f32 l) = pure (.float .f32 (Op.negFloat .f32 l)) := rfl
  cases hg : gt32 (x % 2 ^ 31) l with
  | false =>
    rw [shF_out false hg]
    have h1 : (FloatKind.f32.format.order x l == some .gt) = false := by rcases hcs with ⟨h1, _⟩ | ⟨h1, _⟩; exact h1.trans hg; exact h1
    have h2 : (FloatKind.f32.format.order x (Op.negFloat .f32 l) == some .lt) = false := by rcases hcs with ⟨_, h1, _⟩ | ⟨_, h1, _⟩; exact h1; exact h1.trans hg
    clear hg hcs
    generalize Op.negFloat .f32 l = nl at *
    go_enter Try.func85, Try.ntmps85
    go_wp2_with fail
    go_ret
    exact ⟨_, 0, rfl, is_lit (by decide), rfl⟩
  | true =>
    rcases hcs with ⟨h1, h2, h3⟩ | ⟨h1, h2, h3⟩
    · obtain ⟨h4, h5⟩ := h3 (by rw [h1]; exact hg)
      rw [shF_pos hg h5]
      have h1' : (FloatKind.f32.format.order x l == some .gt) = true := h1.trans hg
      clear hg h1 h2 h3 h4 h5
      generalize Op.negFloat .f32 l = nl at *
      go_enter Try.func85, Try.ntmps85
      go_wp2_with (refine up_ar (op := .sub) rfl ?_; intro r n hr)
      go_ret
      exact ⟨_, _, rfl, by assumption, rfl⟩
    · obtain ⟨h4, h5⟩ := h3 hg
      rw [shF_neg hg h4]
      have h1' : (FloatKind.f32.format.order x l == some .gt) = false := h1
      have h2' : (FloatKind.f32.format.order x (Op.negFloat .f32 l) == some .lt) = true := h2.trans hg
      clear hg h1 h2 h3 h4 h5
      generalize Op.negFloat .f32 l = nl at *
      go_enter Try.func85, Try.ntmps85
      go_wp2_with (refine up_ar (op := .add) rfl ?_; intro r n hr)
      go_ret
      exact ⟨_, _, rfl, by assumption, rfl⟩
/-- The number that is shrunk, and whether it can be. -/
def srB (x l : Nat) : Bool := finB .f32 x && lsB l
def srV (hard : Bool) (x l : Nat) : Nat := if srB x l then shF hard x l else 0
theorem srV_yes {hard : Bool} {x l : Nat} (h1 : finB .f32 x = true) (h2 : lsB l = true) : srV hard x l = shF hard x l ∧ srB x l = true := by unfold srV srB; rw [h1, h2]; exact ⟨rfl, rfl⟩
theorem srV_no1 {hard : Bool} {x l : Nat} (h1 : finB .f32 x = false) : srV hard x l = 0 ∧ srB x l = false := by unfold srV srB; rw [h1]; exact ⟨rfl, rfl⟩
theorem srV_no2 {hard : Bool} {x l : Nat} (h1 : finB .f32 x = true) (h2 : lsB l = false) : srV hard x l = 0 ∧ srB x l = false := by unfold srV srB; rw [h1, h2]; exact ⟨rfl, rfl⟩
theorem is_zero : Is .f32 0 0 := is_lit (by decide)
set_option maxRecDepth 100000 in
theorem numI_true (x l : Nat) (w : World) (hx : x < 2 ^ 32) (hl : l < 2 ^ 32) : Calls Try.prog 51 #[.func (.func 84) #[] #[], .float .f32 x, .float .f32 l] w (RetFB (srV true x l) (srB x l) w) := by
  have HC := Lib.hid (fun w => implFin_any x w hx)
  have HL := Lib.hid (fun w => lsI_any l w hl)
  cases hf : finB .f32 x with
  | false =>
    have HT := Lib.hid hf
    have HV := Lib.hid (srV_no1 (hard := true) (l := l) hf)
    clear hf
    go_enter Try.func51, Try.ntmps51
    go_wp2_with (go_at_call 76; refine (HC.out _).mono ?_; rintro e w' ⟨rfl, n, rfl⟩; rw [HT.out])
    go_ret2
    rw [HV.out.1, HV.out.2]
    exact ⟨_, _, rfl, is_zero, rfl⟩
  | true =>
    cases hl2 : lsB l with
    | false =>
      have HT := Lib.hid hf
      have HU := Lib.hid hl2
      have HV := Lib.hid (srV_no2 (hard := true) hf hl2)
      clear hf hl2
      go_enter Try.func51, Try.ntmps51
      go_wp2_with (first | (go_at_call 76; refine (HC.out _).mono ?_; rintro e w' ⟨rfl, n, rfl⟩; rw [HT.out]) | (go_at_call 60; refine (HL.out _).mono ?_; rintro e w' ⟨rfl, n, rfl⟩; rw [HU.out]))
      go_ret2
      rw [HV.out.1, HV.out.2]
      exact ⟨_, _, rfl, is_zero, rfl⟩
    | true =>
      have HT := Lib.hid hf
      have HU := Lib.hid hl2
      have HV := Lib.hid (srV_yes (hard := true) hf hl2)
      have HW := Lib.hid (fun w => hrdI_any x l w hx hf)
      clear hf hl2
      go_enter Try.func51, Try.ntmps51
      go_wp2_with (first | (go_at_call 76; refine (HC.out _).mono ?_; rintro e w' ⟨rfl, n, rfl⟩; rw [HT.out]) | (go_at_call 60; refine (HL.out _).mono ?_; rintro e w' ⟨rfl, n, rfl⟩; rw [HU.out]) | (go_at_call 84; refine (HW.out _).mono ?_; rintro e w' ⟨r, n, rfl, hr, rfl⟩))
      go_ret2
      rw [HV.out.1, HV.out.2]
      exact ⟨_, _, rfl, by assumption, rfl⟩
set_option maxRecDepth 100000 in
theorem numI_false (x l : Nat) (w : World) (hx : x < 2 ^ 32) (hl : l < 2 ^ 32) : Calls Try.prog 51 #[.func (.func 85) #[] #[], .float .f32 x, .float .f32 l] w (RetFB (srV false x l) (srB x l) w) := by
  have HC := Lib.hid (fun w => implFin_any x w hx)
  have HL := Lib.hid (fun w => lsI_any l w hl)
  cases hf : finB .f32 x with
  | false =>
    have HT := Lib.hid hf
    have HV := Lib.hid (srV_no1 (hard := false) (l := l) hf)
    clear hf
    go_enter Try.func51, Try.ntmps51
    go_wp2_with (go_at_call 76; refine (HC.out _).mono ?_; rintro e w' ⟨rfl, n, rfl⟩; rw [HT.out])
    go_ret2
    rw [HV.out.1, HV.out.2]
    exact ⟨_, _, rfl, is_zero, rfl⟩
  | true =>
    cases hl2 : lsB l with
    | false =>
      have HT := Lib.hid hf
      have HU := Lib.hid hl2
      have HV := Lib.hid (srV_no2 (hard := false) hf hl2)
      clear hf hl2
      go_enter Try.func51, Try.ntmps51
      go_wp2_with (first | (go_at_call 76; refine (HC.out _).mono ?_; rintro e w' ⟨rfl, n, rfl⟩; rw [HT.out]) | (go_at_call 60; refine (HL.out _).mono ?_; rintro e w' ⟨rfl, n, rfl⟩; rw [HU.out]))
      go_ret2
      rw [HV.out.1, HV.out.2]
      exact ⟨_, _, rfl, is_zero, rfl⟩
    | true =>
      have HT := Lib.hid hf
      have HU := Lib.hid hl2
      have HV := Lib.hid (srV_yes (hard := false) hf hl2)
      have HW := Lib.hid (fun w => sftI_any x l w hx hl hf hl2)
      clear hf hl2
      go_enter Try.func51, Try.ntmps51
      go_wp2_with (first | (go_at_call 76; refine (HC.out _).mono ?_; rintro e w' ⟨rfl, n, rfl⟩; rw [HT.out]) | (go_at_call 60; refine (HL.out _).mono ?_; rintro e w' ⟨rfl, n, rfl⟩; rw [HU.out]) | (go_at_call 85; refine (HW.out _).mono ?_; rintro e w' ⟨r, n, rfl, hr, rfl⟩))
      go_ret2
      rw [HV.out.1, HV.out.2]
      exact ⟨_, _, rfl, by assumption, rfl⟩
set_option maxRecDepth 100000 in
theorem sotrueS_any (x l : Nat) (w : World) (hx : x < 2 ^ 32) (hl : l < 2 ^ 32) : Calls Try.prog 18 #[.float .f32 x, .float .f32 l] w (RetFB (srV true x l) (srB x l) w) := by
  have HC := Lib.hid (fun w => specFin_any x w hx)
  have HL := Lib.hid (fun w => lsS_any l w hl)
  cases hf : finB .f32 x with
  | false =>
    have HT := Lib.hid hf
    have HV := Lib.hid (srV_no1 (hard := true) (l := l) hf)
    clear hf
    go_enter Try.func18, Try.ntmps18
    go_wp2_with (go_at_call 47; refine (HC.out _).mono ?_; rintro e w' ⟨rfl, n, rfl⟩; rw [HT.out])
    go_ret2
    rw [HV.out.1, HV.out.2]
    exact ⟨_, _, rfl, is_zero, rfl⟩
  | true =>
    cases hl2 : lsB l with
    | false =>
      have HT := Lib.hid hf
      have HU := Lib.hid hl2
      have HV := Lib.hid (srV_no2 (hard := true) hf hl2)
      clear hf hl2
      go_enter Try.func18, Try.ntmps18
      go_wp2_with (first | (go_at_call 47; refine (HC.out _).mono ?_; rintro e w' ⟨rfl, n, rfl⟩; rw [HT.out]) | (go_at_call 48; refine (HL.out _).mono ?_; rintro e w' ⟨rfl, n, rfl⟩; rw [HU.out]))
      go_ret2
      rw [HV.out.1, HV.out.2]
      exact ⟨_, _, rfl, is_zero, rfl⟩
    | true =>
      have HT := Lib.hid hf
      have HU := Lib.hid hl2
      have HV := Lib.hid (srV_yes (hard := true) hf hl2)
      have HW := Lib.hid (fun w => shrS_any x l true w hx hl hf hl2)
      clear hf hl2
      go_enter Try.func18, Try.ntmps18
      go_wp2_with (first | (go_at_call 47; refine (HC.out _).mono ?_; rintro e w' ⟨rfl, n, rfl⟩; rw [HT.out]) | (go_at_call 48; refine (HL.out _).mono ?_; rintro e w' ⟨rfl, n, rfl⟩; rw [HU.out]) | (go_at_call 49; refine (HW.out _).mono ?_; rintro e w' ⟨r, n, rfl, hr, rfl⟩))
      go_ret2
      rw [HV.out.1, HV.out.2]
      exact ⟨_, _, rfl, by assumption, rfl⟩
theorem ofI_true (w : World) : Calls Try.prog 50 #[.bool true] w fun e w' => e = .returned (.func (.func 84) #[] #[]) ∧ w = w' := by
  go_enter Try.func50, Try.ntmps50
  go_wp2_with fail
  go_ret
  exact ⟨rfl, rfl⟩
set_option maxRecDepth 100000 in
theorem sotrueI_any (x l : Nat) (w : World) (hx : x < 2 ^ 32) (hl : l < 2 ^ 32) : Calls Try.prog 19 #[.float .f32 x, .float .f32 l] w (RetFB (srV true x l) (srB x l) w) := by
  have HC := Lib.hid (fun w => ofI_true w)
  have HN := Lib.hid (fun w => numI_true x l w hx hl)
  go_enter Try.func19, Try.ntmps19
  go_wp2_with (first | (go_at_call 50; refine (HC.out _).mono ?_; rintro e w' ⟨rfl, rfl⟩) | (go_at_call 51; refine (HN.out _).mono ?_; rintro e w' ⟨r, n, rfl, hr, rfl⟩))
  go_ret2
  exact ⟨_, _, rfl, by assumption, rfl⟩
set_option maxRecDepth 100000 in
theorem sofalseS_any (x l : Nat) (w : World) (hx : x < 2 ^ 32) (hl : l < 2 ^ 32) : Calls Try.prog 15 #[.float .f32 x, .float .f32 l] w (RetFB (srV false x l) (srB x l) w) := by
  have HC := Lib.hid (fun w => specFin_any x w hx)
  have HL := Lib.hid (fun w => lsS_any l w hl)
  cases hf : finB .f32 x with
  | false =>
    have HT := Lib.hid hf
    have HV := Lib.hid (srV_no1 (hard := false) (l := l) hf)
    clear hf
    go_enter Try.func15, Try.ntmps15
    go_wp2_with (go_at_call 47; refine (HC.out _).mono ?_; rintro e w' ⟨rfl, n, rfl⟩; rw [HT.out])
    go_ret2
    rw [HV.out.1, HV.out.2]
    exact ⟨_, _, rfl, is_zero, rfl⟩
  | true =>
    cases hl2 : lsB l with
    | false =>
      have HT := Lib.hid hf
      have HU := Lib.hid hl2
      have HV := Lib.hid (srV_no2 (hard := false) hf hl2)
      clear hf hl2
      go_enter Try.func15, Try.ntmps15
      go_wp2_with (first | (go_at_call 47; refine (HC.out _).mono ?_; rintro e w' ⟨rfl, n, rfl⟩; rw [HT.out]) | (go_at_call 48; refine (HL.out _).mono ?_; rintro e w' ⟨rfl, n, rfl⟩; rw [HU.out]))
      go_ret2
      rw [HV.out.1, HV.out.2]
      exact ⟨_, _, rfl, is_zero, rfl⟩
    | true =>
      have HT := Lib.hid hf
      have HU := Lib.hid hl2
      have HV := Lib.hid (srV_yes (hard := false) hf hl2)
      have HW := Lib.hid (fun w => shrS_any x l false w hx hl hf hl2)
      clear hf hl2
      go_enter Try.func15, Try.ntmps15
      go_wp2_with (first | (go_at_call 47; refine (HC.out _).mono ?_; rintro e w' ⟨rfl, n, rfl⟩; rw [HT.out]) | (go_at_call 48; refine (HL.out _).mono ?_; rintro e w' ⟨rfl, n, rfl⟩; rw [HU.out]) | (go_at_call 49; refine (HW.out _).mono ?_; rintro e w' ⟨r, n, rfl, hr, rfl⟩))
      go_ret2
      rw [HV.out.1, HV.out.2]
      exact ⟨_, _, rfl, by assumption, rfl⟩
theorem ofI_false (w : World) : Calls Try.prog 50 #[.bool false] w fun e w' => e = .returned (.func (.func 85) #[] #[]) ∧ w = w' := by
  go_enter Try.func50, Try.ntmps50
  go_wp2_with fail
  go_ret
  exact ⟨rfl, rfl⟩
set_option maxRecDepth 100000 in
theorem sofalseI_any (x l : Nat) (w : World) (hx : x < 2 ^ 32) (hl : l < 2 ^ 32) : Calls Try.prog 16 #[.float .f32 x, .float .f32 l] w (RetFB (srV false x l) (srB x l) w) := by
  have HC := Lib.hid (fun w => ofI_false w)
  have HN := Lib.hid (fun w => numI_false x l w hx hl)
  go_enter Try.func16, Try.ntmps16
  go_wp2_with (first | (go_at_call 50; refine (HC.out _).mono ?_; rintro e w' ⟨rfl, rfl⟩) | (go_at_call 51; refine (HN.out _).mono ?_; rintro e w' ⟨r, n, rfl, hr, rfl⟩))
  go_ret2
  exact ⟨_, _, rfl, by assumption, rfl⟩
end Go.Proofs.Ytpckljkhmaghmaa
