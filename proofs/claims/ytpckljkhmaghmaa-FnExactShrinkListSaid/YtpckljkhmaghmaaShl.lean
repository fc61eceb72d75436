/-
  Contracts: lists that are shrunk, of both sides.
-/
import Derived.Test.YtpckljkhmaghmaaAp
import Derived.Test.YtpckljkhmaghmaaSh
import Derived.Test.YtpckljkhmaghmaaLng
namespace Go.Proofs.Ytpckljkhmaghmaa
open Go.RowKit Fl
set_option linter.unusedVariables false

theorem shF_not {hard : Bool} {x l : Nat} (hf : finB .f32 x = true) (hls : lsB l = true) : isN .f32 (shF hard x l) = false := by
  unfold shF
  split
  · split
    · exact nan_fin hf
    · split
      · exact sum_nums hf (lsB_fin hls)
      · exact dif_nums hf (lsB_fin hls)
  · decide
theorem shrX_any (x l : Nat) (hard : Bool) (w : World) (hx : x < 2 ^ 32) (hl : l < 2 ^ 32) (hf : finB .f32 x = true) (hls : lsB l = true) :
    Calls Try.prog 49 #[.float .f32 x, .float .f32 l, .bool hard] w (RetX (shF hard x l) w) :=
  (shrS_any x l hard w hx hl hf hls).mono fun e w' h => retX_of h (shF_not hf hls)
theorem numX_true (x l : Nat) (w : World) (hx : x < 2 ^ 32) (hl : l < 2 ^ 32) (hf : finB .f32 x = true) (hls : lsB l = true) :
    Calls Try.prog 51 #[.func (.func 84) #[] #[], .float .f32 x, .float .f32 l] w (RetXB (shF true x l) true w) := by
  have h := numI_true x l w hx hl
  rw [(srV_yes (hard := true) hf hls).1, (srV_yes (hard := true) hf hls).2] at h
  exact h.mono fun e w' h => retXB_of h (shF_not hf hls)
theorem numX_false (x l : Nat) (w : World) (hx : x < 2 ^ 32) (hl : l < 2 ^ 32) (hf : finB .f32 x = true) (hls : lsB l = true) :
    Calls Try.prog 51 #[.func (.func 85) #[] #[], .float .f32 x, .float .f32 l] w (RetXB (shF false x l) true w) := by
  have h := numI_false x l w hx hl
  rw [(srV_yes (hard := false) hf hls).1, (srV_yes (hard := false) hf hls).2] at h
  exact h.mono fun e w' h => retXB_of h (shF_not hf hls)
set_option maxRecDepth 100000 in
set_option maxHeartbeats 4000000 in
theorem liS_any (v : Value) (xs : List Nat) (w : World) (l : Nat) (hard : Bool) (hl : l < 2 ^ 32) (hfin : finA xs = true) (hls : lsB l = true) (h : Rd w w.heap.size v (fl xs)) (hm : xs.length ≤ 1048576) (hx : ∀ x ∈ xs, x < 2 ^ 32) :
    Calls Try.prog 53 #[v, .float .f32 l, .bool hard] w (RetF1 (mapK (fun x => shF hard x l) xs xs.length) w) := by
  obtain ⟨i0, hi, hz0, hz1, hz2⟩ := info_parts infoF
  obtain ⟨A, c, hv, q1, q2, q3⟩ := h
  rw [fl_len] at hv q1 q3
  subst hv
  have HQ := Lib.hid q3
  have HX := Lib.hid hx
  clear q3 hx
  go_enter Try.func53, Try.ntmps53
  go_wp2
  have hown : (w.alloc (Obj.cells #[] 22)).ownsRow w.heap.size 22 1 (.slice (some ⟨w.heap.size, 0, none⟩) 0 0) 0 (fl []) := World.ownsRow_made w #[] 0 (Nat.le_refl _) (Nat.zero_le _) rfl
  have hb0 : Below w.heap.size w (w.alloc (Obj.cells #[] 22)) := (Below.refl _ _).alloc (Nat.le_refl _) _
  go_loopw [7, 12] (ApRel w (fun x => shF hard x l) xs) (fun _ i _ => xs.length - (intOf i).toNat)
  case atStart => exact ⟨0, Nat.zero_le _, rfl, hown, hb0⟩
  case round =>
    clear hown hb0
    obtain ⟨k, hk, rfl, hown, hb⟩ := hrel
    have HOW := Lib.hid hown
    have HB := Lib.hid hb
    clear hown hb
    by_cases hlt : k < xs.length
    · obtain ⟨b, off, rfl, hbl, hcc⟩ := HQ.out (by omega)
      have hbw : b < wr.heap.size := by have := HB.out.size; omega
      have hs1 : wr.cell? ⟨b, off + k, none⟩ = some (.float .f32 xs[k]) := (HB.out.cell (p := ⟨b, off + k, none⟩) hbl).trans (hcc k _ (fl_get xs k hlt))
      have HK := Lib.hid (mapK_succ (fun x => shF hard x l) xs k xs[k] (by simp))
      have hxk : xs[k] < 2 ^ 32 := HX.out _ (List.getElem_mem _)
      have HC := Lib.hid (fun w' => shrX_any xs[k] l hard w' hxk hl (fin_at hfin hlt) hls)
      clear hcc hxk
      generalize xs[k] = x at *
      obtain ⟨y, hy⟩ : ∃ y, (fun x => shF hard x l) x = y := ⟨_, rfl⟩
      have HY := Lib.hid hy
      clear hy
      go_wp2_with (first | (go_at_call 49; refine (HC.out _).mono ?_; rintro e w' ⟨rfl, n, rfl⟩; rw [show shF hard x l = y from HY.out]) | (at_builtin; refine wpList_append_own _ rfl _ _ 28 rfl w.heap.size 22 i0 (.float .f32 0) 1 4 Try.underlying28 hi hz0 hz1 hz2 rfl (by decide) _ _ _ rfl ((rowDrewF HOW.out _).alloc _) ⟨wr.heap.size, 0, none⟩ 1 1 [.float .f32 y] rfl rfl (one_newF _ _ _) (cellsF [y]) (by unfold maxLen; omega) (by omega) (by simp; have := HB.out.size; omega) ?_; intro v' w1 hown' hgrow _))
      have hown2 : w1.ownsRow w.heap.size 22 1 v' (k + 1) (fl (mapK (fun x => shF hard x l) xs (k + 1))) := by rw [HK.out, HY.out, fl_app]; exact hown'
      have hb2 : Below w.heap.size w w1 := ((below_drawn HB.out _).alloc (by exact HB.out.size) _).grown hgrow (by simp; have := HB.out.size; omega) (fun j hj => (HOW.out.lt j hj).1)
      have HO2 := Lib.hid hown2
      have HB2 := Lib.hid hb2
      clear hown' hgrow hown2 hb2
      go_wp2
      go_roundw
      case rel => exact ⟨k + 1, by omega, by go_num, HO2.out, HB2.out⟩
      case measure => simp [intOf]; omega
    · obtain rfl : k = xs.length := by omega
      go_wp2
      go_ret
      exact ⟨_, rfl, Own.row HOW.out, HB.out⟩
set_option maxRecDepth 100000 in
set_option maxHeartbeats 4000000 in
theorem liI_true (v : Value) (xs : List Nat) (w : World) (l : Nat) (hl : l < 2 ^ 32) (hfin : finA xs = true) (hls : lsB l = true) (h : Rd w w.heap.size v (fl xs)) (hm : xs.length ≤ 1048576) (hx : ∀ x ∈ xs, x < 2 ^ 32) :
    Calls Try.prog 55 #[.func (.func 84) #[] #[], v, .float .f32 l] w (RetLF (mapK (fun x => shF true x l) xs xs.length) true w) := by
  obtain ⟨i0, hi, hz0, hz1, hz2⟩ := info_parts infoF
  obtain ⟨A, c, hv, q1, q2, q3⟩ := h
  rw [fl_len] at hv q1 q3
  subst hv
  have HQ := Lib.hid q3
  have HX := Lib.hid hx
  clear q3 hx
  go_enter Try.func55, Try.ntmps55
  go_wp2_with (at_make; refine wpList_make_own _ rfl _ _ 28 rfl w.heap.size 22 i0 (.float .f32 0) 1 Try.underlying28 hi hz0 hz1 .i64 .i64 _ xs.length rfl rfl (by omega) (by rw [hz2]; omega) (by unfold maxLen; omega) (Nat.le_refl _) ?_; intro w1 hown hgrow)
  have hb0 : Below w.heap.size w w1 := (Below.refl _ _).grown hgrow (Nat.le_refl _) (fun j hj => absurd hj (by simp))
  go_wp2
  go_loopw [8, 18] (ApRel w (fun x => shF true x l) xs) (fun _ i _ => xs.length - (intOf i).toNat)
  case atStart => exact ⟨0, Nat.zero_le _, rfl, hown, hb0⟩
  case round =>
    clear hown hb0 hgrow
    obtain ⟨k, hk, rfl, hown, hb⟩ := hrel
    have HOW := Lib.hid hown
    have HB := Lib.hid hb
    clear hown hb
    by_cases hlt : k < xs.length
    · obtain ⟨b, off, rfl, hbl, hcc⟩ := HQ.out (by omega)
      have hbw : b < wr.heap.size := by have := HB.out.size; omega
      have hs1 : wr.cell? ⟨b, off + k, none⟩ = some (.float .f32 xs[k]) := (HB.out.cell (p := ⟨b, off + k, none⟩) hbl).trans (hcc k _ (fl_get xs k hlt))
      have HK := Lib.hid (mapK_succ (fun x => shF true x l) xs k xs[k] (by simp))
      have hxk : xs[k] < 2 ^ 32 := HX.out _ (List.getElem_mem _)
      have HC := Lib.hid (fun w' => numX_true xs[k] l w' hxk hl (fin_at hfin hlt) hls)
      clear hcc hxk
      generalize xs[k] = x at *
      obtain ⟨y, hy⟩ : ∃ y, (fun x => shF true x l) x = y := ⟨_, rfl⟩
      have HY := Lib.hid hy
      clear hy
      go_wp2_with (first | (go_at_call 51; refine (HC.out _).mono ?_; rintro e w' ⟨rfl, n, rfl⟩; rw [show shF true x l = y from HY.out]) | (at_builtin; refine wpList_append_own _ rfl _ _ 28 rfl w.heap.size 22 i0 (.float .f32 0) 1 4 Try.underlying28 hi hz0 hz1 hz2 rfl (by decide) _ _ _ rfl ((rowDrewF HOW.out _).alloc _) ⟨wr.heap.size, 0, none⟩ 1 1 [.float .f32 y] rfl rfl (one_newF _ _ _) (cellsF [y]) (by unfold maxLen; omega) (by omega) (by simp; have := HB.out.size; omega) ?_; intro v' w1 hown' hgrow _))
      have hown2 : w1.ownsRow w.heap.size 22 1 v' (k + 1) (fl (mapK (fun x => shF true x l) xs (k + 1))) := by rw [HK.out, HY.out, fl_app]; exact hown'
      have hb2 : Below w.heap.size w w1 := ((below_drawn HB.out _).alloc (by exact HB.out.size) _).grown hgrow (by simp; have := HB.out.size; omega) (fun j hj => (HOW.out.lt j hj).1)
      have HO2 := Lib.hid hown2
      have HB2 := Lib.hid hb2
      clear hown' hgrow hown2 hb2
      go_wp2
      go_roundw
      case rel => exact ⟨k + 1, by omega, by go_num, HO2.out, HB2.out⟩
      case measure => simp [intOf]; omega
    · obtain rfl : k = xs.length := by omega
      go_wp2
      go_ret2
      exact ⟨_, rfl, Own.row HOW.out, HB.out⟩
set_option maxRecDepth 100000 in
set_option maxHeartbeats 4000000 in
theorem liI_false (v : Value) (xs : List Nat) (w : World) (l : Nat) (hl : l < 2 ^ 32) (hfin : finA xs = true) (hls : lsB l = true) (h : Rd w w.heap.size v (fl xs)) (hm : xs.length ≤ 1048576) (hx : ∀ x ∈ xs, x < 2 ^ 32) :
    Calls Try.prog 55 #[.func (.func 85) #[] #[], v, .float .f32 l] w (RetLF (mapK (fun x => shF false x l) xs xs.length) true w) := by
  obtain ⟨i0, hi, hz0, hz1, hz2⟩ := info_parts infoF
  obtain ⟨A, c, hv, q1, q2, q3⟩ := h
  rw [fl_len] at hv q1 q3
  subst hv
  have HQ := Lib.hid q3
  have HX := Lib.hid hx
  clear q3 hx
  go_enter Try.func55, Try.ntmps55
  go_wp2_with (at_make; refine wpList_make_own _ rfl _ _ 28 rfl w.heap.size 22 i0 (.float .f32 0) 1 Try.underlying28 hi hz0 hz1 .i64 .i64 _ xs.length rfl rfl (by omega) (by rw [hz2]; omega) (by unfold maxLen; omega) (Nat.le_refl _) ?_; intro w1 hown hgrow)
  have hb0 : Below w.heap.size w w1 := (Below.refl _ _).grown hgrow (Nat.le_refl _) (fun j hj => absurd hj (by simp))
  go_wp2
  go_loopw [8, 18] (ApRel w (fun x => shF false x l) xs) (fun _ i _ => xs.length - (intOf i).toNat)
  case atStart => exact ⟨0, Nat.zero_le _, rfl, hown, hb0⟩
  case round =>
    clear hown hb0 hgrow
    obtain ⟨k, hk, rfl, hown, hb⟩ := hrel
    have HOW := Lib.hid hown
    have HB := Lib.hid hb
    clear hown hb
    by_cases hlt : k < xs.length
    · obtain ⟨b, off, rfl, hbl, hcc⟩ := HQ.out (by omega)
      have hbw : b < wr.heap.size := by have := HB.out.size; omega
      have hs1 : wr.cell? ⟨b, off + k, none⟩ = some (.float .f32 xs[k]) := (HB.out.cell (p := ⟨b, off + k, none⟩) hbl).trans (hcc k _ (fl_get xs k hlt))
      have HK := Lib.hid (mapK_succ (fun x => shF false x l) xs k xs[k] (by simp))
      have hxk : xs[k] < 2 ^ 32 := HX.out _ (List.getElem_mem _)
      have HC := Lib.hid (fun w' => numX_false xs[k] l w' hxk hl (fin_at hfin hlt) hls)
      clear hcc hxk
      generalize xs[k] = x at *
      obtain ⟨y, hy⟩ : ∃ y, (fun x => shF false x l) x = y := ⟨_, rfl⟩
      have HY := Lib.hid hy
      clear hy
      go_wp2_with (first | (go_at_call 51; refine (HC.out _).mono ?_; rintro e w' ⟨rfl, n, rfl⟩; rw [show shF false x l = y from HY.out]) | (at_builtin; refine wpList_append_own _ rfl _ _ 28 rfl w.heap.size 22 i0 (.float .f32 0) 1 4 Try.underlying28 hi hz0 hz1 hz2 rfl (by decide) _ _ _ rfl ((rowDrewF HOW.out _).alloc _) ⟨wr.heap.size, 0, none⟩ 1 1 [.float .f32 y] rfl rfl (one_newF _ _ _) (cellsF [y]) (by unfold maxLen; omega) (by omega) (by simp; have := HB.out.size; omega) ?_; intro v' w1 hown' hgrow _))
      have hown2 : w1.ownsRow w.heap.size 22 1 v' (k + 1) (fl (mapK (fun x => shF false x l) xs (k + 1))) := by rw [HK.out, HY.out, fl_app]; exact hown'
      have hb2 : Below w.heap.size w w1 := ((below_drawn HB.out _).alloc (by exact HB.out.size) _).grown hgrow (by simp; have := HB.out.size; omega) (fun j hj => (HOW.out.lt j hj).1)
      have HO2 := Lib.hid hown2
      have HB2 := Lib.hid hb2
      clear hown' hgrow hown2 hb2
      go_wp2
      go_roundw
      case rel => exact ⟨k + 1, by omega, by go_num, HO2.out, HB2.out⟩
      case measure => simp [intOf]; omega
    · obtain rfl : k = xs.length := by omega
      go_wp2
      go_ret2
      exact ⟨_, rfl, Own.row HOW.out, HB.out⟩
/-- Whether a list can be shrunk. -/
def slG (xs : List Nat) (l : Nat) : Bool := isL xs && lsB l
def slR (hard : Bool) (xs : List Nat) (l : Nat) : List Nat := if slG xs l then mapK (fun x => shF hard x l) xs xs.length else []
theorem slR_len (hard : Bool) (xs : List Nat) (l : Nat) : (slR hard xs l).length ≤ 1048576 := by
  unfold slR
  split
  · rename_i h
    unfold slG at h
    rw [Bool.and_eq_true] at h
    have := (isL_len h.1).2.1
    rw [mapK_len]; omega
  · simp
theorem slR_no {hard : Bool} {xs : List Nat} {l : Nat} (h : slG xs l = false) : slR hard xs l = [] := by unfold slR; rw [h]; rfl
theorem slR_yes {hard : Bool} {xs : List Nat} {l : Nat} (h : slG xs l = true) : slR hard xs l = mapK (fun x => shF hard x l) xs xs.length := by unfold slR; rw [h]; rfl
theorem retLF_nil {w w' : World} (h : Below w.heap.size w w') : RetLF [] false w (.returned (.tuple #[.slice none 0 0, .bool false])) w' := ⟨_, rfl, own_nilF _ _, h⟩
theorem numN_true (x l : Nat) (w : World) (hx : x < 2 ^ 32) (hl : l < 2 ^ 32) (hf : finB .f32 x = true) (hls : lsB l = false) :
    Calls Try.prog 51 #[.func (.func 84) #[] #[], .float .f32 x, .float .f32 l] w (RetXB 0 false w) := by
  have h := numI_true x l w hx hl
  rw [(srV_no2 (hard := true) hf hls).1, (srV_no2 (hard := true) hf hls).2] at h
  exact h.mono fun e w' h => retXB_of h (by decide)
set_option maxRecDepth 100000 in
theorem liN_true (v : Value) (xs : List Nat) (w : World) (l : Nat) (hl : l < 2 ^ 32) (hfin : finA xs = true) (hls : lsB l = false) (h1 : 1 ≤ xs.length) (h : Rd w w.heap.size v (fl xs)) (hm : xs.length ≤ 1048576) (hx : ∀ x ∈ xs, x < 2 ^ 32) :
    Calls Try.prog 55 #[.func (.func 84) #[] #[], v, .float .f32 l] w (RetLF [] false w) := by
  obtain ⟨i0, hi, hz0, hz1, hz2⟩ := info_parts infoF
  obtain ⟨A, c, hv, q1, q2, q3⟩ := h
  rw [fl_len] at hv q1 q3
  subst hv
  obtain ⟨b, off, rfl, hbl, hcc⟩ := q3 (by omega)
  have hs0 : w.cell? ⟨b, off, none⟩ = some (.float .f32 xs[0]) := hcc 0 _ (fl_get xs 0 (by omega))
  have hxk : xs[0] < 2 ^ 32 := hx _ (List.getElem_mem _)
  have HC := Lib.hid (fun w' => numN_true xs[0] l w' hxk hl (fin_at hfin (by omega)) hls)
  clear q3 hx hcc hxk
  generalize xs[0] = x at *
  go_enter Try.func55, Try.ntmps55
  go_wp2_with (at_make; refine wpList_make_own _ rfl _ _ 28 rfl w.heap.size 22 i0 (.float .f32 0) 1 Try.underlying28 hi hz0 hz1 .i64 .i64 _ xs.length rfl rfl (by omega) (by rw [hz2]; omega) (by unfold maxLen; omega) (Nat.le_refl _) ?_; intro w1 hown hgrow)
  have hb0 : Below w.heap.size w w1 := (Below.refl _ _).grown hgrow (Nat.le_refl _) (fun j hj => absurd hj (by simp))
  have hs1 : w1.cell? ⟨b, off, none⟩ = some (.float .f32 x) := (hb0.cell (p := ⟨b, off, none⟩) hbl).trans hs0
  have hbw : b < w1.heap.size := by have := hb0.size; omega
  clear hown hgrow hs0
  go_wp2_with fail
  go_loopw [18] (fun i wr => i = .int .i64 0 ∧ wr = w1) (fun i _ => xs.length - (intOf i).toNat)
  case atStart => exact ⟨rfl, rfl⟩
  case round =>
    obtain ⟨rfl, rfl⟩ := hrel
    go_wp2_with (go_at_call 51; refine (HC.out _).mono ?_; rintro e w' ⟨rfl, n, rfl⟩)
    go_ret2
    exact retLF_nil (below_drawn hb0 _)
theorem numN_false (x l : Nat) (w : World) (hx : x < 2 ^ 32) (hl : l < 2 ^ 32) (hf : finB .f32 x = true) (hls : lsB l = false) :
    Calls Try.prog 51 #[.func (.func 85) #[] #[], .float .f32 x, .float .f32 l] w (RetXB 0 false w) := by
  have h := numI_false x l w hx hl
  rw [(srV_no2 (hard := false) hf hls).1, (srV_no2 (hard := false) hf hls).2] at h
  exact h.mono fun e w' h => retXB_of h (by decide)
set_option maxRecDepth 100000 in
theorem liN_false (v : Value) (xs : List Nat) (w : World) (l : Nat) (hl : l < 2 ^ 32) (hfin : finA xs = true) (hls : lsB l = false) (h1 : 1 ≤ xs.length) (h : Rd w w.heap.size v (fl xs)) (hm : xs.length ≤ 1048576) (hx : ∀ x ∈ xs, x < 2 ^ 32) :
    Calls Try.prog 55 #[.func (.func 85) #[] #[], v, .float .f32 l] w (RetLF [] false w) := by
  obtain ⟨i0, hi, hz0, hz1, hz2⟩ := info_parts infoF
  obtain ⟨A, c, hv, q1, q2, q3⟩ := h
  rw [fl_len] at hv q1 q3
  subst hv
  obtain ⟨b, off, rfl, hbl, hcc⟩ := q3 (by omega)
  have hs0 : w.cell? ⟨b, off, none⟩ = some (.float .f32 xs[0]) := hcc 0 _ (fl_get xs 0 (by omega))
  have hxk : xs[0] < 2 ^ 32 := hx _ (List.getElem_mem _)
  have HC := Lib.hid (fun w' => numN_false xs[0] l w' hxk hl (fin_at hfin (by omega)) hls)
  clear q3 hx hcc hxk
  generalize xs[0] = x at *
  go_enter Try.func55, Try.ntmps55
  go_wp2_with (at_make; refine wpList_make_own _ rfl _ _ 28 rfl w.heap.size 22 i0 (.float .f32 0) 1 Try.underlying28 hi hz0 hz1 .i64 .i64 _ xs.length rfl rfl (by omega) (by rw [hz2]; omega) (by unfold maxLen; omega) (Nat.le_refl _) ?_; intro w1 hown hgrow)
  have hb0 : Below w.heap.size w w1 := (Below.refl _ _).grown hgrow (Nat.le_refl _) (fun j hj => absurd hj (by simp))
  have hs1 : w1.cell? ⟨b, off, none⟩ = some (.float .f32 x) := (hb0.cell (p := ⟨b, off, none⟩) hbl).trans hs0
  have hbw : b < w1.heap.size := by have := hb0.size; omega
  clear hown hgrow hs0
  go_wp2_with fail
  go_loopw [18] (fun i wr => i = .int .i64 0 ∧ wr = w1) (fun i _ => xs.length - (intOf i).toNat)
  case atStart => exact ⟨rfl, rfl⟩
  case round =>
    obtain ⟨rfl, rfl⟩ := hrel
    go_wp2_with (go_at_call 51; refine (HC.out _).mono ?_; rintro e w' ⟨rfl, n, rfl⟩)
    go_ret2
    exact retLF_nil (below_drawn hb0 _)
set_option maxRecDepth 100000 in
set_option maxHeartbeats 1000000 in
theorem slS_any (v : Value) (xs : List Nat) (l : Nat) (hard : Bool) (w : World) (hv : Rd w w.heap.size v (fl xs)) (hm : xs.length ≤ 1048576) (hx : ∀ x ∈ xs, x < 2 ^ 32) (hl : l < 2 ^ 32) :
    Calls Try.prog 20 #[v, .float .f32 l, .bool hard] w (RetLF (slR hard xs l) (slG xs l) w) := by
  obtain ⟨Av, cv, ev, _, _, _⟩ := id hv
  rw [fl_len] at ev
  subst ev
  have hB0 : Below w.heap.size w w := Below.refl _ _
  have R0v := Lib.hid (show Rd w w.heap.size (.slice Av xs.length cv) (fl xs) from hv)
  have HX := Lib.hid hx
  clear hx
  clear hv
  cases t1 : isL xs with
  | false =>
    have T1 := Lib.hid t1
    have HG := Lib.hid (show slG xs l = false by (unfold slG; rw [t1]; first | done | rfl | simp))
    clear t1
    go_enter Try.func20, Try.ntmps20
    go_wp2_with (first | (go_at_call 52; refine (lngS_any (.slice Av xs.length cv) xs w _ R0v.out hm HX.out).mono ?_; rintro e w1 ⟨rfl, n1, hw1⟩; have hb1 : Below w.heap.size w w1 := (by rw [hw1]; exact below_drawn (Below.refl _ _) _); have R1v := Lib.hid (show Rd w1 w1.heap.size (.slice Av xs.length cv) (fl xs) from R0v.out.step hb1); have hB1 : Below w.heap.size w w1 := hB0.trans (hb1.mono hB0.size); clear hw1 hb1; rw [T1.out]))
    go_ret2
    rw [slR_no HG.out, HG.out]; exact retLF_nil hB1
  | true =>
    cases t2 : lsB l with
    | false =>
      have T1 := Lib.hid t1
      have T2 := Lib.hid t2
      have HG := Lib.hid (show slG xs l = false by (unfold slG; rw [t1, t2]; first | done | rfl | simp))
      clear t1 t2
      go_enter Try.func20, Try.ntmps20
      go_wp2_with (first | (go_at_call 52; refine (lngS_any (.slice Av xs.length cv) xs w _ R0v.out hm HX.out).mono ?_; rintro e w1 ⟨rfl, n1, hw1⟩; have hb1 : Below w.heap.size w w1 := (by rw [hw1]; exact below_drawn (Below.refl _ _) _); have R1v := Lib.hid (show Rd w1 w1.heap.size (.slice Av xs.length cv) (fl xs) from R0v.out.step hb1); have hB1 : Below w.heap.size w w1 := hB0.trans (hb1.mono hB0.size); clear hw1 hb1; rw [T1.out]) | (go_at_call 48; refine (lsS_any l w1 hl).mono ?_; rintro e w2 ⟨rfl, n2, hw2⟩; have hb2 : Below w1.heap.size w1 w2 := (by rw [hw2]; exact below_drawn (Below.refl _ _) _); have R2v := Lib.hid (show Rd w2 w2.heap.size (.slice Av xs.length cv) (fl xs) from R1v.out.step hb2); have hB2 : Below w.heap.size w w2 := hB1.trans (hb2.mono hB1.size); clear hw2 hb2; rw [T2.out]))
      go_ret2
      rw [slR_no HG.out, HG.out]; exact retLF_nil hB2
    | true =>
      have T1 := Lib.hid t1
      have T2 := Lib.hid t2
      have HG := Lib.hid (show slG xs l = true by (unfold slG; rw [t1, t2]; first | done | rfl | simp))
      have HF := Lib.hid (fun w' (hr : Rd w' w'.heap.size (.slice Av xs.length cv) (fl xs)) => liS_any _ xs w' l hard hl (isL_len t1).2.2 t2 hr hm HX.out)
      clear t1 t2
      go_enter Try.func20, Try.ntmps20
      go_wp2_with (first | (go_at_call 52; refine (lngS_any (.slice Av xs.length cv) xs w _ R0v.out hm HX.out).mono ?_; rintro e w1 ⟨rfl, n1, hw1⟩; have hb1 : Below w.heap.size w w1 := (by rw [hw1]; exact below_drawn (Below.refl _ _) _); have R1v := Lib.hid (show Rd w1 w1.heap.size (.slice Av xs.length cv) (fl xs) from R0v.out.step hb1); have hB1 : Below w.heap.size w w1 := hB0.trans (hb1.mono hB0.size); clear hw1 hb1; rw [T1.out]) | (go_at_call 48; refine (lsS_any l w1 hl).mono ?_; rintro e w2 ⟨rfl, n2, hw2⟩; have hb2 : Below w1.heap.size w1 w2 := (by rw [hw2]; exact below_drawn (Below.refl _ _) _); have R2v := Lib.hid (show Rd w2 w2.heap.size (.slice Av xs.length cv) (fl xs) from R1v.out.step hb2); have hB2 : Below w.heap.size w w2 := hB1.trans (hb2.mono hB1.size); clear hw2 hb2; rw [T2.out]) | (go_at_call 53; refine (HF.out w2 R2v.out).mono ?_; rintro e w9 ⟨u, rfl, ho, hb9⟩))
      go_ret2
      rw [slR_yes HG.out, HG.out]; exact ⟨_, rfl, ho.less hB2.size, hB2.trans (hb9.mono hB2.size)⟩
set_option maxRecDepth 100000 in
set_option maxHeartbeats 1000000 in
theorem slI_true (v : Value) (xs : List Nat) (l : Nat) (w : World) (hv : Rd w w.heap.size v (fl xs)) (hm : xs.length ≤ 1048576) (hx : ∀ x ∈ xs, x < 2 ^ 32) (hl : l < 2 ^ 32) (t0 : lsB l = true) :
    Calls Try.prog 22 #[v, .float .f32 l, .bool true] w (RetLF (if isL xs then mapK (fun x => shF true x l) xs xs.length else []) (isL xs) w) := by
  obtain ⟨Av, cv, ev, _, _, _⟩ := id hv
  rw [fl_len] at ev
  subst ev
  have hB0 : Below w.heap.size w w := Below.refl _ _
  have R0v := Lib.hid (show Rd w w.heap.size (.slice Av xs.length cv) (fl xs) from hv)
  have HX := Lib.hid hx
  clear hx
  clear hv
  cases t1 : isL xs with
  | false =>
    have T1 := Lib.hid t1
    have HG := Lib.hid (show isL xs = false by exact t1)
    clear t1
    go_enter Try.func22, Try.ntmps22
    go_wp2_with (first | (go_at_call 54; refine (lngI_any (.slice Av xs.length cv) xs w _ R0v.out hm HX.out).mono ?_; rintro e w1 ⟨rfl, n1, hw1⟩; have hb1 : Below w.heap.size w w1 := (by rw [hw1]; exact below_drawn (Below.refl _ _) _); have R1v := Lib.hid (show Rd w1 w1.heap.size (.slice Av xs.length cv) (fl xs) from R0v.out.step hb1); have hB1 : Below w.heap.size w w1 := hB0.trans (hb1.mono hB0.size); clear hw1 hb1; rw [T1.out]))
    go_ret2
    exact retLF_nil hB1
  | true =>
    have T1 := Lib.hid t1
    have HG := Lib.hid (show isL xs = true by exact t1)
    have HF := Lib.hid (fun w' (hr : Rd w' w'.heap.size (.slice Av xs.length cv) (fl xs)) => liI_true _ xs w' l hl (isL_len t1).2.2 t0 hr hm HX.out)
    clear t1
    go_enter Try.func22, Try.ntmps22
    go_wp2_with (first | (go_at_call 54; refine (lngI_any (.slice Av xs.length cv) xs w _ R0v.out hm HX.out).mono ?_; rintro e w1 ⟨rfl, n1, hw1⟩; have hb1 : Below w.heap.size w w1 := (by rw [hw1]; exact below_drawn (Below.refl _ _) _); have R1v := Lib.hid (show Rd w1 w1.heap.size (.slice Av xs.length cv) (fl xs) from R0v.out.step hb1); have hB1 : Below w.heap.size w w1 := hB0.trans (hb1.mono hB0.size); clear hw1 hb1; rw [T1.out]) | (go_at_call 50; refine (ofI_true _).mono ?_; rintro e w8 ⟨rfl, rfl⟩) | (go_at_call 55; refine (HF.out w1 R1v.out).mono ?_; rintro e w9 ⟨u, rfl, ho, hb9⟩))
    go_ret2
    exact ⟨_, rfl, ho.less hB1.size, hB1.trans (hb9.mono hB1.size)⟩
set_option maxRecDepth 100000 in
set_option maxHeartbeats 1000000 in
theorem slN_true (v : Value) (xs : List Nat) (l : Nat) (w : World) (hv : Rd w w.heap.size v (fl xs)) (hm : xs.length ≤ 1048576) (hx : ∀ x ∈ xs, x < 2 ^ 32) (hl : l < 2 ^ 32) (t0 : lsB l = false) :
    Calls Try.prog 22 #[v, .float .f32 l, .bool true] w (RetLF [] false w) := by
  obtain ⟨Av, cv, ev, _, _, _⟩ := id hv
  rw [fl_len] at ev
  subst ev
  have hB0 : Below w.heap.size w w := Below.refl _ _
  have R0v := Lib.hid (show Rd w w.heap.size (.slice Av xs.length cv) (fl xs) from hv)
  have HX := Lib.hid hx
  clear hx
  clear hv
  cases t1 : isL xs with
  | false =>
    have T1 := Lib.hid t1
    have HG := Lib.hid (show isL xs = false by exact t1)
    clear t1
    go_enter Try.func22, Try.ntmps22
    go_wp2_with (first | (go_at_call 54; refine (lngI_any (.slice Av xs.length cv) xs w _ R0v.out hm HX.out).mono ?_; rintro e w1 ⟨rfl, n1, hw1⟩; have hb1 : Below w.heap.size w w1 := (by rw [hw1]; exact below_drawn (Below.refl _ _) _); have R1v := Lib.hid (show Rd w1 w1.heap.size (.slice Av xs.length cv) (fl xs) from R0v.out.step hb1); have hB1 : Below w.heap.size w w1 := hB0.trans (hb1.mono hB0.size); clear hw1 hb1; rw [T1.out]))
    go_ret2
    exact retLF_nil hB1
  | true =>
    have T1 := Lib.hid t1
    have HG := Lib.hid (show isL xs = true by exact t1)
    have HF := Lib.hid (fun w' (hr : Rd w' w'.heap.size (.slice Av xs.length cv) (fl xs)) => liN_true _ xs w' l hl (isL_len t1).2.2 t0 (isL_len t1).1 hr hm HX.out)
    clear t1
    go_enter Try.func22, Try.ntmps22
    go_wp2_with (first | (go_at_call 54; refine (lngI_any (.slice Av xs.length cv) xs w _ R0v.out hm HX.out).mono ?_; rintro e w1 ⟨rfl, n1, hw1⟩; have hb1 : Below w.heap.size w w1 := (by rw [hw1]; exact below_drawn (Below.refl _ _) _); have R1v := Lib.hid (show Rd w1 w1.heap.size (.slice Av xs.length cv) (fl xs) from R0v.out.step hb1); have hB1 : Below w.heap.size w w1 := hB0.trans (hb1.mono hB0.size); clear hw1 hb1; rw [T1.out]) | (go_at_call 50; refine (ofI_true _).mono ?_; rintro e w8 ⟨rfl, rfl⟩) | (go_at_call 55; refine (HF.out w1 R1v.out).mono ?_; rintro e w9 ⟨u, rfl, ho, hb9⟩))
    go_ret2
    exact ⟨_, rfl, ho.less hB1.size, hB1.trans (hb9.mono hB1.size)⟩
set_option maxRecDepth 100000 in
set_option maxHeartbeats 1000000 in
theorem slI_false (v : Value) (xs : List Nat) (l : Nat) (w : World) (hv : Rd w w.heap.size v (fl xs)) (hm : xs.length ≤ 1048576) (hx : ∀ x ∈ xs, x < 2 ^ 32) (hl : l < 2 ^ 32) (t0 : lsB l = true) :
    Calls Try.prog 22 #[v, .float .f32 l, .bool false] w (RetLF (if isL xs then mapK (fun x => shF false x l) xs xs.length else []) (isL xs) w) := by
  obtain ⟨Av, cv, ev, _, _, _⟩ := id hv
  rw [fl_len] at ev
  subst ev
  have hB0 : Below w.heap.size w w := Below.refl _ _
  have R0v := Lib.hid (show Rd w w.heap.size (.slice Av xs.length cv) (fl xs) from hv)
  have HX := Lib.hid hx
  clear hx
  clear hv
  cases t1 : isL xs with
  | false =>
    have T1 := Lib.hid t1
    have HG := Lib.hid (show isL xs = false by exact t1)
    clear t1
    go_enter Try.func22, Try.ntmps22
    go_wp2_with (first | (go_at_call 54; refine (lngI_any (.slice Av xs.length cv) xs w _ R0v.out hm HX.out).mono ?_; rintro e w1 ⟨rfl, n1, hw1⟩; have hb1 : Below w.heap.size w w1 := (by rw [hw1]; exact below_drawn (Below.refl _ _) _); have R1v := Lib.hid (show Rd w1 w1.heap.size (.slice Av xs.length cv) (fl xs) from R0v.out.step hb1); have hB1 : Below w.heap.size w w1 := hB0.trans (hb1.mono hB0.size); clear hw1 hb1; rw [T1.out]))
    go_ret2
    exact retLF_nil hB1
  | true =>
    have T1 := Lib.hid t1
    have HG := Lib.hid (show isL xs = true by exact t1)
    have HF := Lib.hid (fun w' (hr : Rd w' w'.heap.size (.slice Av xs.length cv) (fl xs)) => liI_false _ xs w' l hl (isL_len t1).2.2 t0 hr hm HX.out)
    clear t1
    go_enter Try.func22, Try.ntmps22
    go_wp2_with (first | (go_at_call 54; refine (lngI_any (.slice Av xs.length cv) xs w _ R0v.out hm HX.out).mono ?_; rintro e w1 ⟨rfl, n1, hw1⟩; have hb1 : Below w.heap.size w w1 := (by rw [hw1]; exact below_drawn (Below.refl _ _) _); have R1v := Lib.hid (show Rd w1 w1.heap.size (.slice Av xs.length cv) (fl xs) from R0v.out.step hb1); have hB1 : Below w.heap.size w w1 := hB0.trans (hb1.mono hB0.size); clear hw1 hb1; rw [T1.out]) | (go_at_call 50; refine (ofI_false _).mono ?_; rintro e w8 ⟨rfl, rfl⟩) | (go_at_call 55; refine (HF.out w1 R1v.out).mono ?_; rintro e w9 ⟨u, rfl, ho, hb9⟩))
    go_ret2
    exact ⟨_, rfl, ho.less hB1.size, hB1.trans (hb9.mono hB1.size)⟩
set_option maxRecDepth 100000 in
set_option maxHeartbeats 1000000 in
theorem slN_false (v : Value) (xs : List Nat) (l : Nat) (w : World) (hv : Rd w w.heap.size v (fl xs)) (hm : xs.length ≤ 1048576) (hx : ∀ x ∈ xs, x < 2 ^ 32) (hl : l < 2 ^ 32) (t0 : lsB l = false) :
    Calls Try.prog 22 #[v, .float .f32 l, .bool false] w (RetLF [] false w) := by
  obtain ⟨Av, cv, ev, _, _, _⟩ := id hv
  rw [fl_len] at ev
  subst ev
  have hB0 : Below w.heap.size w w := Below.refl _ _
  have R0v := Lib.hid (show Rd w w.heap.size (.slice Av xs.length cv) (fl xs) from hv)
  have HX := Lib.hid hx
  clear hx
  clear hv
  cases t1 : isL xs with
  | false =>
    have T1 := Lib.hid t1
    have HG := Lib.hid (show isL xs = false by exact t1)
    clear t1
    go_enter Try.func22, Try.ntmps22
    go_wp2_with (first | (go_at_call 54; refine (lngI_any (.slice Av xs.length cv) xs w _ R0v.out hm HX.out).mono ?_; rintro e w1 ⟨rfl, n1, hw1⟩; have hb1 : Below w.heap.size w w1 := (by rw [hw1]; exact below_drawn (Below.refl _ _) _); have R1v := Lib.hid (show Rd w1 w1.heap.size (.slice Av xs.length cv) (fl xs) from R0v.out.step hb1); have hB1 : Below w.heap.size w w1 := hB0.trans (hb1.mono hB0.size); clear hw1 hb1; rw [T1.out]))
    go_ret2
    exact retLF_nil hB1
  | true =>
    have T1 := Lib.hid t1
    have HG := Lib.hid (show isL xs = true by exact t1)
    have HF := Lib.hid (fun w' (hr : Rd w' w'.heap.size (.slice Av xs.length cv) (fl xs)) => liN_false _ xs w' l hl (isL_len t1).2.2 t0 (isL_len t1).1 hr hm HX.out)
    clear t1
    go_enter Try.func22, Try.ntmps22
    go_wp2_with (first | (go_at_call 54; refine (lngI_any (.slice Av xs.length cv) xs w _ R0v.out hm HX.out).mono ?_; rintro e w1 ⟨rfl, n1, hw1⟩; have hb1 : Below w.heap.size w w1 := (by rw [hw1]; exact below_drawn (Below.refl _ _) _); have R1v := Lib.hid (show Rd w1 w1.heap.size (.slice Av xs.length cv) (fl xs) from R0v.out.step hb1); have hB1 : Below w.heap.size w w1 := hB0.trans (hb1.mono hB0.size); clear hw1 hb1; rw [T1.out]) | (go_at_call 50; refine (ofI_false _).mono ?_; rintro e w8 ⟨rfl, rfl⟩) | (go_at_call 55; refine (HF.out w1 R1v.out).mono ?_; rintro e w9 ⟨u, rfl, ho, hb9⟩))
    go_ret2
    exact ⟨_, rfl, ho.less hB1.size, hB1.trans (hb9.mono hB1.size)⟩
theorem slI_any (v : Value) (xs : List Nat) (l : Nat) (hard : Bool) (w : World) (hv : Rd w w.heap.size v (fl xs)) (hm : xs.length ≤ 1048576) (hx : ∀ x ∈ xs, x < 2 ^ 32) (hl : l < 2 ^ 32) : Calls Try.prog 22 #[v, .float .f32 l, .bool hard] w (RetLF (slR hard xs l) (slG xs l) w) := by
  cases t0 : lsB l with
  | true =>
    have e1 : slG xs l = isL xs := by unfold slG; rw [t0, Bool.and_true]
    have e2 : ∀ hd, slR hd xs l = if isL xs then mapK (fun x => shF hd x l) xs xs.length else [] := by intro hd; unfold slR; rw [e1]
    rw [e2, e1]
    cases hard
    · exact slI_false v xs l w hv hm hx hl t0
    · exact slI_true v xs l w hv hm hx hl t0
  | false =>
    have e1 : slG xs l = false := by unfold slG; rw [t0, Bool.and_false]
    rw [slR_no e1, e1]
    cases hard
    · exact slN_false v xs l w hv hm hx hl t0
    · exact slN_true v xs l w hv hm hx hl t0
end Go.Proofs.Ytpckljkhmaghmaa
