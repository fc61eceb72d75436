/-
  Contracts: means of lists, of both sides; gains.
-/
import Derived.Test.YtpckljkhmaghmaaMio
import Derived.Test.YtpckljkhmaghmaaFloGn
import Derived.Deep.QuietTactic
import Derived.BigQuiet
namespace Go.Proofs.Ytpckljkhmaghmaa
open Go.RowKit Fl
set_option linter.unusedVariables false

theorem fl_take (xs : List Nat) (k : Nat) : fl (xs.take k) = (fl xs).take k := by simp [fl, List.map_take]
theorem fl_drop (xs : List Nat) (k : Nat) : fl (xs.drop k) = (fl xs).drop k := by simp [fl, List.map_drop]
theorem Rd.prefix' {w : World} {B b off n c : Nat} {xs : List Value} (h : Rd w B (.slice (some ⟨b, off, none⟩) n c) xs) (k : Nat) (hk : k ≤ n) : Rd w B (.slice (some ⟨b, off, none⟩) k c) (xs.take k) := by
  obtain ⟨A, c', hv, h1, h2, h3⟩ := h
  simp only [Value.slice.injEq] at hv
  obtain ⟨rfl, rfl, rfl⟩ := hv
  have hl : (xs.take k).length = k := by rw [List.length_take]; omega
  refine ⟨_, c, by rw [hl], by omega, h2, fun hp => ?_⟩
  obtain ⟨b', off', e, hb, hc⟩ := h3 (by omega)
  refine ⟨b', off', e, hb, fun i x hx => hc i x ?_⟩
  have hi : i < k := by have := (List.getElem?_eq_some_iff.1 hx).1; omega
  rw [List.getElem?_take, if_pos hi] at hx
  exact hx
theorem Rd.suffix' {w : World} {B b off n c : Nat} {xs : List Value} (h : Rd w B (.slice (some ⟨b, off, none⟩) n c) xs) (k : Nat) (hk : k ≤ n) : Rd w B (.slice (some ⟨b, off + k, none⟩) (n - k) (c - k)) (xs.drop k) := by
  obtain ⟨A, c', hv, h1, h2, h3⟩ := h
  simp only [Value.slice.injEq] at hv
  obtain ⟨rfl, rfl, rfl⟩ := hv
  have hl : (xs.drop k).length = xs.length - k := by rw [List.length_drop]
  refine ⟨_, c - k, by rw [hl], by omega, by omega, fun hp => ?_⟩
  obtain ⟨b', off', e, hb, hc⟩ := h3 (by omega)
  cases e
  refine ⟨b, off + k, rfl, hb, fun i x hx => ?_⟩
  rw [List.getElem?_drop] at hx
  rw [Nat.add_assoc]
  exact hc _ x hx

def fi (k : Nat) : Nat := floatOfInt .f32 (k : Int)
theorem is_fi (k : Nat) : Is .f32 (floatOfInt .f32 (k : Int)) (fi k) := is_int32 _
def sumF (xs : List Nat) : Nat := xs.foldl (fun s x => ar .add .f32 s x) 0
theorem sumF_snoc (xs : List Nat) (x : Nat) : sumF (xs ++ [x]) = ar .add .f32 (sumF xs) x := by simp [sumF]
theorem sumF_take (xs : List Nat) (k : Nat) (h : k < xs.length) : sumF (xs.take (k + 1)) = ar .add .f32 (sumF (xs.take k)) xs[k] := by
  rw [List.take_succ_eq_append_getElem h, sumF_snoc]
def mnX (xs : List Nat) : Nat := ar .quo .f32 (sumF xs) (fi xs.length)
def SumRel (w : World) (xs : List Nat) (s i : Value) (wr : World) : Prop := ∃ k m r : Nat, k ≤ xs.length ∧ i = .int .i64 k ∧ s = .float .f32 r ∧ Is .f32 r (sumF (xs.take k)) ∧ wr = w.drewN m
set_option maxHeartbeats 1000000 in
theorem mnS_any (v : Value) (xs : List Nat) (w : World) (B : Nat) (h : Rd w B v (fl xs)) (hm : xs.length ≤ 256) :
    Calls Try.prog 104 #[v] w (RetF32 (mnX xs) w) := by
  obtain ⟨A, c, hv, hc1, hc2, hcell⟩ := h
  rw [fl_len] at hv hc1 hcell
  subst hv
  have hC := Lib.hid hcell
  clear hcell
  go_enter Try.func104, Try.ntmps104
  go_wp2
  go_loopw [3, 7] (SumRel w xs) (fun _ i _ => xs.length - (intOf i).toNat)
  case atStart => exact ⟨0, 0, 0, Nat.zero_le _, rfl, rfl, is_lit (by decide), rfl⟩
  case round =>
    obtain ⟨k, m, r0, hk, rfl, rfl, hr0, rfl⟩ := hrel
    by_cases hlt : k < xs.length
    · obtain ⟨b, off, rfl, hbl, hcc⟩ := hC.out (by omega)
      have hsrc : w.cell? ⟨b, off + k, none⟩ = some (.float .f32 xs[k]) := hcc k _ (fl_get xs k hlt)
      have hS := Lib.hid (sumF_take xs k hlt)
      clear hcc hC
      go_wp2_with (refine up_arl rfl hr0 ?_; intro r n hr)
      go_roundw
      case rel => exact ⟨k + 1, _, _, by omega, by go_num, rfl, by rw [hS.out]; exact hr, rfl⟩
      case measure => simp [intOf]; omega
    · obtain rfl : k = xs.length := by omega
      rw [List.take_length] at hr0
      go_wp2_with (refine up_ar2 (op := .quo) rfl hr0 (is_fi _) ?_; intro rs ns hs)
      go_ret
      exact ⟨_, _, rfl, hs, rfl⟩
set_option maxHeartbeats 1000000 in
theorem smI_any (v : Value) (xs : List Nat) (w : World) (B : Nat) (h : Rd w B v (fl xs)) (hm : xs.length ≤ 256) :
    Calls Try.prog 115 #[v] w (RetFB (sumF xs) true w) := by
  obtain ⟨A, c, hv, hc1, hc2, hcell⟩ := h
  rw [fl_len] at hv hc1 hcell
  subst hv
  have hC := Lib.hid hcell
  clear hcell
  go_enter Try.func115, Try.ntmps115
  go_wp2
  go_loopw [4, 13] (SumRel w xs) (fun _ i _ => xs.length - (intOf i).toNat)
  case atStart => exact ⟨0, 0, 0, Nat.zero_le _, rfl, rfl, is_lit (by decide), rfl⟩
  case round =>
    obtain ⟨k, m, r0, hk, rfl, rfl, hr0, rfl⟩ := hrel
    by_cases hlt : k < xs.length
    · obtain ⟨b, off, rfl, hbl, hcc⟩ := hC.out (by omega)
      have hsrc : w.cell? ⟨b, off + k, none⟩ = some (.float .f32 xs[k]) := hcc k _ (fl_get xs k hlt)
      have hS := Lib.hid (sumF_take xs k hlt)
      clear hcc hC
      go_wp2_with (refine up_arl rfl hr0 ?_; intro r n hr)
      go_roundw
      case rel => exact ⟨k + 1, _, _, by omega, by go_num, rfl, by rw [hS.out]; exact hr, rfl⟩
      case measure => simp [intOf]; omega
    · obtain rfl : k = xs.length := by omega
      rw [List.take_length] at hr0
      go_wp2
      go_ret2
      exact ⟨_, _, rfl, hr0, rfl⟩
theorem snI_any (v : Value) (xs : List Nat) (w : World) (B : Nat) (h : Rd w B v (fl xs)) (hm : xs.length ≤ 256) :
    Calls Try.prog 105 #[v] w (RetFB (sumF xs) true w) := by
  obtain ⟨A, c, hv, hc1, hc2, hcell⟩ := id h
  rw [fl_len] at hv
  subst hv
  clear hcell hc1 hc2
  have H := Lib.hid (smI_any _ xs w B h hm)
  go_enter Try.func105, Try.ntmps105
  go_wp2_with (go_at_call 115; refine H.out.mono ?_; rintro e w' ⟨r, n, rfl, hr, rfl⟩)
  go_ret2
  exact ⟨_, _, rfl, hr, rfl⟩
theorem mnI_any (v : Value) (xs : List Nat) (w : World) (B : Nat) (h : Rd w B v (fl xs)) (hm : xs.length ≤ 256) :
    Calls Try.prog 82 #[v] w (RetF32 (mnX xs) w) := by
  obtain ⟨A, c, hv, hc1, hc2, hcell⟩ := id h
  rw [fl_len] at hv
  subst hv
  clear hcell hc1 hc2
  have H := Lib.hid (snI_any _ xs w B h hm)
  go_enter Try.func82, Try.ntmps82
  go_wp2_with (first | (go_at_call 105; refine H.out.mono ?_; rintro e w' ⟨r, n, rfl, hr, rfl⟩) | (refine up_ar2 (op := .quo) rfl hr (is_fi _) ?_; intro rs ns hs))
  go_ret
  exact ⟨_, _, rfl, hs, rfl⟩
/-- The part of a gain. -/
def prX (xs : List Nat) (m : Nat) : Nat := ar .mul .f32 (ar .mul .f32 (fi xs.length) (ar .sub .f32 (mnX xs) m)) (ar .sub .f32 (mnX xs) m)
def gnX (xs : List Nat) (m k : Nat) : Nat := ar .add .f32 (prX (xs.take k) m) (prX (xs.drop k) m)
set_option maxHeartbeats 1000000 in
theorem prI_any (v : Value) (xs : List Nat) (m g r : Nat) (w : World) (h : Rd w w.heap.size v (fl xs)) (hm : xs.length ≤ 256) (hg : g < w.heap.size) (hr : Is .f32 r m) (hcell : w.cell? ⟨g, 0, none⟩ = some (.float .f32 r)) :
    Calls Try.prog 106 #[v, .pointer (some ⟨g, 0, none⟩)] w (RetF32 (prX xs m) w) := by
  obtain ⟨A, c, hv, hc1, hc2, hc3⟩ := id h
  rw [fl_len] at hv
  subst hv
  clear hc3 hc1 hc2
  have H := Lib.hid (fun n => mnI_any _ xs (w.drewN n) w.heap.size (h.drewN n) hm)
  have HR := Lib.hid (show prX xs m = ar .mul .f32 (ar .mul .f32 (fi xs.length) (ar .sub .f32 (mnX xs) m)) (ar .sub .f32 (mnX xs) m) from rfl)
  clear h
  go_enter Try.func106, Try.ntmps106
  go_wp2_with fail
  go_region_with (first | (go_at_call 82; refine (H.out _).mono ?_; rintro e w' ⟨r1, n1, rfl, h1, rfl⟩) | (refine up_ar2 (op := .sub) rfl h1 hr ?_; intro r2 n2 h2))
  all_goals
    go_wp2_with (first | (refine up_ar2 (op := .mul) rfl (is_fi _) h2 ?_; intro r3 n3 h3) | (refine up_ar2 (op := .mul) rfl h3 h2 ?_; intro r4 n4 h4))
    go_ret
    exact ⟨_, _, rfl, by rw [HR.out]; assumption, rfl⟩
end Go.Proofs.Ytpckljkhmaghmaa
