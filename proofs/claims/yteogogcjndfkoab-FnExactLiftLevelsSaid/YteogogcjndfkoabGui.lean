/-
  Contracts: what evens tell of odds and odds of evens, for lists of int64, by the program.
-/
import Derived.Test.YteogogcjndfkoabGue
import Derived.Deep.RegionWith
namespace Go.Proofs.Yteogogcjndfkoab
open Go.RowKit
set_option linter.unusedVariables false

set_option maxHeartbeats 1000000 in
theorem evb_any (v : Value) (xs : List Int) (i : Nat) (w : World) (B : Nat) (h : Rd w B v (il xs)) (hm : xs.length ≤ 1048576) (hi : i < xs.length) :
    Calls Try.prog 118 #[v, .int .i64 i] w fun e w' => e = .returned (.tuple #[.int .i64 (xs.getD i 0), .int .i64 (xs.getD (nrI xs.length ((i : Int) + 1)) 0)]) ∧ ∃ n, w' = w.drewN n := by
  obtain ⟨A, c, hv, hc1, hc2, hcell⟩ := h
  rw [il_len] at hv hc1 hcell
  subst hv
  obtain ⟨b, off, rfl, hbl, hcc⟩ := hcell (by omega)
  have hcl0 := hcc _ _ (il_get xs i hi)
  rw [show xs[i] = xs.getD i 0 by simp [List.getD, hi]] at hcl0
  have hj := nrI_lt (n := xs.length) ((i : Int) + 1) (by omega)
  have hcl := hcc _ _ (il_get xs _ hj)
  rw [show xs[nrI xs.length ((i : Int) + 1)] = xs.getD (nrI xs.length ((i : Int) + 1)) 0 by simp [List.getD, hj]] at hcl
  have hmn : (if (xs.length : Int) - 1 < (i : Int) + 1 then (xs.length : Int) - 1 else (i : Int) + 1) = ((nrI xs.length ((i : Int) + 1) : Nat) : Int) := by unfold nrI; split <;> omega
  have hmin : ∀ (ts : Array TypeId) (t : TypeId) (W : World), (Builtin.min_ ts t #[.int .i64 ((i : Int) + 1), .int .i64 ((xs.length : Int) - 1)]).run Try.prog W = .ok (.int .i64 ((nrI xs.length ((i : Int) + 1) : Nat) : Int)) W := fun ts t W => by
    rw [run_min_int2, hmn]
  generalize xs.getD i 0 = x at *
  generalize xs.getD (nrI xs.length ((i : Int) + 1)) 0 = y at *
  generalize nrI xs.length ((i : Int) + 1) = j at *
  clear hcc hcell hmn
  go_enter Try.func118, Try.ntmps118
  go_wp2
  go_quiet (fail)
  go_wp2
  go_ret2
  exact ⟨rfl, _, rfl⟩
set_option maxHeartbeats 1000000 in
theorem odb_any (v : Value) (xs : List Int) (i : Nat) (w : World) (B : Nat) (h : Rd w B v (il xs)) (hm : xs.length ≤ 1048576) (hp : 0 < xs.length) (hi : i ≤ xs.length) :
    Calls Try.prog 120 #[v, .int .i64 i] w fun e w' => e = .returned (.tuple #[.int .i64 (xs.getD (nrI xs.length ((i : Int) - 1)) 0), .int .i64 (xs.getD (nrI xs.length (i : Int)) 0)]) ∧ ∃ n, w' = w.drewN n := by
  obtain ⟨A, c, hv, hc1, hc2, hcell⟩ := h
  rw [il_len] at hv hc1 hcell
  subst hv
  obtain ⟨b, off, rfl, hbl, hcc⟩ := hcell (by omega)
  have hj0 := nrI_lt (n := xs.length) ((i : Int) - 1) (by omega)
  have hcl0 := hcc _ _ (il_get xs _ hj0)
  rw [show xs[nrI xs.length ((i : Int) - 1)] = xs.getD (nrI xs.length ((i : Int) - 1)) 0 by simp [List.getD, hj0]] at hcl0
  have hj := nrI_lt (n := xs.length) (i : Int) (by omega)
  have hcl := hcc _ _ (il_get xs _ hj)
  rw [show xs[nrI xs.length (i : Int)] = xs.getD (nrI xs.length (i : Int)) 0 by simp [List.getD, hj]] at hcl
  have hmn : (if (xs.length : Int) - 1 < (i : Int) then (xs.length : Int) - 1 else (i : Int)) = ((nrI xs.length (i : Int) : Nat) : Int) := by unfold nrI; split <;> omega
  have hmx : (if 0 > (i : Int) - 1 then 0 else (i : Int) - 1) = ((nrI xs.length ((i : Int) - 1) : Nat) : Int) := by unfold nrI; split <;> omega
  have hmin : ∀ (ts : Array TypeId) (t : TypeId) (W : World), (Builtin.min_ ts t #[.int .i64 (i : Int), .int .i64 ((xs.length : Int) - 1)]).run Try.prog W = .ok (.int .i64 ((nrI xs.length (i : Int) : Nat) : Int)) W := fun ts t W => by
    rw [run_min_int2, hmn]
  have hmax : ∀ (ts : Array TypeId) (t : TypeId) (W : World), (Builtin.max_ ts t #[.int .i64 ((i : Int) - 1), .int .i64 0]).run Try.prog W = .ok (.int .i64 ((nrI xs.length ((i : Int) - 1) : Nat) : Int)) W := fun ts t W => by
    rw [run_max_int2, hmx]
  generalize xs.getD (nrI xs.length ((i : Int) - 1)) 0 = x at *
  generalize xs.getD (nrI xs.length (i : Int)) 0 = y at *
  generalize nrI xs.length (i : Int) = j at *
  generalize nrI xs.length ((i : Int) - 1) = j' at *
  clear hcc hcell hmn hmx
  go_enter Try.func120, Try.ntmps120
  go_wp2
  go_quiet (fail)
  go_wp2
  go_ret2
  exact ⟨rfl, _, rfl⟩
set_option maxHeartbeats 1000000 in
theorem wat_any (g : Nat) (v : Value) (xs : List Int) (k : Int) (w : World) (B : Nat) (h : Rd w B v (il xs)) (hg : w.cell? ⟨g, 0, none⟩ = some v) (hm : xs.length ≤ 1000) (hp : 0 < xs.length) (h0 : -2000000 ≤ k) (h1 : k ≤ 2000000) :
    Calls Try.prog 127 #[.int .i64 k, .pointer (some ⟨g, 0, none⟩)] w (RetI (xs.getD (mir xs.length k).toNat 0) w) := by
  obtain ⟨A, c, hv, hc1, hc2, hcell⟩ := h
  rw [il_len] at hv hc1 hcell
  subst hv
  obtain ⟨b, off, rfl, hbl, hcc⟩ := hcell (by omega)
  obtain ⟨hj, hje⟩ := mir_nat xs.length k hp
  have hcl := hcc _ _ (il_get xs (mir xs.length k).toNat hj)
  rw [show xs[(mir xs.length k).toNat] = xs.getD (mir xs.length k).toNat 0 by simp [List.getD, hj]] at hcl
  have HJ := Lib.hid hje
  have HM := Lib.hid (fun n => mirI_any (xs.length : Int) k (w.drewN n) (by omega) (by omega) h0 h1)
  generalize xs.getD (mir xs.length k).toNat 0 = x at *
  generalize (mir xs.length k).toNat = j at *
  have HC := Lib.hid (show ∀ n, Calls Try.prog 128 #[.int .i64 (xs.length : Int), .int .i64 k] (w.drewN n) fun e w' => e = .returned (.int .i64 (j : Int)) ∧ w' = w.drewN n from fun n => (HM.out n).mono fun e w' h => ⟨by rw [← HJ.out]; exact h.1, h.2.symm⟩)
  clear hcc hcell hje
  go_enter Try.func127, Try.ntmps127
  go_wp2
  go_quiet ((go_at_call 128; exact Calls.quiet_of_same (HC.out _)))
  go_wp2
  go_ret
  exact ⟨rfl, _, rfl⟩

theorem Rd.new {w : World} {B : Nat} {v : Value} {vs : List Value} (h : Rd w B v vs) (hB : B ≤ w.heap.size) (o : Obj) : Rd (w.alloc o) B v vs := h.below ((Below.refl _ _).alloc hB o)
def RetIB (x : Int) (w : World) (e : Ending) (w' : World) : Prop := e = .returned (.int .i64 x) ∧ Below w.heap.size w w'
set_option maxHeartbeats 1000000 in
theorem wide_any (v : Value) (xs : List Int) (i : Nat) (w : World) (h : Rd w w.heap.size v (il xs)) (hm : xs.length ≤ 128) (hi : i < xs.length) (hB : Bds 10000000000 xs) :
    Calls Try.prog 119 #[v, .int .i64 i] w (RetIB (gue 2 xs i) w) := by
  obtain ⟨A, c, hv, q1, q2, q3⟩ := id h
  clear q1 q2 q3
  rw [il_len] at hv
  subst hv
  have hr := h.new (Nat.le_refl _) (.cells #[.slice A xs.length c] 52)
  have hg : (w.alloc (.cells #[.slice A xs.length c] 52)).cell? ⟨w.heap.size, 0, none⟩ = some (.slice A xs.length c) := (cell_of_row _ _ _ _ _ _ (heap_alloc_new w _)).trans rfl
  have hw := fun n k h0 h1 => wat_any w.heap.size (.slice A xs.length c) xs k ((w.alloc (.cells #[.slice A xs.length c] 52)).drewN n) _ (hr.drewN n) hg (by omega) (by omega) h0 h1
  have hb0 := hB.getD (by omega) (mir xs.length (i : Int)).toNat
  have hb1 := hB.getD (by omega) (mir xs.length ((i : Int) + 1)).toNat
  have hb2 := hB.getD (by omega) (mir xs.length ((i : Int) - 1)).toNat
  have hb3 := hB.getD (by omega) (mir xs.length ((i : Int) + 2)).toNat
  have H0 := Lib.hid (fun n => hw n (i : Int) (by omega) (by omega))
  have H1 := Lib.hid (fun n => hw n ((i : Int) + 1) (by omega) (by omega))
  have H2 := Lib.hid (fun n => hw n ((i : Int) - 1) (by omega) (by omega))
  have H3 := Lib.hid (fun n => hw n ((i : Int) + 2) (by omega) (by omega))
  have he : (mir xs.length (i : Int)).toNat = i := by rw [mir_in (by omega) (by omega)]; omega
  unfold gue
  rw [if_neg (by decide), if_neg (by decide)]
  rw [he] at hb0 H0
  generalize xs.getD i 0 = x at *
  generalize xs.getD (mir xs.length ((i : Int) + 1)).toNat 0 = y at *
  generalize xs.getD (mir xs.length ((i : Int) - 1)).toNat 0 = z at *
  generalize xs.getD (mir xs.length ((i : Int) + 2)).toNat 0 = u at *
  obtain ⟨b01, b02⟩ := hb0
  obtain ⟨b11, b12⟩ := hb1
  obtain ⟨b21, b22⟩ := hb2
  obtain ⟨b31, b32⟩ := hb3
  clear hw he hg hr
  go_enter Try.func119, Try.ntmps119
  go_wp2_with fail
  refine (H0.out 0).mono ?_
  rintro e w1 ⟨rfl, n1, rfl⟩
  go_wp2_with fail
  refine (H1.out _).mono ?_
  rintro e w1 ⟨rfl, n2, rfl⟩
  go_wp2_with fail
  refine (H2.out _).mono ?_
  rintro e w1 ⟨rfl, n3, rfl⟩
  go_wp2_with fail
  refine (H3.out _).mono ?_
  rintro e w1 ⟨rfl, n4, rfl⟩
  go_wp2_with fail
  go_ret
  exact ⟨rfl, below_drawn ((Below.refl _ _).alloc (Nat.le_refl _) _) _⟩

set_option maxHeartbeats 1000000 in
theorem gueI (kind : Int) (v : Value) (xs : List Int) (i : Nat) (w : World) (h : Rd w w.heap.size v (il xs)) (hm : xs.length ≤ 128) (hi : i < xs.length) (hk0 : 0 ≤ kind) (hk2 : kind ≤ 2) (hB : Bds 10000000000 xs) :
    Calls Try.prog 103 #[.int .i64 kind, v, .int .i64 i] w (RetIB (gue kind xs i) w) := by
  have HE := Lib.hid (evb_any v xs i w _ h (by omega) hi)
  have hk : kind = 0 ∨ kind = 1 ∨ kind = 2 := by omega
  rcases hk with rfl | rfl | rfl
  · unfold gue
    rw [if_pos rfl]
    generalize xs.getD i 0 = x at *
    generalize xs.getD (nrI xs.length ((i : Int) + 1)) 0 = y at *
    go_enter Try.func103, Try.ntmps103
    go_wp2_with fail
    refine HE.out.mono ?_
    rintro e w1 ⟨rfl, n, rfl⟩
    go_wp2_with fail
    go_ret
    exact ⟨rfl, below_drawn (Below.refl _ _) _⟩
  · unfold gue
    rw [if_neg (by decide), if_pos rfl]
    have hb0 := hB.getD (by omega) i
    have hb1 := hB.getD (by omega) (nrI xs.length ((i : Int) + 1))
    generalize xs.getD i 0 = x at *
    generalize xs.getD (nrI xs.length ((i : Int) + 1)) 0 = y at *
    obtain ⟨b01, b02⟩ := hb0
    obtain ⟨b11, b12⟩ := hb1
    go_enter Try.func103, Try.ntmps103
    go_wp2_with fail
    refine HE.out.mono ?_
    rintro e w1 ⟨rfl, n, rfl⟩
    go_wp2_with fail
    go_ret
    exact ⟨rfl, below_drawn (Below.refl _ _) _⟩
  · have HW := Lib.hid (fun n => wide_any v xs i (w.drewN n) (h.drewN n) hm hi hB)
    generalize gue 2 xs i = r at *
    go_enter Try.func103, Try.ntmps103
    go_wp2_with fail
    refine HE.out.mono ?_
    rintro e w1 ⟨rfl, n, rfl⟩
    go_wp2_with fail
    refine (HW.out _).mono ?_
    rintro e w2 ⟨rfl, hb⟩
    go_wp2_with fail
    go_ret
    exact ⟨rfl, (below_drawn (Below.refl _ _) n).trans hb⟩
set_option maxHeartbeats 1000000 in
theorem gaiI (kind : Int) (v : Value) (xs : List Int) (i : Nat) (w : World) (h : Rd w w.heap.size v (il xs)) (hm : xs.length ≤ 128) (hp : 0 < xs.length) (hi : i ≤ xs.length) (hk0 : 0 ≤ kind) (hk2 : kind ≤ 2) (hB : Bds 10000000000 xs) :
    Calls Try.prog 104 #[.int .i64 kind, v, .int .i64 i] w (RetIB (gai kind xs i) w) := by
  by_cases hk : kind = 0
  · subst hk
    unfold gai
    rw [if_pos rfl]
    obtain ⟨A, c, hv, hc1, hc2, hcell⟩ := id h
    rw [il_len] at hv hc1 hcell
    subst hv
    obtain ⟨b, off, rfl, hbl, hcc⟩ := hcell hp
    by_cases hi2 : i < xs.length
    · rw [if_pos hi2]
      have hcl := hcc _ _ (il_get xs i hi2)
      rw [show xs[i] = xs.getD i 0 by simp [List.getD, hi2]] at hcl
      have hb0 := hB.getD (by omega) i
      generalize xs.getD i 0 = x at *
      obtain ⟨b01, b02⟩ := hb0
      clear hcc hcell
      go_enter Try.func104, Try.ntmps104
      go_wp2
      go_ret
      exact ⟨rfl, Below.refl _ _⟩
    · rw [if_neg hi2]
      have hi3 : xs.length ≤ i := by omega
      clear hcc hcell hi2
      go_enter Try.func104, Try.ntmps104
      go_wp2
      go_ret
      exact ⟨rfl, Below.refl _ _⟩
  · have hk' : ((kind : Int) != 0) = true := by rw [bne_iff_ne]; exact hk
    have HO := Lib.hid (odb_any v xs i w _ h (by omega) hp hi)
    unfold gai
    rw [if_neg hk]
    have hb0 := hB.getD (by omega) (nrI xs.length ((i : Int) - 1))
    have hb1 := hB.getD (by omega) (nrI xs.length (i : Int))
    generalize xs.getD (nrI xs.length ((i : Int) - 1)) 0 = x at *
    generalize xs.getD (nrI xs.length (i : Int)) 0 = y at *
    obtain ⟨b01, b02⟩ := hb0
    obtain ⟨b11, b12⟩ := hb1
    clear hk
    go_enter Try.func104, Try.ntmps104
    go_wp2_with fail
    refine HO.out.mono ?_
    rintro e w1 ⟨rfl, n, rfl⟩
    go_wp2_with fail
    go_ret
    exact ⟨rfl, below_drawn (Below.refl _ _) _⟩
end Go.Proofs.Yteogogcjndfkoab
