/-
  Contracts: numbers beside one of a list of 32-bit floats, of both sides.
-/
import Derived.Test.YtfbdmhkmkmbipaaGui
import Derived.Test.YtfbdmhkmkmbipaaHalfF
namespace Go.Proofs.Ytfbdmhkmkmbipaa
open Go.RowKit Fl
set_option linter.unusedVariables false

set_option maxHeartbeats 1000000 in
theorem evbF_any (v : Value) (xs : List Nat) (i : Nat) (w : World) (B : Nat) (h : Rd w B v (fl xs)) (hm : xs.length ≤ 1048576) (hi : i < xs.length) :
    Calls Try.prog 142 #[v, .int .i64 i] w fun e w' => e = .returned (.tuple #[.float .f32 (xs.getD i 0), .float .f32 (xs.getD (nrI xs.length ((i : Int) + 1)) 0)]) ∧ ∃ n, w' = w.drewN n := by
  obtain ⟨A, c, hv, hc1, hc2, hcell⟩ := h
  rw [fl_len] at hv hc1 hcell
  subst hv
  obtain ⟨b, off, rfl, hbl, hcc⟩ := hcell (by omega)
  have hcl0 := hcc _ _ (fl_get xs i hi)
  rw [show xs[i] = xs.getD i 0 by simp [List.getD, hi]] at hcl0
  have hj := nrI_lt (n := xs.length) ((i : Int) + 1) (by omega)
  have hcl := hcc _ _ (fl_get xs _ hj)
  rw [show xs[nrI xs.length ((i : Int) + 1)] = xs.getD (nrI xs.length ((i : Int) + 1)) 0 by simp [List.getD, hj]] at hcl
  have hmn : (if (xs.length : Int) - 1 < (i : Int) + 1 then (xs.length : Int) - 1 else (i : Int) + 1) = ((nrI xs.length ((i : Int) + 1) : Nat) : Int) := by unfold nrI; split <;> omega
  have hmin : ∀ (ts : Array TypeId) (t : TypeId) (W : World), (Builtin.min_ ts t #[.int .i64 ((i : Int) + 1), .int .i64 ((xs.length : Int) - 1)]).run Try.prog W = .ok (.int .i64 ((nrI xs.length ((i : Int) + 1) : Nat) : Int)) W := fun ts t W => by
    rw [run_min_int2, hmn]
  generalize xs.getD i 0 = x at *
  generalize xs.getD (nrI xs.length ((i : Int) + 1)) 0 = y at *
  generalize nrI xs.length ((i : Int) + 1) = j at *
  clear hcc hcell hmn
  go_enter Try.func142, Try.ntmps142
  go_wp2
  go_quiet (fail)
  go_wp2
  go_ret2
  exact ⟨rfl, _, rfl⟩
set_option maxHeartbeats 1000000 in
theorem odbF_any (v : Value) (xs : List Nat) (i : Nat) (w : World) (B : Nat) (h : Rd w B v (fl xs)) (hm : xs.length ≤ 1048576) (hp : 0 < xs.length) (hi : i ≤ xs.length) :
    Calls Try.prog 144 #[v, .int .i64 i] w fun e w' => e = .returned (.tuple #[.float .f32 (xs.getD (nrI xs.length ((i : Int) - 1)) 0), .float .f32 (xs.getD (nrI xs.length (i : Int)) 0)]) ∧ ∃ n, w' = w.drewN n := by
  obtain ⟨A, c, hv, hc1, hc2, hcell⟩ := h
  rw [fl_len] at hv hc1 hcell
  subst hv
  obtain ⟨b, off, rfl, hbl, hcc⟩ := hcell (by omega)
  have hj0 := nrI_lt (n := xs.length) ((i : Int) - 1) (by omega)
  have hcl0 := hcc _ _ (fl_get xs _ hj0)
  rw [show xs[nrI xs.length ((i : Int) - 1)] = xs.getD (nrI xs.length ((i : Int) - 1)) 0 by simp [List.getD, hj0]] at hcl0
  have hj := nrI_lt (n := xs.length) (i : Int) (by omega)
  have hcl := hcc _ _ (fl_get xs _ hj)
  rw [show xs[nrI xs.length (i : Int)] = xs.getD (nrI xs.length (i : Int)) 0 by simp [List.getD, hj]] at hcl
  have hmn : (if (xs.length : Int) - 1 < (i : Int) then (xs.length : Int) - 1 else (i : Int)) = ((nrI xs.length (i : Int) : Nat) : Int) := by unfold nrI; split <;> omega
  have hmx : (if 0 > (i : Int) - 1 then 0 else (i : Int) - 1) = ((nrI xs.length ((i : Int) - 1) : Nat) : Int) := by unfold nrI; split <;> omega
  have hmin : ∀ (ts : Array TypeId) (t : TypeId) (W : World), (Builtin.min_ ts t #[.int .i64 (i : Int), .int .i64 ((xs.length : Int) - 1)]).run Try.prog W = .ok (.int .i64 ((nrI xs.length (i : Int) : Nat) : Int)) W := fun ts t W => by
    rw [run_min_int2, hmn]
  have hmax : ∀ (ts : Array TypeId) (t : TypeId) (W : World), (Builtin.max_ ts t #[.int .i64 ((i : Int) - 1), .int .i64 0]).run Try.prog W = .ok (.int .i64 ((nrI xs.length ((i : Int) - 1) : Nat) : Int)) W := fun ts t W => by
    rw [run_max_int2, hmx]
  generalize xs.getD (nrI xs.length ((i : Int) - 1)) 0 = x at *
  generalize xs.getD (nrI xs.length (i : Int)) 0 = y at *
  generalize nrI xs.length (i : Int) = j at *
  generalize nrI xs.length ((i : Int) - 1) = j' at *
  clear hcc hcell hmn hmx
  go_enter Try.func144, Try.ntmps144
  go_wp2
  go_quiet (fail)
  go_wp2
  go_ret2
  exact ⟨rfl, _, rfl⟩
set_option maxHeartbeats 400000 in
theorem nearF (v : Value) (xs : List Nat) (i : Int) (w : World) (B : Nat) (h : Rd w B v (fl xs)) (hm : xs.length ≤ 1048576) (hp : 0 < xs.length) (h0 : -1 ≤ i) (h1 : i ≤ 2000000) :
    Calls Try.prog 139 #[v, .int .i64 i] w fun e w' => e = .returned (.float .f32 (xs.getD (nrI xs.length i) 0)) ∧ w = w' := by
  obtain ⟨A, c, hv, hc1, hc2, hcell⟩ := h
  rw [fl_len] at hv hc1 hcell
  subst hv
  obtain ⟨b, off, rfl, hbl, hcc⟩ := hcell hp
  have hj := nrI_lt i hp
  have hcl := hcc _ _ (fl_get xs (nrI xs.length i) hj)
  rw [show xs[nrI xs.length i] = xs.getD (nrI xs.length i) 0 by simp [List.getD, hj]] at hcl
  obtain ⟨m, hmd⟩ : ∃ m, m = min ((xs.length : Int) - 1) i := ⟨_, rfl⟩
  have hmn : max 0 m = ((nrI xs.length i : Nat) : Int) := by unfold nrI; omega
  have hmin : ∀ (ts : Array TypeId) (t : TypeId) (W : World), (Builtin.min_ ts t #[.int .i64 ((xs.length : Int) - 1), .int .i64 i]).run Try.prog W = .ok (.int .i64 m) W := fun ts t W => by
    rw [run_min_int2, show (if i < (xs.length : Int) - 1 then i else (xs.length : Int) - 1) = m by rw [hmd]; split <;> omega]
  generalize xs.getD (nrI xs.length i) 0 = x at *
  generalize nrI xs.length i = j at *
  have hmax : ∀ (ts : Array TypeId) (t : TypeId) (W : World), (Builtin.max_ ts t #[.int .i64 0, .int .i64 m]).run Try.prog W = .ok (.int .i64 (j : Int)) W := fun ts t W => by
    rw [run_max_int2, show (if 0 < m then m else 0) = (j : Int) by rw [← hmn]; split <;> omega]
  clear hcc hcell hmd hmn
  go_enter Try.func139, Try.ntmps139
  go_wp2
  go_ret
  exact ⟨rfl, rfl⟩
end Go.Proofs.Ytfbdmhkmkmbipaa
