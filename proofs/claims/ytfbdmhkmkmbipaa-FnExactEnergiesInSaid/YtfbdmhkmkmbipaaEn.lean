/-
  Contracts: energies of lists, of both sides.
-/
import Derived.Test.YtfbdmhkmkmbipaaFin
import Derived.Test.YtfbdmhkmkmbipaaFloSine
import Derived.Deep.RegionWith
namespace Go.Proofs.Ytfbdmhkmkmbipaa
open Go.RowKit Fl
set_option linter.unusedVariables false

section
variable {P : Program} {o : Oper} {a : Act} {w : World} {K : Act → World → Prop} {Q : Exit → Act → World → Prop}
theorem up_arl {op : BinOp} {t : TypeId} {k : FloatKind} {x y cx : Nat} (hop : arOp op = true) (h1 : Is k x cx)
    (h : ∀ r n, Is k r (ar op k cx y) → K (a.put o.dst (.float k r)) (w.drewN n)) :
    o.upon P a K Q ((Sem.run P (binOp op t (.float k x) (.float k y)) w).andThen fun v w' => .ok (.value v) w') :=
  up_ar hop fun r n hr => h r n (by rw [← ar_is_l h1]; exact hr)
end
def dotK (xs ys : List Nat) : Nat → Nat
  | 0 => 0
  | k + 1 => ar .add .f32 (dotK xs ys k) (ar .mul .f32 (xs.getD k 0) (ys.getD k 0))
theorem dotK_succ (xs ys : List Nat) (k : Nat) (h1 : k < xs.length) (h2 : k < ys.length) : dotK xs ys (k + 1) = ar .add .f32 (dotK xs ys k) (ar .mul .f32 xs[k] ys[k]) := by
  show ar .add .f32 _ (ar .mul .f32 (xs.getD k 0) (ys.getD k 0)) = _
  simp [h1, h2]
def DotRel (w : World) (xs ys : List Nat) (s i : Value) (wr : World) : Prop := ∃ k m r : Nat, k ≤ xs.length ∧ i = .int .i64 k ∧ s = .float .f32 r ∧ Is .f32 r (dotK xs ys k) ∧ wr = w.drewN m


def RetF32 (c : Nat) (w : World) (e : Ending) (w' : World) : Prop := ∃ r n, e = .returned (.float .f32 r) ∧ Is .f32 r c ∧ w' = w.drewN n
/-- Returns a float that is worth c, and whether it is one. -/
def RetFB (c : Nat) (b : Bool) (w : World) (e : Ending) (w' : World) : Prop := ∃ r n, e = .returned (.tuple #[.float .f32 r, .bool b]) ∧ Is .f32 r c ∧ w' = w.drewN n
def enF (xs : List Nat) : Nat := dotK xs xs xs.length
set_option maxHeartbeats 2000000 in
theorem enS_any (v : Value) (xs : List Nat) (w : World) (B : Nat) (h : Rd w B v (fl xs)) (hm : xs.length ≤ 1048576) :
    Calls Try.prog 100 #[v] w (RetF32 (enF xs) w) := by
  obtain ⟨A, c, hv, hc1, hc2, hcell⟩ := h
  rw [fl_len] at hv hc1 hcell
  subst hv
  have hC := Lib.hid hcell
  clear hcell
  go_enter Try.func100, Try.ntmps100
  go_wp2
  go_loopw [3, 4] (DotRel w xs xs) (fun _ i _ => xs.length - (intOf i).toNat)
  case atStart => exact ⟨0, 0, 0, Nat.zero_le _, rfl, rfl, is_lit (by decide), rfl⟩
  case round =>
    obtain ⟨k, m, r0, hk, rfl, rfl, hr0, rfl⟩ := hrel
    by_cases hlt : k < xs.length
    · obtain ⟨b, off, rfl, hbl, hcc⟩ := hC.out (by omega)
      have h1 : w.cell? ⟨b, off + k, none⟩ = some (.float .f32 xs[k]) := hcc k _ (fl_get xs k hlt)
      have hS := Lib.hid (dotK_succ xs xs k hlt hlt)
      clear hcc hC
      generalize xs[k] = x at *
      go_wp2
      go_region_with (first | (refine up_ar (op := .mul) rfl ?_; intro rp np hp) | (refine up_ar2 (op := .add) rfl hr0 hp ?_; intro rs ns hs))
      all_goals
        go_wp2
        go_roundw
        case rel => exact ⟨k + 1, _, _, by omega, by go_num, rfl, by rw [hS.out]; exact hs, rfl⟩
        case measure => simp [intOf]; omega
    · obtain rfl : k = xs.length := by omega
      go_wp2
      go_ret
      exact ⟨_, _, rfl, hr0, rfl⟩
def enO (xs : List Nat) : Bool := finB .f32 (enF xs)
def enV (xs : List Nat) : Nat := if enO xs then enF xs else 0
theorem enV_yes {xs : List Nat} (h : enO xs = true) : enV xs = enF xs := by unfold enV; rw [h]; rfl
theorem enV_no {xs : List Nat} (h : enO xs = false) : enV xs = 0 := by unfold enV; rw [h]; rfl
set_option maxHeartbeats 2000000 in
theorem enI_any (v : Value) (xs : List Nat) (w : World) (B : Nat) (h : Rd w B v (fl xs)) (hm : xs.length ≤ 1048576) :
    Calls Try.prog 104 #[v] w (RetFB (enV xs) (enO xs) w) := by
  obtain ⟨A, c, hv, hc1, hc2, hcell⟩ := h
  rw [fl_len] at hv hc1 hcell
  subst hv
  have hC := Lib.hid hcell
  clear hcell
  go_enter Try.func104, Try.ntmps104
  go_wp2
  go_loopw [4, 9] (DotRel w xs xs) (fun _ i _ => xs.length - (intOf i).toNat)
  case atStart => exact ⟨0, 0, 0, Nat.zero_le _, rfl, rfl, is_lit (by decide), rfl⟩
  case round =>
    obtain ⟨k, m, r0, hk, rfl, rfl, hr0, rfl⟩ := hrel
    by_cases hlt : k < xs.length
    · obtain ⟨b, off, rfl, hbl, hcc⟩ := hC.out (by omega)
      have h1 : w.cell? ⟨b, off + k, none⟩ = some (.float .f32 xs[k]) := hcc k _ (fl_get xs k hlt)
      have hS := Lib.hid (dotK_succ xs xs k hlt hlt)
      clear hcc hC
      generalize xs[k] = x at *
      go_wp2_with (first | (refine up_ar (op := .mul) rfl ?_; intro rp np hp) | (refine up_ar2 (op := .add) rfl hr0 hp ?_; intro rs ns hs))
      go_roundw
      case rel => exact ⟨k + 1, _, _, by omega, by go_num, rfl, by rw [hS.out]; exact hs, rfl⟩
      case measure => simp [intOf]; omega
    · obtain rfl : k = xs.length := by omega
      have HF := Lib.hid (show finB .f32 r0 = enO xs from fin_is hr0)
      have HC := Lib.hid (fun w => implFin_any r0 w hr0.2)
      cases hf : enO xs with
      | true =>
        have HT := Lib.hid hf
        have HV := Lib.hid (enV_yes hf)
        clear hf
        go_wp2_with (go_at_call 118; refine (HC.out _).mono ?_; rintro e w' ⟨rfl, n, rfl⟩; rw [HF.out, HT.out])
        go_ret2
        rw [HV.out, HT.out]
        exact ⟨_, _, rfl, hr0, rfl⟩
      | false =>
        have HT := Lib.hid hf
        have HV := Lib.hid (enV_no hf)
        clear hf
        go_wp2_with (go_at_call 118; refine (HC.out _).mono ?_; rintro e w' ⟨rfl, n, rfl⟩; rw [HF.out, HT.out])
        go_ret2
        rw [HV.out, HT.out]
        exact ⟨_, _, rfl, is_lit (by decide), rfl⟩
def eoB (xs : List Nat) : Bool := isL xs && enO xs
def eoV (xs : List Nat) : Nat := if isL xs then enV xs else 0
end Go.Proofs.Ytfbdmhkmkmbipaa
