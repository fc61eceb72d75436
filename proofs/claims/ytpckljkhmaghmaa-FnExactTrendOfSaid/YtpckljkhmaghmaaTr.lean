/-
  Contracts: lines nearest to lists, of both sides.
-/
import Derived.Test.YtpckljkhmaghmaaMio
namespace Go.Proofs.Ytpckljkhmaghmaa
open Go.RowKit Fl
set_option linter.unusedVariables false

def fi (k : Nat) : Nat := floatOfInt .f32 (k : Int)
def skA : Nat → Nat
  | 0 => 0
  | k + 1 => ar .add .f32 (skA k) (fi k)
def skB (xs : List Nat) : Nat → Nat
  | 0 => 0
  | k + 1 => ar .add .f32 (skB xs k) (xs.getD k 0)
def skC : Nat → Nat
  | 0 => 0
  | k + 1 => ar .add .f32 (skC k) (ar .mul .f32 (fi k) (fi k))
def skD (xs : List Nat) : Nat → Nat
  | 0 => 0
  | k + 1 => ar .add .f32 (skD xs k) (ar .mul .f32 (fi k) (xs.getD k 0))
theorem skB_succ (xs : List Nat) (k : Nat) (h : k < xs.length) : skB xs (k + 1) = ar .add .f32 (skB xs k) xs[k] := by
  show ar .add .f32 _ (xs.getD k 0) = _
  simp [h]
theorem skD_succ (xs : List Nat) (k : Nat) (h : k < xs.length) : skD xs (k + 1) = ar .add .f32 (skD xs k) (ar .mul .f32 (fi k) xs[k]) := by
  show ar .add .f32 _ (ar .mul .f32 _ (xs.getD k 0)) = _
  simp [h]
def trS (xs : List Nat) : Nat := ar .quo .f32 (ar .sub .f32 (ar .mul .f32 (fi xs.length) (skD xs xs.length)) (ar .mul .f32 (skA xs.length) (skB xs xs.length))) (ar .sub .f32 (ar .mul .f32 (fi xs.length) (skC xs.length)) (ar .mul .f32 (skA xs.length) (skA xs.length)))
def trB (xs : List Nat) : Nat := ar .quo .f32 (ar .sub .f32 (skB xs xs.length) (ar .mul .f32 (trS xs) (skA xs.length))) (fi xs.length)
def TrRel (w0 : World) (xs : List Nat) (a b c d i : Value) (wr : World) : Prop := ∃ k m ra rb rc rd : Nat, k ≤ xs.length ∧ i = .int .i64 k ∧ a = .float .f32 ra ∧ b = .float .f32 rb ∧ c = .float .f32 rc ∧ d = .float .f32 rd ∧ Is .f32 ra (skA k) ∧ Is .f32 rb (skB xs k) ∧ Is .f32 rc (skC k) ∧ Is .f32 rd (skD xs k) ∧ wr = w0.drewN m
def RetFF (c d : Nat) (w : World) (e : Ending) (w' : World) : Prop := ∃ r s n, e = .returned (.tuple #[.float .f32 r, .float .f32 s]) ∧ Is .f32 r c ∧ Is .f32 s d ∧ w' = w.drewN n
def trG (xs : List Nat) : Bool := isL xs && decide (2 ≤ xs.length) && finB .f32 (trS xs) && finB .f32 (trB xs)
def tr1 (xs : List Nat) : Nat := if trG xs then trS xs else 0
def tr2 (xs : List Nat) : Nat := if trG xs then trB xs else 0
theorem retB2_tr {xs : List Nat} {w w' : World} (hG : trG xs = false) (h : Below w.heap.size w w') : RetB2 (tr1 xs) (tr2 xs) (trG xs) w (.returned (.tuple #[.float .f32 0, .float .f32 0, .bool false])) w' := by
  unfold tr1 tr2; rw [hG]; exact retB2_no h
theorem tr_yes {xs : List Nat} (h : trG xs = true) : tr1 xs = trS xs ∧ tr2 xs = trB xs := by unfold tr1 tr2; rw [h]; exact ⟨rfl, rfl⟩
theorem is_fi (k : Nat) : Is .f32 (floatOfInt .f32 (k : Int)) (fi k) := is_int32 _
set_option maxRecDepth 100000 in
set_option maxHeartbeats 4000000 in
theorem lnI_any (v : Value) (xs : List Nat) (w : World) (hv : Rd w w.heap.size v (fl xs)) (hm : xs.length ≤ 1048576) (hx : ∀ x ∈ xs, x < 2 ^ 32) (hfin : finA xs = true) :
    Calls Try.prog 75 #[v] w (RetFF (trS xs) (trB xs) w) := by
  obtain ⟨A, c, ev, q1, q2, q3⟩ := id hv
  rw [fl_len] at ev q1 q3
  subst ev
  have HQ := Lib.hid q3
  have HX := Lib.hid hx
  clear q3 hx hv
  obtain ⟨q0, hfq0⟩ : ∃ q, floatOfInt .f32 (xs.length : Int) = q := ⟨_, rfl⟩
  have hn : Is .f32 q0 (fi xs.length) := by rw [← hfq0]; exact is_fi _
  go_enter Try.func75, Try.ntmps75
  go_wp2_with fail
  clear hfq0
  go_loopw [5, 6, 7, 8, 17] (TrRel w xs) (fun _ _ _ _ i _ => xs.length - (intOf i).toNat)
  case atStart => exact ⟨0, 0, 0, 0, 0, 0, Nat.zero_le _, rfl, rfl, rfl, rfl, rfl, is_nought, is_nought, is_nought, is_nought, rfl⟩
  case round =>
    obtain ⟨k, m, ra, rb, rc, rd, hk, rfl, rfl, rfl, rfl, rfl, ha, hb, hc, hd, rfl⟩ := hrel
    by_cases hlt : k < xs.length
    · obtain ⟨b, off, rfl, hbl, hcc⟩ := HQ.out (by omega)
      have hs1 : w.cell? ⟨b, off + k, none⟩ = some (.float .f32 xs[k]) := hcc k _ (fl_get xs k hlt)
      have HB := Lib.hid (skB_succ xs k hlt)
      have HD := Lib.hid (skD_succ xs k hlt)
      have hx : Is .f32 xs[k] xs[k] := ⟨cn_fin (finA_out hfin k hlt), HX.out _ (List.getElem_mem hlt)⟩
      obtain ⟨q, hfq⟩ : ∃ q, floatOfInt .f32 (k : Int) = q := ⟨_, rfl⟩
      have hq : Is .f32 q (fi k) := by rw [← hfq]; exact is_fi k
      clear hcc
      generalize xs[k] = x at *
      go_wp2_with (first | (refine up_ar2 (op := .add) rfl ha hq ?_; intro r1 n1 h1) | (refine up_ar2 (op := .add) rfl hb hx ?_; intro r2 n2 h2) | (refine up_ar2 (op := .mul) rfl hq hq ?_; intro r3 n3 h3) | (refine up_ar2 (op := .add) rfl hc h3 ?_; intro r4 n4 h4) | (refine up_ar2 (op := .mul) rfl hq hx ?_; intro r5 n5 h5) | (refine up_ar2 (op := .add) rfl hd h5 ?_; intro r6 n6 h6))
      go_roundw
      case rel => exact ⟨k + 1, _, _, _, _, _, by omega, by go_num, rfl, rfl, rfl, rfl, h1, by rw [HB.out]; exact h2, h4, by rw [HD.out]; exact h6, rfl⟩
      case measure => simp [intOf]; omega
    · obtain rfl : k = xs.length := by omega
      go_wp2_with (first | (refine up_ar2 (op := .mul) rfl hn hd ?_; intro r1 n1 h1) | (refine up_ar2 (op := .mul) rfl ha hb ?_; intro r2 n2 h2) | (refine up_ar2 (op := .sub) rfl h1 h2 ?_; intro r3 n3 h3) | (refine up_ar2 (op := .mul) rfl hn hc ?_; intro r4 n4 h4) | (refine up_ar2 (op := .mul) rfl ha ha ?_; intro r5 n5 h5) | (refine up_ar2 (op := .sub) rfl h4 h5 ?_; intro r6 n6 h6) | (refine up_ar2 (op := .quo) rfl h3 h6 ?_; intro r7 n7 h7) | (refine up_ar2 (op := .mul) rfl h7 ha ?_; intro r8 n8 h8) | (refine up_ar2 (op := .sub) rfl hb h8 ?_; intro r9 n9 h9) | (refine up_ar2 (op := .quo) rfl h9 hn ?_; intro r10 n10 h10))
      go_ret2
      exact ⟨_, _, _, rfl, h7, h10, rfl⟩
end Go.Proofs.Ytpckljkhmaghmaa
