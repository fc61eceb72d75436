/-
  Contracts: exchanged sides, of both sides.
-/
import Derived.Test.YtgfdgcoimfjhbaaSw
import Derived.Test.YtgfdgcoimfjhbaaRo
import Derived.Test.YtgfdgcoimfjhbaaPoW
namespace Go.Proofs.Ytgfdgcoimfjhbaa
open Go.RowKit Fl
set_option linter.unusedVariables false

def swG (p : Int) (xs : List Nat) (x y : Nat) : Nat := cn .f32 (swF p.toNat xs x y)
def RetSw (p q : Int) (xs : List Nat) (w : World) : Ending → World → Prop := if vpcB p q xs then RetGr q p (swG p xs) w else RetPc 0 0 [] false w
theorem retSw_yes {p q : Int} {xs : List Nat} {w : World} (h : vpcB p q xs = true) : RetSw p q xs w = RetGr q p (swG p xs) w := by unfold RetSw; rw [h]; rfl
theorem retSw_no {p q : Int} {xs : List Nat} {w : World} (h : vpcB p q xs = false) : RetSw p q xs w = RetPc 0 0 [] false w := by unfold RetSw; rw [h]; rfl
theorem getD_lt {xs : List Nat} (h : ∀ x ∈ xs, x < 2 ^ 32) (i : Nat) : xs.getD i 0 < 2 ^ 32 := by
  by_cases hi : i < xs.length
  · rw [List.getD_eq_getElem?_getD, List.getElem?_eq_getElem hi]; exact h _ (List.getElem_mem hi)
  · rw [List.getD_eq_getElem?_getD, List.getElem?_eq_none (by omega)]; decide
theorem getD_fin {xs : List Nat} (h : finA xs = true) (i : Nat) : finB .f32 (xs.getD i 0) = true := by
  by_cases hi : i < xs.length
  · rw [List.getD_eq_getElem?_getD, List.getElem?_eq_getElem hi]; exact finA_out h i hi
  · rw [List.getD_eq_getElem?_getD, List.getElem?_eq_none (by omega)]; decide
theorem swL_is (p q : Int) (xs : List Nat) (hp : 1 ≤ p) (hq : 1 ≤ q) (h : ∀ x ∈ xs, x < 2 ^ 32) : IsLs (swL p.toNat q.toNat xs) (grd q p (swG p xs)) := by
  have e : (q * p).toNat = p.toNat * q.toNat := by rw [Int.mul_comm, Int.toNat_mul (by omega) (by omega)]
  refine ⟨by simp [swL, grd, e], fun i h1 h2 => ?_⟩
  simp only [swL, grd, List.getElem_map, List.getElem_range]
  exact ⟨rfl, getD_lt h _⟩
theorem sw_pc {p q : Int} {xs : List Nat} (h : vpcB p q xs = true) : pcB q p (swG p xs) = true := by
  obtain ⟨b1, b2, _, hf⟩ := vpcB_out h
  unfold pcB
  rw [show ssB q p = true by unfold ssB sdB; rw [decide_eq_true b2, decide_eq_true b1]; rfl, Bool.true_and]
  refine decide_eq_true fun i hi => ?_
  simp only [grd, List.getElem_map, List.getElem_range]
  unfold swG
  rw [finB_cn]
  exact getD_fin hf _
set_option maxRecDepth 100000 in
set_option maxHeartbeats 2000000 in
theorem swC_any (x y k0 : Nat) (p q : Int) (xs : List Nat) (b off c : Nat) (w : World) (hp : 1 ≤ p ∧ p ≤ 16) (hq : 1 ≤ q ∧ q ≤ 16) (hl : (xs.length : Int) = p * q) (hxq : (x : Int) < q) (hyp : (y : Int) < p) (hbw : b < w.heap.size) (hnc : xs.length ≤ c) (hc : c ≤ maxLen)
    (h0 : w.cell? ⟨k0, 0, none⟩ = some (.int .i64 p)) (h1 : w.cell? ⟨k0, 1, none⟩ = some (.int .i64 q)) (h2 : w.cell? ⟨k0, 2, none⟩ = some (.slice (some ⟨b, off, none⟩) xs.length c))
    (hx : ∀ (i : Nat) (h : i < xs.length), w.cell? ⟨b, off + i, none⟩ = some (.float .f32 xs[i])) (hlt : ∀ x ∈ xs, x < 2 ^ 32) :
    Calls Try.prog 75 #[.int .i64 x, .int .i64 y, .pointer (some ⟨k0, 0, none⟩)] w (RetCl (swG p xs x y) w) := by
  obtain ⟨P, hP⟩ : ∃ P : Nat, p = (P : Int) := ⟨p.toNat, by omega⟩
  obtain ⟨Q, hQ⟩ : ∃ Q : Nat, q = (Q : Int) := ⟨q.toNat, by omega⟩
  have hbd := mul_bd hp hq
  have hnn : xs.length = Q * P := by
    have : (xs.length : Int) = ((Q * P : Nat) : Int) := by rw [hl, hP, hQ, Int.mul_comm]; simp
    omega
  have hle : x * P + P ≤ Q * P := by rw [← Nat.succ_mul]; exact Nat.mul_le_mul_right _ (by omega)
  obtain ⟨m, hm⟩ : ∃ m, m = x * P := ⟨_, rfl⟩
  have hmp : (x : Int) * p = (m : Int) := by rw [hP, hm]; simp
  have hv : swF p.toNat xs x y = xs.getD (m + y) 0 := by unfold swF; rw [hP, Int.toNat_natCast, hm]
  have hi : m + y < xs.length := by omega
  have HG := Lib.hid (show swG p xs x y = cn .f32 xs[m + y] by unfold swG; rw [hv, List.getD_eq_getElem?_getD, List.getElem?_eq_getElem hi]; rfl)
  have hsrc := hx (m + y) hi
  have hxl := hlt _ (List.getElem_mem hi)
  have HR := Lib.hid (ro_any p q b off xs.length c x m w hp (by omega) hmp (by omega) (by omega) hnc hc)
  generalize xs[m + y] = u at *
  have hyt : (y : Int) < (p.toNat : Int) := by omega
  clear hx hlt hv hP hQ hnn hle hmp hm hl
  go_enter Try.func75, Try.ntmps75
  go_wp2_with fail
  refine HR.out.mono ?_
  rintro e w1 ⟨rfl, hb1⟩
  have hs1 : w1.cell? ⟨b, off + m + y, none⟩ = some (.float .f32 u) := by rw [Nat.add_assoc]; exact (hb1.cell (p := ⟨b, off + (m + y), none⟩) hbw).trans hsrc
  go_wp2_with fail
  go_ret
  exact ⟨u, rfl, by rw [HG.out]; exact ⟨rfl, hxl⟩, hb1⟩
end Go.Proofs.Ytgfdgcoimfjhbaa
