/-
  What a scheme makes of evens and odds when it drops them (no walk in it).
-/
import Derived.Test.YtfbdmhkmkmbipaaLtK
import Derived.Test.YtfbdmhkmkmbipaaFloShr
namespace Go.Proofs.Ytfbdmhkmkmbipaa
open Go.RowKit Fl
set_option linter.unusedVariables false
set_option maxRecDepth 100000
open Sf (vsB vsI_any vsP_any RetBB)

def ngF (x : Nat) : Nat := Op.negFloat .f32 x
theorem ng_lt {x : Nat} (h : x < 2 ^ 32) : ngF x < 2 ^ 32 := neg_lt32 x h
theorem ng_fin {x : Nat} (h : x < 2 ^ 32) (hf : finB .f32 x = true) : finB .f32 (ngF x) = true := by
  have h2 := read_neg32 x h
  unfold finB at hf ⊢
  rw [show FloatKind.f32.format.read (ngF x) = (FloatKind.f32.format.read x).opposite from h2]
  cases hq : FloatKind.f32.format.read x <;> rw [hq] at hf <;> simp_all [Ieee.Datum.opposite]
def dgS (ws : List Nat) (p : List Nat × List Nat) (k : Nat) : List Nat × List Nat :=
  if k % 2 = 0 then (p.1, upO (ngF (ws.getD k 0)) p.1 p.2) else (upE (ngF (ws.getD k 0)) p.2 p.1, p.2)
theorem dgS_even (ws : List Nat) (p : List Nat × List Nat) (k : Nat) (h : k % 2 = 0) : dgS ws p k = (p.1, upO (ngF (ws.getD k 0)) p.1 p.2) := by unfold dgS; rw [if_pos h]
theorem dgS_odd (ws : List Nat) (p : List Nat × List Nat) (k : Nat) (h : k % 2 = 1) : dgS ws p k = (upE (ngF (ws.getD k 0)) p.2 p.1, p.2) := by unfold dgS; rw [if_neg (by omega)]
theorem dgS_len (ws : List Nat) (p : List Nat × List Nat) (k : Nat) : (dgS ws p k).1.length = p.1.length ∧ (dgS ws p k).2.length = p.2.length := by
  by_cases h : k % 2 = 0
  · rw [dgS_even _ _ _ h]; exact ⟨rfl, by simp [upO]⟩
  · rw [dgS_odd _ _ _ (by omega)]; exact ⟨by simp [upE], rfl⟩
def dgK (ws : List Nat) (p : List Nat × List Nat) : Nat → List Nat × List Nat
  | 0 => p
  | j + 1 => dgS ws (dgK ws p j) (ws.length - 1 - j)
theorem dgK_len (ws : List Nat) (p : List Nat × List Nat) : ∀ j, (dgK ws p j).1.length = p.1.length ∧ (dgK ws p j).2.length = p.2.length
  | 0 => ⟨rfl, rfl⟩
  | j + 1 => by
    have h := dgK_len ws p j
    have g := dgS_len ws (dgK ws p j) (ws.length - 1 - j)
    exact ⟨g.1.trans h.1, g.2.trans h.2⟩
/-- Evens and odds, one behind the other. -/
def mgAt (E O : List Nat) (i : Nat) : Nat := if i % 2 = 0 then E.getD (i / 2) 0 else O.getD (i / 2) 0
def mgR (E O : List Nat) (m : Nat) : List Nat := (List.range m).map (mgAt E O)
def mrg (E O : List Nat) : List Nat := mgR E O (E.length + O.length)
theorem mgR_len (E O : List Nat) (m : Nat) : (mgR E O m).length = m := by simp [mgR]
theorem mrg_len (E O : List Nat) : (mrg E O).length = E.length + O.length := mgR_len _ _ _
theorem mgR_next (E O : List Nat) (m : Nat) : mgR E O (m + 1) = mgR E O m ++ [mgAt E O m] := by simp [mgR, List.range_succ]
theorem mgAt_even (E O : List Nat) (k : Nat) : mgAt E O (2 * k) = E.getD k 0 := by unfold mgAt; rw [if_pos (by omega), show 2 * k / 2 = k by omega]
theorem mgAt_odd (E O : List Nat) (k : Nat) : mgAt E O (2 * k + 1) = O.getD k 0 := by unfold mgAt; rw [if_neg (by omega), show (2 * k + 1) / 2 = k by omega]
theorem mgR_getD (E O : List Nat) (m i : Nat) : (mgR E O m).getD i 0 = if i < m then mgAt E O i else 0 := by
  by_cases h : i < m
  · simp [mgR, List.getD, h]
  · simp [mgR, List.getD, h]
theorem mrg_isL {cE E cO O : List Nat} (h : IsL cE E) (g : IsL cO O) : IsL (mrg cE cO) (mrg E O) := by
  refine ⟨by rw [mrg_len, mrg_len, h.1, g.1], fun i => ?_⟩
  unfold mrg
  rw [mgR_getD, mgR_getD, h.1, g.1]
  by_cases hi : i < E.length + O.length
  · rw [if_pos hi, if_pos hi]
    unfold mgAt
    by_cases h2 : i % 2 = 0
    · rw [if_pos h2, if_pos h2]; exact h.2 _
    · rw [if_neg h2, if_neg h2]; exact g.2 _
  · rw [if_neg hi, if_neg hi]; exact is_lit (by decide)
theorem mrg_one (E : List Nat) (h : E.length = 1) : mrg E [] = E := by
  obtain ⟨a, rfl⟩ := List.length_eq_one_iff.1 h
  rfl
theorem rsetD {α : Type} {f g : Nat → α} {n p : Nat} {x : α} (hp : p < n) (hx : g p = x) (h : ∀ i, i < n → i ≠ p → f i = g i) : ((List.range n).map f).set p x = (List.range n).map g := by
  apply List.ext_getElem?
  intro i
  rw [List.getElem?_set]
  by_cases hi : p = i
  · subst hi; simp [hp, hx]
  · rw [if_neg hi]
    by_cases hn : i < n
    · simp [hn, h i hn (fun e => hi e.symm)]
    · simp [hn]
/-- What has been laid after the evens, and after k odds. -/
def zqAt (ev od : List Nat) (ke ko i : Nat) : Nat := if i % 2 = 0 then (if i / 2 < ke then ev.getD (i / 2) 0 else 0) else (if i / 2 < ko then od.getD (i / 2) 0 else 0)
def zqF (n : Nat) (ev od : List Nat) (ke ko : Nat) : List Nat := (List.range n).map (zqAt ev od ke ko)
theorem zq_zero (n : Nat) (ev od : List Nat) : zqF n ev od 0 0 = List.replicate n 0 := by
  apply List.ext_getElem?
  intro i
  by_cases hi : i < n
  · simp [zqF, zqAt, hi]
  · simp [zqF, hi]
theorem zq_ev (n : Nat) (ev od : List Nat) (k : Nat) (h : 2 * k < n) (hk : k < ev.length) : (zqF n ev od k 0).set (2 * k) ev[k] = zqF n ev od (k + 1) 0 := by
  refine rsetD h ?_ fun i hi hne => ?_
  · unfold zqAt
    rw [if_pos (by omega), if_pos (by omega), show 2 * k / 2 = k by omega]
    simp [List.getD, hk]
  · unfold zqAt
    by_cases h1 : i % 2 = 0
    · rw [if_pos h1, if_pos h1]
      by_cases h2 : i / 2 < k
      · rw [if_pos h2, if_pos (by omega)]
      · rw [if_neg h2, if_neg (by omega)]
    · rw [if_neg h1, if_neg h1]
theorem zq_od (n : Nat) (ev od : List Nat) (ke k : Nat) (h : 2 * k + 1 < n) (hk : k < od.length) : (zqF n ev od ke k).set (2 * k + 1) od[k] = zqF n ev od ke (k + 1) := by
  refine rsetD h ?_ fun i hi hne => ?_
  · unfold zqAt
    rw [if_neg (by omega), if_pos (by omega), show (2 * k + 1) / 2 = k by omega]
    simp [List.getD, hk]
  · unfold zqAt
    by_cases h1 : i % 2 = 0
    · rw [if_pos h1, if_pos h1]
    · rw [if_neg h1, if_neg h1]
      by_cases h2 : i / 2 < k
      · rw [if_pos h2, if_pos (by omega)]
      · rw [if_neg h2, if_neg (by omega)]
theorem zq_all (ev od : List Nat) : zqF (ev.length + od.length) ev od ev.length od.length = mrg ev od := by
  unfold zqF mrg mgR
  apply List.map_congr_left
  intro i hi
  unfold zqAt mgAt
  by_cases h1 : i % 2 = 0
  · rw [if_pos h1, if_pos h1]
    by_cases h2 : i / 2 < ev.length
    · rw [if_pos h2]
    · rw [if_neg h2, List.getD_eq_getElem?_getD, List.getElem?_eq_none (by omega)]; rfl
  · rw [if_neg h1, if_neg h1]
    by_cases h2 : i / 2 < od.length
    · rw [if_pos h2]
    · rw [if_neg h2, List.getD_eq_getElem?_getD, List.getElem?_eq_none (by omega)]; rfl
def dpP (ws : List Nat) (s : Nat) (low high : List Nat) : List Nat × List Nat := if high.isEmpty then (low, high) else dgK ws (scL .quo s low, scL .mul s high) ws.length
def dpL (ws : List Nat) (s : Nat) (low high : List Nat) : List Nat := mrg (dpP ws s low high).1 (dpP ws s low high).2
theorem dp_more {ws low high : List Nat} {s : Nat} (h : 1 ≤ high.length) : dpP ws s low high = dgK ws (scL .quo s low, scL .mul s high) ws.length := by
  have : high.isEmpty = false := by cases high with
    | nil => simp at h
    | cons a t => rfl
  unfold dpP; rw [this]; rfl
theorem dp_none {ws low : List Nat} {s : Nat} : dpP ws s low [] = (low, []) := rfl
theorem dpP_len (ws : List Nat) (s : Nat) (low high : List Nat) : (dpP ws s low high).1.length = low.length ∧ (dpP ws s low high).2.length = high.length := by
  cases high with
  | nil => exact ⟨rfl, rfl⟩
  | cons a t =>
    rw [dp_more (by simp)]
    obtain ⟨h, g⟩ := dgK_len ws (scL .quo s low, scL .mul s (a :: t)) ws.length
    exact ⟨h.trans (scL_len _ _ _), g.trans (scL_len _ _ _)⟩
theorem dpL_len (ws : List Nat) (s : Nat) (low high : List Nat) : (dpL ws s low high).length = low.length + high.length := by
  unfold dpL; rw [mrg_len, (dpP_len ws s low high).1, (dpP_len ws s low high).2]
def fitB (a b : Nat) : Bool := decide (1 ≤ a ∧ a ≤ 64 ∧ (b = a ∨ b + 1 = a))
theorem fitB_out {a b : Nat} (h : fitB a b = true) : 1 ≤ a ∧ a ≤ 64 ∧ (b = a ∨ b + 1 = a) := of_decide_eq_true h
def dpB (ws : List Nat) (s : Nat) (low high : List Nat) : Bool := vsB ws s && fitB low.length high.length && finA low && finA high && finA (dpL ws s low high)
def dpR (ws : List Nat) (s : Nat) (low high : List Nat) : List Nat := if dpB ws s low high then dpL ws s low high else []
theorem isD_fin_eq {a b : List Nat} (h : IsL a b) (hf : finA b = true) : a = b := by
  have ha : finA a = true := (isLs_fin (isL_isLs h)).trans hf
  refine List.ext_getElem h.1 fun i h1 h2 => ?_
  have q := (h.2 i).1
  rw [List.getD_eq_getElem?_getD, List.getElem?_eq_getElem h1, List.getD_eq_getElem?_getD, List.getElem?_eq_getElem h2] at q
  simp only [Option.getD_some] at q
  rw [← q]
  exact ((is_fin (finA_out ha i h1) (isL_lt h _ (List.getElem_mem h1))).1).symm
/-- A list of the call's own, worth L. -/
def RetD (L : List Nat) (w : World) (e : Ending) (w' : World) : Prop :=
  ∃ v cL, e = .returned v ∧ Own w' w.heap.size v (fl cL) ∧ IsL cL L ∧ Below w.heap.size w w'
/-- The same, with a bool, if its numbers are finite. -/
def RetDb (L : List Nat) (b : Bool) (w : World) (e : Ending) (w' : World) : Prop :=
  ∃ v, e = .returned (.tuple #[v, .bool b]) ∧ Own w' w.heap.size v (fl L) ∧ Below w.heap.size w w'
theorem retDb_no {ws low high : List Nat} {s : Nat} {w w' : World} (h : dpB ws s low high = false) (hb : Below w.heap.size w w') : RetDb (dpR ws s low high) (dpB ws s low high) w (.returned (.tuple #[.slice none 0 0, .bool false])) w' := by
  refine ⟨.slice none 0 0, by rw [h], ?_, hb⟩
  unfold dpR; rw [h]; exact own_nilL _ _
theorem dpR_len (ws : List Nat) (s : Nat) (low high : List Nat) : (dpR ws s low high).length ≤ 1048576 := by
  unfold dpR
  cases h : dpB ws s low high
  · exact Nat.zero_le _
  · simp only [if_true]
    rw [dpL_len]
    unfold dpB at h
    simp only [Bool.and_eq_true] at h
    have := fitB_out h.1.1.1.2
    omega
end Go.Proofs.Ytfbdmhkmkmbipaa
