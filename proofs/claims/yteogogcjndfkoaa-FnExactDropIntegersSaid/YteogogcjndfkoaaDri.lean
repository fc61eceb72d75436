/-
  Contracts: copies of lists of int64, and lists of their halves, by the program.
-/
import Derived.Test.YteogogcjndfkoaaLiftB
import Derived.WalkSpells
import Derived.Lib.SliceRun
namespace Go.Proofs.Yteogogcjndfkoaa
open Go.RowKit
set_option linter.unusedVariables false

def RetL1 (xs : List Int) (w : World) (e : Ending) (w' : World) : Prop := ∃ v, e = .returned v ∧ Own w' w.heap.size v (il xs) ∧ Below w.heap.size w w'
theorem il_cells (xs : List Int) : ∀ u ∈ il xs, u.oneCell' = true := ints_oneCell .i64 xs
set_option maxHeartbeats 1000000 in
theorem clone_any (a : Addr) (c : Nat) (xs : List Int) (w : World) (h : Rd w w.heap.size (.slice (some a) xs.length c) (il xs)) (hm : xs.length ≤ 1048576) :
    Calls Try.prog 88 #[.slice (some a) xs.length c] w (RetL1 xs w) := by
  obtain ⟨i0, hi, hz0, hz1, hz2⟩ := info_parts infoI
  obtain ⟨A, c', hv, hc1, hc2, hcell⟩ := id h
  rw [il_len] at hv hc1 hcell
  have hcl : ∀ j u, (il xs)[j]? = some u → (w.alloc (Obj.cells #[] 2)).cell? (a.add j) = some u := by
    intro j u hu
    have hj := (List.getElem?_eq_some_iff.1 hu).1
    rw [il_len] at hj
    obtain ⟨b, off, e, hb, hcc⟩ := hcell (by omega)
    simp only [Value.slice.injEq] at hv
    obtain ⟨e1, _, _⟩ := hv
    rw [e] at e1
    cases e1
    rw [Go.WideShapes.add_plain]
    exact (((Below.refl _ _).alloc (Nat.le_refl _) _).cell (p := ⟨b, off + j, none⟩) hb).trans (hcc j u hu)
  have hown : (w.alloc (Obj.cells #[] 2)).ownsRow w.heap.size 2 1 (.slice (some ⟨w.heap.size, 0, none⟩) 0 0) 0 (il []) := World.ownsRow_made w #[] 0 (Nat.le_refl _) (Nat.zero_le _) rfl
  have hb0 : Below w.heap.size w (w.alloc (Obj.cells #[] 2)) := (Below.refl _ _).alloc (Nat.le_refl _) _
  have hnil : ∀ (W : World), (binOp .eql 26 (.slice (some a) xs.length c) (.slice none 0 0)).run Try.prog W = .ok (.bool false) W := fun W => Lib.run_eql_slice_nil W _ _ (some a) _ _ _ _ Try.underlying26
  clear hv hc1 hcell
  go_enter Try.func88, Try.ntmps88
  go_wp2_with (at_builtin; refine wpList_append_own _ rfl _ _ 26 rfl w.heap.size 2 i0 (.int .i64 0) 1 8 Try.underlying26 hi hz0 hz1 hz2 rfl (by decide) _ _ _ rfl hown a xs.length c (il xs) rfl (by rw [il_len]; omega) hcl (il_cells xs) (by unfold maxLen; omega) (by omega) (by simp) ?_; intro v' w1 hown' hgrow _)
  go_ret
  refine ⟨_, rfl, ?_, hb0.grown hgrow (by simp) (fun j hj => (hown.lt j hj).1)⟩
  have := Own.row hown'
  simpa [il] using this

/-- What has been laid after the evens, and after k odds. -/
def zpAt (n : Nat) (ev od : List Int) (ke ko i : Nat) : Int := if i % 2 = 0 then (if i / 2 < ke then ev.getD (i / 2) 0 else 0) else (if i / 2 < ko then od.getD (i / 2) 0 else 0)
def zpF (n : Nat) (ev od : List Int) (ke ko : Nat) : List Int := (List.range n).map (zpAt n ev od ke ko)
theorem zp_zero (n : Nat) (ev od : List Int) : zpF n ev od 0 0 = List.replicate n 0 := by
  apply List.ext_getElem?
  intro i
  by_cases hi : i < n
  · simp [zpF, zpAt, hi]
  · simp [zpF, hi]
theorem zp_ev (n : Nat) (ev od : List Int) (k : Nat) (h : 2 * k < n) (hk : k < ev.length) : (zpF n ev od k 0).set (2 * k) ev[k] = zpF n ev od (k + 1) 0 := by
  refine range_set h ?_ fun i hi hne => ?_
  · unfold zpAt
    rw [if_pos (by omega), if_pos (by omega), show 2 * k / 2 = k by omega]
    simp [List.getD, hk]
  · unfold zpAt
    by_cases h1 : i % 2 = 0
    · rw [if_pos h1, if_pos h1]
      by_cases h2 : i / 2 < k
      · rw [if_pos h2, if_pos (by omega)]
      · rw [if_neg h2, if_neg (by omega)]
    · rw [if_neg h1, if_neg h1]
theorem zp_od (n : Nat) (ev od : List Int) (ke k : Nat) (h : 2 * k + 1 < n) (hk : k < od.length) : (zpF n ev od ke k).set (2 * k + 1) od[k] = zpF n ev od ke (k + 1) := by
  refine range_set h ?_ fun i hi hne => ?_
  · unfold zpAt
    rw [if_neg (by omega), if_pos (by omega), show (2 * k + 1) / 2 = k by omega]
    simp [List.getD, hk]
  · unfold zpAt
    by_cases h1 : i % 2 = 0
    · rw [if_pos h1, if_pos h1]
    · rw [if_neg h1, if_neg h1]
      by_cases h2 : i / 2 < k
      · rw [if_pos h2, if_pos (by omega)]
      · rw [if_neg h2, if_neg (by omega)]
/-- The list of its halves. -/
def joF (ev od : List Int) : List Int := zpF (ev.length + od.length) ev od ev.length od.length
theorem joF_len (ev od : List Int) : (joF ev od).length = ev.length + od.length := by simp [joF, zpF]
def ZpRel (w : World) (n : Nat) (ev od : List Int) (ke ko : Nat → Nat) (m : Nat) (i : Value) (wr : World) : Prop :=
  ∃ k : Nat, k ≤ m ∧ i = .int .i64 k ∧ wr.ownsRow w.heap.size 2 1 (.slice (some ⟨w.heap.size, 0, none⟩) n n) n (il (zpF n ev od (ke k) (ko k))) ∧ Below w.heap.size w wr
set_option maxHeartbeats 2000000 in
theorem jo_any (vl vh : Value) (ev od : List Int) (w : World) (h : Rd w w.heap.size vl (il ev)) (h2 : Rd w w.heap.size vh (il od)) (he : 1 ≤ ev.length) (he2 : ev.length ≤ 64) (hf : od.length ≤ ev.length) (hf2 : ev.length ≤ od.length + 1) :
    Calls Try.prog 89 #[vl, vh] w (RetL1 (joF ev od) w) := by
  obtain ⟨i0, hi, hz0, hz1, hz2⟩ := info_parts infoI
  obtain ⟨Ae, ce, hv, _, _, hce⟩ := id h
  obtain ⟨Ao, co, hv2, _, _, hco⟩ := id h2
  rw [il_len] at hv hv2 hce hco
  subst hv hv2
  have HE := Lib.hid hce
  have HO := Lib.hid hco
  clear hce hco
  obtain ⟨n, hn⟩ : ∃ n : Nat, n = ev.length + od.length := ⟨_, rfl⟩
  have hni : (ev.length : Int) + (od.length : Int) = (n : Int) := by omega
  have hn1 : n ≤ 128 := by omega
  have hn2 : 2 * ev.length ≤ n + 1 := by omega
  have hn3 : 2 * od.length ≤ n := by omega
  rw [show joF ev od = zpF n ev od ev.length od.length by unfold joF; rw [hn]]
  clear hn
  go_enter Try.func89, Try.ntmps89
  go_wp2_with (refine wpList_make_full _ rfl _ _ 26 rfl w.heap.size 2 i0 (.int .i64 0) 1 Try.underlying26 hi hz0 hz1 .i64 .i64 _ _ n rfl rfl rfl rfl (by rw [hz2]; omega) (by unfold maxLen; omega) (Nat.le_refl _) ?_; intro w1 hown hgrow)
  have hb1 : Below w.heap.size w w1 := (Below.refl _ _).grown hgrow (Nat.le_refl _) (fun _ h => by cases h)
  have hown1 : w1.ownsRow w.heap.size 2 1 (.slice (some ⟨w.heap.size, 0, none⟩) n n) n (il (zpF n ev od 0 0)) := by
    rw [zp_zero]
    have e : (madeCells (Value.cells (.int .i64 0)) (n * 1)).toList = il (List.replicate n 0) := by
      rw [Nat.mul_one]
      show (madeCells #[Value.int .i64 0] n).toList = _
      rw [toList_madeCells_one]; simp [il]
    rw [← e]; exact hown
  clear hown hgrow
  go_loopw [18] (ZpRel w n ev od (fun k => k) (fun _ => 0) ev.length) (fun i _ => ev.length - (intOf i).toNat)
  case atStart => exact ⟨0, Nat.zero_le _, rfl, hown1, hb1⟩
  case round =>
    obtain ⟨k, hk, rfl, hown, hb⟩ := hrel
    simp only [] at hown
    clear hown1 hb1
    by_cases hlt : k < ev.length
    · obtain ⟨b, off, rfl, hbl, hcc⟩ := HE.out (by omega)
      have hsrc : wr.cell? ⟨b, off + k, none⟩ = some (.int .i64 ev[k]) := (hb.cell (p := ⟨b, off + k, none⟩) hbl).trans (hcc k _ (il_get ev k hlt))
      have hlen : (il (zpF n ev od k 0)).length = n := by rw [hown.1]; omega
      have hst := (hown.stored (2 * k) (.int .i64 ev[k])).1
      rw [il_set, zp_ev n ev od k (by omega) hlt] at hst
      obtain ⟨x0, hdst⟩ : ∃ x0, wr.cell? ⟨w.heap.size, 2 * k, none⟩ = some x0 :=
        ⟨(il (zpF n ev od k 0))[2 * k]'(by rw [hlen]; omega), by rw [hown.cellAt (2 * k) (by omega)]; exact List.getElem?_eq_getElem _⟩
      have hfz : wr.frozen? ⟨w.heap.size, 2 * k, none⟩ = false := hown.frozenAt (2 * k)
      have hbb : Below w.heap.size w (wr.setCell ⟨w.heap.size, 2 * k, none⟩ (.int .i64 ev[k])) := hb.setCell (Nat.le_refl _) _
      have hq : 2 * (k : Int) = ((2 * k : Nat) : Int) := by omega
      have hq2 : 2 * k < n := by omega
      have Q1 := Lib.hid hst
      have Q2 := Lib.hid hbb
      clear hst hbb hown hb hlen hcc
      generalize 2 * k = q at *
      go_wp2
      go_roundw
      case rel => exact ⟨k + 1, by omega, by go_num, Q1.out, Q2.out⟩
      case measure => simp [intOf]; omega
    · obtain rfl : k = ev.length := by omega
      go_wp2_with fail
      go_loopw [31] (ZpRel w n ev od (fun _ => ev.length) (fun k => k) od.length) (fun i _ => od.length - (intOf i).toNat)
      case atStart => exact ⟨0, Nat.zero_le _, rfl, hown, hb⟩
      case round =>
        clear hown hb
        obtain ⟨k, hk2, rfl, hown, hb⟩ := hrel
        simp only [] at hown
        by_cases hlt2 : k < od.length
        · obtain ⟨b, off, rfl, hbl, hcc⟩ := HO.out (by omega)
          have hsrc : wr.cell? ⟨b, off + k, none⟩ = some (.int .i64 od[k]) := (hb.cell (p := ⟨b, off + k, none⟩) hbl).trans (hcc k _ (il_get od k hlt2))
          have hlen : (il (zpF n ev od ev.length k)).length = n := by rw [hown.1]; omega
          have hst := (hown.stored (2 * k + 1) (.int .i64 od[k])).1
          rw [il_set, zp_od n ev od ev.length k (by omega) hlt2] at hst
          obtain ⟨x0, hdst⟩ : ∃ x0, wr.cell? ⟨w.heap.size, 2 * k + 1, none⟩ = some x0 :=
            ⟨(il (zpF n ev od ev.length k))[2 * k + 1]'(by rw [hlen]; omega), by rw [hown.cellAt (2 * k + 1) (by omega)]; exact List.getElem?_eq_getElem _⟩
          have hfz : wr.frozen? ⟨w.heap.size, 2 * k + 1, none⟩ = false := hown.frozenAt (2 * k + 1)
          have hbb : Below w.heap.size w (wr.setCell ⟨w.heap.size, 2 * k + 1, none⟩ (.int .i64 od[k])) := hb.setCell (Nat.le_refl _) _
          have hq : 2 * (k : Int) + 1 = ((2 * k + 1 : Nat) : Int) := by omega
          have hq2 : 2 * k + 1 < n := by omega
          have Q1 := Lib.hid hst
          have Q2 := Lib.hid hbb
          clear hst hbb hown hb hlen hcc
          generalize 2 * k + 1 = q at *
          go_wp2
          go_roundw
          case rel => exact ⟨k + 1, by omega, by go_num, Q1.out, Q2.out⟩
          case measure => simp [intOf]; omega
        · obtain rfl : k = od.length := by omega
          go_wp2
          go_ret
          exact ⟨_, rfl, Own.row hown, hb⟩
end Go.Proofs.Yteogogcjndfkoaa
