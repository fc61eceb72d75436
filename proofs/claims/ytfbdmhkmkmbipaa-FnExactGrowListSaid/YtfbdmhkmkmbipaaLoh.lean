/-
  Contracts: clones of floats, and the list of its evens and odds, by the program.
-/
import Derived.Test.YtfbdmhkmkmbipaaDpk
import Derived.WalkSpells
import Derived.Lib.SliceRun
namespace Go.Proofs.Ytfbdmhkmkmbipaa
open Go.RowKit Fl
set_option linter.unusedVariables false
set_option maxRecDepth 100000

theorem cellsD (xs : List Nat) : ∀ u ∈ fl xs, u.oneCell' = true := by
  intro u hu
  obtain ⟨x, _, rfl⟩ := List.mem_map.1 hu
  rfl
/-- The very list, of the call's own. -/
def RetDl (L : List Nat) (w : World) (e : Ending) (w' : World) : Prop := ∃ v, e = .returned v ∧ Own w' w.heap.size v (fl L) ∧ Below w.heap.size w w'
set_option maxHeartbeats 1000000 in
theorem cloneD_any (a : Addr) (c : Nat) (xs : List Nat) (w : World) (h : Rd w w.heap.size (.slice (some a) xs.length c) (fl xs)) (hm : xs.length ≤ 1048576) :
    Calls Try.prog 82 #[.slice (some a) xs.length c] w (RetDl xs w) := by
  obtain ⟨i0, hi, hz0, hz1, hz2⟩ := info_parts infoF
  obtain ⟨A, c', hv, hc1, hc2, hcell⟩ := id h
  rw [fl_len] at hv hc1 hcell
  have hcl : ∀ j u, (fl xs)[j]? = some u → (w.alloc (Obj.cells #[] 23)).cell? (a.add j) = some u := by
    intro j u hu
    have hj := (List.getElem?_eq_some_iff.1 hu).1
    rw [fl_len] at hj
    obtain ⟨b, off, e, hb, hcc⟩ := hcell (by omega)
    simp only [Value.slice.injEq] at hv
    obtain ⟨e1, _, _⟩ := hv
    rw [e] at e1
    cases e1
    rw [Go.WideShapes.add_plain]
    exact (((Below.refl _ _).alloc (Nat.le_refl _) _).cell (p := ⟨b, off + j, none⟩) hb).trans (hcc j u hu)
  have hown : (w.alloc (Obj.cells #[] 23)).ownsRow w.heap.size 23 1 (.slice (some ⟨w.heap.size, 0, none⟩) 0 0) 0 (fl []) := World.ownsRow_made w #[] 0 (Nat.le_refl _) (Nat.zero_le _) rfl
  have hb0 : Below w.heap.size w (w.alloc (Obj.cells #[] 23)) := (Below.refl _ _).alloc (Nat.le_refl _) _
  have hnil : ∀ (W : World), (binOp .eql 22 (.slice (some a) xs.length c) (.slice none 0 0)).run Try.prog W = .ok (.bool false) W := fun W => Lib.run_eql_slice_nil W _ _ (some a) _ _ _ _ Try.underlying22
  clear hv hc1 hcell
  go_enter Try.func82, Try.ntmps82
  go_wp2_with (at_builtin; refine wpList_append_own _ rfl _ _ 22 rfl w.heap.size 23 i0 (.float .f32 0) 1 4 Try.underlying22 hi hz0 hz1 hz2 rfl (by decide) _ _ _ rfl hown a xs.length c (fl xs) rfl (by rw [fl_len]; omega) hcl (cellsD xs) (by unfold maxLen; omega) (by omega) (by simp) ?_; intro v' w1 hown' hgrow _)
  go_ret
  refine ⟨_, rfl, ?_, hb0.grown hgrow (by simp) (fun j hj => (hown.lt j hj).1)⟩
  have := Own.row hown'
  simpa [fl] using this


theorem cloneD_nil (c : Nat) (w : World) : Calls Try.prog 82 #[.slice none 0 c] w (RetDl [] w) := by
  have hnil : ∀ (W : World), (binOp .eql 22 (.slice none 0 c) (.slice none 0 0)).run Try.prog W = .ok (.bool true) W := fun W => Lib.run_eql_slice_nil W _ _ none _ _ _ _ Try.underlying22
  go_enter Try.func82, Try.ntmps82
  go_wp2_with fail
  go_ret
  exact ⟨_, rfl, own_nilL _ _, Below.refl _ _⟩
theorem cloneD (v : Value) (xs : List Nat) (w : World) (h : Rd w w.heap.size v (fl xs)) (hm : xs.length ≤ 1048576) :
    Calls Try.prog 82 #[v] w (RetDl xs w) := by
  obtain ⟨A, c, hv, h1, h2, h3⟩ := id h
  rw [fl_len] at hv
  subst hv
  cases A with
  | some a => exact cloneD_any a c xs w h hm
  | none =>
    cases xs with
    | nil =>
      simp only [fl, List.map_nil, List.length_nil] at h1
      exact cloneD_nil c w
    | cons x t =>
      obtain ⟨b, off, e, _⟩ := h3 (by simp [fl])
      cases e
theorem cloneS (v : Value) (xs : List Nat) (w : World) (h : Rd w w.heap.size v (fl xs)) (hm : xs.length ≤ 1048576) :
    Calls Try.prog 82 #[v] w (fun e w' => ∃ A c, e = .returned (.slice A xs.length c) ∧ Own w' w.heap.size (.slice A xs.length c) (fl xs) ∧ Below w.heap.size w w') := by
  refine (cloneD v xs w h hm).mono ?_
  rintro e w' ⟨v', rfl, ho, hb⟩
  obtain ⟨A, c, hv, _, _, h3⟩ := id ho
  rw [fl_len] at hv
  subst hv
  exact ⟨A, c, rfl, ho, hb⟩
theorem cloneB (v : Value) (xs : List Nat) (w : World) (h : Rd w w.heap.size v (fl xs)) (hm : xs.length ≤ 1048576) (hp : 1 ≤ xs.length) :
    Calls Try.prog 82 #[v] w (fun e w' => ∃ b off c, e = .returned (.slice (some ⟨b, off, none⟩) xs.length c) ∧ Own w' w.heap.size (.slice (some ⟨b, off, none⟩) xs.length c) (fl xs) ∧ w.heap.size ≤ b ∧ b < w'.heap.size ∧ Below w.heap.size w w') := by
  refine (cloneD v xs w h hm).mono ?_
  rintro e w' ⟨v', rfl, ho, hb⟩
  obtain ⟨A, c, hv, _, _, h3⟩ := id ho
  rw [fl_len] at hv h3
  subst hv
  obtain ⟨b, off, rfl, h4, h5, _⟩ := h3 (by omega)
  exact ⟨b, off, c, rfl, ho, h4, h5, hb⟩
def ZqRel (w : World) (n : Nat) (ev od : List Nat) (ke ko : Nat → Nat) (m : Nat) (i : Value) (wr : World) : Prop :=
  ∃ k : Nat, k ≤ m ∧ i = .int .i64 k ∧ wr.ownsRow w.heap.size 23 1 (.slice (some ⟨w.heap.size, 0, none⟩) n n) n (fl (zqF n ev od (ke k) (ko k))) ∧ Below w.heap.size w wr
set_option maxHeartbeats 2000000 in
theorem joF_any (vl vh : Value) (ev od : List Nat) (w : World) (h : Rd w w.heap.size vl (fl ev)) (h2 : Rd w w.heap.size vh (fl od)) (he : 1 ≤ ev.length) (he2 : ev.length ≤ 64) (hf : od.length ≤ ev.length) (hf2 : ev.length ≤ od.length + 1) :
    Calls Try.prog 124 #[vl, vh] w (RetDl (mrg ev od) w) := by
  obtain ⟨i0, hi, hz0, hz1, hz2⟩ := info_parts infoF
  obtain ⟨Ae, ce, hv, _, _, hce⟩ := id h
  obtain ⟨Ao, co, hv2, _, _, hco⟩ := id h2
  rw [fl_len] at hv hv2 hce hco
  subst hv hv2
  have HE := Lib.hid hce
  have HO := Lib.hid hco
  clear hce hco
  obtain ⟨n, hn⟩ : ∃ n : Nat, n = ev.length + od.length := ⟨_, rfl⟩
  have hni : (ev.length : Int) + (od.length : Int) = (n : Int) := by omega
  have hn1 : n ≤ 128 := by omega
  have hn2 : 2 * ev.length ≤ n + 1 := by omega
  have hn3 : 2 * od.length ≤ n := by omega
  rw [show mrg ev od = zqF n ev od ev.length od.length by rw [hn]; exact (zq_all _ _).symm]
  clear hn
  have hsf : ∀ (a : Addr) (x : Nat) (w : World), (store a (.float .f32 x)).run Try.prog w = stored Try.prog w a (.float .f32 x) .plain := fun a x w => run_store _ w a _ _ rfl
  go_enter Try.func124, Try.ntmps124
  go_wp2_with (refine wpList_make_full _ rfl _ _ 22 rfl w.heap.size 23 i0 (.float .f32 0) 1 Try.underlying22 hi hz0 hz1 .i64 .i64 _ _ n rfl rfl rfl rfl (by rw [hz2]; omega) (by unfold maxLen; omega) (Nat.le_refl _) ?_; intro w1 hown hgrow)
  have hb1 : Below w.heap.size w w1 := (Below.refl _ _).grown hgrow (Nat.le_refl _) (fun _ h => by cases h)
  have hown1 : w1.ownsRow w.heap.size 23 1 (.slice (some ⟨w.heap.size, 0, none⟩) n n) n (fl (zqF n ev od 0 0)) := by
    rw [zq_zero]
    have e : (madeCells (Value.cells (.float .f32 0)) (n * 1)).toList = fl (List.replicate n 0) := by
      rw [Nat.mul_one]
      show (madeCells #[Value.float .f32 0] n).toList = _
      rw [toList_madeCells_one]; simp [fl]
    rw [← e]; exact hown
  clear hown hgrow
  go_loopw [18] (ZqRel w n ev od (fun k => k) (fun _ => 0) ev.length) (fun i _ => ev.length - (intOf i).toNat)
  case atStart => exact ⟨0, Nat.zero_le _, rfl, hown1, hb1⟩
  case round =>
    obtain ⟨k, hk, rfl, hown, hb⟩ := hrel
    simp only [] at hown
    clear hown1 hb1
    by_cases hlt : k < ev.length
    · obtain ⟨b, off, rfl, hbl, hcc⟩ := HE.out (by omega)
      have hsrc : wr.cell? ⟨b, off + k, none⟩ = some (.float .f32 ev[k]) := (hb.cell (p := ⟨b, off + k, none⟩) hbl).trans (hcc k _ (fl_get ev k hlt))
      have hlen : (fl (zqF n ev od k 0)).length = n := by rw [hown.1]; omega
      have hst := (hown.stored (2 * k) (.float .f32 ev[k])).1
      rw [fl_set, zq_ev n ev od k (by omega) hlt] at hst
      obtain ⟨x0, hdst⟩ : ∃ x0, wr.cell? ⟨w.heap.size, 2 * k, none⟩ = some x0 :=
        ⟨(fl (zqF n ev od k 0))[2 * k]'(by rw [hlen]; omega), by rw [hown.cellAt (2 * k) (by omega)]; exact List.getElem?_eq_getElem _⟩
      have hfz : wr.frozen? ⟨w.heap.size, 2 * k, none⟩ = false := hown.frozenAt (2 * k)
      have hbb : Below w.heap.size w (wr.setCell ⟨w.heap.size, 2 * k, none⟩ (.float .f32 ev[k])) := hb.setCell (Nat.le_refl _) _
      have hq : 2 * (k : Int) = ((2 * k : Nat) : Int) := by omega
      have hq2 : 2 * k < n := by omega
      have Q1 := Lib.hid hst
      have Q2 := Lib.hid hbb
      clear hst hbb hown hb hlen hcc
      generalize 2 * k = q at *
      go_wp2
      go_roundw
      case rel => exact ⟨k + 1, by omega, by go_num, Q1.out, Q2.out⟩
      case measure => simp [intOf]; omega
    · obtain rfl : k = ev.length := by omega
      go_wp2_with fail
      go_loopw [31] (ZqRel w n ev od (fun _ => ev.length) (fun k => k) od.length) (fun i _ => od.length - (intOf i).toNat)
      case atStart => exact ⟨0, Nat.zero_le _, rfl, hown, hb⟩
      case round =>
        clear hown hb
        obtain ⟨k, hk2, rfl, hown, hb⟩ := hrel
        simp only [] at hown
        by_cases hlt2 : k < od.length
        · obtain ⟨b, off, rfl, hbl, hcc⟩ := HO.out (by omega)
          have hsrc : wr.cell? ⟨b, off + k, none⟩ = some (.float .f32 od[k]) := (hb.cell (p := ⟨b, off + k, none⟩) hbl).trans (hcc k _ (fl_get od k hlt2))
          have hlen : (fl (zqF n ev od ev.length k)).length = n := by rw [hown.1]; omega
          have hst := (hown.stored (2 * k + 1) (.float .f32 od[k])).1
          rw [fl_set, zq_od n ev od ev.length k (by omega) hlt2] at hst
          obtain ⟨x0, hdst⟩ : ∃ x0, wr.cell? ⟨w.heap.size, 2 * k + 1, none⟩ = some x0 :=
            ⟨(fl (zqF n ev od ev.length k))[2 * k + 1]'(by rw [hlen]; omega), by rw [hown.cellAt (2 * k + 1) (by omega)]; exact List.getElem?_eq_getElem _⟩
          have hfz : wr.frozen? ⟨w.heap.size, 2 * k + 1, none⟩ = false := hown.frozenAt (2 * k + 1)
          have hbb : Below w.heap.size w (wr.setCell ⟨w.heap.size, 2 * k + 1, none⟩ (.float .f32 od[k])) := hb.setCell (Nat.le_refl _) _
          have hq : 2 * (k : Int) + 1 = ((2 * k + 1 : Nat) : Int) := by omega
          have hq2 : 2 * k + 1 < n := by omega
          have Q1 := Lib.hid hst
          have Q2 := Lib.hid hbb
          clear hst hbb hown hb hlen hcc
          generalize 2 * k + 1 = q at *
          go_wp2
          go_roundw
          case rel => exact ⟨k + 1, by omega, by go_num, Q1.out, Q2.out⟩
          case measure => simp [intOf]; omega
        · obtain rfl : k = od.length := by omega
          go_wp2
          go_ret
          exact ⟨_, rfl, Own.row hown, hb⟩
end Go.Proofs.Ytfbdmhkmkmbipaa
