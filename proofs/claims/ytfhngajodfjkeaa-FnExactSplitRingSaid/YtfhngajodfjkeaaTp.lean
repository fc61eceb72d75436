/-
  Contracts: the sums of products of taps and numbers of a ring, of the model's side.
-/
import Derived.Test.YtfhngajodfjkeaaHi
import Derived.Deep.RegionWith
namespace Go.Proofs.Ytfhngajodfjkeaa
open Go.RowKit Fl
set_option linter.unusedVariables false

/-- Both lists are worth the same, number by number; the second one's NaNs are one. -/
def IsLs (Ls cs : List Nat) : Prop := Ls.length = cs.length ∧ ∀ i (h : i < Ls.length) (h2 : i < cs.length), Is .f32 Ls[i] cs[i]
theorem isLs_nil : IsLs [] [] := ⟨rfl, fun i h => by simp at h⟩
theorem isLs_app {Ls cs : List Nat} {r c : Nat} (h : IsLs Ls cs) (hr : Is .f32 r c) : IsLs (Ls ++ [r]) (cs ++ [c]) := by
  refine ⟨by simp [h.1], fun i h1 h2 => ?_⟩
  by_cases hi : i < Ls.length
  · have hi2 : i < cs.length := by have := h.1; omega
    rw [List.getElem_append_left hi, List.getElem_append_left hi2]
    exact h.2 i hi hi2
  · have he : i = Ls.length := by simp at h1; omega
    subst he
    have e1 : (Ls ++ [r])[Ls.length]'h1 = r := by simp
    have e2 : (cs ++ [c])[Ls.length]'h2 = c := by
      rw [List.getElem_append_right (by have := h.1; omega)]
      simp
    rw [e1, e2]
    exact hr
theorem isLs_lt {Ls cs : List Nat} (h : IsLs Ls cs) : ∀ x ∈ Ls, x < 2 ^ 32 := by
  intro x hx
  obtain ⟨i, hi, rfl⟩ := List.mem_iff_getElem.1 hx
  exact (h.2 i hi (by have := h.1; omega)).2
theorem isLs_fin {Ls cs : List Nat} (h : IsLs Ls cs) : finA Ls = finA cs := by
  unfold finA
  rw [decide_eq_decide]
  have hl := h.1
  constructor
  · intro a i hi
    rw [← fin_is (h.2 i (by omega) hi)]; exact a i (by omega)
  · intro a i hi
    rw [fin_is (h.2 i hi (by omega))]; exact a i (by omega)
theorem isLs_eq {Ls cs : List Nat} (h : IsLs Ls cs) (hf : finA cs = true) : Ls = cs := by
  refine List.ext_getElem h.1 fun i h1 h2 => is_eq (h.2 i h1 h2) ?_
  have := finA_out hf i h2
  unfold finB at this
  unfold isN
  cases hq : FloatKind.f32.format.read cs[i] <;> rw [hq] at this <;> simp_all [Ieee.Datum.isNaN]

/-- m numbers of a ring from 2 j on. -/
def rpL (list : List Nat) (j m : Nat) : List Nat := (List.range m).map fun k => list.getD ((2 * j + k) % list.length) 0
theorem rpL_len (list : List Nat) (j m : Nat) : (rpL list j m).length = m := by simp [rpL]
def tpA (list taps : List Nat) (j : Nat) : Nat := dotK taps (rpL list j taps.length) taps.length
def tpK (list taps : List Nat) (k : Nat) : List Nat := (List.range k).map (tpA list taps)
theorem tpK_succ (list taps : List Nat) (k : Nat) : tpK list taps (k + 1) = tpK list taps k ++ [tpA list taps k] := by unfold tpK; rw [List.range_succ, List.map_append]; rfl
theorem tpK_len (list taps : List Nat) (k : Nat) : (tpK list taps k).length = k := by simp [tpK]
theorem dotK_ring (list taps : List Nat) (j k q : Nat) (hq : q = (2 * j + k) % list.length) (hk : k < taps.length) (hl : q < list.length) :
    dotK taps (rpL list j taps.length) (k + 1) = ar .add .f32 (dotK taps (rpL list j taps.length) k) (ar .mul .f32 taps[k] list[q]) := by
  rw [dotK_succ taps _ k hk (by rw [rpL_len]; exact hk)]
  congr 2
  simp only [rpL, List.getElem_map, List.getElem_range, ← hq]
  simp [List.getD, hl]
theorem tmodN (a n : Nat) : Int.tmod (a : Int) (n : Int) = ((a % n : Nat) : Int) := rfl
/-- Returns a list that is worth this one. -/
def RetLs (cs : List Nat) (w : World) (e : Ending) (w' : World) : Prop := ∃ v Ls, e = .returned v ∧ Own w' w.heap.size v (fl Ls) ∧ IsLs Ls cs ∧ Below w.heap.size w w'
theorem rowDrewF {w : World} {base : Nat} {e : TypeId} {size : Nat} {v : Value} {n : Nat} {xs : List Value} (h : w.ownsRow base e size v n xs) (m : Nat) : (w.drewN m).ownsRow base e size v n xs := h
def TpRel (w0 : World) (list taps : List Nat) (v i : Value) (wr : World) : Prop :=
  ∃ (j : Nat) (Ls : List Nat), 2 * j ≤ list.length ∧ i = .int .i64 j ∧ wr.ownsRow w0.heap.size 62 1 v j (fl Ls) ∧ IsLs Ls (tpK list taps j) ∧ Below w0.heap.size w0 wr
def TpIn (w0 : World) (list taps : List Nat) (j : Nat) (s i : Value) (wr : World) : Prop :=
  ∃ k q r : Nat, k ≤ taps.length ∧ i = .int .i64 k ∧ s = .float .f32 r ∧ Is .f32 r (dotK taps (rpL list j taps.length) k) ∧ wr = w0.drewN q
set_option maxRecDepth 100000 in
set_option maxHeartbeats 4000000 in
theorem tpS_any (v u : Value) (list taps : List Nat) (w : World) (h : Rd w w.heap.size v (fl list)) (k : Rd w w.heap.size u (fl taps)) (hn : list.length % 2 = 0) (h1 : 1 ≤ list.length) (h2 : list.length ≤ 128) (h3 : 1 ≤ taps.length) (h4 : taps.length ≤ 8) :
    Calls Try.prog 66 #[v, u] w (RetLs (tpK list taps (list.length / 2)) w) := by
  obtain ⟨i0, hi, hz0, hz1, hz2⟩ := info_parts infoF
  obtain ⟨A, c, hv, hc1, hc2, hca⟩ := h
  obtain ⟨A', c', hu, hc3, hc4, hcb⟩ := k
  rw [fl_len] at hv hc1 hca hu hc3 hcb
  subst hv hu
  obtain ⟨b, off, rfl, hbl, hcc⟩ := hca (by omega)
  obtain ⟨b', off', rfl, hbl', hcc'⟩ := hcb (by omega)
  have HCC := Lib.hid hcc
  have HCC' := Lib.hid hcc'
  have HEV := Lib.hid hn
  clear hca hcb hcc hcc' hn hc1 hc2 hc3 hc4
  go_enter Try.func66, Try.ntmps66
  go_wp2
  have hown : (w.alloc (Obj.cells #[] 62)).ownsRow w.heap.size 62 1 (.slice (some ⟨w.heap.size, 0, none⟩) 0 0) 0 (fl []) := World.ownsRow_made w #[] 0 (Nat.le_refl _) (Nat.zero_le _) rfl
  have hb0 : Below w.heap.size w (w.alloc (Obj.cells #[] 62)) := (Below.refl _ _).alloc (Nat.le_refl _) _
  go_loopw [6, 7] (TpRel w list taps) (fun _ i _ => list.length - (intOf i).toNat)
  case atStart => exact ⟨0, [], by omega, rfl, hown, isLs_nil, hb0⟩
  case round =>
    clear hown hb0
    obtain ⟨j, Ls, hj, rfl, hown, hLs, hb⟩ := hrel
    have HOW := Lib.hid hown
    have HB := Lib.hid hb
    have HLS := Lib.hid hLs
    clear hown hb hLs
    by_cases hlt : 2 * j < list.length
    · have hbw : b < wr.heap.size := by have := HB.out.size; omega
      have hbw' : b' < wr.heap.size := by have := HB.out.size; omega
      have hltI : 2 * (j : Int) < (list.length : Int) := by omega
      have HJ2 := Lib.hid (show 2 * j + 2 ≤ list.length by have := HEV.out; omega)
      go_wp2_with fail
      go_loopw [8, 21] (TpIn wr list taps j) (fun _ i _ => taps.length - (intOf i).toNat)
      case atStart => exact ⟨0, 0, 0, Nat.zero_le _, rfl, rfl, is_lit (by decide), rfl⟩
      case round =>
        obtain ⟨k, m, r, hk, rfl, rfl, hr, rfl⟩ := hrel
        by_cases hlk : k < taps.length
        · obtain ⟨q, hq⟩ : ∃ q : Nat, q = (2 * j + k) % list.length := ⟨_, rfl⟩
          have hql : q < list.length := by rw [hq]; exact Nat.mod_lt _ (by omega)
          have hqi : (2 * (j : Int) + (k : Int)).tmod (list.length : Int) = (q : Int) := by
            rw [show (2 * (j : Int) + (k : Int)) = ((2 * j + k : Nat) : Int) by omega, tmodN, hq]
          have hs1 : wr.cell? ⟨b', off' + k, none⟩ = some (.float .f32 taps[k]) := (HB.out.cell (p := ⟨b', off' + k, none⟩) hbl').trans (HCC'.out k _ (fl_get taps k hlk))
          have hs2 : wr.cell? ⟨b, off + q, none⟩ = some (.float .f32 list[q]) := (HB.out.cell (p := ⟨b, off + q, none⟩) hbl).trans (HCC.out q _ (fl_get list q hql))
          have HS := Lib.hid (dotK_ring list taps j k q hq hlk hql)
          have z1 : (k : Int) < (taps.length : Int) := by omega
          have z2 : (q : Int) < (list.length : Int) := by omega
          have z3 : (2 * (j : Int) + (k : Int)) ≤ 136 := by omega
          have hne : ¬ list = [] := by intro hh; rw [hh] at h1; simp at h1
          have hw1 : IntKind.i64.wrap (2 * (j : Int)) = 2 * (j : Int) := by rw [IntKind.wrap_i64]; omega
          have hw2 : IntKind.i64.wrap (2 * (j : Int) + (k : Int)) = 2 * (j : Int) + (k : Int) := by rw [IntKind.wrap_i64]; omega
          clear hq hlt
          generalize taps[k] = x at *
          generalize list[q] = y at *
          go_wp2_with fail
          go_region_with (first | (refine up_ar (op := .mul) rfl ?_; intro rp np hp) | (refine up_ar2 (op := .add) rfl hr hp ?_; intro rs ns hs))
          all_goals
            go_wp2_with fail
            go_roundw
            case rel => exact ⟨k + 1, _, _, by omega, by go_num, rfl, by rw [HS.out]; exact hs, rfl⟩
            case measure => simp [intOf]; omega
        · obtain rfl : k = taps.length := by omega
          have HA := Lib.hid (tpK_succ list taps j)
          have hr2 : Is .f32 r (tpA list taps j) := hr
          have HI := Lib.hid (isLs_app HLS.out hr2)
          clear hr hr2 hlt
          go_wp2_with (at_builtin; refine wpList_append_own _ rfl _ _ 22 rfl w.heap.size 62 i0 (.float .f32 0) 1 4 Try.underlying22 hi hz0 hz1 hz2 rfl (by decide) _ _ _ rfl ((rowDrewF HOW.out _).alloc _) ⟨wr.heap.size, 0, none⟩ 1 1 [.float .f32 r] rfl rfl (one_newF _ _ _) (cellsF [r]) (by unfold maxLen; omega) (by omega) (by simp; have := HB.out.size; omega) ?_; intro v' w1 hown' hgrow _)
          have hown2 : w1.ownsRow w.heap.size 62 1 v' (j + 1) (fl (Ls ++ [r])) := by rw [fl_app]; exact hown'
          have hb2 : Below w.heap.size w w1 := ((below_drawn HB.out _).alloc (by exact HB.out.size) _).grown hgrow (by simp; have := HB.out.size; omega) (fun j hj => (HOW.out.lt j hj).1)
          have HO2 := Lib.hid hown2
          have HB2 := Lib.hid hb2
          clear hown' hgrow hown2 hb2
          go_wp2
          go_roundw
          case rel => exact ⟨j + 1, _, by have := HJ2.out; omega, by go_num, HO2.out, by rw [HA.out]; exact HI.out, HB2.out⟩
          case measure => simp [intOf]; omega
    · have hje : j = list.length / 2 := by have := HEV.out; omega
      have HJ := Lib.hid hje
      have hge : list.length ≤ 2 * j := by omega
      clear hje
      go_wp2
      go_ret
      exact ⟨_, _, rfl, Own.row HOW.out, by rw [← HJ.out]; exact HLS.out, HB.out⟩
end Go.Proofs.Ytfhngajodfjkeaa
