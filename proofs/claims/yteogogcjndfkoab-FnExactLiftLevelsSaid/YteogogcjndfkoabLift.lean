/-
  Contracts: lifted lists of int64, of both sides.
-/
import Derived.Test.YteogogcjndfkoabGui
import Derived.Test.YteogogcjndfkoabSplit
import Derived.Deep.RegionWith
import Derived.Outline
namespace Go.Proofs.Yteogogcjndfkoab
open Go.RowKit
set_option linter.unusedVariables false

/-- The first k numbers are new ones. -/
def prF (xs : List Int) (f : Nat → Int) (k : Nat) : List Int := (List.range xs.length).map fun i => if i < k then f i else xs.getD i 0
theorem prF_len (xs : List Int) (f : Nat → Int) (k : Nat) : (prF xs f k).length = xs.length := by simp [prF]
theorem prF_zero (xs : List Int) (f : Nat → Int) : prF xs f 0 = xs := by
  apply List.ext_getElem?
  intro i
  by_cases hi : i < xs.length
  · simp [prF, hi, List.getD]
  · simp [prF, hi]
theorem prF_all (xs : List Int) (f : Nat → Int) : prF xs f xs.length = (List.range xs.length).map f := by
  apply List.ext_getElem?
  intro i
  by_cases hi : i < xs.length
  · simp [prF, hi]
  · simp [prF, hi]
theorem prF_set (xs : List Int) (f : Nat → Int) (k : Nat) (h : k < xs.length) : (prF xs f k).set k (f k) = prF xs f (k + 1) := by
  unfold prF
  refine range_set h (by rw [if_pos (by omega)]) fun i hi hne => ?_
  by_cases h1 : i < k
  · rw [if_pos h1, if_pos (by omega)]
  · rw [if_neg h1, if_neg (by omega)]
theorem prF_at (xs : List Int) (f : Nat → Int) (k : Nat) (h : k < xs.length) : (il (prF xs f k))[k]? = some (.int .i64 (xs.getD k 0)) := by
  simp [il, prF, h]
theorem Own.cells' {w : World} {lo b off n c : Nat} {xs : List Value} (h : Own w lo (.slice (some ⟨b, off, none⟩) n c) xs) (hn : 0 < n) :
    lo ≤ b ∧ b < w.heap.size ∧ (∀ (i : Nat) (x : Value), xs[i]? = some x → w.cell? ⟨b, off + i, none⟩ = some x) ∧ ∀ i, i < n → w.frozen? ⟨b, off + i, none⟩ = false := by
  obtain ⟨A, c', hv, h1, h2, h3⟩ := h
  simp only [Value.slice.injEq] at hv
  obtain ⟨rfl, rfl, rfl⟩ := hv
  obtain ⟨b', off', e, hlo, hb, hc, hf⟩ := h3 hn
  cases e
  exact ⟨hlo, hb, hc, hf⟩
/-- One number of a list of the call's own is written. -/
theorem Own.put {w : World} {lo b off n c : Nat} {xs : List Value} (h : Own w lo (.slice (some ⟨b, off, none⟩) n c) xs) (k : Nat) (hk : k < n) (x : Value) :
    Own (w.setCell ⟨b, off + k, none⟩ x) lo (.slice (some ⟨b, off, none⟩) n c) (xs.set k x) := by
  obtain ⟨A, c', hv, h1, h2, h3⟩ := h
  simp only [Value.slice.injEq] at hv
  obtain ⟨rfl, rfl, rfl⟩ := hv
  obtain ⟨b', off', e, hlo, hb, hc, hf⟩ := h3 (by omega)
  cases e
  refine ⟨_, _, by simp, by simpa using h1, h2, fun hp => ⟨b, off, rfl, hlo, by simpa [World.setCell] using hb, fun i y hy => ?_, fun i hi => ?_⟩⟩
  · by_cases hik : i = k
    · subst hik
      have hlt : i < xs.length := hk
      rw [List.getElem?_set_self hlt] at hy
      cases hy
      exact World.cell?_setCell_same _ _ _ (hc i _ (List.getElem?_eq_getElem hlt))
    · rw [List.getElem?_set_ne (by omega)] at hy
      rw [World.cell?_setCell_other _ _ _ _ (fun e => by simp only [Addr.mk.injEq] at e; omega)]
      exact hc i y hy
  · rw [World.frozen?_setCell]; exact hf i (by simpa using hi)
theorem Own.putOther {w : World} {lo lo' b off n c : Nat} {u : Value} {xs ys : List Value} (h : Own w lo (.slice (some ⟨b, off, none⟩) n c) xs) (hu : Own w lo' u ys) (ha : Apart (.slice (some ⟨b, off, none⟩) n c) u) (k : Nat) (hk : k < n) (x : Value) :
    Own (w.setCell ⟨b, off + k, none⟩ x) lo' u ys := by
  obtain ⟨A, c', hv, h1, h2, h3⟩ := h
  simp only [Value.slice.injEq] at hv
  obtain ⟨rfl, rfl, rfl⟩ := hv
  obtain ⟨b', off', e, hlo, hb, hc, hf⟩ := h3 (by omega)
  cases e
  obtain ⟨A', c', rfl, h1', h2', h3'⟩ := hu
  refine ⟨A', c', rfl, h1', h2', fun hp => ?_⟩
  obtain ⟨b2, o2, rfl, hlo2, hb2, hc2, hf2⟩ := h3' hp
  have := ha _ _ _ _ _ _ rfl rfl
  simp only [] at this
  refine ⟨b2, o2, rfl, hlo2, by simpa [World.setCell] using hb2, fun i y hy => ?_, fun i hi => ?_⟩
  · have hi := (List.getElem?_eq_some_iff.1 hy).1
    rw [World.cell?_setCell_other _ _ _ _ (fun e => by simp only [Addr.mk.injEq] at e; omega)]
    exact hc2 i y hy
  · rw [World.frozen?_setCell]; exact hf2 i hi
theorem Bds.mono {M N : Int} {xs : List Int} (h : Bds M xs) (hm : M ≤ N) : Bds N xs := fun x hx => by have := h x hx; omega
theorem gue_bd {M : Int} {xs : List Int} (h : Bds M xs) (hM : 0 ≤ M) (kind : Int) (i : Nat) : -(2 * M + 1) ≤ gue kind xs i ∧ gue kind xs i ≤ 2 * M + 1 := by
  have a := h.getD hM i
  have b := h.getD hM (nrI xs.length ((i : Int) + 1))
  have c := h.getD hM (mir xs.length ((i : Int) + 1)).toNat
  have d := h.getD hM (mir xs.length ((i : Int) - 1)).toNat
  have e := h.getD hM (mir xs.length ((i : Int) + 2)).toNat
  unfold gue
  split
  · omega
  · split <;> omega
theorem gai_bd {M : Int} {xs : List Int} (h : Bds M xs) (hM : 0 ≤ M) (kind : Int) (i : Nat) : -(M + 1) ≤ gai kind xs i ∧ gai kind xs i ≤ M + 1 := by
  have a := h.getD hM i
  have b := h.getD hM (nrI xs.length ((i : Int) - 1))
  have c := h.getD hM (nrI xs.length (i : Int))
  unfold gai
  split
  · split <;> omega
  · omega
/-- The odds, then the evens, of lifted numbers. -/
def loF (kind : Int) (ev od : List Int) : List Int := (List.range od.length).map fun i => od.getD i 0 - gue kind ev i
def leF (kind : Int) (ev lo : List Int) : List Int := (List.range ev.length).map fun i => ev.getD i 0 + gai kind lo i
def UpRel (w : World) (v u : Value) (ev od : List Int) (f : Nat → Int) (i : Value) (wr : World) : Prop :=
  ∃ k : Nat, k ≤ od.length ∧ i = .int .i64 k ∧ Own wr w.heap.size v (il ev) ∧ Own wr w.heap.size u (il (prF od f k)) ∧ Below w.heap.size w wr
theorem loF_bd {M : Int} {ev od : List Int} (h : Bds M ev) (h2 : Bds M od) (hM : 0 ≤ M) (kind : Int) : Bds (3 * M + 1) (loF kind ev od) := by
  intro x hx
  obtain ⟨i, hi, rfl⟩ := List.mem_map.1 hx
  have a := gue_bd h hM kind i
  have b := h2.getD hM i
  omega
theorem prF_bd {M : Int} {xs : List Int} {f : Nat → Int} (h : Bds M xs) (hM : 0 ≤ M) (hf : ∀ i, -M ≤ f i ∧ f i ≤ M) (k : Nat) : Bds M (prF xs f k) := by
  intro x hx
  obtain ⟨i, hi, rfl⟩ := List.mem_map.1 hx
  split
  · exact hf i
  · exact h.getD hM i

theorem up_next {w wr w2 : World} {lo bu fu cu : Nat} {v : Value} {ys : List Value} {od : List Int} {f : Nat → Int} {k : Nat} {y : Int} (ov : Own wr lo v ys) (ou : Own wr lo (.slice (some ⟨bu, fu, none⟩) od.length cu) (il (prF od f k)))
    (ap : Apart (.slice (some ⟨bu, fu, none⟩) od.length cu) v) (hlo : w.heap.size ≤ lo) (hb : Below w.heap.size w wr) (hb2 : Below wr.heap.size wr w2) (hk : k < od.length) (hs : (prF od f k).set k y = prF od f (k + 1)) :
    Own (w2.setCell ⟨bu, fu + k, none⟩ (.int .i64 y)) lo v ys ∧ Own (w2.setCell ⟨bu, fu + k, none⟩ (.int .i64 y)) lo (.slice (some ⟨bu, fu, none⟩) od.length cu) (il (prF od f (k + 1))) ∧ Below w.heap.size w (w2.setCell ⟨bu, fu + k, none⟩ (.int .i64 y)) := by
  have o2 := ou.below hb2
  have q := o2.put k hk (.int .i64 y)
  rw [il_set, hs] at q
  refine ⟨o2.putOther (ov.below hb2) ap k hk _, q, (hb.trans (hb2.mono hb.size)).setCell ?_ _⟩
  have := (ou.cells' (by omega)).1
  show w.heap.size ≤ bu
  omega

theorem ri_b {P : Program} {F : FuncId} {gs : Array Value} {x : Int} {w : World} (h : Calls P F gs w (RetI x w)) : Calls P F gs w (RetIB x w) :=
  h.mono fun e w' ⟨he, n, hw⟩ => ⟨he, by rw [hw]; exact below_drawn (Below.refl _ _) _⟩
set_option maxHeartbeats 2000000 in
theorem liftI_any (kind : Int) (vl : Value) (xs : List Int) (w : World) (h : Rd w w.heap.size vl (il xs)) (hm : xs.length ≤ 128) (hp : 2 ≤ xs.length) (hk0 : 0 ≤ kind) (hk2' : kind ≤ 2) (hB : Bds 1000000000 xs) :
    Calls Try.prog 74 #[.int .i64 kind, vl] w (RetLL (leF kind (evF xs) (loF kind (evF xs) (odF xs))) (loF kind (evF xs) (odF xs)) w) := by
  have HH := Lib.hid (half_any _ xs w h (by omega) (by omega))
  have hel := evF_len xs
  have hol := odF_len xs
  have hev : Bds 1000000000 (evF xs) := by
    intro x hx
    obtain ⟨j, hj, rfl⟩ := List.mem_map.1 hx
    exact hB.getD (by omega) _
  have hod : Bds 1000000000 (odF xs) := by
    intro x hx
    obtain ⟨j, hj, rfl⟩ := List.mem_map.1 hx
    exact hB.getD (by omega) _
  clear hB h
  generalize evF xs = ev at *
  generalize odF xs = od at *
  have ho1 : 1 ≤ od.length := by omega
  have ho2 : od.length ≤ 64 := by omega
  have he1 : 1 ≤ ev.length := by omega
  have he2 : ev.length ≤ 64 := by omega
  have he3 : od.length ≤ ev.length := by omega
  have he4 : ev.length ≤ od.length + 1 := by omega
  have hne : ((od.length : Int) == 0) = false := by rw [beq_eq_false_iff_ne]; omega
  clear hel hol
  go_enter Try.func74, Try.ntmps74
  go_wp2_with fail
  refine HH.out.mono ?_
  rintro e w1 ⟨v, u, rfl, ov, ou, ap, hb1⟩
  obtain ⟨Av, cv, hv, _, _, _⟩ := id ov
  obtain ⟨Au, cu, hu, _, _, hcu⟩ := id ou
  rw [il_len] at hv hu hcu
  subst hv hu
  obtain ⟨bu, fu, rfl, _⟩ := hcu (by omega)
  obtain ⟨_, _, e0, _, _, hcv⟩ := id ov
  rw [il_len] at e0 hcv
  cases e0
  obtain ⟨bv, fv, rfl, _⟩ := hcv (by omega)
  clear hcu hcv
  go_wp2_with fail
  go_loopw [20] (UpRel w (.slice (some ⟨bv, fv, none⟩) ev.length cv) (.slice (some ⟨bu, fu, none⟩) od.length cu) ev od (fun i => od.getD i 0 - gue kind ev i)) (fun i _ => od.length - (intOf i).toNat)
  case atStart => exact ⟨0, Nat.zero_le _, rfl, ov, by rw [prF_zero]; exact ou, hb1⟩
  case round =>
    obtain ⟨k, hk, rfl, ov, ou, hb⟩ := hrel
    by_cases hlt : k < od.length
    · obtain ⟨hlob, hbw, hc, hf⟩ := ou.cells' (by omega)
      have hdst := hc k _ (prF_at _ _ k hlt)
      have hfz := hf k hlt
      have gb := gue_bd hev (by omega) kind k
      have ob := hod.getD (by omega) k
      have HG := Lib.hid (fun (w' : World) (hr : Rd w' w'.heap.size (.slice (some ⟨bv, fv, none⟩) ev.length cv) (il ev)) => gueI kind (.slice (some ⟨bv, fv, none⟩) ev.length cv) ev k w' hr (by omega) (by omega) hk0 hk2' (hev.mono (by omega)))
      have HS := Lib.hid (show (prF od (fun i => od.getD i 0 - gue kind ev i) k).set k (od.getD k 0 - gue kind ev k) = prF od (fun i => od.getD i 0 - gue kind ev i) (k + 1) from prF_set od (fun i => od.getD i 0 - gue kind ev i) k hlt)
      clear hc hf hb1
      generalize od.getD k 0 = x at *
      generalize gue kind ev k = g at *
      obtain ⟨gb1, gb2⟩ := gb
      obtain ⟨ob1, ob2⟩ := ob
      go_wp2_with fail
      go_region_with (go_at_call 103; refine (HG.out _ ?_).mono ?_; exact ov.rd; rintro e w2 ⟨rfl, hb2⟩; have hd2 : w2.cell? ⟨bu, fu + k, none⟩ = some (.int .i64 x) := (hb2.cell (p := ⟨bu, fu + k, none⟩) hbw).trans hdst; have hf2 : w2.frozen? ⟨bu, fu + k, none⟩ = false := (hb2.frozen (p := ⟨bu, fu + k, none⟩) hbw).trans hfz; have hb3 : Below wr.heap.size wr w2 := ⟨hb2.os, hb2.tape, hb2.output, hb2.size, hb2.block⟩)
      all_goals
        have hnx := up_next ov ou ap (Nat.le_refl _) hb hb3 hlt HS.out
        obtain ⟨n1, n2, n3⟩ := hnx
        clear hdst hfz hd2 hf2 hb2 hb3 ov ou hb
        go_wp2
        go_roundw
        case rel => exact ⟨k + 1, by omega, by go_num, n1, n2, n3⟩
        case measure => simp [intOf]; omega
    · obtain rfl : k = od.length := by omega
      rw [prF_all] at ou
      have ou' : Own wr w.heap.size (.slice (some ⟨bu, fu, none⟩) od.length cu) (il (loF kind ev od)) := ou
      have hlo : (loF kind ev od).length = od.length := by simp [loF]
      have hlb : Bds 10000000000 (loF kind ev od) := (loF_bd hev hod (by omega) kind).mono (by omega)
      rw [show (leF kind ev (loF kind ev od)) = (List.range ev.length).map (fun i => ev.getD i 0 + gai kind (loF kind ev od) i) from rfl]
      generalize loF kind ev od = lo at *
      clear ou hb1 hod
      go_wp2_with fail
      go_loopw [36] (UpRel w (.slice (some ⟨bu, fu, none⟩) od.length cu) (.slice (some ⟨bv, fv, none⟩) ev.length cv) lo ev (fun i => ev.getD i 0 + gai kind lo i)) (fun i _ => ev.length - (intOf i).toNat)
      case atStart => exact ⟨0, Nat.zero_le _, rfl, ou', by rw [prF_zero]; exact ov, hb⟩
      case round =>
        clear ov ou' hb
        obtain ⟨k, hk2, rfl, ou, ov, hb⟩ := hrel
        by_cases hlt : k < ev.length
        · obtain ⟨hlob, hbw, hc, hf⟩ := ov.cells' (by omega)
          have hdst := hc k _ (prF_at _ _ k hlt)
          have hfz := hf k hlt
          have gb := gai_bd hlb (by omega) kind k
          have ob := hev.getD (by omega) k
          have HG := Lib.hid (fun (w' : World) (hr : Rd w' w'.heap.size (.slice (some ⟨bu, fu, none⟩) od.length cu) (il lo)) => gaiI kind (.slice (some ⟨bu, fu, none⟩) od.length cu) lo k w' hr (by omega) (by omega) (by omega) hk0 hk2' hlb)
          have HS := Lib.hid (show (prF ev (fun i => ev.getD i 0 + gai kind lo i) k).set k (ev.getD k 0 + gai kind lo k) = prF ev (fun i => ev.getD i 0 + gai kind lo i) (k + 1) from prF_set ev (fun i => ev.getD i 0 + gai kind lo i) k hlt)
          clear hc hf
          generalize ev.getD k 0 = x at *
          generalize gai kind lo k = g at *
          obtain ⟨gb1, gb2⟩ := gb
          obtain ⟨ob1, ob2⟩ := ob
          go_wp2_with fail
          go_region_with (go_at_call 104; refine (HG.out _ ?_).mono ?_; exact ou.rd; rintro e w2 ⟨rfl, hb2⟩; have hd2 : w2.cell? ⟨bv, fv + k, none⟩ = some (.int .i64 x) := (hb2.cell (p := ⟨bv, fv + k, none⟩) hbw).trans hdst; have hf2 : w2.frozen? ⟨bv, fv + k, none⟩ = false := (hb2.frozen (p := ⟨bv, fv + k, none⟩) hbw).trans hfz; have hb3 : Below wr.heap.size wr w2 := ⟨hb2.os, hb2.tape, hb2.output, hb2.size, hb2.block⟩)
          all_goals
            have hnx := up_next ou ov ap.symm (Nat.le_refl _) hb hb3 hlt HS.out
            obtain ⟨n1, n2, n3⟩ := hnx
            clear hdst hfz hd2 hf2 hb2 hb3 ov ou hb
            go_wp2
            go_roundw
            case rel => exact ⟨k + 1, by omega, by go_num, n1, n2, n3⟩
            case measure => simp [intOf]; omega
        · obtain rfl : k = ev.length := by omega
          rw [prF_all] at ov
          go_wp2
          go_ret2
          exact ⟨_, _, rfl, ov, ou, ap, hb⟩
set_option maxHeartbeats 2000000 in
theorem liftS_any (kind : Int) (vl : Value) (xs : List Int) (w : World) (h : Rd w w.heap.size vl (il xs)) (hm : xs.length ≤ 128) (hp : 2 ≤ xs.length) (hk0 : 0 ≤ kind) (hk2' : kind ≤ 2) (hB : Bds 1000000000 xs) :
    Calls Try.prog 69 #[.int .i64 kind, vl] w (RetLL (leF kind (evF xs) (loF kind (evF xs) (odF xs))) (loF kind (evF xs) (odF xs)) w) := by
  have HH := Lib.hid (splS_any _ xs w h (by omega))
  have hel := evF_len xs
  have hol := odF_len xs
  have hev : Bds 1000000000 (evF xs) := by
    intro x hx
    obtain ⟨j, hj, rfl⟩ := List.mem_map.1 hx
    exact hB.getD (by omega) _
  have hod : Bds 1000000000 (odF xs) := by
    intro x hx
    obtain ⟨j, hj, rfl⟩ := List.mem_map.1 hx
    exact hB.getD (by omega) _
  clear hB h
  generalize evF xs = ev at *
  generalize odF xs = od at *
  have ho1 : 1 ≤ od.length := by omega
  have ho2 : od.length ≤ 64 := by omega
  have he1 : 1 ≤ ev.length := by omega
  have he2 : ev.length ≤ 64 := by omega
  have he3 : od.length ≤ ev.length := by omega
  have he4 : ev.length ≤ od.length + 1 := by omega
  have hne : ((od.length : Int) == 0) = false := by rw [beq_eq_false_iff_ne]; omega
  clear hel hol
  go_enter Try.func69, Try.ntmps69
  go_wp2_with fail
  refine HH.out.mono ?_
  rintro e w1 ⟨v, u, rfl, ov, ou, ap, hb1⟩
  obtain ⟨Av, cv, hv, _, _, _⟩ := id ov
  obtain ⟨Au, cu, hu, _, _, hcu⟩ := id ou
  rw [il_len] at hv hu hcu
  subst hv hu
  obtain ⟨bu, fu, rfl, _⟩ := hcu (by omega)
  obtain ⟨_, _, e0, _, _, hcv⟩ := id ov
  rw [il_len] at e0 hcv
  cases e0
  obtain ⟨bv, fv, rfl, _⟩ := hcv (by omega)
  clear hcu hcv
  go_wp2_with fail
  go_loopw [8] (UpRel w (.slice (some ⟨bv, fv, none⟩) ev.length cv) (.slice (some ⟨bu, fu, none⟩) od.length cu) ev od (fun i => od.getD i 0 - gue kind ev i)) (fun i _ => od.length - (intOf i).toNat)
  case atStart => exact ⟨0, Nat.zero_le _, rfl, ov, by rw [prF_zero]; exact ou, hb1⟩
  case round =>
    obtain ⟨k, hk, rfl, ov, ou, hb⟩ := hrel
    by_cases hlt : k < od.length
    · obtain ⟨hlob, hbw, hc, hf⟩ := ou.cells' (by omega)
      have hdst := hc k _ (prF_at _ _ k hlt)
      have hfz := hf k hlt
      have gb := gue_bd hev (by omega) kind k
      have ob := hod.getD (by omega) k
      have HG := Lib.hid (fun (w' : World) (hr : Rd w' w'.heap.size (.slice (some ⟨bv, fv, none⟩) ev.length cv) (il ev)) => ri_b (gueS kind (.slice (some ⟨bv, fv, none⟩) ev.length cv) ev k w' _ hr (by omega) (by omega) hk0 hk2' (hev.mono (by omega))))
      have HS := Lib.hid (show (prF od (fun i => od.getD i 0 - gue kind ev i) k).set k (od.getD k 0 - gue kind ev k) = prF od (fun i => od.getD i 0 - gue kind ev i) (k + 1) from prF_set od (fun i => od.getD i 0 - gue kind ev i) k hlt)
      clear hc hf hb1
      generalize od.getD k 0 = x at *
      generalize gue kind ev k = g at *
      obtain ⟨gb1, gb2⟩ := gb
      obtain ⟨ob1, ob2⟩ := ob
      go_wp2_with fail
      go_region_with (go_at_call 97; refine (HG.out _ ?_).mono ?_; exact ov.rd; rintro e w2 ⟨rfl, hb2⟩; have hd2 : w2.cell? ⟨bu, fu + k, none⟩ = some (.int .i64 x) := (hb2.cell (p := ⟨bu, fu + k, none⟩) hbw).trans hdst; have hf2 : w2.frozen? ⟨bu, fu + k, none⟩ = false := (hb2.frozen (p := ⟨bu, fu + k, none⟩) hbw).trans hfz; have hb3 : Below wr.heap.size wr w2 := ⟨hb2.os, hb2.tape, hb2.output, hb2.size, hb2.block⟩)
      all_goals
        have hnx := up_next ov ou ap (Nat.le_refl _) hb hb3 hlt HS.out
        obtain ⟨n1, n2, n3⟩ := hnx
        clear hdst hfz hd2 hf2 hb2 hb3 ov ou hb
        go_wp2
        go_roundw
        case rel => exact ⟨k + 1, by omega, by go_num, n1, n2, n3⟩
        case measure => simp [intOf]; omega
    · obtain rfl : k = od.length := by omega
      rw [prF_all] at ou
      have ou' : Own wr w.heap.size (.slice (some ⟨bu, fu, none⟩) od.length cu) (il (loF kind ev od)) := ou
      have hlo : (loF kind ev od).length = od.length := by simp [loF]
      have hlb : Bds 10000000000 (loF kind ev od) := (loF_bd hev hod (by omega) kind).mono (by omega)
      rw [show (leF kind ev (loF kind ev od)) = (List.range ev.length).map (fun i => ev.getD i 0 + gai kind (loF kind ev od) i) from rfl]
      generalize loF kind ev od = lo at *
      clear ou hb1 hod
      go_wp2_with fail
      go_loopw [9] (UpRel w (.slice (some ⟨bu, fu, none⟩) od.length cu) (.slice (some ⟨bv, fv, none⟩) ev.length cv) lo ev (fun i => ev.getD i 0 + gai kind lo i)) (fun i _ => ev.length - (intOf i).toNat)
      case atStart => exact ⟨0, Nat.zero_le _, rfl, ou', by rw [prF_zero]; exact ov, hb⟩
      case round =>
        clear ov ou' hb
        obtain ⟨k, hk2, rfl, ou, ov, hb⟩ := hrel
        by_cases hlt : k < ev.length
        · obtain ⟨hlob, hbw, hc, hf⟩ := ov.cells' (by omega)
          have hdst := hc k _ (prF_at _ _ k hlt)
          have hfz := hf k hlt
          have gb := gai_bd hlb (by omega) kind k
          have ob := hev.getD (by omega) k
          have HG := Lib.hid (fun (w' : World) (hr : Rd w' w'.heap.size (.slice (some ⟨bu, fu, none⟩) od.length cu) (il lo)) => ri_b (gaiS kind (.slice (some ⟨bu, fu, none⟩) od.length cu) lo k w' _ hr (by omega) (by omega) hk0 hk2' hlb))
          have HS := Lib.hid (show (prF ev (fun i => ev.getD i 0 + gai kind lo i) k).set k (ev.getD k 0 + gai kind lo k) = prF ev (fun i => ev.getD i 0 + gai kind lo i) (k + 1) from prF_set ev (fun i => ev.getD i 0 + gai kind lo i) k hlt)
          clear hc hf
          generalize ev.getD k 0 = x at *
          generalize gai kind lo k = g at *
          obtain ⟨gb1, gb2⟩ := gb
          obtain ⟨ob1, ob2⟩ := ob
          go_wp2_with fail
          go_region_with (go_at_call 98; refine (HG.out _ ?_).mono ?_; exact ou.rd; rintro e w2 ⟨rfl, hb2⟩; have hd2 : w2.cell? ⟨bv, fv + k, none⟩ = some (.int .i64 x) := (hb2.cell (p := ⟨bv, fv + k, none⟩) hbw).trans hdst; have hf2 : w2.frozen? ⟨bv, fv + k, none⟩ = false := (hb2.frozen (p := ⟨bv, fv + k, none⟩) hbw).trans hfz; have hb3 : Below wr.heap.size wr w2 := ⟨hb2.os, hb2.tape, hb2.output, hb2.size, hb2.block⟩)
          all_goals
            have hnx := up_next ou ov ap.symm (Nat.le_refl _) hb hb3 hlt HS.out
            obtain ⟨n1, n2, n3⟩ := hnx
            clear hdst hfz hd2 hf2 hb2 hb3 ov ou hb
            go_wp2
            go_roundw
            case rel => exact ⟨k + 1, by omega, by go_num, n1, n2, n3⟩
            case measure => simp [intOf]; omega
        · obtain rfl : k = ev.length := by omega
          rw [prF_all] at ov
          go_wp2
          go_ret2
          exact ⟨_, _, rfl, ov, ou, ap, hb⟩

theorem leF_nil (kind : Int) (ev : List Int) : leF kind ev [] = ev := by
  have hg : ∀ i, gai kind [] i = 0 := by
    intro i
    unfold gai
    split <;> simp
  apply List.ext_getElem?
  intro i
  by_cases hi : i < ev.length
  · simp [leF, hi, List.getD, hg]
  · simp [leF, hi]
theorem loF_nil (kind : Int) (ev : List Int) : loF kind ev [] = [] := rfl
set_option maxHeartbeats 1000000 in
theorem liftI_one (kind : Int) (vl : Value) (xs : List Int) (w : World) (h : Rd w w.heap.size vl (il xs)) (hp : xs.length = 1) :
    Calls Try.prog 74 #[.int .i64 kind, vl] w (RetLL (leF kind (evF xs) (loF kind (evF xs) (odF xs))) (loF kind (evF xs) (odF xs)) w) := by
  have HH := Lib.hid (half_any _ xs w h (by omega) (by omega))
  have hod : odF xs = [] := List.eq_nil_of_length_eq_zero (by rw [odF_len, hp])
  rw [hod, loF_nil, leF_nil]
  rw [hod] at HH
  clear hod hp h
  generalize evF xs = ev at *
  go_enter Try.func74, Try.ntmps74
  go_wp2_with fail
  refine HH.out.mono ?_
  rintro e w1 ⟨v, u, rfl, ov, ou, ap, hb1⟩
  obtain ⟨Au, cu, hu, _, _, _⟩ := id ou
  rw [show (il []).length = 0 from rfl] at hu
  subst hu
  go_wp2_with fail
  go_ret2
  exact ⟨_, _, rfl, ov, ou, ap, hb1⟩
set_option maxHeartbeats 2000000 in
theorem liftS_one (kind : Int) (vl : Value) (xs : List Int) (w : World) (h : Rd w w.heap.size vl (il xs)) (hp : xs.length = 1) (hk0 : 0 ≤ kind) (hk2' : kind ≤ 2) (hB : Bds 1000000000 xs) :
    Calls Try.prog 69 #[.int .i64 kind, vl] w (RetLL (leF kind (evF xs) (loF kind (evF xs) (odF xs))) (loF kind (evF xs) (odF xs)) w) := by
  have HH := Lib.hid (splS_any _ xs w h (by omega))
  have hod : odF xs = [] := List.eq_nil_of_length_eq_zero (by rw [odF_len, hp])
  have hel : (evF xs).length = 1 := by rw [evF_len, hp]
  have hev : Bds 1000000000 (evF xs) := by
    intro x hx
    obtain ⟨j, hj, rfl⟩ := List.mem_map.1 hx
    exact hB.getD (by omega) _
  rw [hod, loF_nil]
  rw [hod] at HH
  clear hod hp h hB
  rw [show leF kind (evF xs) [] = (List.range (evF xs).length).map (fun i => (evF xs).getD i 0 + gai kind [] i) from rfl]
  generalize evF xs = ev at *
  have he1 : 1 ≤ ev.length := by omega
  have he2 : ev.length ≤ 1 := by omega
  have hlb : Bds 10000000000 ([] : List Int) := fun x hx => by cases hx
  clear hel
  go_enter Try.func69, Try.ntmps69
  go_wp2_with fail
  refine HH.out.mono ?_
  rintro e w1 ⟨v, u, rfl, ov, ou, ap, hb1⟩
  obtain ⟨Au, cu, hu, _, _, _⟩ := id ou
  obtain ⟨Av, cv, hv, _, _, hcv⟩ := id ov
  rw [il_len] at hv hcv
  rw [show (il []).length = 0 from rfl] at hu
  subst hu hv
  obtain ⟨bv, fv, rfl, _⟩ := hcv (by omega)
  clear hcv
  go_wp2_with fail
  refine wp_loop_rounds 1 ?_
  rw [rounds_succ]
  go_wp2_with fail
  go_loopw [9] (UpRel w (.slice Au 0 cu) (.slice (some ⟨bv, fv, none⟩) ev.length cv) [] ev (fun i => ev.getD i 0 + gai kind [] i)) (fun i _ => ev.length - (intOf i).toNat)
  case atStart => exact ⟨0, Nat.zero_le _, rfl, ou, by rw [prF_zero]; exact ov, hb1⟩
  case round =>
    clear ov ou hb1
    obtain ⟨k, hk2, rfl, ou, ov, hb⟩ := hrel
    by_cases hlt : k < ev.length
    · obtain ⟨hlob, hbw, hc, hf⟩ := ov.cells' (by omega)
      have hdst := hc k _ (prF_at _ _ k hlt)
      have hfz := hf k hlt
      have gb := gai_bd hlb (by omega) kind k
      have ob := hev.getD (by omega) k
      have HG := Lib.hid (fun (w' : World) (hr : Rd w' w'.heap.size (.slice Au 0 cu) (il [])) => ri_b (gaiS kind (.slice Au 0 cu) [] k w' _ hr (by simp) (by omega) hk0 hk2' hlb))
      have HS := Lib.hid (show (prF ev (fun i => ev.getD i 0 + gai kind [] i) k).set k (ev.getD k 0 + gai kind [] k) = prF ev (fun i => ev.getD i 0 + gai kind [] i) (k + 1) from prF_set ev (fun i => ev.getD i 0 + gai kind [] i) k hlt)
      clear hc hf
      generalize ev.getD k 0 = x at *
      generalize gai kind [] k = g at *
      obtain ⟨gb1, gb2⟩ := gb
      obtain ⟨ob1, ob2⟩ := ob
      go_wp2_with fail
      go_region_with (go_at_call 98; refine (HG.out _ ?_).mono ?_; exact ou.rd; rintro e w2 ⟨rfl, hb2⟩; have hd2 : w2.cell? ⟨bv, fv + k, none⟩ = some (.int .i64 x) := (hb2.cell (p := ⟨bv, fv + k, none⟩) hbw).trans hdst; have hf2 : w2.frozen? ⟨bv, fv + k, none⟩ = false := (hb2.frozen (p := ⟨bv, fv + k, none⟩) hbw).trans hfz; have hb3 : Below wr.heap.size wr w2 := ⟨hb2.os, hb2.tape, hb2.output, hb2.size, hb2.block⟩)
      all_goals
        have hnx := up_next ou ov ap.symm (Nat.le_refl _) hb hb3 hlt HS.out
        obtain ⟨n1, n2, n3⟩ := hnx
        clear hdst hfz hd2 hf2 hb2 hb3 ov ou hb
        go_wp2
        go_roundw
        case rel => exact ⟨k + 1, by omega, by go_num, n1, n2, n3⟩
        case measure => simp [intOf]; omega
    · obtain rfl : k = ev.length := by omega
      rw [prF_all] at ov
      go_wp2
      go_ret2
      exact ⟨_, _, rfl, ov, ou, ap, hb⟩
end Go.Proofs.Yteogogcjndfkoab
