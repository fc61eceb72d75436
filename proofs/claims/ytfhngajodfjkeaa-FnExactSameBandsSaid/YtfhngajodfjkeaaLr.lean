/-
  Contracts: the law's own copies, comparisons and marks of lists of lists of 32-bit floats.
-/
import Derived.Test.YtfhngajodfjkeaaMkF
import Derived.Test.YtfhngajodfjkeaaFin
import Derived.Deep.QuietTactic
import Derived.BigQuiet
import Derived.Test.YtfhngajodfjkeaaTw
import Derived.Lib.SmallJoins
namespace Go.Proofs.Ytfhngajodfjkeaa
open Go.RowKit Fl
set_option linter.unusedVariables false

def fll (xss : List (List Nat)) : List (List Value) := xss.map fl
theorem fll_len (xss : List (List Nat)) : (fll xss).length = xss.length := by simp [fll]
theorem fll_get (xss : List (List Nat)) (k : Nat) (h : k < xss.length) : (fll xss)[k]? = some (fl xss[k]) := by simp [fll, h]
/-- How many numbers the first k lists have. -/
def ofsF (xss : List (List Nat)) (k : Nat) : Nat := ((xss.take k).map List.length).sum
theorem ofsF_zero (xss : List (List Nat)) : ofsF xss 0 = 0 := by simp [ofsF]
theorem ofsF_succ (xss : List (List Nat)) (k : Nat) (h : k < xss.length) : ofsF xss (k + 1) = ofsF xss k + xss[k].length := by
  unfold ofsF
  simp only [List.take_succ_eq_append_getElem h, List.map_append, List.sum_append, List.map_cons, List.map_nil, List.sum_cons, List.sum_nil, Nat.add_zero]
theorem ofsF_le (xss : List (List Nat)) (hm : ∀ xs ∈ xss, xs.length ≤ 1048576) (k : Nat) : ofsF xss k ≤ k * 1048576 := by
  unfold ofsF
  induction xss generalizing k with
  | nil => simp
  | cons x r ih =>
    cases k with
    | zero => simp
    | succ k =>
      have := ih (fun xs h => hm xs (List.mem_cons_of_mem _ h)) k
      have := hm x (List.mem_cons_self ..)
      simp only [List.take_succ_cons, List.map_cons, List.sum_cons]
      omega
theorem ofsF_top (xss : List (List Nat)) (j : Nat) : ofsF xss j ≤ ofsF xss xss.length := by
  unfold ofsF
  induction xss generalizing j with
  | nil => simp
  | cons x r ih =>
    cases j with
    | zero => simp
    | succ j =>
      have := ih j
      simp only [List.length_cons, List.take_succ_cons, List.map_cons, List.sum_cons]
      omega
theorem ofsF_mem {xss : List (List Nat)} {xs : List Nat} (h : xs ∈ xss) : xs.length ≤ ofsF xss xss.length := by
  obtain ⟨i, hi, rfl⟩ := List.mem_iff_getElem.1 h
  have h1 := ofsF_succ xss i hi
  have h2 := ofsF_top xss (i + 1)
  omega
def mkLF (k : Int) (n : Nat) : List Nat := (List.range n).map fun i => floatOfInt .f32 (k + (i : Nat))
theorem fl_mkLF (k : Int) (n : Nat) : fl (mkLF k n) = (List.range n).map (mkF k) := by
  simp only [fl, mkLF, List.map_map]; rfl
/-- The first j lists are marked. -/
def prMF (k0 : Int) (xss : List (List Nat)) (j : Nat) : List (List Nat) := (List.range xss.length).map fun i => if i < j then mkLF (k0 + ofsF xss i) (xss.getD i []).length else xss.getD i []
theorem prMF_len (k0 : Int) (xss : List (List Nat)) (j : Nat) : (prMF k0 xss j).length = xss.length := by simp [prMF]
theorem prMF_zero (k0 : Int) (xss : List (List Nat)) : prMF k0 xss 0 = xss := by
  apply List.ext_getElem?
  intro i
  by_cases hi : i < xss.length
  · simp [prMF, hi]
  · simp [prMF, hi]
theorem prMF_at (k0 : Int) (xss : List (List Nat)) (j : Nat) (h : j < xss.length) : (prMF k0 xss j)[j]? = some xss[j] := by simp [prMF, h]
theorem prMF_set (k0 : Int) (xss : List (List Nat)) (j : Nat) (h : j < xss.length) : (prMF k0 xss j).set j (mkLF (k0 + ofsF xss j) xss[j].length) = prMF k0 xss (j + 1) := by
  apply List.ext_getElem?
  intro i
  rw [List.getElem?_set]
  by_cases h1 : j = i
  · subst h1
    rw [if_pos rfl, if_pos (by rw [prMF_len]; exact h)]
    simp [prMF, h]
  · rw [if_neg h1]
    by_cases hi : i < xss.length
    · have : (i < j) = (i < j + 1) := by apply propext; omega
      simp [prMF, hi, this]
    · simp [prMF, hi]
/-- All lists are marked. -/
def mkSF (k0 : Int) (xss : List (List Nat)) : List (List Nat) := prMF k0 xss xss.length
theorem mkSF_len (k0 : Int) (xss : List (List Nat)) : (mkSF k0 xss).length = xss.length := prMF_len _ _ _
theorem mkSF_at (k0 : Int) (xss : List (List Nat)) (j : Nat) (h : j < xss.length) : (mkSF k0 xss)[j]? = some (mkLF (k0 + ofsF xss j) xss[j].length) := by simp [mkSF, prMF, h]

def MkRelLF (w : World) (lo hi : Nat) (v : Value) (vs : List Value) (k0 : Int) (xss : List (List Nat)) (k i : Value) (wr : World) : Prop :=
  ∃ j : Nat, j ≤ xss.length ∧ i = .int .i64 j ∧ k = .int .i64 (k0 + ofsF xss j) ∧ OwnLs wr lo vs (fll (prMF k0 xss j)) ∧ Own wr lo v vs ∧ Tw lo hi w wr
def HdRelLF (k0 : Int) (xss : List (List Nat)) (k i : Value) : Prop := ∃ j : Nat, j ≤ xss.length ∧ i = .int .i64 j ∧ k = .int .i64 (k0 + ofsF xss j)
set_option maxRecDepth 100000 in
set_option maxHeartbeats 1000000 in
theorem markLF_any (v : Value) (xss : List (List Nat)) (k0 : Int) (w : World) (lo hi : Nat) (h : InL w lo hi v (fll xss)) (hm : xss.length ≤ 1048576) (hto : ofsF xss xss.length ≤ 1048576) (hk0 : 0 ≤ k0) (hk1 : k0 ≤ 100000000) :
    Calls Try.prog 82 #[v, .int .i64 k0] w fun e w' => e = .returned (.int .i64 (k0 + ofsF xss xss.length)) ∧ InL w' lo hi v (fll (mkSF k0 xss)) ∧ Tw lo hi w w' := by
  have hm2 : ∀ xs ∈ xss, xs.length ≤ 1048576 := fun xs hx => Nat.le_trans (ofsF_mem hx) hto
  obtain ⟨vs, ho, hls, hap, hbv, hbx⟩ := h
  have hlen : vs.length = xss.length := by rw [hls.1, fll_len]
  obtain ⟨A, c, hv, hc1, hc2, hcell⟩ := id ho
  have hO := Lib.hid (fun j => Nat.le_trans (ofsF_top xss j) hto)
  have hBX := Lib.hid hbx
  have hBV := Lib.hid hbv
  have hAP := Lib.hid hap
  have hM := Lib.hid hm2
  clear hap hm2 hbx hbv
  have hvl : v = .slice A xss.length c := by rw [hv, hlen]
  clear hv hc1 hc2
  subst hvl
  go_enter Try.func82, Try.ntmps82
  go_wp2
  go_loopw [1, 5] (MkRelLF w lo hi (.slice A xss.length c) vs k0 xss) (fun _ i _ => xss.length - (intOf i).toNat)
  case atStart => exact ⟨0, Nat.zero_le _, rfl, by simp [ofsF_zero], by rw [prMF_zero]; exact hls, ho, Tw.refl _ _ _⟩
  case round =>
    clear ho hls
    obtain ⟨j, hj, rfl, rfl, hls, ho, hb⟩ := hrel
    have hoj := hO.out j
    by_cases hlt : j < xss.length
    · obtain ⟨b, off, rfl, _⟩ := hcell (by omega)
      obtain ⟨A', c', hv', _, _, hcc'⟩ := id ho
      obtain ⟨b', off', e, hlo, hbw, hcc, hfz⟩ := hcc' (by omega)
      simp only [Value.slice.injEq] at hv'
      obtain ⟨e1, e2, e3⟩ := hv'
      rw [← e1] at e
      cases e
      have hx : vs[j]? = some vs[j] := List.getElem?_eq_getElem (by omega)
      have hsrc : wr.cell? ⟨b, off + j, none⟩ = some vs[j] := hcc j _ hx
      have hox := hls.2.1 j _ _ hx (by rw [fll_get _ _ (by rw [prMF_len]; exact hlt)])
      have hxs : (fll (prMF k0 xss j))[j]? = some (fl xss[j]) := by
        simp only [fll, List.getElem?_map, prMF_at k0 xss j hlt, Option.map_some]
      have hox := hls.2.1 j _ _ hx hxs
      have hmk := Lib.hid (markF_any _ xss[j] (k0 + ofsF xss j) wr lo hox (hM.out _ (List.getElem_mem hlt)) (by omega) (by omega))
      have hn1 := hls.mark hx hxs (mkF (k0 + ofsF xss j))
      rw [fl_len, ← fl_mkLF] at hn1
      have hn2 := over_ownOther hox ho (hAP.out _ (List.getElem_mem _)).symm (mkF (k0 + ofsF xss j))
      have hn3 := hb.trans (over_tw hox (hBX.out _ (List.getElem_mem _)) (mkF (k0 + ofsF xss j)))
      rw [show (fll (prMF k0 xss j)).set j (fl (mkLF (k0 + ofsF xss j) xss[j].length)) = fll (prMF k0 xss (j + 1)) by rw [← prMF_set k0 xss j hlt]; simp [fll, List.map_set]] at hn1
      have hs := Lib.hid (ofsF_succ xss j hlt)
      have ho8 : ofsF xss j ≤ 1048576 := hoj
      have hml : xss[j].length ≤ 1048576 := hM.out _ (List.getElem_mem hlt)
      have HN := Lib.hid (And.intro hn1 (And.intro hn2 hn3))
      obtain ⟨Ax, cx, hxv, _, _, _⟩ := id hox
      rw [fl_len] at hxv
      generalize vs[j] = x at *
      subst hxv
      clear hcell hcc' hcc hfz hox hx hxs hls ho hb e1 e2 e3 hn1 hn2 hn3 hoj hO hM hAP hBX hBV hlen hto
      generalize ofsF xss j = o at *
      generalize xss[j].length = n at *
      go_wp2_with fail
      refine hmk.out.mono ?_
      rintro e w1 ⟨rfl, rfl⟩
      go_wp2_with fail
      go_roundw
      case rel => exact ⟨j + 1, by omega, by go_num, by rw [hs.out]; go_num, HN.out.1, HN.out.2.1, HN.out.2.2⟩
      case measure => simp [intOf]; omega
    · obtain rfl : j = xss.length := by omega
      go_wp2
      go_ret
      exact ⟨rfl, ⟨vs, ho, hls, hAP.out, hBV.out, hBX.out⟩, hb⟩

set_option maxRecDepth 100000 in
set_option maxHeartbeats 1000000 in
theorem heldLF_any (v : Value) (xss : List (List Nat)) (k0 : Int) (w : World) (B : Nat) (h : RdL w B v (fll (mkSF k0 xss))) (hm : xss.length ≤ 1048576) (hto : ofsF xss xss.length ≤ 1048576) (hk0 : 0 ≤ k0) (hk1 : k0 ≤ 100000000) :
    Calls Try.prog 83 #[v, .int .i64 k0] w fun e w' => e = .returned (.int .i64 (k0 + ofsF xss xss.length)) ∧ w = w' := by
  have hm2 : ∀ xs ∈ xss, xs.length ≤ 1048576 := fun xs hx => Nat.le_trans (ofsF_mem hx) hto
  obtain ⟨vs, ho, hls⟩ := h
  have hlen : vs.length = xss.length := by rw [hls.1, fll_len, mkSF_len]
  obtain ⟨A, c, hv, hc1, hc2, hcell⟩ := id ho
  have hO := Lib.hid (fun j => Nat.le_trans (ofsF_top xss j) hto)
  have hM := Lib.hid hm2
  clear hm2
  have hvl : v = .slice A xss.length c := by rw [hv, hlen]
  clear hv hc1 hc2
  subst hvl
  go_enter Try.func83, Try.ntmps83
  go_wp2
  go_loop [1, 5] (HdRelLF k0 xss) (fun _ i => xss.length - (intOf i).toNat)
  case atStart => exact ⟨0, Nat.zero_le _, rfl, by simp [ofsF_zero]⟩
  case round =>
    obtain ⟨j, hj, rfl, rfl⟩ := hrel
    have hoj := hO.out j
    by_cases hlt : j < xss.length
    · obtain ⟨b, off, rfl, hbw, hcc⟩ := hcell (by omega)
      have hx : vs[j]? = some vs[j] := List.getElem?_eq_getElem (by omega)
      have hsrc : w.cell? ⟨b, off + j, none⟩ = some vs[j] := hcc j _ hx
      have hxs : (fll (mkSF k0 xss))[j]? = some (fl (mkLF (k0 + ofsF xss j) xss[j].length)) := by
        simp only [fll, List.getElem?_map, mkSF_at k0 xss j hlt, Option.map_some]
      have hox := hls.2 j _ _ hx hxs
      rw [fl_mkLF] at hox
      have hhd := Lib.hid (heldF_any _ xss[j].length (k0 + ofsF xss j) w B hox (hM.out _ (List.getElem_mem hlt)) (by omega) (by omega))
      have hs := Lib.hid (ofsF_succ xss j hlt)
      have hml : xss[j].length ≤ 1048576 := hM.out _ (List.getElem_mem hlt)
      obtain ⟨Ax, cx, hxv, _, _, _⟩ := id hox
      rw [show ((List.range xss[j].length).map (mkF (k0 + ofsF xss j))).length = xss[j].length by simp] at hxv
      generalize vs[j] = x at *
      subst hxv
      have ho8 : ofsF xss j ≤ 1048576 := hoj
      clear hcell hcc hox hx hxs hls ho hoj hO hM hlen hto
      generalize ofsF xss j = o at *
      generalize xss[j].length = n at *
      go_wp2_with fail
      refine hhd.out.mono ?_
      rintro e w1 ⟨rfl, rfl⟩
      go_wp2_with fail
      go_round
      case rel => exact ⟨j + 1, by omega, by go_num, by rw [hs.out]; go_num⟩
      case measure => simp [intOf]; omega
    · obtain rfl : j = xss.length := by omega
      go_wp2
      go_ret
      exact ⟨rfl, rfl⟩

set_option maxRecDepth 100000 in
set_option maxHeartbeats 1000000 in
theorem eqLF_any (va vb : Value) (xss : List (List Nat)) (w : World) (B : Nat) (ha : RdL w B va (fll xss)) (hb : RdL w B vb (fll xss)) (hm : xss.length ≤ 1048576) (hm2 : ∀ xs ∈ xss, xs.length ≤ 1048576) :
    Calls Try.prog 77 #[va, vb] w fun e w' => e = .returned (.bool true) ∧ ∃ n, w' = w.drewN n := by
  obtain ⟨vs, ho, hls⟩ := ha
  obtain ⟨us, hp, hus⟩ := hb
  have hlen : vs.length = xss.length := by rw [hls.1, fll_len]
  have hlen' : us.length = xss.length := by rw [hus.1, fll_len]
  obtain ⟨A, c, hv, hc1, hc2, hca⟩ := id ho
  obtain ⟨A', c', hv', hc1', hc2', hcb⟩ := id hp
  have hM := Lib.hid hm2
  clear hm2
  have hvl : va = .slice A xss.length c := by rw [hv, hlen]
  have hvl' : vb = .slice A' xss.length c' := by rw [hv', hlen']
  clear hv hc1 hc2 hv' hc1' hc2'
  subst hvl hvl'
  have hCa := Lib.hid hca
  have hCb := Lib.hid hcb
  clear hca hcb
  go_enter Try.func77, Try.ntmps77
  go_wp2
  go_loopw [5] (EqRel w xss.length) (fun i _ => xss.length - (intOf i).toNat)
  case atStart => exact ⟨0, 0, Nat.zero_le _, rfl, rfl⟩
  case round =>
    obtain ⟨k, m, hk, rfl, rfl⟩ := hrel
    by_cases hlt : k < xss.length
    · obtain ⟨b, off, rfl, hbl, hcc⟩ := hCa.out (by omega)
      obtain ⟨b', off', rfl, hbl', hcc'⟩ := hCb.out (by omega)
      have hx : vs[k]? = some vs[k] := List.getElem?_eq_getElem (by omega)
      have hy : us[k]? = some us[k] := List.getElem?_eq_getElem (by omega)
      have h1 : w.cell? ⟨b, off + k, none⟩ = some vs[k] := hcc k _ hx
      have h2 : w.cell? ⟨b', off' + k, none⟩ = some us[k] := hcc' k _ hy
      have r1 := hls.2 k _ _ hx (fll_get _ _ hlt)
      have r2 := hus.2 k _ _ hy (fll_get _ _ hlt)
      have HE := Lib.hid (fun n => (eqF_any _ _ xss[k] xss[k] (w.drewN (m + n)) B (r1.drewN _) (r2.drewN _) (Worth.refl _) (hM.out _ (List.getElem_mem hlt))).mono (R' := fun e w'' => e = .returned (.bool true) ∧ ∃ q, w'' = w.drewN (m + q)) fun e w' ⟨he, q, hw⟩ => ⟨he, n + q, by rw [hw, World.drewN_drewN, Nat.add_assoc]⟩)
      obtain ⟨Ax, cx, hxv, _, _, _⟩ := id r1
      obtain ⟨Ay, cy, hyv, _, _, _⟩ := id r2
      rw [fl_len] at hxv hyv
      generalize vs[k] = x at *
      generalize us[k] = y at *
      subst hxv hyv
      clear hcc hcc' hCa hCb hx hy r1 r2 ho hp hls hus hM hlen hlen'
      generalize xss[k] = zs at *
      go_wp2
      go_quiet ((exact HE.out _))
      go_wp2
      go_roundw
      case rel => exact ⟨k + 1, _, by omega, by go_num, rfl⟩
      case measure => simp [intOf]; omega
    · obtain rfl : k = xss.length := by omega
      go_wp2
      go_ret
      exact ⟨rfl, _, rfl⟩

def SzRelLF (l : Int) (xss : List (List Nat)) (k i : Value) : Prop := ∃ j : Nat, j ≤ xss.length ∧ i = .int .i64 j ∧ k = .int .i64 (l - ofsF xss j) ∧ (ofsF xss j : Int) ≤ l
theorem szFr_any (v : Value) (xs : List Nat) (l : Int) (w : World) (B : Nat) (h : Rd w B v (fl xs)) (h0 : 0 ≤ l) (h1 : l ≤ 1048576) (hm : xs.length ≤ 9223372036854775807) :
    Calls Try.prog 53 #[v, .int .i64 l] w fun e w' => e = .returned (.int .i64 (if l < xs.length then -1 else l - xs.length)) ∧ w = w' := by
  obtain ⟨A, c, hv, hc1, hc2, hcell⟩ := h
  rw [fl_len] at hv
  subst hv
  clear hcell hc1 hc2
  by_cases hl : l < xs.length
  · rw [if_pos hl]
    go_enter Try.func53, Try.ntmps53
    go_wp2_with fail
    go_ret
    exact ⟨rfl, rfl⟩
  · rw [if_neg hl]
    have hl' : (xs.length : Int) ≤ l := by omega
    clear hl
    go_enter Try.func53, Try.ntmps53
    go_wp2_with fail
    go_ret
    exact ⟨rfl, rfl⟩
/-- What is left of l when a list of lists is taken off; -1 where there is none left. -/
def szR (l : Int) (xss : List (List Nat)) : Int := if l < xss.length + ofsF xss xss.length then -1 else l - xss.length - ofsF xss xss.length
set_option maxRecDepth 100000 in
set_option maxHeartbeats 1000000 in
theorem szLF_any (v : Value) (xss : List (List Nat)) (l : Int) (w : World) (B : Nat) (h : RdL w B v (fll xss)) (h0 : 0 ≤ l) (h1 : l ≤ 1048576) :
    Calls Try.prog 71 #[v, .int .i64 l] w fun e w' => e = .returned (.int .i64 (szR l xss)) ∧ w = w' := by
  obtain ⟨vs, ho, hls⟩ := h
  have hlen : vs.length = xss.length := by rw [hls.1, fll_len]
  have hle : vs.length ≤ maxLen := ho.le
  unfold maxLen at hle
  obtain ⟨A, c, hv, hc1, hc2, hcell⟩ := id ho
  have hvl : v = .slice A xss.length c := by rw [hv, hlen]
  clear hv hc1 hc2
  subst hvl
  by_cases hbig : l < xss.length
  · rw [show szR l xss = -1 from if_pos (by omega)]
    clear hcell ho hls
    go_enter Try.func71, Try.ntmps71
    go_wp2_with fail
    go_ret
    exact ⟨rfl, rfl⟩
  · have hl' : (xss.length : Int) ≤ l := by omega
    clear hbig
    have HV := Lib.hid (rfl : szR l xss = szR l xss)
    have HL := Lib.hid hls
    have HC := Lib.hid hcell
    clear hls hcell ho
    go_enter Try.func71, Try.ntmps71
    go_wp2
    go_loop [1, 5] (SzRelLF (l - xss.length) xss) (fun _ i => xss.length - (intOf i).toNat)
    case atStart => exact ⟨0, Nat.zero_le _, rfl, by simp [ofsF_zero], by simp [ofsF_zero]; omega⟩
    case round =>
      obtain ⟨j, hj, rfl, rfl, hoj⟩ := hrel
      by_cases hlt : j < xss.length
      · obtain ⟨b, off, rfl, hbw, hcc⟩ := HC.out (by omega)
        have hx : vs[j]? = some vs[j] := List.getElem?_eq_getElem (by omega)
        have hsrc : w.cell? ⟨b, off + j, none⟩ = some vs[j] := hcc j _ hx
        have hox := HL.out.2 j _ _ hx (fll_get _ _ hlt)
        have hol := hox.le
        rw [fl_len] at hol
        unfold maxLen at hol
        have hsz := Lib.hid (szFr_any _ xss[j] (l - xss.length - ofsF xss j) w B hox (by omega) (by omega) (by omega))
        have hs := Lib.hid (ofsF_succ xss j hlt)
        have ht := Lib.hid (ofsF_top xss (j + 1))
        obtain ⟨Ax, cx, hxv, _, _, _⟩ := id hox
        rw [fl_len] at hxv
        generalize vs[j] = x at *
        subst hxv
        clear hcc hox hx HC hlen
        by_cases hlong : l - xss.length - ofsF xss j < xss[j].length
        · rw [if_pos hlong] at hsz
          have hV := Lib.hid (show szR l xss = -1 from if_pos (by have := hs.out; have := ht.out; omega))
          clear hlong hol
          generalize xss[j].length = n at *
          generalize ofsF xss j = o at *
          go_wp2_with fail
          refine hsz.out.mono ?_
          rintro e w1 ⟨rfl, rfl⟩
          go_wp2_with fail
          go_ret
          rw [hV.out]
          exact ⟨rfl, rfl⟩
        · rw [if_neg hlong] at hsz
          have hle2 : (xss[j].length : Int) ≤ l - xss.length - ofsF xss j := by omega
          have hN := Lib.hid (show (ofsF xss (j + 1) : Int) ≤ l - xss.length ∧ l - xss.length - ofsF xss (j + 1) = l - xss.length - ofsF xss j - xss[j].length by have := hs.out; omega)
          clear hlong hol
          generalize xss[j].length = n at *
          generalize ofsF xss j = o at *
          go_wp2_with fail
          refine hsz.out.mono ?_
          rintro e w1 ⟨rfl, rfl⟩
          go_wp2_with fail
          go_round
          case rel => exact ⟨j + 1, by omega, by go_num, by rw [hN.out.2], hN.out.1⟩
          case measure => simp [intOf]; omega
      · obtain rfl : j = xss.length := by omega
        have hV := Lib.hid (show szR l xss = l - xss.length - ofsF xss xss.length from if_neg (by omega))
        go_wp2
        go_ret
        rw [hV.out]
        exact ⟨rfl, rfl⟩

theorem infoL : (Try.prog.info? 22).map (fun i => (i.zero, i.size, i.bytes)) = some (some (.slice none 0 0), 1, 24) := by kernel_rfl
/-- New lists with these numbers, in memory of their own. -/
def MadeR (xss : List (List Nat)) (w : World) (e : Ending) (w' : World) : Prop :=
  ∃ g, e = .returned (.slice (some ⟨g, 0, none⟩) xss.length xss.length) ∧ OwnL w' w.heap.size (.slice (some ⟨g, 0, none⟩) xss.length xss.length) (fll xss) ∧ Below w.heap.size w w'
def ToRelLF (w : World) (xss : List (List Nat)) (g : Nat) (i : Value) (wr : World) : Prop :=
  ∃ (k : Nat) (vs : List Value), k ≤ xss.length ∧ i = .int .i64 k ∧ Fil wr w.heap.size 22 (.slice (some ⟨g, 0, none⟩) xss.length xss.length) xss.length vs (List.replicate (xss.length - k) (.slice none 0 0)) (fll (xss.take k)) ∧ Below w.heap.size w wr
theorem fil_len {w : World} {lo n : Nat} {e : TypeId} {v : Value} {vs rest : List Value} {xss : List (List Nat)} {k : Nat} (h : Fil w lo e v n vs rest (fll (xss.take k))) (hk : k ≤ xss.length) : vs.length = k := by
  rw [h.2.1.1, fll_len, List.length_take]; omega
theorem fll_take (xss : List (List Nat)) (k : Nat) (h : k < xss.length) : fll (xss.take k) ++ [fl xss[k]] = fll (xss.take (k + 1)) := by
  rw [List.take_succ_eq_append_getElem h]; simp only [fll, List.map_append, List.map_cons, List.map_nil]
theorem fil_new {w wr w1 : World} {g k : Nat} {xss : List (List Nat)} {vs : List Value} {x : Value} (hF : Fil wr w.heap.size 22 (.slice (some ⟨g, 0, none⟩) xss.length xss.length) xss.length vs (List.replicate (xss.length - k) (.slice none 0 0)) (fll (xss.take k))) (hk : k < xss.length)
    (hb : Below w.heap.size w wr) (hx : Own w1 wr.heap.size x (fl xss[k])) (hb1 : Below wr.heap.size wr w1) :
    (∃ x0, w1.cell? ⟨g, k, none⟩ = some x0) ∧ w1.frozen? ⟨g, k, none⟩ = false ∧ Fil (w1.setCell ⟨g, k, none⟩ x) w.heap.size 22 (.slice (some ⟨g, 0, none⟩) xss.length xss.length) xss.length (vs ++ [x]) (List.replicate (xss.length - (k + 1)) (.slice none 0 0)) (fll (xss.take (k + 1))) ∧ Below w.heap.size w (w1.setCell ⟨g, k, none⟩ x) := by
  have hl := fil_len hF (by omega)
  have hF1 := hF.step hb1
  have hrow := hF1.1
  have hlen : (vs ++ List.replicate (xss.length - k) (Value.slice none 0 0)).length = xss.length := by simp; omega
  have hlt := (hrow.lt g rfl)
  obtain ⟨hst, hgw⟩ := hrow.stored k x
  refine ⟨⟨(vs ++ List.replicate (xss.length - k) (Value.slice none 0 0))[k]'(by omega), by rw [hrow.cellAt k (by omega)]; exact List.getElem?_eq_getElem _⟩, hrow.frozenAt k, ?_, (hb.trans (hb1.mono hb.size)).setCell hlt.1 _⟩
  have e : List.replicate (xss.length - k) (Value.slice none 0 0) = .slice none 0 0 :: List.replicate (xss.length - (k + 1)) (.slice none 0 0) := by
    rw [show xss.length - k = (xss.length - (k + 1)) + 1 by omega, List.replicate_succ]
  rw [e] at hF1 hst
  have hput := Fil.put hF1 (hx.less hb.size) (noB_new hF.1 hx (Nat.le_refl _)) (fun y hy => by
    obtain ⟨i, hi⟩ := List.mem_iff_getElem?.1 hy
    obtain ⟨ys, hys⟩ := getE hF.2.1.1 hi
    exact (apart_of hx (hF.2.1.2.1 i y ys hi hys).rd (Nat.le_refl _)).symm) (by rw [hl]; exact hst) hgw
  rw [fll_take xss k hk] at hput
  exact hput
set_option maxRecDepth 100000 in
set_option maxHeartbeats 1000000 in
theorem toLF_any (v : Value) (xss : List (List Nat)) (w : World) (B : Nat) (h : RdL w B v (fll xss)) (hB : B ≤ w.heap.size) (hm : xss.length ≤ 1048576) (hto : ofsF xss xss.length ≤ 1048576) :
    Calls Try.prog 73 #[v] w (MadeR xss w) := by
  have hm2 : ∀ xs ∈ xss, xs.length ≤ 1048576 := fun xs hx => Nat.le_trans (ofsF_mem hx) hto
  obtain ⟨i0, hi, hz0, hz1, hz2⟩ := info_parts infoL
  obtain ⟨us, ho, hls⟩ := h
  have hlen : us.length = xss.length := by rw [hls.1, fll_len]
  obtain ⟨A, c, hv, hc1, hc2, hcell⟩ := id ho
  have hvl : v = .slice A xss.length c := by rw [hv, hlen]
  clear hv hc1 hc2
  subst hvl
  have hC := Lib.hid hcell
  have hL := Lib.hid hls
  have hM := Lib.hid hm2
  clear hcell hls hm2 ho hto
  have hss : ∀ (a : Addr) (A : Option Addr) (n c : Nat) (w : World), (store a (.slice A n c)).run Try.prog w = stored Try.prog w a (.slice A n c) .plain := fun a A n c w => run_store _ w a _ _ rfl
  go_enter Try.func73, Try.ntmps73
  go_wp2_with (refine wpList_make_full _ rfl _ _ 45 rfl w.heap.size 22 i0 (.slice none 0 0) 1 Try.underlying45 hi hz0 hz1 .i64 .i64 _ _ xss.length rfl rfl rfl rfl (by rw [hz2]; omega) (by unfold maxLen; omega) (Nat.le_refl _) ?_; intro w1 hown hgrow)
  have hb1 : Below w.heap.size w w1 := (Below.refl _ _).grown hgrow (Nat.le_refl _) (fun _ h => by cases h)
  have hfil1 : Fil w1 w.heap.size 22 (.slice (some ⟨w.heap.size, 0, none⟩) xss.length xss.length) xss.length [] (List.replicate (xss.length - 0) (.slice none 0 0)) (fll (xss.take 0)) := by
    refine ⟨?_, ⟨rfl, fun i x xs a b => by simp at a, fun i j x y _ a b => by simp at a⟩, fun x hx => by simp at hx⟩
    have e : (madeCells (Value.cells (.slice none 0 0)) (xss.length * 1)).toList = List.replicate xss.length (.slice none 0 0) := by
      rw [Nat.mul_one]
      show (madeCells #[Value.slice none 0 0] xss.length).toList = _
      rw [toList_madeCells_one]
    rw [e] at hown
    exact hown
  clear hown hgrow
  go_loopw [4] (ToRelLF w xss w.heap.size) (fun i _ => xss.length - (intOf i).toNat)
  case atStart => exact ⟨0, [], Nat.zero_le _, rfl, hfil1, hb1⟩
  case round =>
    obtain ⟨k, vs, hk, rfl, hF, hb⟩ := hrel
    clear hfil1 hb1
    by_cases hlt : k < xss.length
    · obtain ⟨b, off, rfl, hbl, hcc⟩ := hC.out (by omega)
      have hx : us[k]? = some us[k] := List.getElem?_eq_getElem (by omega)
      have hsrc : wr.cell? ⟨b, off + k, none⟩ = some us[k] := (hb.cell (p := ⟨b, off + k, none⟩) (by show b < _; omega)).trans (hcc k _ hx)
      have hox := hL.out.2 k _ _ hx (fll_get _ _ hlt)
      have HT := Lib.hid (toF_any _ xss[k] wr B (hox.below (hb.mono hB)) (Nat.le_trans hB hb.size) (hM.out _ (List.getElem_mem hlt)))
      have HN := Lib.hid (fun (w1 : World) (x : Value) (h1 : Own w1 wr.heap.size x (fl xss[k])) (h2 : Below wr.heap.size wr w1) => fil_new hF hlt hb h1 h2)
      obtain ⟨Ax, cx, hxv, _, _, _⟩ := id hox
      rw [fl_len] at hxv
      generalize us[k] = x at *
      subst hxv
      clear hcc hx hox hC hL hM hF hb hlen
      go_wp2_with fail
      refine HT.out.mono ?_
      rintro e w2 ⟨g2, rfl, hown2, hb2⟩
      obtain ⟨⟨x0, hdst⟩, hfz, hN1, hN2⟩ := HN.out w2 _ (Own.row hown2) hb2
      have HF := Lib.hid hN1
      have HB := Lib.hid hN2
      clear hN1 hN2 hown2 HN HT
      go_wp2_with fail
      go_roundw
      case rel => exact ⟨k + 1, _, by omega, by go_num, HF.out, HB.out⟩
      case measure => simp [intOf]; omega
    · obtain rfl : k = xss.length := by omega
      have HF := Lib.hid (show OwnL wr w.heap.size (.slice (some ⟨w.heap.size, 0, none⟩) xss.length xss.length) (fll xss) by
        rw [Nat.sub_self, List.take_length] at hF
        exact hF.done)
      have HB := Lib.hid hb
      clear hF hb
      go_wp2
      go_ret
      exact ⟨_, rfl, HF.out, HB.out⟩

section
open Go.WideShapes Go.ChangeShapes
variable {H : Type} {enc : TypeId × Value → H} {P : Program} {w : World} {spare : Nat → Bool}
/-- A slice of 32-bit floats that came in, a cell, reads as their bits. -/
theorem open_floatsD {t e : TypeId} {fuel : Nat} {v : Value} {y : DataW H × List MemPlace} (ht : P.underlying t = some (.slice e)) (he : P.underlying e = some (.float .f32)) (hc : P.cellsOf e = 1)
    (hf : DataW.trod enc P w 0 spare true fuel t [v] = some y) (hlt : ∀ x ∈ y.2, x.block < w.heap.size) :
    ∃ xs : List Nat, Rd w w.heap.size v (xs.map (.float .f32)) ∧ ∀ x ∈ xs, x < 2 ^ 32 := by
  obtain ⟨a0, len0, cap0, hv0⟩ := Go.Joins.slice_form ht hf
  simp only [List.cons.injEq, and_true] at hv0
  subst hv0
  rcases Go.Deep.open_slice1 ht hc hf with ⟨h0, _⟩ | ⟨a, len, cap, m, n, V, D, Pl, hcs, _, hl, hm, hmm, hx, hel⟩
  · simp at h0
    obtain ⟨rfl, rfl, rfl⟩ := h0
    exact ⟨[], ⟨none, 0, rfl, Nat.le_refl _, Nat.zero_le _, fun h => absurd h (by simp)⟩, by simp⟩
  · simp at hcs
    obtain ⟨rfl, rfl, rfl⟩ := hcs
    have hml : len0 ≤ m := by rw [hmm]; split <;> omega
    have each : ∀ i, i < m → ∃ x, V i = .float .f32 x ∧ x < 2 ^ 32 := by
      intro i hi
      obtain ⟨_, htr⟩ := hel i hi
      cases n with
      | zero => simp [DataW.trod] at htr
      | succ n =>
        unfold DataW.trod at htr
        rw [he] at htr
        cases hV : V i with
        | float k x =>
          rw [hV] at htr
          by_cases hw : (Lit.float .f32 x).wf = true
          · cases k with
            | f32 => exact ⟨x, rfl, by simpa [Lit.wf] using hw⟩
            | f64 => simp at htr
          · cases k with
            | f32 => simp [hw] at htr
            | f64 => simp at htr
        | _ => rw [hV] at htr; simp at htr
    have hpick : ∃ f : Nat → Nat, ∀ i, i < m → V i = .float .f32 (f i) ∧ f i < 2 ^ 32 := Go.Deep.choose_lt each
    obtain ⟨f, hfx⟩ := hpick
    have hlen : ((List.range len0).map f).length = len0 := by simp
    refine ⟨(List.range len0).map f, ?_, ?_⟩
    · refine ⟨some a, cap0, by simp, by simpa using hl, hm, fun hp => ?_⟩
      have hpos : 0 < len0 := by simpa using hp
      obtain ⟨b, off, spot⟩ := a
      have hspot : spot = none := by
        have h0 := (hel 0 (by omega)).1
        simpa [Addr.add] using World.cell?_spot h0
      subst hspot
      refine ⟨b, off, rfl, ?_, fun i x hx => ?_⟩
      · have hin : MemPlace.cell b off ∈ y.2 := by
          have h2 := congrArg Prod.snd hx
          simp only [] at h2
          rw [h2]
          exact List.mem_append_left _ (MemPlace.mem_row.2 ⟨0, by omega, by simp⟩)
        exact hlt _ hin
      · have hi : i < len0 := by
          have := (List.getElem?_eq_some_iff.1 hx).1
          simpa using this
        have hxe : x = .float .f32 (f i) := by
          simp [List.getElem?_map, List.getElem?_range hi] at hx
          exact hx.symm
        rw [hxe, ← add_plain, (hel i (by omega)).1, (hfx i (by omega)).1]
    · intro x hx
      obtain ⟨i, hi, rfl⟩ := List.mem_map.1 hx
      exact (hfx i (by have := List.mem_range.1 hi; omega)).2
/-- A slice of slices of 32-bit floats that came in reads as their bits. -/
theorem open_rows {t e f : TypeId} {r : Reach} {b0 : Nat} {v : Value} {d : DataW H} {ps : List MemPlace} (ht : P.underlying t = some (.slice e)) (hce : P.cellsOf e = 1) (he : P.underlying e = some (.slice f)) (hf : P.underlying f = some (.float .f32)) (hcf : P.cellsOf f = 1)
    (hval : Value.okWide P w r b0 t v) (hd : DataW.Trod enc P w 0 spare true t v d ps) (hlt : ∀ x ∈ ps, x.block < w.heap.size) :
    ∃ xss : List (List Nat), RdL w w.heap.size v (fll xss) ∧ ∀ xs ∈ xss, ∀ x ∈ xs, x < 2 ^ 32 := by
  obtain ⟨a0, len0, cap0, rfl⟩ := okWide_slice ht hval
  obtain ⟨fuel, hfu⟩ := hd
  rcases Go.Deep.open_slice1 ht hce hfu with ⟨h0, _⟩ | ⟨a, len, cap, m, n, V, D, Pl, hcs, _, hl, hm, hmm, hx, hel⟩
  · simp [Value.cells] at h0
    obtain ⟨rfl, rfl, rfl⟩ := h0
    exact ⟨[], ⟨[], ⟨none, 0, rfl, Nat.le_refl _, Nat.zero_le _, fun h => absurd h (by simp)⟩, rfl, fun i x xs a b => by simp at a⟩, by simp⟩
  · simp [Value.cells] at hcs
    obtain ⟨rfl, rfl, rfl⟩ := hcs
    have hml : len0 ≤ m := by rw [hmm]; split <;> omega
    have h2 := congrArg Prod.snd hx
    simp only [] at h2
    have each : ∀ i, i < m → ∃ xs : List Nat, Rd w w.heap.size (V i) (xs.map (.float .f32)) ∧ ∀ x ∈ xs, x < 2 ^ 32 := by
      intro i hi
      exact open_floatsD he hf hcf (hel i hi).2 (fun x hx => hlt x (by rw [h2]; exact List.mem_append_right _ (List.mem_flatMap.2 ⟨i, List.mem_range.2 hi, hx⟩)))
    obtain ⟨g, hg⟩ : ∃ g : Nat → List Nat, ∀ i, i < m → Rd w w.heap.size (V i) ((g i).map (.float .f32)) ∧ ∀ x ∈ g i, x < 2 ^ 32 := Go.Deep.choose_lt each
    refine ⟨(List.range len0).map g, ⟨(List.range len0).map V, ⟨some a, cap0, by simp, by simpa using hl, hm, fun hp => ?_⟩, by simp [fll], fun i x xs p q => ?_⟩, ?_⟩
    · have hpos : 0 < len0 := by simpa using hp
      obtain ⟨b, off, spot⟩ := a
      have hspot : spot = none := by
        have h0 := (hel 0 (by omega)).1
        simpa [Addr.add] using World.cell?_spot h0
      subst hspot
      refine ⟨b, off, rfl, ?_, fun i x hx => ?_⟩
      · have hin : MemPlace.cell b off ∈ ps := by
          rw [h2]
          exact List.mem_append_left _ (MemPlace.mem_row.2 ⟨0, by omega, by simp⟩)
        exact hlt _ hin
      · have hi : i < len0 := by
          have := (List.getElem?_eq_some_iff.1 hx).1
          simpa using this
        have hxe : x = V i := by
          simp [List.getElem?_map, List.getElem?_range hi] at hx
          exact hx.symm
        rw [hxe, ← add_plain, (hel i (by omega)).1]
    · have hi : i < len0 := by
        have := (List.getElem?_eq_some_iff.1 p).1
        simpa using this
      simp [List.getElem?_map, List.getElem?_range hi] at p
      simp [fll, List.getElem?_map, List.getElem?_range hi] at q
      subst p
      subst q
      exact (hg i (by omega)).1
    · intro xs hxs
      obtain ⟨i, hi, rfl⟩ := List.mem_map.1 hxs
      exact (hg i (by have := List.mem_range.1 hi; omega)).2
end
end Go.Proofs.Ytfhngajodfjkeaa
