/-
  Contracts: the law's own comparisons and marks of lists of lists of int64.
-/
import Derived.Test.YteogogcjndfkoabLi
import Derived.Test.YteogogcjndfkoabMel
namespace Go.Proofs.Yteogogcjndfkoab
open Go.RowKit
set_option linter.unusedVariables false

def ill (xss : List (List Int)) : List (List Value) := xss.map il
theorem ill_len (xss : List (List Int)) : (ill xss).length = xss.length := by simp [ill]
theorem ill_get (xss : List (List Int)) (k : Nat) (h : k < xss.length) : (ill xss)[k]? = some (il xss[k]) := by simp [ill, h]
/-- How many numbers the first k lists have. -/
def ofs (xss : List (List Int)) (k : Nat) : Nat := ((xss.take k).map List.length).sum
theorem ofs_zero (xss : List (List Int)) : ofs xss 0 = 0 := by simp [ofs]
theorem ofs_succ (xss : List (List Int)) (k : Nat) (h : k < xss.length) : ofs xss (k + 1) = ofs xss k + xss[k].length := by
  unfold ofs
  simp only [List.take_succ_eq_append_getElem h, List.map_append, List.sum_append, List.map_cons, List.map_nil, List.sum_cons, List.sum_nil, Nat.add_zero]
theorem ofs_le (xss : List (List Int)) (hm : ∀ xs ∈ xss, xs.length ≤ 1048576) (k : Nat) : ofs xss k ≤ k * 1048576 := by
  unfold ofs
  induction xss generalizing k with
  | nil => simp
  | cons x r ih =>
    cases k with
    | zero => simp
    | succ k =>
      have := ih (fun xs h => hm xs (List.mem_cons_of_mem _ h)) k
      have := hm x (List.mem_cons_self ..)
      simp only [List.take_succ_cons, List.map_cons, List.sum_cons]
      omega
def mkL (k : Int) (n : Nat) : List Int := (List.range n).map fun i => k + (i : Nat)
theorem il_mkL (k : Int) (n : Nat) : il (mkL k n) = (List.range n).map (mkI k) := by
  simp only [il, mkL, List.map_map]; rfl
/-- The first j lists are marked. -/
def prM (k0 : Int) (xss : List (List Int)) (j : Nat) : List (List Int) := (List.range xss.length).map fun i => if i < j then mkL (k0 + ofs xss i) (xss.getD i []).length else xss.getD i []
theorem prM_len (k0 : Int) (xss : List (List Int)) (j : Nat) : (prM k0 xss j).length = xss.length := by simp [prM]
theorem prM_zero (k0 : Int) (xss : List (List Int)) : prM k0 xss 0 = xss := by
  apply List.ext_getElem?
  intro i
  by_cases hi : i < xss.length
  · simp [prM, hi]
  · simp [prM, hi]
theorem prM_at (k0 : Int) (xss : List (List Int)) (j : Nat) (h : j < xss.length) : (prM k0 xss j)[j]? = some xss[j] := by simp [prM, h]
theorem prM_set (k0 : Int) (xss : List (List Int)) (j : Nat) (h : j < xss.length) : (prM k0 xss j).set j (mkL (k0 + ofs xss j) xss[j].length) = prM k0 xss (j + 1) := by
  apply List.ext_getElem?
  intro i
  rw [List.getElem?_set]
  by_cases h1 : j = i
  · subst h1
    rw [if_pos rfl, if_pos (by rw [prM_len]; exact h)]
    simp [prM, h]
  · rw [if_neg h1]
    by_cases hi : i < xss.length
    · have : (i < j) = (i < j + 1) := by apply propext; omega
      simp [prM, hi, this]
    · simp [prM, hi]
/-- All lists are marked. -/
def mkS (k0 : Int) (xss : List (List Int)) : List (List Int) := prM k0 xss xss.length
theorem mkS_len (k0 : Int) (xss : List (List Int)) : (mkS k0 xss).length = xss.length := prM_len _ _ _
theorem mkS_at (k0 : Int) (xss : List (List Int)) (j : Nat) (h : j < xss.length) : (mkS k0 xss)[j]? = some (mkL (k0 + ofs xss j) xss[j].length) := by simp [mkS, prM, h]

def MkRelL (w : World) (lo : Nat) (v : Value) (vs : List Value) (k0 : Int) (xss : List (List Int)) (k i : Value) (wr : World) : Prop :=
  ∃ j : Nat, j ≤ xss.length ∧ i = .int .i64 j ∧ k = .int .i64 (k0 + ofs xss j) ∧ OwnLs wr lo vs (ill (prM k0 xss j)) ∧ Own wr lo v vs ∧ Below lo w wr
def HdRelL (k0 : Int) (xss : List (List Int)) (k i : Value) : Prop := ∃ j : Nat, j ≤ xss.length ∧ i = .int .i64 j ∧ k = .int .i64 (k0 + ofs xss j)
set_option maxRecDepth 100000 in
set_option maxHeartbeats 1000000 in
theorem markL_any (v : Value) (xss : List (List Int)) (k0 : Int) (w : World) (lo : Nat) (h : OwnL w lo v (ill xss)) (hm : xss.length ≤ 8) (hm2 : ∀ xs ∈ xss, xs.length ≤ 1048576) (hk0 : 0 ≤ k0) (hk1 : k0 ≤ 100000000) :
    Calls Try.prog 39 #[v, .int .i64 k0] w fun e w' => e = .returned (.int .i64 (k0 + ofs xss xss.length)) ∧ OwnL w' lo v (ill (mkS k0 xss)) ∧ Below lo w w' := by
  obtain ⟨vs, ho, hls, hap⟩ := h
  have hlen : vs.length = xss.length := by rw [hls.1, ill_len]
  obtain ⟨A, c, hv, hc1, hc2, hcell⟩ := id ho
  have hO := Lib.hid (ofs_le xss hm2)
  have hAP := Lib.hid hap
  have hM := Lib.hid hm2
  clear hap hm2
  have hvl : v = .slice A xss.length c := by rw [hv, hlen]
  clear hv hc1 hc2
  subst hvl
  go_enter Try.func39, Try.ntmps39
  go_wp2
  go_loopw [1, 5] (MkRelL w lo (.slice A xss.length c) vs k0 xss) (fun _ i _ => xss.length - (intOf i).toNat)
  case atStart => exact ⟨0, Nat.zero_le _, rfl, by simp [ofs_zero], by rw [prM_zero]; exact hls, ho, Below.refl _ _⟩
  case round =>
    clear ho hls
    obtain ⟨j, hj, rfl, rfl, hls, ho, hb⟩ := hrel
    have hoj := hO.out j
    by_cases hlt : j < xss.length
    · obtain ⟨b, off, rfl, _⟩ := hcell (by omega)
      obtain ⟨A', c', hv', _, _, hcc'⟩ := id ho
      obtain ⟨b', off', e, hlo, hbw, hcc, hfz⟩ := hcc' (by omega)
      simp only [Value.slice.injEq] at hv'
      obtain ⟨e1, e2, e3⟩ := hv'
      rw [← e1] at e
      cases e
      have hx : vs[j]? = some vs[j] := List.getElem?_eq_getElem (by omega)
      have hsrc : wr.cell? ⟨b, off + j, none⟩ = some vs[j] := hcc j _ hx
      have hox := hls.2.1 j _ _ hx (by rw [ill_get _ _ (by rw [prM_len]; exact hlt)])
      have hxs : (ill (prM k0 xss j))[j]? = some (il xss[j]) := by
        simp only [ill, List.getElem?_map, prM_at k0 xss j hlt, Option.map_some]
      have hox := hls.2.1 j _ _ hx hxs
      have hmk := Lib.hid (markI_any _ xss[j] (k0 + ofs xss j) wr lo hox (hM.out _ (List.getElem_mem hlt)) (by omega) (by omega))
      have hn1 := hls.mark hx hxs (mkI (k0 + ofs xss j))
      rw [il_len, ← il_mkL] at hn1
      have hn2 := over_ownOther hox ho (hAP.out _ (List.getElem_mem _)).symm (mkI (k0 + ofs xss j))
      have hn3 := hb.trans (over_below hox (mkI (k0 + ofs xss j)))
      rw [show (ill (prM k0 xss j)).set j (il (mkL (k0 + ofs xss j) xss[j].length)) = ill (prM k0 xss (j + 1)) by rw [← prM_set k0 xss j hlt]; simp [ill, List.map_set]] at hn1
      have hs := Lib.hid (ofs_succ xss j hlt)
      have ho8 : ofs xss j ≤ 8388608 := by omega
      have hml : xss[j].length ≤ 1048576 := hM.out _ (List.getElem_mem hlt)
      have HN := Lib.hid (And.intro hn1 (And.intro hn2 hn3))
      obtain ⟨Ax, cx, hxv, _, _, _⟩ := id hox
      rw [il_len] at hxv
      generalize vs[j] = x at *
      subst hxv
      clear hcell hcc' hcc hfz hox hx hxs hls ho hb e1 e2 e3 hn1 hn2 hn3 hoj hO hM hAP hlen
      generalize ofs xss j = o at *
      generalize xss[j].length = n at *
      go_wp2_with fail
      refine hmk.out.mono ?_
      rintro e w1 ⟨rfl, rfl⟩
      go_wp2_with fail
      go_roundw
      case rel => exact ⟨j + 1, by omega, by go_num, by rw [hs.out]; go_num, HN.out.1, HN.out.2.1, HN.out.2.2⟩
      case measure => simp [intOf]; omega
    · obtain rfl : j = xss.length := by omega
      go_wp2
      go_ret
      exact ⟨rfl, ⟨vs, ho, hls, hAP.out⟩, hb⟩

set_option maxRecDepth 100000 in
set_option maxHeartbeats 1000000 in
theorem heldL_any (v : Value) (xss : List (List Int)) (k0 : Int) (w : World) (B : Nat) (h : RdL w B v (ill (mkS k0 xss))) (hm : xss.length ≤ 8) (hm2 : ∀ xs ∈ xss, xs.length ≤ 1048576) (hk0 : 0 ≤ k0) (hk1 : k0 ≤ 100000000) :
    Calls Try.prog 40 #[v, .int .i64 k0] w fun e w' => e = .returned (.int .i64 (k0 + ofs xss xss.length)) ∧ w = w' := by
  obtain ⟨vs, ho, hls⟩ := h
  have hlen : vs.length = xss.length := by rw [hls.1, ill_len, mkS_len]
  obtain ⟨A, c, hv, hc1, hc2, hcell⟩ := id ho
  have hO := Lib.hid (ofs_le xss hm2)
  have hM := Lib.hid hm2
  clear hm2
  have hvl : v = .slice A xss.length c := by rw [hv, hlen]
  clear hv hc1 hc2
  subst hvl
  go_enter Try.func40, Try.ntmps40
  go_wp2
  go_loop [1, 5] (HdRelL k0 xss) (fun _ i => xss.length - (intOf i).toNat)
  case atStart => exact ⟨0, Nat.zero_le _, rfl, by simp [ofs_zero]⟩
  case round =>
    obtain ⟨j, hj, rfl, rfl⟩ := hrel
    have hoj := hO.out j
    by_cases hlt : j < xss.length
    · obtain ⟨b, off, rfl, hbw, hcc⟩ := hcell (by omega)
      have hx : vs[j]? = some vs[j] := List.getElem?_eq_getElem (by omega)
      have hsrc : w.cell? ⟨b, off + j, none⟩ = some vs[j] := hcc j _ hx
      have hxs : (ill (mkS k0 xss))[j]? = some (il (mkL (k0 + ofs xss j) xss[j].length)) := by
        simp only [ill, List.getElem?_map, mkS_at k0 xss j hlt, Option.map_some]
      have hox := hls.2 j _ _ hx hxs
      rw [il_mkL] at hox
      have hhd := Lib.hid (heldI_any _ xss[j].length (k0 + ofs xss j) w B hox (hM.out _ (List.getElem_mem hlt)) (by omega) (by omega))
      have hs := Lib.hid (ofs_succ xss j hlt)
      have hml : xss[j].length ≤ 1048576 := hM.out _ (List.getElem_mem hlt)
      obtain ⟨Ax, cx, hxv, _, _, _⟩ := id hox
      rw [show ((List.range xss[j].length).map (mkI (k0 + ofs xss j))).length = xss[j].length by simp] at hxv
      generalize vs[j] = x at *
      subst hxv
      have ho8 : ofs xss j ≤ 8388608 := by omega
      clear hcell hcc hox hx hxs hls ho hoj hO hM hlen
      generalize ofs xss j = o at *
      generalize xss[j].length = n at *
      go_wp2_with fail
      refine hhd.out.mono ?_
      rintro e w1 ⟨rfl, rfl⟩
      go_wp2_with fail
      go_round
      case rel => exact ⟨j + 1, by omega, by go_num, by rw [hs.out]; go_num⟩
      case measure => simp [intOf]; omega
    · obtain rfl : j = xss.length := by omega
      go_wp2
      go_ret
      exact ⟨rfl, rfl⟩

set_option maxRecDepth 100000 in
set_option maxHeartbeats 1000000 in
theorem eqL_any (va vb : Value) (xss : List (List Int)) (w : World) (B B' : Nat) (ha : RdL w B va (ill xss)) (hb : RdL w B' vb (ill xss)) (hm : xss.length ≤ 1048576) (hm2 : ∀ xs ∈ xss, xs.length ≤ 1048576) :
    Calls Try.prog 36 #[va, vb] w fun e w' => e = .returned (.bool true) ∧ ∃ n, w' = w.drewN n := by
  obtain ⟨vs, ho, hls⟩ := ha
  obtain ⟨us, hp, hus⟩ := hb
  have hlen : vs.length = xss.length := by rw [hls.1, ill_len]
  have hlen' : us.length = xss.length := by rw [hus.1, ill_len]
  obtain ⟨A, c, hv, hc1, hc2, hca⟩ := id ho
  obtain ⟨A', c', hv', hc1', hc2', hcb⟩ := id hp
  have hM := Lib.hid hm2
  clear hm2
  have hvl : va = .slice A xss.length c := by rw [hv, hlen]
  have hvl' : vb = .slice A' xss.length c' := by rw [hv', hlen']
  clear hv hc1 hc2 hv' hc1' hc2'
  subst hvl hvl'
  have hCa := Lib.hid hca
  have hCb := Lib.hid hcb
  clear hca hcb
  go_enter Try.func36, Try.ntmps36
  go_wp2
  go_loopw [5] (EqRelI w xss.length) (fun i _ => xss.length - (intOf i).toNat)
  case atStart => exact ⟨0, 0, Nat.zero_le _, rfl, rfl⟩
  case round =>
    obtain ⟨k, m, hk, rfl, rfl⟩ := hrel
    by_cases hlt : k < xss.length
    · obtain ⟨b, off, rfl, hbl, hcc⟩ := hCa.out (by omega)
      obtain ⟨b', off', rfl, hbl', hcc'⟩ := hCb.out (by omega)
      have hx : vs[k]? = some vs[k] := List.getElem?_eq_getElem (by omega)
      have hy : us[k]? = some us[k] := List.getElem?_eq_getElem (by omega)
      have h1 : w.cell? ⟨b, off + k, none⟩ = some vs[k] := hcc k _ hx
      have h2 : w.cell? ⟨b', off' + k, none⟩ = some us[k] := hcc' k _ hy
      have r1 := hls.2 k _ _ hx (ill_get _ _ hlt)
      have r2 := hus.2 k _ _ hy (ill_get _ _ hlt)
      have HE := Lib.hid (fun n => (eqI_any _ _ xss[k] (w.drewN (m + n)) B B' (r1.drewN _) (r2.drewN _) (hM.out _ (List.getElem_mem hlt))).mono (R' := fun e w'' => e = .returned (.bool true) ∧ ∃ q, w'' = w.drewN (m + q)) fun e w' ⟨he, q, hw⟩ => ⟨he, n + q, by rw [hw, World.drewN_drewN, Nat.add_assoc]⟩)
      obtain ⟨Ax, cx, hxv, _, _, _⟩ := id r1
      obtain ⟨Ay, cy, hyv, _, _, _⟩ := id r2
      rw [il_len] at hxv hyv
      generalize vs[k] = x at *
      generalize us[k] = y at *
      subst hxv hyv
      clear hcc hcc' hCa hCb hx hy r1 r2 ho hp hls hus hM hlen hlen'
      generalize xss[k] = zs at *
      go_wp2
      go_quiet ((exact HE.out _))
      go_wp2
      go_roundw
      case rel => exact ⟨k + 1, _, by omega, by go_num, rfl⟩
      case measure => simp [intOf]; omega
    · obtain rfl : k = xss.length := by omega
      go_wp2
      go_ret
      exact ⟨rfl, _, rfl⟩
end Go.Proofs.Yteogogcjndfkoab
