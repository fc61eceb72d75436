/-
  Contracts: rows, of both sides.
-/
import Derived.Test.YtfhngajodfjkeabLr
import Derived.Test.YtfhngajodfjkeabLng
import Derived.Deep.QuietTactic
import Derived.BigQuiet
namespace Go.Proofs.Ytfhngajodfjkeab
open Go.RowKit Fl
set_option linter.unusedVariables false

def okRow (xss : List (List Nat)) (xs : List Nat) : Bool := isL xs && decide (xs.length = (xss.getD 0 []).length)
def rwE (xss : List (List Nat)) : Bool := decide (∀ i (h : i < xss.length), okRow xss xss[i] = true)
def rwB (xss : List (List Nat)) (most : Nat) : Bool := decide (1 ≤ xss.length ∧ xss.length ≤ most) && rwE xss
def RwTo (xss : List (List Nat)) (k : Nat) : Prop := ∀ i (h : i < xss.length), i < k → okRow xss xss[i] = true
theorem rwE_yes {xss : List (List Nat)} (h : RwTo xss xss.length) : rwE xss = true := decide_eq_true fun i hi => h i hi hi
theorem rwE_no {xss : List (List Nat)} {k : Nat} (hk : k < xss.length) (h : okRow xss xss[k] = false) : rwE xss = false := decide_eq_false fun hh => by rw [hh k hk] at h; cases h
theorem rwTo_succ {xss : List (List Nat)} {k : Nat} (hk : k < xss.length) (h : RwTo xss k) (h1 : okRow xss xss[k] = true) : RwTo xss (k + 1) := by
  intro i hi hik
  by_cases he : i = k
  · subst he; exact h1
  · exact h i hi (by omega)
def frB (xss : List (List Nat)) : Bool := decide (∀ i (h : i < xss.length), finA xss[i] = true)
def FrTo (xss : List (List Nat)) (k : Nat) : Prop := ∀ i (h : i < xss.length), i < k → finA xss[i] = true
theorem frB_yes {xss : List (List Nat)} (h : FrTo xss xss.length) : frB xss = true := decide_eq_true fun i hi => h i hi hi
theorem frB_no {xss : List (List Nat)} {k : Nat} (hk : k < xss.length) (h : finA xss[k] = false) : frB xss = false := decide_eq_false fun hh => by rw [hh k hk] at h; cases h
theorem frTo_succ {xss : List (List Nat)} {k : Nat} (hk : k < xss.length) (h : FrTo xss k) (h1 : finA xss[k] = true) : FrTo xss (k + 1) := by
  intro i hi hik
  by_cases he : i = k
  · subst he; exact h1
  · exact h i hi (by omega)
def LnTo (xss : List (List Nat)) (k : Nat) : Prop := ∀ i (h : i < xss.length), i < k → xss[i].length = (xss.getD 0 []).length
theorem rwB_fr {xss : List (List Nat)} {most : Nat} (h1 : 1 ≤ xss.length) (h2 : xss.length ≤ most) (h3 : 1 ≤ (xss.getD 0 []).length) (h4 : (xss.getD 0 []).length ≤ 128) (h : LnTo xss xss.length) : rwB xss most = frB xss := by
  unfold rwB
  rw [decide_eq_true ⟨h1, h2⟩, Bool.true_and]
  have key : ∀ i (hi : i < xss.length), okRow xss xss[i] = finA xss[i] := by
    intro i hi
    have hl := h i hi hi
    unfold okRow
    rw [isL_mid (by omega) (by omega), decide_eq_true hl, Bool.and_true]
  unfold rwE frB
  rw [decide_eq_decide]
  constructor
  · intro a i hi; rw [← key i hi]; exact a i hi
  · intro a i hi; rw [key i hi]; exact a i hi
theorem rwB_out {xss : List (List Nat)} {most : Nat} (h : rwB xss most = true) : 1 ≤ xss.length ∧ xss.length ≤ most ∧ 1 ≤ (xss.getD 0 []).length ∧ (xss.getD 0 []).length ≤ 128 ∧ ∀ i (hi : i < xss.length), xss[i].length = (xss.getD 0 []).length ∧ finA xss[i] = true := by
  unfold rwB at h
  rw [Bool.and_eq_true] at h
  obtain ⟨h1, h2⟩ := h
  obtain ⟨a, b⟩ := of_decide_eq_true h1
  have h3 : ∀ i (hi : i < xss.length), okRow xss xss[i] = true := of_decide_eq_true h2
  have h4 : ∀ i (hi : i < xss.length), isL xss[i] = true ∧ xss[i].length = (xss.getD 0 []).length := fun i hi => by
    have := h3 i hi
    unfold okRow at this
    rw [Bool.and_eq_true] at this
    exact ⟨this.1, of_decide_eq_true this.2⟩
  have h0 := isL_len (h4 0 (by omega)).1
  have e0 : (xss.getD 0 []) = xss[0]'(by omega) := by simp [List.getD, show 0 < xss.length by omega]
  refine ⟨a, b, by rw [e0]; exact h0.1, by rw [e0]; exact h0.2.1, fun i hi => ⟨(h4 i hi).2, (isL_len (h4 i hi).1).2.2⟩⟩

theorem fr1_any (v : Value) (xs : List Nat) (w : World) (B : Nat) (h : Rd w B v (fl xs)) (hm : xs.length ≤ 1048576) (hx : ∀ x ∈ xs, x < 2 ^ 32) :
    Calls Try.prog 114 #[v] w (RetBo (!finA xs) w) := by
  obtain ⟨A, c, hv, _, _, _⟩ := id h
  rw [fl_len] at hv
  subst hv
  have HF := Lib.hid (finI_any _ xs w B h hm hx)
  clear hx
  generalize finA xs = b at *
  go_enter Try.func114, Try.ntmps114
  go_wp2_with fail
  refine HF.out.mono ?_
  rintro e w1 ⟨rfl, n, rfl⟩
  go_wp2_with fail
  go_ret
  exact ⟨rfl, _, rfl⟩
def RetIx (xss : List (List Nat)) (w : World) (e : Ending) (w' : World) : Prop := ∃ (r : Int) (n : Nat), e = .returned (.int .i64 r) ∧ (frB xss = true → r = -1) ∧ (frB xss = false → 0 ≤ r ∧ r ≤ 1048576) ∧ w' = w.drewN n
def IxRel (w0 : World) (xss : List (List Nat)) (i : Value) (wr : World) : Prop := ∃ k m : Nat, k ≤ xss.length ∧ i = .int .i64 k ∧ FrTo xss k ∧ wr = w0.drewN m
set_option maxRecDepth 100000 in
set_option maxHeartbeats 1000000 in
theorem ixI_any (v : Value) (xss : List (List Nat)) (w : World) (B : Nat) (h : RdL w B v (fll xss)) (hm : xss.length ≤ 1048576) (hm2 : ∀ xs ∈ xss, xs.length ≤ 1048576) (hx : ∀ xs ∈ xss, ∀ x ∈ xs, x < 2 ^ 32) :
    Calls Try.prog 138 #[v, .func (.func 114) #[] #[]] w (RetIx xss w) := by
  obtain ⟨vs, ho, hls⟩ := h
  have hlen : vs.length = xss.length := by rw [hls.1, fll_len]
  obtain ⟨A, c, hv, hc1, hc2, hcell⟩ := id ho
  have hvl : v = .slice A xss.length c := by rw [hv, hlen]
  clear hv hc1 hc2
  subst hvl
  have HC := Lib.hid hcell
  have HL := Lib.hid hls
  have HM := Lib.hid hm2
  have HX := Lib.hid hx
  clear hcell hls hm2 hx ho
  go_enter Try.func138, Try.ntmps138
  go_wp2
  go_loopw [8] (IxRel w xss) (fun i _ => xss.length - (intOf i).toNat)
  case atStart => exact ⟨0, 0, Nat.zero_le _, rfl, fun i _ h => by omega, rfl⟩
  case round =>
    obtain ⟨k, m, hk, rfl, ht, rfl⟩ := hrel
    have HT := Lib.hid ht
    clear ht
    by_cases hlt : k < xss.length
    · obtain ⟨b, off, rfl, hbw, hcc⟩ := HC.out (by omega)
      have hx : vs[k]? = some vs[k] := List.getElem?_eq_getElem (by omega)
      have hsrc : w.cell? ⟨b, off + k, none⟩ = some vs[k] := hcc k _ hx
      have hox := HL.out.2 k _ _ hx (fll_get _ _ hlt)
      have HF := Lib.hid (fr1_any _ xss[k] (w.drewN m) B (hox.drewN _) (HM.out _ (List.getElem_mem hlt)) (HX.out _ (List.getElem_mem hlt)))
      obtain ⟨Ax, cx, hxv, _, _, _⟩ := id hox
      rw [fl_len] at hxv
      generalize vs[k] = x at *
      subst hxv
      clear hcc hx hox HC HL HM HX hlen
      cases hf : finA xss[k] with
      | true =>
        have HN := Lib.hid (frTo_succ hlt HT.out hf)
        rw [hf] at HF
        clear hf
        generalize xss[k].length = n at *
        go_wp2_with fail
        refine HF.out.mono ?_
        rintro e w1 ⟨rfl, q, rfl⟩
        go_wp2_with fail
        go_roundw
        case rel => exact ⟨k + 1, _, by omega, by go_num, HN.out, rfl⟩
        case measure => simp [intOf]; omega
      | false =>
        have HN := Lib.hid (frB_no hlt hf)
        rw [hf] at HF
        clear hf
        generalize xss[k].length = n at *
        go_wp2_with fail
        refine HF.out.mono ?_
        rintro e w1 ⟨rfl, q, rfl⟩
        go_wp2_with fail
        go_ret
        exact ⟨_, _, rfl, (fun hh => by rw [HN.out] at hh; cases hh), (fun _ => by omega), rfl⟩
    · obtain rfl : k = xss.length := by omega
      have HN := Lib.hid (frB_yes HT.out)
      go_wp2
      go_ret
      exact ⟨_, _, rfl, (fun _ => rfl), (fun hh => by rw [HN.out] at hh; cases hh), rfl⟩
theorem coI_any (v : Value) (xss : List (List Nat)) (w : World) (B : Nat) (h : RdL w B v (fll xss)) (hm : xss.length ≤ 1048576) (hm2 : ∀ xs ∈ xss, xs.length ≤ 1048576) (hx : ∀ xs ∈ xss, ∀ x ∈ xs, x < 2 ^ 32) :
    Calls Try.prog 113 #[v, .func (.func 114) #[] #[]] w (RetBo (!frB xss) w) := by
  have HI := Lib.hid (ixI_any v xss w B h hm hm2 hx)
  obtain ⟨vs, ho, hls⟩ := h
  obtain ⟨A, c, hv, _, _, _⟩ := id ho
  subst hv
  clear ho hls hm hm2 hx
  cases hb : frB xss with
  | true =>
    have HB := Lib.hid hb
    clear hb
    go_enter Try.func113, Try.ntmps113
    go_wp2_with fail
    refine HI.out.mono ?_
    rintro e w1 ⟨r, n, rfl, h1, h2, rfl⟩
    obtain rfl := h1 HB.out
    clear h1 h2
    go_wp2_with fail
    go_ret
    exact ⟨rfl, _, rfl⟩
  | false =>
    have HB := Lib.hid hb
    clear hb
    go_enter Try.func113, Try.ntmps113
    go_wp2_with fail
    refine HI.out.mono ?_
    rintro e w1 ⟨r, n, rfl, h1, h2, rfl⟩
    obtain ⟨h3, h4⟩ := h2 HB.out
    clear h1 h2
    have hd : decide (0 ≤ r) = true := decide_eq_true h3
    go_wp2_with fail
    go_ret
    first | exact ⟨rfl, _, rfl⟩ | exact ⟨by rw [← hd]; rfl, _, rfl⟩
theorem afr_any (v : Value) (xss : List (List Nat)) (w : World) (B : Nat) (h : RdL w B v (fll xss)) (hm : xss.length ≤ 1048576) (hm2 : ∀ xs ∈ xss, xs.length ≤ 1048576) (hx : ∀ xs ∈ xss, ∀ x ∈ xs, x < 2 ^ 32) :
    Calls Try.prog 81 #[v] w (RetBo (frB xss) w) := by
  have HI := Lib.hid (coI_any v xss w B h hm hm2 hx)
  obtain ⟨vs, ho, hls⟩ := h
  obtain ⟨A, c, hv, _, _, _⟩ := id ho
  subst hv
  clear ho hls hm hm2 hx
  cases hb : frB xss with
  | true =>
    rw [hb] at HI
    clear hb
    go_enter Try.func81, Try.ntmps81
    go_wp2_with fail
    refine HI.out.mono ?_
    rintro e w1 ⟨rfl, n, rfl⟩
    go_wp2_with fail
    go_ret
    exact ⟨rfl, _, rfl⟩
  | false =>
    rw [hb] at HI
    clear hb
    go_enter Try.func81, Try.ntmps81
    go_wp2_with fail
    refine HI.out.mono ?_
    rintro e w1 ⟨rfl, n, rfl⟩
    go_wp2_with fail
    go_ret
    exact ⟨rfl, _, rfl⟩
def LnRel (w0 : World) (xss : List (List Nat)) (i : Value) (wr : World) : Prop := ∃ k : Nat, k ≤ xss.length ∧ i = .int .i64 k ∧ LnTo xss k ∧ w0 = wr
set_option maxRecDepth 100000 in
set_option maxHeartbeats 1000000 in
theorem arI_any (v : Value) (xss : List (List Nat)) (most : Nat) (w : World) (B : Nat) (h : RdL w B v (fll xss)) (hm : xss.length ≤ 1048576) (hm2 : ∀ xs ∈ xss, xs.length ≤ 1048576) (hx : ∀ xs ∈ xss, ∀ x ∈ xs, x < 2 ^ 32) (hmost : most ≤ 12) :
    Calls Try.prog 71 #[v, .int .i64 most] w (RetBo (rwB xss most) w) := by
  have HA := Lib.hid (afr_any v xss w B h hm hm2 hx)
  obtain ⟨vs, ho, hls⟩ := h
  have hlen : vs.length = xss.length := by rw [hls.1, fll_len]
  obtain ⟨A, c, hv, hc1, hc2, hcell⟩ := id ho
  have hvl : v = .slice A xss.length c := by rw [hv, hlen]
  clear hv hc1 hc2
  subst hvl
  by_cases h1 : xss.length < 1
  · have HV := Lib.hid (show rwB xss most = false by unfold rwB; rw [decide_eq_false (by omega)]; rfl)
    clear hcell ho hls hx hm2
    go_enter Try.func71, Try.ntmps71
    go_wp2_with fail
    go_ret
    rw [HV.out]
    exact ⟨rfl, 0, rfl⟩
  by_cases h2 : most < xss.length
  · have HV := Lib.hid (show rwB xss most = false by unfold rwB; rw [decide_eq_false (by omega)]; rfl)
    clear hcell ho hls hx hm2
    go_enter Try.func71, Try.ntmps71
    go_wp2_with fail
    go_ret
    rw [HV.out]
    exact ⟨rfl, 0, rfl⟩
  have h1' : 1 ≤ xss.length := by omega
  have h2' : xss.length ≤ most := by omega
  clear h1 h2
  obtain ⟨b, off, rfl, hbw, hcc⟩ := hcell (by omega)
  have e0 : xss[0]'(by omega) = xss.getD 0 [] := by simp [List.getD, show 0 < xss.length by omega]
  have hx0 : vs[0]? = some (vs[0]'(by omega)) := List.getElem?_eq_getElem (by omega)
  have hs0 : w.cell? ⟨b, off, none⟩ = some (vs[0]'(by omega)) := hcc 0 _ hx0
  obtain ⟨n0, hn0⟩ : ∃ n0, n0 = (xss.getD 0 []).length := ⟨_, rfl⟩
  have HN0 := Lib.hid hn0
  have hr0 := hls.2 0 _ _ hx0 (fll_get _ _ (by omega))
  have hml0 : (xss[0]'(by omega)).length ≤ 1048576 := hm2 _ (List.getElem_mem _)
  have HL0 := Lib.hid (lenL_any _ (xss[0]'(by omega)) w B hr0 hml0)
  obtain ⟨A0, c0, hv0, _, _, _⟩ := id hr0
  rw [fl_len] at hv0
  rw [e0, ← hn0] at hv0 HL0 hml0
  have HCC := Lib.hid hcc
  have HLS := Lib.hid hls
  have HV0 := Lib.hid hv0
  rw [hv0] at hs0 HL0
  clear hcell hcc hls ho hx0 hr0 hv0 hx hm2 e0 hn0
  cases hl : lenLB n0 with
  | false =>
    have hl' := of_decide_eq_false hl
    have HV := Lib.hid (show rwB xss most = false by
      cases hb : rwB xss most with
      | false => rfl
      | true => have := rwB_out hb; have := HN0.out; omega)
    rw [hl] at HL0
    clear hl hl'
    go_enter Try.func71, Try.ntmps71
    go_wp2_with fail
    refine HL0.out.mono ?_
    rintro e w1 ⟨rfl, rfl⟩
    go_wp2_with fail
    go_ret
    rw [HV.out]
    exact ⟨rfl, 0, rfl⟩
  | true =>
    have hl' := of_decide_eq_true hl
    rw [hl] at HL0
    clear hl
    go_enter Try.func71, Try.ntmps71
    go_wp2_with fail
    refine HL0.out.mono ?_
    rintro e w1 ⟨rfl, rfl⟩
    go_wp2_with fail
    go_loopw [25] (LnRel w xss) (fun i _ => xss.length - (intOf i).toNat)
    case atStart => exact ⟨0, Nat.zero_le _, rfl, fun i _ h => by omega, rfl⟩
    case round =>
      obtain ⟨k, hk, rfl, ht, rfl⟩ := hrel
      have HT := Lib.hid ht
      clear ht
      by_cases hlt : k < xss.length
      · have hx : vs[k]? = some vs[k] := List.getElem?_eq_getElem (by omega)
        have hsrc : w.cell? ⟨b, off + k, none⟩ = some vs[k] := HCC.out k _ hx
        have hox := HLS.out.2 k _ _ hx (fll_get _ _ hlt)
        obtain ⟨Ax, cx, hxv, _, _, _⟩ := id hox
        rw [fl_len] at hxv
        rw [hxv] at hsrc
        clear hx hox hxv
        by_cases he : xss[k].length = n0
        · have HN := Lib.hid (show LnTo xss (k + 1) from fun i hi hik => by
            by_cases hik' : i = k
            · subst hik'; rw [← HN0.out]; exact he
            · exact HT.out i hi (by omega))
          have hne : (((xss[k].length : Nat) : Int) != ((n0 : Nat) : Int)) = false := by rw [bne_eq_false_iff_eq]; omega
          clear he
          generalize xss[k].length = n at *
          go_wp2_with fail
          go_roundw
          case rel => exact ⟨k + 1, by omega, by go_num, HN.out, rfl⟩
          case measure => simp [intOf]; omega
        · have HN := Lib.hid (show rwB xss most = false by
            cases hb : rwB xss most with
            | false => rfl
            | true => exact absurd (by rw [HN0.out]; exact ((rwB_out hb).2.2.2.2 k hlt).1) he)
          have hne : (((xss[k].length : Nat) : Int) != ((n0 : Nat) : Int)) = true := by rw [bne_iff_ne]; omega
          clear he
          generalize xss[k].length = n at *
          go_wp2_with fail
          go_ret
          rw [HN.out]
          exact ⟨rfl, 0, rfl⟩
      · obtain rfl : k = xss.length := by omega
        have HN := Lib.hid (rwB_fr h1' h2' (by rw [← HN0.out]; exact hl'.1) (by rw [← HN0.out]; exact hl'.2) HT.out)
        go_wp2_with fail
        refine HA.out.mono ?_
        rintro e w1 ⟨rfl, n, rfl⟩
        go_wp2_with fail
        go_ret
        rw [HN.out]
        exact ⟨rfl, _, rfl⟩
theorem quietBo' {P : Program} {F : FuncId} {gs : Array Value} {b : Bool} {w : World} {n : Nat} (h : Calls P F gs (w.drewN n) (RetBo b (w.drewN n))) : Calls P F gs (w.drewN n) fun e w'' => e = .returned (.bool b) ∧ ∃ m, w'' = w.drewN m := Calls.quiet_of h
def RwRel (w0 : World) (xss : List (List Nat)) (i : Value) (wr : World) : Prop := ∃ k m : Nat, k ≤ xss.length ∧ i = .int .i64 k ∧ RwTo xss k ∧ wr = w0.drewN m
set_option maxRecDepth 100000 in
set_option maxHeartbeats 1000000 in
theorem arS_any (v : Value) (xss : List (List Nat)) (most : Nat) (w : World) (B : Nat) (h : RdL w B v (fll xss)) (hm : xss.length ≤ 1048576) (hm2 : ∀ xs ∈ xss, xs.length ≤ 1048576) (hx : ∀ xs ∈ xss, ∀ x ∈ xs, x < 2 ^ 32) (hmost : most ≤ 12) :
    Calls Try.prog 70 #[v, .int .i64 most] w (RetBo (rwB xss most) w) := by
  obtain ⟨vs, ho, hls⟩ := h
  have hlen : vs.length = xss.length := by rw [hls.1, fll_len]
  obtain ⟨A, c, hv, hc1, hc2, hcell⟩ := id ho
  have hvl : v = .slice A xss.length c := by rw [hv, hlen]
  clear hv hc1 hc2
  subst hvl
  by_cases h1 : xss.length < 1
  · have HV := Lib.hid (show rwB xss most = false by unfold rwB; rw [decide_eq_false (by omega)]; rfl)
    clear hcell ho hls hx hm2
    go_enter Try.func70, Try.ntmps70
    go_wp2_with fail
    go_ret
    rw [HV.out]
    exact ⟨rfl, 0, rfl⟩
  by_cases h2 : most < xss.length
  · have HV := Lib.hid (show rwB xss most = false by unfold rwB; rw [decide_eq_false (by omega)]; rfl)
    clear hcell ho hls hx hm2
    go_enter Try.func70, Try.ntmps70
    go_wp2_with fail
    go_ret
    rw [HV.out]
    exact ⟨rfl, 0, rfl⟩
  have h1' : 1 ≤ xss.length := by omega
  have h2' : xss.length ≤ most := by omega
  clear h1 h2
  have HRW := Lib.hid (show rwB xss most = rwE xss by unfold rwB; rw [decide_eq_true ⟨h1', h2'⟩]; rfl)
  obtain ⟨b, off, rfl, hbw, hcc⟩ := hcell (by omega)
  have e0 : xss[0]'(by omega) = xss.getD 0 [] := by simp [List.getD, show 0 < xss.length by omega]
  have hx0 : vs[0]? = some (vs[0]'(by omega)) := List.getElem?_eq_getElem (by omega)
  have hs0 : w.cell? ⟨b, off, none⟩ = some (vs[0]'(by omega)) := hcc 0 _ hx0
  have hr0 := hls.2 0 _ _ hx0 (fll_get _ _ (by omega))
  obtain ⟨n0, hn0⟩ : ∃ n0, n0 = (xss.getD 0 []).length := ⟨_, rfl⟩
  have HN0 := Lib.hid hn0
  obtain ⟨A0, c0, hv0, _, _, _⟩ := id hr0
  rw [fl_len, e0, ← hn0] at hv0
  rw [hv0] at hs0
  have HCC := Lib.hid hcc
  have HLS := Lib.hid hls
  have HX := Lib.hid hx
  have HM := Lib.hid hm2
  clear hcell hcc hls ho hx0 hr0 hv0 hx hm2 e0 hn0
  go_enter Try.func70, Try.ntmps70
  go_wp2
  go_loopw [17] (RwRel w xss) (fun i _ => xss.length - (intOf i).toNat)
  case atStart => exact ⟨0, 0, Nat.zero_le _, rfl, fun i _ h => by omega, rfl⟩
  case round =>
    obtain ⟨k, m, hk, rfl, ht, rfl⟩ := hrel
    have HT := Lib.hid ht
    clear ht
    by_cases hlt : k < xss.length
    · have hx : vs[k]? = some vs[k] := List.getElem?_eq_getElem (by omega)
      have hsrc : w.cell? ⟨b, off + k, none⟩ = some vs[k] := HCC.out k _ hx
      have hox := HLS.out.2 k _ _ hx (fll_get _ _ hlt)
      have HF := Lib.hid (fun n => lngS_any _ xss[k] (w.drewN n) B (hox.drewN _) (HM.out _ (List.getElem_mem hlt)) (HX.out _ (List.getElem_mem hlt)))
      obtain ⟨Ax, cx, hxv, _, _, _⟩ := id hox
      rw [fl_len] at hxv
      generalize vs[k] = x at *
      subst hxv
      clear hx hox
      have hk1 : (k : Int) < (xss.length : Int) := by omega
      have hk2 : (0 : Int) < (xss.length : Int) := by omega
      cases hf : isL xss[k] with
      | false =>
        have HN := Lib.hid (rwE_no hlt (show okRow xss xss[k] = false by unfold okRow; rw [hf]; rfl))
        rw [hf] at HF
        clear hf
        generalize xss[k].length = n at *
        have HQ := Lib.hid (fun a => (HF.out (m + a)).mono (R' := fun e w'' => e = .returned (.bool false) ∧ ∃ q, w'' = w.drewN (m + q)) fun e w' ⟨he, q, hw⟩ => ⟨he, a + q, by rw [hw, World.drewN_drewN, Nat.add_assoc]⟩)
        clear HF
        go_wp2_with fail
        go_quiet ((exact HQ.out _))
        go_wp2
        go_ret
        rw [HRW.out, HN.out]
        exact ⟨rfl, m + nq, by first | rfl | (rw [World.drewN_drewN])⟩
      | true =>
        rw [hf] at HF
        by_cases he : xss[k].length = n0
        · have HN := Lib.hid (rwTo_succ hlt HT.out (show okRow xss xss[k] = true by unfold okRow; rw [hf, decide_eq_true (by rw [← HN0.out]; exact he)]; rfl))
          have hne : (((xss[k].length : Nat) : Int) != ((n0 : Nat) : Int)) = false := by rw [bne_eq_false_iff_eq]; omega
          clear he hf
          generalize xss[k].length = n at *
          have HQ := Lib.hid (fun a => (HF.out (m + a)).mono (R' := fun e w'' => e = .returned (.bool true) ∧ ∃ q, w'' = w.drewN (m + q)) fun e w' ⟨he, q, hw⟩ => ⟨he, a + q, by rw [hw, World.drewN_drewN, Nat.add_assoc]⟩)
          clear HF
          go_wp2_with fail
          go_quiet ((exact HQ.out _))
          go_wp2
          go_roundw
          case rel => exact ⟨k + 1, m + nq, by omega, by go_num, HN.out, by first | rfl | (rw [World.drewN_drewN])⟩
          case measure => simp [intOf]; omega
        · have HN := Lib.hid (rwE_no hlt (show okRow xss xss[k] = false by unfold okRow; rw [hf, decide_eq_false (by rw [← HN0.out]; exact he)]; rfl))
          have hne : (((xss[k].length : Nat) : Int) != ((n0 : Nat) : Int)) = true := by rw [bne_iff_ne]; omega
          clear he hf
          generalize xss[k].length = n at *
          have HQ := Lib.hid (fun a => (HF.out (m + a)).mono (R' := fun e w'' => e = .returned (.bool true) ∧ ∃ q, w'' = w.drewN (m + q)) fun e w' ⟨he, q, hw⟩ => ⟨he, a + q, by rw [hw, World.drewN_drewN, Nat.add_assoc]⟩)
          clear HF
          go_wp2_with fail
          go_quiet ((exact HQ.out _))
          go_wp2
          go_ret
          rw [HRW.out, HN.out]
          exact ⟨rfl, m + nq, by first | rfl | (rw [World.drewN_drewN])⟩
    · obtain rfl : k = xss.length := by omega
      have HN := Lib.hid (rwE_yes HT.out)
      go_wp2
      go_ret
      rw [HRW.out, HN.out]
      exact ⟨rfl, _, rfl⟩
end Go.Proofs.Ytfhngajodfjkeab
