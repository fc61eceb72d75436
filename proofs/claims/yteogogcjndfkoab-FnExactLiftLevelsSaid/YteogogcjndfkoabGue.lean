/-
  Contracts: what evens tell of odds and odds of evens, for lists of int64, by the model.
-/
import Derived.Test.YteogogcjndfkoabHalf
import Derived.Test.YteogogcjndfkoabMir
namespace Go.Proofs.Yteogogcjndfkoab
open Go.RowKit
set_option linter.unusedVariables false

def Bds (M : Int) (xs : List Int) : Prop := ∀ x ∈ xs, -M ≤ x ∧ x ≤ M
theorem Bds.at {M : Int} {xs : List Int} (h : Bds M xs) (k : Nat) (hk : k < xs.length) : -M ≤ xs[k] ∧ xs[k] ≤ M := h _ (List.getElem_mem hk)
theorem Bds.getD {M : Int} {xs : List Int} (h : Bds M xs) (hM : 0 ≤ M) (k : Nat) : -M ≤ xs.getD k 0 ∧ xs.getD k 0 ≤ M := by
  by_cases hk : k < xs.length
  · have := h.at k hk; simpa [List.getD, hk] using this
  · simp [List.getD, hk]; omega
theorem tdiv_neg' {a : Int} {b : Int} (h : a < 0) : a.tdiv b = -((-a).tdiv b) ∧ a.tmod b = -((-a).tmod b) := by
  constructor
  · rw [Int.neg_tdiv, Int.neg_neg]
  · rw [Int.neg_tmod, Int.neg_neg]
theorem floor_parts (a b : Int) (hb : b = 2 ∨ b = 4 ∨ b = 16) :
    (a.tmod b < 0 → a.tdiv b - 1 = a / b) ∧ (0 ≤ a.tmod b → a.tdiv b = a / b) ∧ (-(a.natAbs : Int) ≤ a.tdiv b ∧ a.tdiv b ≤ a.natAbs) := by
  by_cases h : a < 0
  · obtain ⟨h1, h2⟩ := tdiv_neg' (b := b) h
    rw [h1, h2, Int.tdiv_eq_ediv_of_nonneg (by omega), Int.tmod_eq_emod_of_nonneg (by omega)]
    rcases hb with rfl | rfl | rfl <;> omega
  · rw [Int.tdiv_eq_ediv_of_nonneg (by omega), Int.tmod_eq_emod_of_nonneg (by omega)]
    rcases hb with rfl | rfl | rfl <;> omega
set_option maxHeartbeats 400000 in
theorem downS (a b : Int) (w : World) (hb : b = 2 ∨ b = 4 ∨ b = 16) (h0 : -1000000000000000 ≤ a) (h1 : a ≤ 1000000000000000) :
    Calls Try.prog 115 #[.int .i64 a, .int .i64 b] w fun e w' => e = .returned (.int .i64 (a / b)) ∧ w = w' := by
  obtain ⟨p1, p2, p3, p4⟩ := floor_parts a b hb
  have hb0 : 0 < b := by omega
  have hb1 : b ≤ 16 := by omega
  have q1 : -1000000000000000 ≤ a.tdiv b := by omega
  have q2 : a.tdiv b ≤ 1000000000000000 := by omega
  have P1 := Lib.hid p1
  have P2 := Lib.hid p2
  clear p1 p2 p3 p4
  by_cases ht : a.tmod b < 0
  · have HR := Lib.hid (P1.out ht)
    clear hb
    go_enter Try.func115, Try.ntmps115
    go_wp2
    go_ret
    exact ⟨ret_i HR.out, rfl⟩
  · have ht' : 0 ≤ a.tmod b := by omega
    have HR := Lib.hid (P2.out ht')
    clear hb ht
    go_enter Try.func115, Try.ntmps115
    go_wp2
    go_ret
    exact ⟨ret_i HR.out, rfl⟩
/-- The place in n numbers that is nearest to i. -/
def nrI (n : Nat) (i : Int) : Nat := (max 0 (min ((n : Int) - 1) i)).toNat
theorem nrI_lt {n : Nat} (i : Int) (h : 0 < n) : nrI n i < n := by unfold nrI; omega
theorem mir_nat (n : Nat) (i : Int) (h : 0 < n) : (mir n i).toNat < n ∧ mir n i = ((mir n i).toNat : Int) := by
  have := mir_bd n i (by omega)
  omega
theorem mir_in {n i : Int} (h0 : 0 ≤ i) (h1 : i < n) : mir n i = i := by
  by_cases hn : n = 1
  · subst hn; unfold mir; rw [if_pos rfl]; omega
  · rw [mir_j hn (j := i) (by rw [Int.tmod_eq_emod_of_nonneg h0]; exact Int.emod_eq_of_lt h0 (by omega))]
    rw [if_neg (show ¬ i < 0 by omega), if_neg (by omega)]
set_option maxHeartbeats 400000 in
theorem nearS (v : Value) (xs : List Int) (i : Int) (w : World) (B : Nat) (h : Rd w B v (il xs)) (hm : xs.length ≤ 1048576) (hp : 0 < xs.length) (h0 : -1 ≤ i) (h1 : i ≤ 2000000) :
    Calls Try.prog 116 #[v, .int .i64 i] w fun e w' => e = .returned (.int .i64 (xs.getD (nrI xs.length i) 0)) ∧ w = w' := by
  obtain ⟨A, c, hv, hc1, hc2, hcell⟩ := h
  rw [il_len] at hv hc1 hcell
  subst hv
  obtain ⟨b, off, rfl, hbl, hcc⟩ := hcell hp
  have hj := nrI_lt i hp
  have hcl := hcc _ _ (il_get xs (nrI xs.length i) hj)
  rw [show xs[nrI xs.length i] = xs.getD (nrI xs.length i) 0 by simp [List.getD, hj]] at hcl
  obtain ⟨m, hmd⟩ : ∃ m, m = min ((xs.length : Int) - 1) i := ⟨_, rfl⟩
  have hmn : max 0 m = ((nrI xs.length i : Nat) : Int) := by unfold nrI; omega
  have hmin : ∀ (ts : Array TypeId) (t : TypeId) (W : World), (Builtin.min_ ts t #[.int .i64 ((xs.length : Int) - 1), .int .i64 i]).run Try.prog W = .ok (.int .i64 m) W := fun ts t W => by
    rw [run_min_int2, show (if i < (xs.length : Int) - 1 then i else (xs.length : Int) - 1) = m by rw [hmd]; split <;> omega]
  generalize xs.getD (nrI xs.length i) 0 = x at *
  generalize nrI xs.length i = j at *
  have hmax : ∀ (ts : Array TypeId) (t : TypeId) (W : World), (Builtin.max_ ts t #[.int .i64 0, .int .i64 m]).run Try.prog W = .ok (.int .i64 (j : Int)) W := fun ts t W => by
    rw [run_max_int2, show (if 0 < m then m else 0) = (j : Int) by rw [← hmn]; split <;> omega]
  clear hcc hcell hmd hmn
  go_enter Try.func116, Try.ntmps116
  go_wp2
  go_ret
  exact ⟨rfl, rfl⟩
set_option maxHeartbeats 400000 in
theorem mirrS (v : Value) (xs : List Int) (i : Int) (w : World) (B : Nat) (h : Rd w B v (il xs)) (hm : xs.length ≤ 1000) (hp : 0 < xs.length) (h0 : -2000000 ≤ i) (h1 : i ≤ 2000000) :
    Calls Try.prog 117 #[v, .int .i64 i] w fun e w' => e = .returned (.int .i64 (xs.getD (mir xs.length i).toNat 0)) ∧ w = w' := by
  obtain ⟨A, c, hv, hc1, hc2, hcell⟩ := h
  rw [il_len] at hv hc1 hcell
  subst hv
  obtain ⟨b, off, rfl, hbl, hcc⟩ := hcell hp
  obtain ⟨hj, hje⟩ := mir_nat xs.length i hp
  have hcl := hcc _ _ (il_get xs (mir xs.length i).toNat hj)
  rw [show xs[(mir xs.length i).toNat] = xs.getD (mir xs.length i).toNat 0 by simp [List.getD, hj]] at hcl
  have HJ := Lib.hid hje
  generalize xs.getD (mir xs.length i).toNat 0 = x at *
  generalize (mir xs.length i).toNat = j at *
  clear hcc hcell hje
  go_enter Try.func117, Try.ntmps117
  go_wp2_with (go_at_call 126; refine (mirS_any _ _ _ (by omega) (by omega) h0 h1).mono ?_; rintro e w' ⟨rfl, rfl⟩; rw [HJ.out])
  go_ret
  exact ⟨rfl, rfl⟩

/-- What evens tell of the odd with the index i. -/
def gue (kind : Int) (low : List Int) (i : Nat) : Int :=
  if kind = 0 then low.getD i 0 else if kind = 1 then (low.getD i 0 + low.getD (nrI low.length ((i : Int) + 1)) 0) / 2
  else (9 * (low.getD i 0 + low.getD (mir low.length ((i : Int) + 1)).toNat 0) - (low.getD (mir low.length ((i : Int) - 1)).toNat 0 + low.getD (mir low.length ((i : Int) + 2)).toNat 0) + 8) / 16
/-- What odds tell of the even with the index i. -/
def gai (kind : Int) (high : List Int) (i : Nat) : Int :=
  if kind = 0 then (if i < high.length then high.getD i 0 / 2 else 0) else (high.getD (nrI high.length ((i : Int) - 1)) 0 + high.getD (nrI high.length (i : Int)) 0 + 2) / 4
def MB : Int := 10000000000
def RetI (x : Int) (w : World) (e : Ending) (w' : World) : Prop := e = .returned (.int .i64 x) ∧ ∃ n, w' = w.drewN n

set_option maxHeartbeats 1000000 in
theorem gueS (kind : Int) (v : Value) (xs : List Int) (i : Nat) (w : World) (B : Nat) (h : Rd w B v (il xs)) (hm : xs.length ≤ 128) (hi : i < xs.length) (hk0 : 0 ≤ kind) (hk2 : kind ≤ 2) (hB : Bds 10000000000 xs) :
    Calls Try.prog 97 #[.int .i64 kind, v, .int .i64 i] w (RetI (gue kind xs i) w) := by
  obtain ⟨A, c, hv, _, _, hcell⟩ := id h
  rw [il_len] at hv hcell
  subst hv
  obtain ⟨b, off, rfl, hbl, hcc⟩ := hcell (by omega)
  have hcl := hcc _ _ (il_get xs i hi)
  rw [show xs[i] = xs.getD i 0 by simp [List.getD, hi]] at hcl
  have hb0 := hB.getD (by omega) i
  have hk : kind = 0 ∨ kind = 1 ∨ kind = 2 := by omega
  rcases hk with rfl | rfl | rfl
  · unfold gue
    rw [if_pos rfl]
    generalize xs.getD i 0 = x at *
    clear hcc hcell
    go_enter Try.func97, Try.ntmps97
    go_wp2
    go_ret
    exact ⟨rfl, 0, rfl⟩
  · unfold gue
    rw [if_neg (by decide), if_pos rfl]
    have hn := fun n => nearS _ xs ((i : Int) + 1) (w.drewN n) B (h.drewN n) (by omega) (by omega) (by omega) (by omega)
    have hb1 := hB.getD (by omega) (nrI xs.length ((i : Int) + 1))
    generalize xs.getD i 0 = x at *
    generalize xs.getD (nrI xs.length ((i : Int) + 1)) 0 = y at *
    obtain ⟨b01, b02⟩ := hb0
    obtain ⟨b11, b12⟩ := hb1
    have hdn := fun n => downS (x + y) 2 (w.drewN n) (.inl rfl) (by omega) (by omega)
    have HN := Lib.hid hn
    have HD := Lib.hid hdn
    clear hcc hcell hn hdn
    go_enter Try.func97, Try.ntmps97
    go_wp2
    go_quiet ((first | (go_at_call 116; exact Calls.quiet_of_same ((HN.out _).mono fun e w' h => ⟨h.1, h.2.symm⟩)) | (go_at_call 115; exact Calls.quiet_of_same ((HD.out _).mono fun e w' h => ⟨h.1, h.2.symm⟩))))
    go_wp2
    go_ret
    exact ⟨rfl, _, rfl⟩
  · unfold gue
    rw [if_neg (by decide), if_neg (by decide)]
    have h1 := fun n => mirrS _ xs ((i : Int) + 1) (w.drewN n) B (h.drewN n) (by omega) (by omega) (by omega) (by omega)
    have h2 := fun n => mirrS _ xs ((i : Int) - 1) (w.drewN n) B (h.drewN n) (by omega) (by omega) (by omega) (by omega)
    have h3 := fun n => mirrS _ xs ((i : Int) + 2) (w.drewN n) B (h.drewN n) (by omega) (by omega) (by omega) (by omega)
    have hb1 := hB.getD (by omega) (mir xs.length ((i : Int) + 1)).toNat
    have hb2 := hB.getD (by omega) (mir xs.length ((i : Int) - 1)).toNat
    have hb3 := hB.getD (by omega) (mir xs.length ((i : Int) + 2)).toNat
    generalize xs.getD i 0 = x at *
    generalize xs.getD (mir xs.length ((i : Int) + 1)).toNat 0 = y at *
    generalize xs.getD (mir xs.length ((i : Int) - 1)).toNat 0 = z at *
    generalize xs.getD (mir xs.length ((i : Int) + 2)).toNat 0 = u at *
    obtain ⟨b01, b02⟩ := hb0
    obtain ⟨b11, b12⟩ := hb1
    obtain ⟨b21, b22⟩ := hb2
    obtain ⟨b31, b32⟩ := hb3
    have hdn := fun w => downS (9 * (x + y) - (z + u) + 8) 16 w (.inr (.inr rfl)) (by omega) (by omega)
    have H1 := Lib.hid h1
    have H2 := Lib.hid h2
    have H3 := Lib.hid h3
    have HD := Lib.hid hdn
    clear hcc hcell h1 h2 h3 hdn
    go_enter Try.func97, Try.ntmps97
    go_wp2
    go_quiet ((go_at_call 117; exact Calls.quiet_of_same ((H1.out _).mono fun e w' h => ⟨h.1, h.2.symm⟩)))
    go_wp2_with fail
    refine (H2.out _).mono ?_
    rintro e w' ⟨rfl, rfl⟩
    go_wp2_with fail
    refine (H3.out _).mono ?_
    rintro e w' ⟨rfl, rfl⟩
    go_wp2_with fail
    refine (HD.out _).mono ?_
    rintro e w' ⟨rfl, rfl⟩
    go_wp2_with fail
    go_ret
    exact ⟨rfl, _, rfl⟩

set_option maxHeartbeats 1000000 in
theorem gaiS (kind : Int) (v : Value) (xs : List Int) (i : Nat) (w : World) (B : Nat) (h : Rd w B v (il xs)) (hm : xs.length ≤ 128) (hi : i ≤ 128) (hk0 : 0 ≤ kind) (hk2 : kind ≤ 2) (hB : Bds 10000000000 xs) :
    Calls Try.prog 98 #[.int .i64 kind, v, .int .i64 i] w (RetI (gai kind xs i) w) := by
  obtain ⟨A, c, hv, _, _, hcell⟩ := id h
  rw [il_len] at hv hcell
  subst hv
  by_cases hp : xs.length = 0
  · have hz : gai kind xs i = 0 := by
      have hx : xs = [] := List.eq_nil_of_length_eq_zero hp
      subst hx
      unfold gai
      split <;> simp
    rw [hz, hp]
    clear hcell hp hz h
    go_enter Try.func98, Try.ntmps98
    go_wp2
    go_ret
    exact ⟨rfl, 0, rfl⟩
  obtain ⟨b, off, rfl, hbl, hcc⟩ := hcell (by omega)
  have hne : (((xs.length : Nat) : Int) == 0) = false := by rw [beq_eq_false_iff_ne]; omega
  by_cases hk : kind = 0
  · subst hk
    unfold gai
    rw [if_pos rfl]
    by_cases hi2 : i < xs.length
    · rw [if_pos hi2]
      have hcl := hcc _ _ (il_get xs i hi2)
      rw [show xs[i] = xs.getD i 0 by simp [List.getD, hi2]] at hcl
      have hb0 := hB.getD (by omega) i
      generalize xs.getD i 0 = x at *
      obtain ⟨b01, b02⟩ := hb0
      have HD := Lib.hid (fun w => downS x 2 w (.inl rfl) (by omega) (by omega))
      clear hcc hcell hp
      go_enter Try.func98, Try.ntmps98
      go_wp2_with (go_at_call 115; refine (HD.out _).mono ?_; rintro e w' ⟨rfl, rfl⟩)
      go_ret
      exact ⟨rfl, 0, rfl⟩
    · rw [if_neg hi2]
      have hi3 : xs.length ≤ i := by omega
      clear hcc hcell hp hi2
      go_enter Try.func98, Try.ntmps98
      go_wp2
      go_ret
      exact ⟨rfl, 0, rfl⟩
  · unfold gai
    rw [if_neg hk]
    have hk' : ((kind : Int) == 0) = false := by rw [beq_eq_false_iff_ne]; exact hk
    have h1 := fun w' (hr : Rd w' B (.slice (some ⟨b, off, none⟩) xs.length c) (il xs)) => nearS _ xs ((i : Int) - 1) w' B hr (by omega) (by omega) (by omega) (by omega)
    have h2 := fun w' (hr : Rd w' B (.slice (some ⟨b, off, none⟩) xs.length c) (il xs)) => nearS _ xs (i : Int) w' B hr (by omega) (by omega) (by omega) (by omega)
    have hb1 := hB.getD (by omega) (nrI xs.length ((i : Int) - 1))
    have hb2 := hB.getD (by omega) (nrI xs.length (i : Int))
    generalize xs.getD (nrI xs.length ((i : Int) - 1)) 0 = x at *
    generalize xs.getD (nrI xs.length (i : Int)) 0 = y at *
    obtain ⟨b11, b12⟩ := hb1
    obtain ⟨b21, b22⟩ := hb2
    have H1 := Lib.hid h1
    have H2 := Lib.hid h2
    have HD := Lib.hid (fun w => downS (x + y + 2) 4 w (.inr (.inl rfl)) (by omega) (by omega))
    clear hcc hcell hp h1 h2 hk
    go_enter Try.func98, Try.ntmps98
    go_wp2_with fail
    refine (H1.out _ h).mono ?_
    rintro e w' ⟨rfl, rfl⟩
    go_wp2_with fail
    refine (H2.out _ h).mono ?_
    rintro e w' ⟨rfl, rfl⟩
    go_wp2_with fail
    refine (HD.out _).mono ?_
    rintro e w' ⟨rfl, rfl⟩
    go_wp2_with fail
    go_ret
    exact ⟨rfl, 0, rfl⟩
end Go.Proofs.Yteogogcjndfkoab
