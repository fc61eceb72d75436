/-
  Contracts: where a number of a band lies, of both sides.
-/
import Derived.Test.YteogogcjndfkoaaSz
namespace Go.Proofs.Yteogogcjndfkoaa
open Go.RowKit
set_option linter.unusedVariables false

def RetCv (a b : Int) (c : Bool) (w : World) (e : Ending) (w' : World) : Prop := e = .returned (.tuple #[.int .i64 a, .int .i64 b, .bool c]) ∧ Below w.heap.size w w'
theorem bs_true {n L : Int} (h : bsB n L = true) : 1 ≤ n ∧ n ≤ 128 ∧ 1 ≤ L ∧ L ≤ 6 := of_decide_eq_true h
theorem bsL_pos {n L : Int} (h : bsB n L = true) : 1 ≤ (bsL n L).length := by
  unfold bsL; rw [h]; exact (szF_len L.toNat n).1
theorem bsL_get (n L : Int) (b : Nat) (h : b < (bsL n L).length) : ∃ x, (bsL n L)[b]? = some x := ⟨_, List.getElem?_eq_getElem h⟩
theorem szF_bd (l : Nat) (n : Int) (h0 : 1 ≤ n) (h1 : n ≤ 128) : ∀ x ∈ szF l n, 1 ≤ x ∧ x ≤ 128 := by
  induction l generalizing n with
  | zero => intro x hx; simp [szF] at hx; omega
  | succ l ih =>
    intro x hx
    unfold szF at hx
    split at hx
    · simp at hx; omega
    · rcases List.mem_cons.1 hx with rfl | hx
      · omega
      · exact ih (n - n / 2) (by omega) (by omega) x hx
theorem bsL_bd {n L : Int} (h : bsB n L = true) {b : Nat} {x : Int} (hx : (bsL n L)[b]? = some x) : 1 ≤ x ∧ x ≤ 128 := by
  obtain ⟨h0, h1, _, _⟩ := bs_true h
  have : x ∈ bsL n L := List.mem_of_getElem? hx
  unfold bsL at this
  rw [h] at this
  exact szF_bd _ _ h0 h1 x this
theorem il_at {xs : List Int} {b : Nat} {x : Int} (h : xs[b]? = some x) : (il xs)[b]? = some (.int .i64 x) := by simp [il, h]
theorem szS_any' (n L : Int) (w : World) (h : bsB n L = true) :
    Calls Try.prog 70 #[.int .i64 n, .int .i64 L] w fun e w' => ∃ v, e = .returned v ∧ Own w' w.heap.size v (il (bsL n L)) ∧ Below w.heap.size w w' := by
  obtain ⟨h0, h1, h2, h3⟩ := bs_true h
  have hl : bsL n L = szF L.toNat n := by unfold bsL; rw [h]; rfl
  rw [hl]
  obtain ⟨K, rfl⟩ := Int.eq_ofNat_of_zero_le (by omega : 0 ≤ L)
  rw [Int.toNat_natCast]
  exact szS_any _ _ _ h0 h1 (by omega) (by omega)
set_option maxHeartbeats 1000000 in
theorem cvI_mid0 (n L i x : Int) (w : World) (h : bsB n L = true) (hl : 0 + 1 < (bsL n L).length) (hx : (bsL n L)[0]? = some x) (hi0 : 0 ≤ i) (hi1 : i < x) :
    Calls Try.prog 36 #[.int .i64 n, .int .i64 L, .int .i64 0, .int .i64 i] w (RetCv (2 * i + 1) 2 true w) := by
  have hx128 := bsL_bd h hx
  have hlm := bsL_len n L
  obtain ⟨hx1, hx2⟩ := hx128
  obtain ⟨p0, p1, p2, p3⟩ := bs_true h
  have HB := Lib.hid h
  clear h
  have hne : ((0 : Int) == ((bsL n L).length : Int) - 1) = false := by rw [beq_eq_false_iff_ne]; omega
  have HX := Lib.hid hx
  clear hx
  go_enter Try.func36, Try.ntmps36
  go_wp2_with (go_at_call 34; refine (bsI_any n L _).mono ?_; rintro e w1 ⟨v, rfl, ho, hb1⟩; rw [HB.out]; obtain ⟨A, c, hv, hc1, hc2, hcell⟩ := ho; rw [il_len] at hv hc1 hcell; subst hv; obtain ⟨blk, off, rfl, hlo, hbw, hcc, hfz⟩ := hcell (by omega); have hsrc := hcc 0 _ (il_at HX.out); clear hcc hfz hcell; (try rw [Nat.add_zero] at hsrc); generalize (bsL n L).length = m at *)
  go_ret3
  exact ⟨rfl, hb1⟩
set_option maxHeartbeats 1000000 in
theorem cvI_mid1 (n L i x : Int) (w : World) (h : bsB n L = true) (hl : 1 + 1 < (bsL n L).length) (hx : (bsL n L)[1]? = some x) (hi0 : 0 ≤ i) (hi1 : i < x) :
    Calls Try.prog 36 #[.int .i64 n, .int .i64 L, .int .i64 1, .int .i64 i] w (RetCv (4 * i + 2) 4 true w) := by
  have hx128 := bsL_bd h hx
  have hlm := bsL_len n L
  obtain ⟨hx1, hx2⟩ := hx128
  obtain ⟨p0, p1, p2, p3⟩ := bs_true h
  have HB := Lib.hid h
  clear h
  have hne : ((1 : Int) == ((bsL n L).length : Int) - 1) = false := by rw [beq_eq_false_iff_ne]; omega
  have HX := Lib.hid hx
  clear hx
  go_enter Try.func36, Try.ntmps36
  go_wp2_with (go_at_call 34; refine (bsI_any n L _).mono ?_; rintro e w1 ⟨v, rfl, ho, hb1⟩; rw [HB.out]; obtain ⟨A, c, hv, hc1, hc2, hcell⟩ := ho; rw [il_len] at hv hc1 hcell; subst hv; obtain ⟨blk, off, rfl, hlo, hbw, hcc, hfz⟩ := hcell (by omega); have hsrc := hcc 1 _ (il_at HX.out); clear hcc hfz hcell; (try rw [Nat.add_zero] at hsrc); generalize (bsL n L).length = m at *)
  go_ret3
  exact ⟨rfl, hb1⟩
set_option maxHeartbeats 1000000 in
theorem cvI_mid2 (n L i x : Int) (w : World) (h : bsB n L = true) (hl : 2 + 1 < (bsL n L).length) (hx : (bsL n L)[2]? = some x) (hi0 : 0 ≤ i) (hi1 : i < x) :
    Calls Try.prog 36 #[.int .i64 n, .int .i64 L, .int .i64 2, .int .i64 i] w (RetCv (8 * i + 4) 8 true w) := by
  have hx128 := bsL_bd h hx
  have hlm := bsL_len n L
  obtain ⟨hx1, hx2⟩ := hx128
  obtain ⟨p0, p1, p2, p3⟩ := bs_true h
  have HB := Lib.hid h
  clear h
  have hne : ((2 : Int) == ((bsL n L).length : Int) - 1) = false := by rw [beq_eq_false_iff_ne]; omega
  have HX := Lib.hid hx
  clear hx
  go_enter Try.func36, Try.ntmps36
  go_wp2_with (go_at_call 34; refine (bsI_any n L _).mono ?_; rintro e w1 ⟨v, rfl, ho, hb1⟩; rw [HB.out]; obtain ⟨A, c, hv, hc1, hc2, hcell⟩ := ho; rw [il_len] at hv hc1 hcell; subst hv; obtain ⟨blk, off, rfl, hlo, hbw, hcc, hfz⟩ := hcell (by omega); have hsrc := hcc 2 _ (il_at HX.out); clear hcc hfz hcell; (try rw [Nat.add_zero] at hsrc); generalize (bsL n L).length = m at *)
  go_ret3
  exact ⟨rfl, hb1⟩
set_option maxHeartbeats 1000000 in
theorem cvI_mid3 (n L i x : Int) (w : World) (h : bsB n L = true) (hl : 3 + 1 < (bsL n L).length) (hx : (bsL n L)[3]? = some x) (hi0 : 0 ≤ i) (hi1 : i < x) :
    Calls Try.prog 36 #[.int .i64 n, .int .i64 L, .int .i64 3, .int .i64 i] w (RetCv (16 * i + 8) 16 true w) := by
  have hx128 := bsL_bd h hx
  have hlm := bsL_len n L
  obtain ⟨hx1, hx2⟩ := hx128
  obtain ⟨p0, p1, p2, p3⟩ := bs_true h
  have HB := Lib.hid h
  clear h
  have hne : ((3 : Int) == ((bsL n L).length : Int) - 1) = false := by rw [beq_eq_false_iff_ne]; omega
  have HX := Lib.hid hx
  clear hx
  go_enter Try.func36, Try.ntmps36
  go_wp2_with (go_at_call 34; refine (bsI_any n L _).mono ?_; rintro e w1 ⟨v, rfl, ho, hb1⟩; rw [HB.out]; obtain ⟨A, c, hv, hc1, hc2, hcell⟩ := ho; rw [il_len] at hv hc1 hcell; subst hv; obtain ⟨blk, off, rfl, hlo, hbw, hcc, hfz⟩ := hcell (by omega); have hsrc := hcc 3 _ (il_at HX.out); clear hcc hfz hcell; (try rw [Nat.add_zero] at hsrc); generalize (bsL n L).length = m at *)
  go_ret3
  exact ⟨rfl, hb1⟩
set_option maxHeartbeats 1000000 in
theorem cvI_mid4 (n L i x : Int) (w : World) (h : bsB n L = true) (hl : 4 + 1 < (bsL n L).length) (hx : (bsL n L)[4]? = some x) (hi0 : 0 ≤ i) (hi1 : i < x) :
    Calls Try.prog 36 #[.int .i64 n, .int .i64 L, .int .i64 4, .int .i64 i] w (RetCv (32 * i + 16) 32 true w) := by
  have hx128 := bsL_bd h hx
  have hlm := bsL_len n L
  obtain ⟨hx1, hx2⟩ := hx128
  obtain ⟨p0, p1, p2, p3⟩ := bs_true h
  have HB := Lib.hid h
  clear h
  have hne : ((4 : Int) == ((bsL n L).length : Int) - 1) = false := by rw [beq_eq_false_iff_ne]; omega
  have HX := Lib.hid hx
  clear hx
  go_enter Try.func36, Try.ntmps36
  go_wp2_with (go_at_call 34; refine (bsI_any n L _).mono ?_; rintro e w1 ⟨v, rfl, ho, hb1⟩; rw [HB.out]; obtain ⟨A, c, hv, hc1, hc2, hcell⟩ := ho; rw [il_len] at hv hc1 hcell; subst hv; obtain ⟨blk, off, rfl, hlo, hbw, hcc, hfz⟩ := hcell (by omega); have hsrc := hcc 4 _ (il_at HX.out); clear hcc hfz hcell; (try rw [Nat.add_zero] at hsrc); generalize (bsL n L).length = m at *)
  go_ret3
  exact ⟨rfl, hb1⟩
set_option maxHeartbeats 1000000 in
theorem cvI_mid5 (n L i x : Int) (w : World) (h : bsB n L = true) (hl : 5 + 1 < (bsL n L).length) (hx : (bsL n L)[5]? = some x) (hi0 : 0 ≤ i) (hi1 : i < x) :
    Calls Try.prog 36 #[.int .i64 n, .int .i64 L, .int .i64 5, .int .i64 i] w (RetCv (64 * i + 32) 64 true w) := by
  have hx128 := bsL_bd h hx
  have hlm := bsL_len n L
  obtain ⟨hx1, hx2⟩ := hx128
  obtain ⟨p0, p1, p2, p3⟩ := bs_true h
  have HB := Lib.hid h
  clear h
  have hne : ((5 : Int) == ((bsL n L).length : Int) - 1) = false := by rw [beq_eq_false_iff_ne]; omega
  have HX := Lib.hid hx
  clear hx
  go_enter Try.func36, Try.ntmps36
  go_wp2_with (go_at_call 34; refine (bsI_any n L _).mono ?_; rintro e w1 ⟨v, rfl, ho, hb1⟩; rw [HB.out]; obtain ⟨A, c, hv, hc1, hc2, hcell⟩ := ho; rw [il_len] at hv hc1 hcell; subst hv; obtain ⟨blk, off, rfl, hlo, hbw, hcc, hfz⟩ := hcell (by omega); have hsrc := hcc 5 _ (il_at HX.out); clear hcc hfz hcell; (try rw [Nat.add_zero] at hsrc); generalize (bsL n L).length = m at *)
  go_ret3
  exact ⟨rfl, hb1⟩
set_option maxHeartbeats 1000000 in
theorem cvI_last0 (n L i x : Int) (w : World) (h : bsB n L = true) (hl : (bsL n L).length = 0 + 1) (hx : (bsL n L)[0]? = some x) (hi0 : 0 ≤ i) (hi1 : i < x) :
    Calls Try.prog 36 #[.int .i64 n, .int .i64 L, .int .i64 0, .int .i64 i] w (RetCv (i) 1 true w) := by
  have hx128 := bsL_bd h hx
  obtain ⟨hx1, hx2⟩ := hx128
  obtain ⟨p0, p1, p2, p3⟩ := bs_true h
  have HB := Lib.hid h
  clear h
  have HX := Lib.hid hx
  have HL := Lib.hid hl
  clear hx hl
  go_enter Try.func36, Try.ntmps36
  go_wp2_with (go_at_call 34; refine (bsI_any n L _).mono ?_; rintro e w1 ⟨v, rfl, ho, hb1⟩; rw [HB.out]; obtain ⟨A, c, hv, hc1, hc2, hcell⟩ := ho; rw [il_len] at hv hc1 hcell; subst hv; obtain ⟨blk, off, rfl, hlo, hbw, hcc, hfz⟩ := hcell (by rw [HL.out]; omega); have hsrc := hcc 0 _ (il_at HX.out); clear hcc hfz hcell; (try rw [Nat.add_zero] at hsrc); rw [HL.out])
  go_quiet (fail)
  go_wp2
  go_ret3
  exact ⟨rfl, below_drawn hb1 _⟩
set_option maxHeartbeats 1000000 in
theorem cvI_last1 (n L i x : Int) (w : World) (h : bsB n L = true) (hl : (bsL n L).length = 1 + 1) (hx : (bsL n L)[1]? = some x) (hi0 : 0 ≤ i) (hi1 : i < x) :
    Calls Try.prog 36 #[.int .i64 n, .int .i64 L, .int .i64 1, .int .i64 i] w (RetCv (i * 2) 2 true w) := by
  have hx128 := bsL_bd h hx
  obtain ⟨hx1, hx2⟩ := hx128
  obtain ⟨p0, p1, p2, p3⟩ := bs_true h
  have HB := Lib.hid h
  clear h
  have HX := Lib.hid hx
  have HL := Lib.hid hl
  clear hx hl
  go_enter Try.func36, Try.ntmps36
  go_wp2_with (go_at_call 34; refine (bsI_any n L _).mono ?_; rintro e w1 ⟨v, rfl, ho, hb1⟩; rw [HB.out]; obtain ⟨A, c, hv, hc1, hc2, hcell⟩ := ho; rw [il_len] at hv hc1 hcell; subst hv; obtain ⟨blk, off, rfl, hlo, hbw, hcc, hfz⟩ := hcell (by rw [HL.out]; omega); have hsrc := hcc 1 _ (il_at HX.out); clear hcc hfz hcell; (try rw [Nat.add_zero] at hsrc); rw [HL.out])
  go_quiet (fail)
  go_wp2
  go_ret3
  exact ⟨rfl, below_drawn hb1 _⟩
set_option maxHeartbeats 1000000 in
theorem cvI_last2 (n L i x : Int) (w : World) (h : bsB n L = true) (hl : (bsL n L).length = 2 + 1) (hx : (bsL n L)[2]? = some x) (hi0 : 0 ≤ i) (hi1 : i < x) :
    Calls Try.prog 36 #[.int .i64 n, .int .i64 L, .int .i64 2, .int .i64 i] w (RetCv (i * 4) 4 true w) := by
  have hx128 := bsL_bd h hx
  obtain ⟨hx1, hx2⟩ := hx128
  obtain ⟨p0, p1, p2, p3⟩ := bs_true h
  have HB := Lib.hid h
  clear h
  have HX := Lib.hid hx
  have HL := Lib.hid hl
  clear hx hl
  go_enter Try.func36, Try.ntmps36
  go_wp2_with (go_at_call 34; refine (bsI_any n L _).mono ?_; rintro e w1 ⟨v, rfl, ho, hb1⟩; rw [HB.out]; obtain ⟨A, c, hv, hc1, hc2, hcell⟩ := ho; rw [il_len] at hv hc1 hcell; subst hv; obtain ⟨blk, off, rfl, hlo, hbw, hcc, hfz⟩ := hcell (by rw [HL.out]; omega); have hsrc := hcc 2 _ (il_at HX.out); clear hcc hfz hcell; (try rw [Nat.add_zero] at hsrc); rw [HL.out])
  go_quiet (fail)
  go_wp2
  go_ret3
  exact ⟨rfl, below_drawn hb1 _⟩
set_option maxHeartbeats 1000000 in
theorem cvI_last3 (n L i x : Int) (w : World) (h : bsB n L = true) (hl : (bsL n L).length = 3 + 1) (hx : (bsL n L)[3]? = some x) (hi0 : 0 ≤ i) (hi1 : i < x) :
    Calls Try.prog 36 #[.int .i64 n, .int .i64 L, .int .i64 3, .int .i64 i] w (RetCv (i * 8) 8 true w) := by
  have hx128 := bsL_bd h hx
  obtain ⟨hx1, hx2⟩ := hx128
  obtain ⟨p0, p1, p2, p3⟩ := bs_true h
  have HB := Lib.hid h
  clear h
  have HX := Lib.hid hx
  have HL := Lib.hid hl
  clear hx hl
  go_enter Try.func36, Try.ntmps36
  go_wp2_with (go_at_call 34; refine (bsI_any n L _).mono ?_; rintro e w1 ⟨v, rfl, ho, hb1⟩; rw [HB.out]; obtain ⟨A, c, hv, hc1, hc2, hcell⟩ := ho; rw [il_len] at hv hc1 hcell; subst hv; obtain ⟨blk, off, rfl, hlo, hbw, hcc, hfz⟩ := hcell (by rw [HL.out]; omega); have hsrc := hcc 3 _ (il_at HX.out); clear hcc hfz hcell; (try rw [Nat.add_zero] at hsrc); rw [HL.out])
  go_quiet (fail)
  go_wp2
  go_ret3
  exact ⟨rfl, below_drawn hb1 _⟩
set_option maxHeartbeats 1000000 in
theorem cvI_last4 (n L i x : Int) (w : World) (h : bsB n L = true) (hl : (bsL n L).length = 4 + 1) (hx : (bsL n L)[4]? = some x) (hi0 : 0 ≤ i) (hi1 : i < x) :
    Calls Try.prog 36 #[.int .i64 n, .int .i64 L, .int .i64 4, .int .i64 i] w (RetCv (i * 16) 16 true w) := by
  have hx128 := bsL_bd h hx
  obtain ⟨hx1, hx2⟩ := hx128
  obtain ⟨p0, p1, p2, p3⟩ := bs_true h
  have HB := Lib.hid h
  clear h
  have HX := Lib.hid hx
  have HL := Lib.hid hl
  clear hx hl
  go_enter Try.func36, Try.ntmps36
  go_wp2_with (go_at_call 34; refine (bsI_any n L _).mono ?_; rintro e w1 ⟨v, rfl, ho, hb1⟩; rw [HB.out]; obtain ⟨A, c, hv, hc1, hc2, hcell⟩ := ho; rw [il_len] at hv hc1 hcell; subst hv; obtain ⟨blk, off, rfl, hlo, hbw, hcc, hfz⟩ := hcell (by rw [HL.out]; omega); have hsrc := hcc 4 _ (il_at HX.out); clear hcc hfz hcell; (try rw [Nat.add_zero] at hsrc); rw [HL.out])
  go_quiet (fail)
  go_wp2
  go_ret3
  exact ⟨rfl, below_drawn hb1 _⟩
set_option maxHeartbeats 1000000 in
theorem cvI_last5 (n L i x : Int) (w : World) (h : bsB n L = true) (hl : (bsL n L).length = 5 + 1) (hx : (bsL n L)[5]? = some x) (hi0 : 0 ≤ i) (hi1 : i < x) :
    Calls Try.prog 36 #[.int .i64 n, .int .i64 L, .int .i64 5, .int .i64 i] w (RetCv (i * 32) 32 true w) := by
  have hx128 := bsL_bd h hx
  obtain ⟨hx1, hx2⟩ := hx128
  obtain ⟨p0, p1, p2, p3⟩ := bs_true h
  have HB := Lib.hid h
  clear h
  have HX := Lib.hid hx
  have HL := Lib.hid hl
  clear hx hl
  go_enter Try.func36, Try.ntmps36
  go_wp2_with (go_at_call 34; refine (bsI_any n L _).mono ?_; rintro e w1 ⟨v, rfl, ho, hb1⟩; rw [HB.out]; obtain ⟨A, c, hv, hc1, hc2, hcell⟩ := ho; rw [il_len] at hv hc1 hcell; subst hv; obtain ⟨blk, off, rfl, hlo, hbw, hcc, hfz⟩ := hcell (by rw [HL.out]; omega); have hsrc := hcc 5 _ (il_at HX.out); clear hcc hfz hcell; (try rw [Nat.add_zero] at hsrc); rw [HL.out])
  go_quiet (fail)
  go_wp2
  go_ret3
  exact ⟨rfl, below_drawn hb1 _⟩
set_option maxHeartbeats 1000000 in
theorem cvI_last6 (n L i x : Int) (w : World) (h : bsB n L = true) (hl : (bsL n L).length = 6 + 1) (hx : (bsL n L)[6]? = some x) (hi0 : 0 ≤ i) (hi1 : i < x) :
    Calls Try.prog 36 #[.int .i64 n, .int .i64 L, .int .i64 6, .int .i64 i] w (RetCv (i * 64) 64 true w) := by
  have hx128 := bsL_bd h hx
  obtain ⟨hx1, hx2⟩ := hx128
  obtain ⟨p0, p1, p2, p3⟩ := bs_true h
  have HB := Lib.hid h
  clear h
  have HX := Lib.hid hx
  have HL := Lib.hid hl
  clear hx hl
  go_enter Try.func36, Try.ntmps36
  go_wp2_with (go_at_call 34; refine (bsI_any n L _).mono ?_; rintro e w1 ⟨v, rfl, ho, hb1⟩; rw [HB.out]; obtain ⟨A, c, hv, hc1, hc2, hcell⟩ := ho; rw [il_len] at hv hc1 hcell; subst hv; obtain ⟨blk, off, rfl, hlo, hbw, hcc, hfz⟩ := hcell (by rw [HL.out]; omega); have hsrc := hcc 6 _ (il_at HX.out); clear hcc hfz hcell; (try rw [Nat.add_zero] at hsrc); rw [HL.out])
  go_quiet (fail)
  go_wp2
  go_ret3
  exact ⟨rfl, below_drawn hb1 _⟩
set_option maxHeartbeats 1000000 in
theorem cvI_f1 (n L b i : Int) (w : World) (h : bsB n L = false) :
    Calls Try.prog 36 #[.int .i64 n, .int .i64 L, .int .i64 b, .int .i64 i] w (RetCv 0 0 false w) := by
  have HB := Lib.hid h
  clear h
  go_enter Try.func36, Try.ntmps36
  go_wp2_with (go_at_call 34; refine (bsI_any n L _).mono ?_; rintro e w1 ⟨v, rfl, ho, hb1⟩; rw [HB.out])
  go_ret3
  exact ⟨rfl, hb1⟩
set_option maxHeartbeats 1000000 in
theorem cvI_f2 (n L b i : Int) (w : World) (h : bsB n L = true) (hb : b < 0) :
    Calls Try.prog 36 #[.int .i64 n, .int .i64 L, .int .i64 b, .int .i64 i] w (RetCv 0 0 false w) := by
  have hlm := bsL_len n L
  have hbp : 0 < b ∨ b ≤ 0 := by omega
  clear hbp
  obtain ⟨p0, p1, p2, p3⟩ := bs_true h
  have HB := Lib.hid h
  clear h
  go_enter Try.func36, Try.ntmps36
  go_wp2_with (go_at_call 34; refine (bsI_any n L _).mono ?_; rintro e w1 ⟨v, rfl, ho, hb1⟩; rw [HB.out]; obtain ⟨A, c, hv, hc1, hc2, hcell⟩ := ho; rw [il_len] at hv hc1 hcell; subst hv; clear hcell; generalize (bsL n L).length = m at *)
  go_ret3
  exact ⟨rfl, hb1⟩
set_option maxHeartbeats 1000000 in
theorem cvI_f3 (n L b i : Int) (w : World) (h : bsB n L = true) (hb : ((bsL n L).length : Int) ≤ b) :
    Calls Try.prog 36 #[.int .i64 n, .int .i64 L, .int .i64 b, .int .i64 i] w (RetCv 0 0 false w) := by
  have hlm := bsL_len n L
  have hbp : 0 < b ∨ b ≤ 0 := by omega
  have hb0 : 0 ≤ b := by omega
  clear hbp
  obtain ⟨p0, p1, p2, p3⟩ := bs_true h
  have HB := Lib.hid h
  clear h
  go_enter Try.func36, Try.ntmps36
  go_wp2_with (go_at_call 34; refine (bsI_any n L _).mono ?_; rintro e w1 ⟨v, rfl, ho, hb1⟩; rw [HB.out]; obtain ⟨A, c, hv, hc1, hc2, hcell⟩ := ho; rw [il_len] at hv hc1 hcell; subst hv; clear hcell; generalize (bsL n L).length = m at *)
  go_ret3
  exact ⟨rfl, hb1⟩
set_option maxHeartbeats 1000000 in
theorem cvI_f4 (n L i x : Int) (b : Nat) (w : World) (h : bsB n L = true) (hb : b < (bsL n L).length) (hx : (bsL n L)[b]? = some x) (hi : i < 0) :
    Calls Try.prog 36 #[.int .i64 n, .int .i64 L, .int .i64 b, .int .i64 i] w (RetCv 0 0 false w) := by
  have hlm := bsL_len n L
  have hx128 := bsL_bd h hx
  obtain ⟨hx1, hx2⟩ := hx128
  obtain ⟨p0, p1, p2, p3⟩ := bs_true h
  have HB := Lib.hid h
  clear h
  have HX := Lib.hid hx
  clear hx
  go_enter Try.func36, Try.ntmps36
  go_wp2_with (go_at_call 34; refine (bsI_any n L _).mono ?_; rintro e w1 ⟨v, rfl, ho, hb1⟩; rw [HB.out]; obtain ⟨A, c, hv, hc1, hc2, hcell⟩ := ho; rw [il_len] at hv hc1 hcell; subst hv; obtain ⟨blk, off, rfl, hlo, hbw, hcc, hfz⟩ := hcell (by omega); have hsrc := hcc b _ (il_at HX.out); clear hcc hfz hcell; (try rw [Nat.add_zero] at hsrc); generalize (bsL n L).length = m at *)
  go_ret3
  exact ⟨rfl, hb1⟩
set_option maxHeartbeats 1000000 in
theorem cvI_f5 (n L i x : Int) (b : Nat) (w : World) (h : bsB n L = true) (hb : b < (bsL n L).length) (hx : (bsL n L)[b]? = some x) (hi : x ≤ i) :
    Calls Try.prog 36 #[.int .i64 n, .int .i64 L, .int .i64 b, .int .i64 i] w (RetCv 0 0 false w) := by
  have hlm := bsL_len n L
  have hx128 := bsL_bd h hx
  obtain ⟨hx1, hx2⟩ := hx128
  have hi0 : 0 ≤ i := by omega
  obtain ⟨p0, p1, p2, p3⟩ := bs_true h
  have HB := Lib.hid h
  clear h
  have HX := Lib.hid hx
  clear hx
  go_enter Try.func36, Try.ntmps36
  go_wp2_with (go_at_call 34; refine (bsI_any n L _).mono ?_; rintro e w1 ⟨v, rfl, ho, hb1⟩; rw [HB.out]; obtain ⟨A, c, hv, hc1, hc2, hcell⟩ := ho; rw [il_len] at hv hc1 hcell; subst hv; obtain ⟨blk, off, rfl, hlo, hbw, hcc, hfz⟩ := hcell (by omega); have hsrc := hcc b _ (il_at HX.out); clear hcc hfz hcell; (try rw [Nat.add_zero] at hsrc); generalize (bsL n L).length = m at *)
  go_ret3
  exact ⟨rfl, hb1⟩
set_option maxHeartbeats 1000000 in
theorem cvS_mid0 (n L i x : Int) (w : World) (h : bsB n L = true) (hl : 0 + 1 < (bsL n L).length) (hx : (bsL n L)[0]? = some x) (hi0 : 0 ≤ i) (hi1 : i < x) :
    Calls Try.prog 35 #[.int .i64 n, .int .i64 L, .int .i64 0, .int .i64 i] w (RetCv (2 * i + 1) 2 true w) := by
  have hx128 := bsL_bd h hx
  have hlm := bsL_len n L
  obtain ⟨hx1, hx2⟩ := hx128
  obtain ⟨p0, p1, p2, p3⟩ := bs_true h
  have HB := Lib.hid h
  clear h
  have hne : ((0 : Int) == ((bsL n L).length : Int) - 1) = false := by rw [beq_eq_false_iff_ne]; omega
  have HX := Lib.hid hx
  clear hx
  go_enter Try.func35, Try.ntmps35
  go_wp2_with (first | (go_at_call 69; go_in) | (go_at_call 70; refine (szS_any' _ _ _ HB.out).mono ?_; rintro e w1 ⟨v, rfl, ho, hb1⟩; obtain ⟨A, c, hv, hc1, hc2, hcell⟩ := ho; rw [il_len] at hv hc1 hcell; subst hv; obtain ⟨blk, off, rfl, hlo, hbw, hcc, hfz⟩ := hcell (by omega); have hsrc := hcc 0 _ (il_at HX.out); clear hcc hfz hcell; (try rw [Nat.add_zero] at hsrc); generalize (bsL n L).length = m at *) | (go_at_call 57; refine (in_yes _ _ _ _ (by omega) (by omega)).mono ?_; rintro e w' ⟨rfl, rfl⟩))
  go_ret3
  exact ⟨rfl, hb1⟩
set_option maxHeartbeats 1000000 in
theorem cvS_mid1 (n L i x : Int) (w : World) (h : bsB n L = true) (hl : 1 + 1 < (bsL n L).length) (hx : (bsL n L)[1]? = some x) (hi0 : 0 ≤ i) (hi1 : i < x) :
    Calls Try.prog 35 #[.int .i64 n, .int .i64 L, .int .i64 1, .int .i64 i] w (RetCv (4 * i + 2) 4 true w) := by
  have hx128 := bsL_bd h hx
  have hlm := bsL_len n L
  obtain ⟨hx1, hx2⟩ := hx128
  obtain ⟨p0, p1, p2, p3⟩ := bs_true h
  have HB := Lib.hid h
  clear h
  have hne : ((1 : Int) == ((bsL n L).length : Int) - 1) = false := by rw [beq_eq_false_iff_ne]; omega
  have HX := Lib.hid hx
  clear hx
  go_enter Try.func35, Try.ntmps35
  go_wp2_with (first | (go_at_call 69; go_in) | (go_at_call 70; refine (szS_any' _ _ _ HB.out).mono ?_; rintro e w1 ⟨v, rfl, ho, hb1⟩; obtain ⟨A, c, hv, hc1, hc2, hcell⟩ := ho; rw [il_len] at hv hc1 hcell; subst hv; obtain ⟨blk, off, rfl, hlo, hbw, hcc, hfz⟩ := hcell (by omega); have hsrc := hcc 1 _ (il_at HX.out); clear hcc hfz hcell; (try rw [Nat.add_zero] at hsrc); generalize (bsL n L).length = m at *) | (go_at_call 57; refine (in_yes _ _ _ _ (by omega) (by omega)).mono ?_; rintro e w' ⟨rfl, rfl⟩))
  go_ret3
  exact ⟨rfl, hb1⟩
set_option maxHeartbeats 1000000 in
theorem cvS_mid2 (n L i x : Int) (w : World) (h : bsB n L = true) (hl : 2 + 1 < (bsL n L).length) (hx : (bsL n L)[2]? = some x) (hi0 : 0 ≤ i) (hi1 : i < x) :
    Calls Try.prog 35 #[.int .i64 n, .int .i64 L, .int .i64 2, .int .i64 i] w (RetCv (8 * i + 4) 8 true w) := by
  have hx128 := bsL_bd h hx
  have hlm := bsL_len n L
  obtain ⟨hx1, hx2⟩ := hx128
  obtain ⟨p0, p1, p2, p3⟩ := bs_true h
  have HB := Lib.hid h
  clear h
  have hne : ((2 : Int) == ((bsL n L).length : Int) - 1) = false := by rw [beq_eq_false_iff_ne]; omega
  have HX := Lib.hid hx
  clear hx
  go_enter Try.func35, Try.ntmps35
  go_wp2_with (first | (go_at_call 69; go_in) | (go_at_call 70; refine (szS_any' _ _ _ HB.out).mono ?_; rintro e w1 ⟨v, rfl, ho, hb1⟩; obtain ⟨A, c, hv, hc1, hc2, hcell⟩ := ho; rw [il_len] at hv hc1 hcell; subst hv; obtain ⟨blk, off, rfl, hlo, hbw, hcc, hfz⟩ := hcell (by omega); have hsrc := hcc 2 _ (il_at HX.out); clear hcc hfz hcell; (try rw [Nat.add_zero] at hsrc); generalize (bsL n L).length = m at *) | (go_at_call 57; refine (in_yes _ _ _ _ (by omega) (by omega)).mono ?_; rintro e w' ⟨rfl, rfl⟩))
  go_ret3
  exact ⟨rfl, hb1⟩
set_option maxHeartbeats 1000000 in
theorem cvS_mid3 (n L i x : Int) (w : World) (h : bsB n L = true) (hl : 3 + 1 < (bsL n L).length) (hx : (bsL n L)[3]? = some x) (hi0 : 0 ≤ i) (hi1 : i < x) :
    Calls Try.prog 35 #[.int .i64 n, .int .i64 L, .int .i64 3, .int .i64 i] w (RetCv (16 * i + 8) 16 true w) := by
  have hx128 := bsL_bd h hx
  have hlm := bsL_len n L
  obtain ⟨hx1, hx2⟩ := hx128
  obtain ⟨p0, p1, p2, p3⟩ := bs_true h
  have HB := Lib.hid h
  clear h
  have hne : ((3 : Int) == ((bsL n L).length : Int) - 1) = false := by rw [beq_eq_false_iff_ne]; omega
  have HX := Lib.hid hx
  clear hx
  go_enter Try.func35, Try.ntmps35
  go_wp2_with (first | (go_at_call 69; go_in) | (go_at_call 70; refine (szS_any' _ _ _ HB.out).mono ?_; rintro e w1 ⟨v, rfl, ho, hb1⟩; obtain ⟨A, c, hv, hc1, hc2, hcell⟩ := ho; rw [il_len] at hv hc1 hcell; subst hv; obtain ⟨blk, off, rfl, hlo, hbw, hcc, hfz⟩ := hcell (by omega); have hsrc := hcc 3 _ (il_at HX.out); clear hcc hfz hcell; (try rw [Nat.add_zero] at hsrc); generalize (bsL n L).length = m at *) | (go_at_call 57; refine (in_yes _ _ _ _ (by omega) (by omega)).mono ?_; rintro e w' ⟨rfl, rfl⟩))
  go_ret3
  exact ⟨rfl, hb1⟩
set_option maxHeartbeats 1000000 in
theorem cvS_mid4 (n L i x : Int) (w : World) (h : bsB n L = true) (hl : 4 + 1 < (bsL n L).length) (hx : (bsL n L)[4]? = some x) (hi0 : 0 ≤ i) (hi1 : i < x) :
    Calls Try.prog 35 #[.int .i64 n, .int .i64 L, .int .i64 4, .int .i64 i] w (RetCv (32 * i + 16) 32 true w) := by
  have hx128 := bsL_bd h hx
  have hlm := bsL_len n L
  obtain ⟨hx1, hx2⟩ := hx128
  obtain ⟨p0, p1, p2, p3⟩ := bs_true h
  have HB := Lib.hid h
  clear h
  have hne : ((4 : Int) == ((bsL n L).length : Int) - 1) = false := by rw [beq_eq_false_iff_ne]; omega
  have HX := Lib.hid hx
  clear hx
  go_enter Try.func35, Try.ntmps35
  go_wp2_with (first | (go_at_call 69; go_in) | (go_at_call 70; refine (szS_any' _ _ _ HB.out).mono ?_; rintro e w1 ⟨v, rfl, ho, hb1⟩; obtain ⟨A, c, hv, hc1, hc2, hcell⟩ := ho; rw [il_len] at hv hc1 hcell; subst hv; obtain ⟨blk, off, rfl, hlo, hbw, hcc, hfz⟩ := hcell (by omega); have hsrc := hcc 4 _ (il_at HX.out); clear hcc hfz hcell; (try rw [Nat.add_zero] at hsrc); generalize (bsL n L).length = m at *) | (go_at_call 57; refine (in_yes _ _ _ _ (by omega) (by omega)).mono ?_; rintro e w' ⟨rfl, rfl⟩))
  go_ret3
  exact ⟨rfl, hb1⟩
set_option maxHeartbeats 1000000 in
theorem cvS_mid5 (n L i x : Int) (w : World) (h : bsB n L = true) (hl : 5 + 1 < (bsL n L).length) (hx : (bsL n L)[5]? = some x) (hi0 : 0 ≤ i) (hi1 : i < x) :
    Calls Try.prog 35 #[.int .i64 n, .int .i64 L, .int .i64 5, .int .i64 i] w (RetCv (64 * i + 32) 64 true w) := by
  have hx128 := bsL_bd h hx
  have hlm := bsL_len n L
  obtain ⟨hx1, hx2⟩ := hx128
  obtain ⟨p0, p1, p2, p3⟩ := bs_true h
  have HB := Lib.hid h
  clear h
  have hne : ((5 : Int) == ((bsL n L).length : Int) - 1) = false := by rw [beq_eq_false_iff_ne]; omega
  have HX := Lib.hid hx
  clear hx
  go_enter Try.func35, Try.ntmps35
  go_wp2_with (first | (go_at_call 69; go_in) | (go_at_call 70; refine (szS_any' _ _ _ HB.out).mono ?_; rintro e w1 ⟨v, rfl, ho, hb1⟩; obtain ⟨A, c, hv, hc1, hc2, hcell⟩ := ho; rw [il_len] at hv hc1 hcell; subst hv; obtain ⟨blk, off, rfl, hlo, hbw, hcc, hfz⟩ := hcell (by omega); have hsrc := hcc 5 _ (il_at HX.out); clear hcc hfz hcell; (try rw [Nat.add_zero] at hsrc); generalize (bsL n L).length = m at *) | (go_at_call 57; refine (in_yes _ _ _ _ (by omega) (by omega)).mono ?_; rintro e w' ⟨rfl, rfl⟩))
  go_ret3
  exact ⟨rfl, hb1⟩
set_option maxHeartbeats 1000000 in
theorem cvS_last0 (n L i x : Int) (w : World) (h : bsB n L = true) (hl : (bsL n L).length = 0 + 1) (hx : (bsL n L)[0]? = some x) (hi0 : 0 ≤ i) (hi1 : i < x) :
    Calls Try.prog 35 #[.int .i64 n, .int .i64 L, .int .i64 0, .int .i64 i] w (RetCv (i) 1 true w) := by
  have hx128 := bsL_bd h hx
  obtain ⟨hx1, hx2⟩ := hx128
  obtain ⟨p0, p1, p2, p3⟩ := bs_true h
  have HB := Lib.hid h
  clear h
  have HX := Lib.hid hx
  have HL := Lib.hid hl
  clear hx hl
  go_enter Try.func35, Try.ntmps35
  go_wp2_with (first | (go_at_call 69; go_in) | (go_at_call 70; refine (szS_any' _ _ _ HB.out).mono ?_; rintro e w1 ⟨v, rfl, ho, hb1⟩; obtain ⟨A, c, hv, hc1, hc2, hcell⟩ := ho; rw [il_len] at hv hc1 hcell; subst hv; obtain ⟨blk, off, rfl, hlo, hbw, hcc, hfz⟩ := hcell (by rw [HL.out]; omega); have hsrc := hcc 0 _ (il_at HX.out); clear hcc hfz hcell; (try rw [Nat.add_zero] at hsrc); rw [HL.out]) | (go_at_call 57; refine (in_yes _ _ _ _ (by omega) (by omega)).mono ?_; rintro e w' ⟨rfl, rfl⟩))
  go_ret3
  exact ⟨rfl, hb1⟩
set_option maxHeartbeats 1000000 in
theorem cvS_last1 (n L i x : Int) (w : World) (h : bsB n L = true) (hl : (bsL n L).length = 1 + 1) (hx : (bsL n L)[1]? = some x) (hi0 : 0 ≤ i) (hi1 : i < x) :
    Calls Try.prog 35 #[.int .i64 n, .int .i64 L, .int .i64 1, .int .i64 i] w (RetCv (2 * i) 2 true w) := by
  have hx128 := bsL_bd h hx
  obtain ⟨hx1, hx2⟩ := hx128
  obtain ⟨p0, p1, p2, p3⟩ := bs_true h
  have HB := Lib.hid h
  clear h
  have HX := Lib.hid hx
  have HL := Lib.hid hl
  clear hx hl
  go_enter Try.func35, Try.ntmps35
  go_wp2_with (first | (go_at_call 69; go_in) | (go_at_call 70; refine (szS_any' _ _ _ HB.out).mono ?_; rintro e w1 ⟨v, rfl, ho, hb1⟩; obtain ⟨A, c, hv, hc1, hc2, hcell⟩ := ho; rw [il_len] at hv hc1 hcell; subst hv; obtain ⟨blk, off, rfl, hlo, hbw, hcc, hfz⟩ := hcell (by rw [HL.out]; omega); have hsrc := hcc 1 _ (il_at HX.out); clear hcc hfz hcell; (try rw [Nat.add_zero] at hsrc); rw [HL.out]) | (go_at_call 57; refine (in_yes _ _ _ _ (by omega) (by omega)).mono ?_; rintro e w' ⟨rfl, rfl⟩))
  go_ret3
  exact ⟨rfl, hb1⟩
set_option maxHeartbeats 1000000 in
theorem cvS_last2 (n L i x : Int) (w : World) (h : bsB n L = true) (hl : (bsL n L).length = 2 + 1) (hx : (bsL n L)[2]? = some x) (hi0 : 0 ≤ i) (hi1 : i < x) :
    Calls Try.prog 35 #[.int .i64 n, .int .i64 L, .int .i64 2, .int .i64 i] w (RetCv (4 * i) 4 true w) := by
  have hx128 := bsL_bd h hx
  obtain ⟨hx1, hx2⟩ := hx128
  obtain ⟨p0, p1, p2, p3⟩ := bs_true h
  have HB := Lib.hid h
  clear h
  have HX := Lib.hid hx
  have HL := Lib.hid hl
  clear hx hl
  go_enter Try.func35, Try.ntmps35
  go_wp2_with (first | (go_at_call 69; go_in) | (go_at_call 70; refine (szS_any' _ _ _ HB.out).mono ?_; rintro e w1 ⟨v, rfl, ho, hb1⟩; obtain ⟨A, c, hv, hc1, hc2, hcell⟩ := ho; rw [il_len] at hv hc1 hcell; subst hv; obtain ⟨blk, off, rfl, hlo, hbw, hcc, hfz⟩ := hcell (by rw [HL.out]; omega); have hsrc := hcc 2 _ (il_at HX.out); clear hcc hfz hcell; (try rw [Nat.add_zero] at hsrc); rw [HL.out]) | (go_at_call 57; refine (in_yes _ _ _ _ (by omega) (by omega)).mono ?_; rintro e w' ⟨rfl, rfl⟩))
  go_ret3
  exact ⟨rfl, hb1⟩
set_option maxHeartbeats 1000000 in
theorem cvS_last3 (n L i x : Int) (w : World) (h : bsB n L = true) (hl : (bsL n L).length = 3 + 1) (hx : (bsL n L)[3]? = some x) (hi0 : 0 ≤ i) (hi1 : i < x) :
    Calls Try.prog 35 #[.int .i64 n, .int .i64 L, .int .i64 3, .int .i64 i] w (RetCv (8 * i) 8 true w) := by
  have hx128 := bsL_bd h hx
  obtain ⟨hx1, hx2⟩ := hx128
  obtain ⟨p0, p1, p2, p3⟩ := bs_true h
  have HB := Lib.hid h
  clear h
  have HX := Lib.hid hx
  have HL := Lib.hid hl
  clear hx hl
  go_enter Try.func35, Try.ntmps35
  go_wp2_with (first | (go_at_call 69; go_in) | (go_at_call 70; refine (szS_any' _ _ _ HB.out).mono ?_; rintro e w1 ⟨v, rfl, ho, hb1⟩; obtain ⟨A, c, hv, hc1, hc2, hcell⟩ := ho; rw [il_len] at hv hc1 hcell; subst hv; obtain ⟨blk, off, rfl, hlo, hbw, hcc, hfz⟩ := hcell (by rw [HL.out]; omega); have hsrc := hcc 3 _ (il_at HX.out); clear hcc hfz hcell; (try rw [Nat.add_zero] at hsrc); rw [HL.out]) | (go_at_call 57; refine (in_yes _ _ _ _ (by omega) (by omega)).mono ?_; rintro e w' ⟨rfl, rfl⟩))
  go_ret3
  exact ⟨rfl, hb1⟩
set_option maxHeartbeats 1000000 in
theorem cvS_last4 (n L i x : Int) (w : World) (h : bsB n L = true) (hl : (bsL n L).length = 4 + 1) (hx : (bsL n L)[4]? = some x) (hi0 : 0 ≤ i) (hi1 : i < x) :
    Calls Try.prog 35 #[.int .i64 n, .int .i64 L, .int .i64 4, .int .i64 i] w (RetCv (16 * i) 16 true w) := by
  have hx128 := bsL_bd h hx
  obtain ⟨hx1, hx2⟩ := hx128
  obtain ⟨p0, p1, p2, p3⟩ := bs_true h
  have HB := Lib.hid h
  clear h
  have HX := Lib.hid hx
  have HL := Lib.hid hl
  clear hx hl
  go_enter Try.func35, Try.ntmps35
  go_wp2_with (first | (go_at_call 69; go_in) | (go_at_call 70; refine (szS_any' _ _ _ HB.out).mono ?_; rintro e w1 ⟨v, rfl, ho, hb1⟩; obtain ⟨A, c, hv, hc1, hc2, hcell⟩ := ho; rw [il_len] at hv hc1 hcell; subst hv; obtain ⟨blk, off, rfl, hlo, hbw, hcc, hfz⟩ := hcell (by rw [HL.out]; omega); have hsrc := hcc 4 _ (il_at HX.out); clear hcc hfz hcell; (try rw [Nat.add_zero] at hsrc); rw [HL.out]) | (go_at_call 57; refine (in_yes _ _ _ _ (by omega) (by omega)).mono ?_; rintro e w' ⟨rfl, rfl⟩))
  go_ret3
  exact ⟨rfl, hb1⟩
set_option maxHeartbeats 1000000 in
theorem cvS_last5 (n L i x : Int) (w : World) (h : bsB n L = true) (hl : (bsL n L).length = 5 + 1) (hx : (bsL n L)[5]? = some x) (hi0 : 0 ≤ i) (hi1 : i < x) :
    Calls Try.prog 35 #[.int .i64 n, .int .i64 L, .int .i64 5, .int .i64 i] w (RetCv (32 * i) 32 true w) := by
  have hx128 := bsL_bd h hx
  obtain ⟨hx1, hx2⟩ := hx128
  obtain ⟨p0, p1, p2, p3⟩ := bs_true h
  have HB := Lib.hid h
  clear h
  have HX := Lib.hid hx
  have HL := Lib.hid hl
  clear hx hl
  go_enter Try.func35, Try.ntmps35
  go_wp2_with (first | (go_at_call 69; go_in) | (go_at_call 70; refine (szS_any' _ _ _ HB.out).mono ?_; rintro e w1 ⟨v, rfl, ho, hb1⟩; obtain ⟨A, c, hv, hc1, hc2, hcell⟩ := ho; rw [il_len] at hv hc1 hcell; subst hv; obtain ⟨blk, off, rfl, hlo, hbw, hcc, hfz⟩ := hcell (by rw [HL.out]; omega); have hsrc := hcc 5 _ (il_at HX.out); clear hcc hfz hcell; (try rw [Nat.add_zero] at hsrc); rw [HL.out]) | (go_at_call 57; refine (in_yes _ _ _ _ (by omega) (by omega)).mono ?_; rintro e w' ⟨rfl, rfl⟩))
  go_ret3
  exact ⟨rfl, hb1⟩
set_option maxHeartbeats 1000000 in
theorem cvS_last6 (n L i x : Int) (w : World) (h : bsB n L = true) (hl : (bsL n L).length = 6 + 1) (hx : (bsL n L)[6]? = some x) (hi0 : 0 ≤ i) (hi1 : i < x) :
    Calls Try.prog 35 #[.int .i64 n, .int .i64 L, .int .i64 6, .int .i64 i] w (RetCv (64 * i) 64 true w) := by
  have hx128 := bsL_bd h hx
  obtain ⟨hx1, hx2⟩ := hx128
  obtain ⟨p0, p1, p2, p3⟩ := bs_true h
  have HB := Lib.hid h
  clear h
  have HX := Lib.hid hx
  have HL := Lib.hid hl
  clear hx hl
  go_enter Try.func35, Try.ntmps35
  go_wp2_with (first | (go_at_call 69; go_in) | (go_at_call 70; refine (szS_any' _ _ _ HB.out).mono ?_; rintro e w1 ⟨v, rfl, ho, hb1⟩; obtain ⟨A, c, hv, hc1, hc2, hcell⟩ := ho; rw [il_len] at hv hc1 hcell; subst hv; obtain ⟨blk, off, rfl, hlo, hbw, hcc, hfz⟩ := hcell (by rw [HL.out]; omega); have hsrc := hcc 6 _ (il_at HX.out); clear hcc hfz hcell; (try rw [Nat.add_zero] at hsrc); rw [HL.out]) | (go_at_call 57; refine (in_yes _ _ _ _ (by omega) (by omega)).mono ?_; rintro e w' ⟨rfl, rfl⟩))
  go_ret3
  exact ⟨rfl, hb1⟩
set_option maxHeartbeats 1000000 in
theorem cvS_f1 (n L b i : Int) (w : World) (h : bsB n L = false) :
    Calls Try.prog 35 #[.int .i64 n, .int .i64 L, .int .i64 b, .int .i64 i] w (RetCv 0 0 false w) := by
  have hh := of_decide_eq_false h
  clear h
  by_cases a : n < 1 ∨ 128 < n
  · clear hh
    go_enter Try.func35, Try.ntmps35
    go_wp2_with (go_at_call 57; refine (in_not _ _ _ _ a).mono ?_; rintro e w' ⟨rfl, rfl⟩)
    go_ret3
    exact ⟨rfl, Below.refl _ _⟩
  · have a' : 1 ≤ n := by omega
    have b' : n ≤ 128 := by omega
    have c : L < 1 ∨ 6 < L := by omega
    clear hh a
    go_enter Try.func35, Try.ntmps35
    go_wp2_with (first | (go_at_call 69; go_in) | (go_at_call 57; first | (refine (in_yes _ _ _ _ (by omega) (by omega)).mono ?_; rintro e w' ⟨rfl, rfl⟩) | (refine (in_not _ _ _ _ (by omega)).mono ?_; rintro e w' ⟨rfl, rfl⟩)))
    go_ret3
    exact ⟨rfl, Below.refl _ _⟩
set_option maxHeartbeats 1000000 in
theorem cvS_f2 (n L b i : Int) (w : World) (h : bsB n L = true) (hb : b < 0) :
    Calls Try.prog 35 #[.int .i64 n, .int .i64 L, .int .i64 b, .int .i64 i] w (RetCv 0 0 false w) := by
  have hlm := bsL_len n L
  have hbp : 0 < b ∨ b ≤ 0 := by omega
  clear hbp
  obtain ⟨p0, p1, p2, p3⟩ := bs_true h
  have HB := Lib.hid h
  clear h
  go_enter Try.func35, Try.ntmps35
  go_wp2_with (first | (go_at_call 69; go_in) | (go_at_call 70; refine (szS_any' _ _ _ HB.out).mono ?_; rintro e w1 ⟨v, rfl, ho, hb1⟩; obtain ⟨A, c, hv, hc1, hc2, hcell⟩ := ho; rw [il_len] at hv hc1 hcell; subst hv; clear hcell; generalize (bsL n L).length = m at *) | (go_at_call 57; first | (refine (in_yes _ _ _ _ (by omega) (by omega)).mono ?_; rintro e w' ⟨rfl, rfl⟩) | (refine (in_not _ _ _ _ (by omega)).mono ?_; rintro e w' ⟨rfl, rfl⟩)))
  go_ret3
  exact ⟨rfl, hb1⟩
set_option maxHeartbeats 1000000 in
theorem cvS_f3 (n L b i : Int) (w : World) (h : bsB n L = true) (hb : ((bsL n L).length : Int) ≤ b) :
    Calls Try.prog 35 #[.int .i64 n, .int .i64 L, .int .i64 b, .int .i64 i] w (RetCv 0 0 false w) := by
  have hlm := bsL_len n L
  have hbp : 0 < b ∨ b ≤ 0 := by omega
  have hb0 : 0 ≤ b := by omega
  clear hbp
  obtain ⟨p0, p1, p2, p3⟩ := bs_true h
  have HB := Lib.hid h
  clear h
  go_enter Try.func35, Try.ntmps35
  go_wp2_with (first | (go_at_call 69; go_in) | (go_at_call 70; refine (szS_any' _ _ _ HB.out).mono ?_; rintro e w1 ⟨v, rfl, ho, hb1⟩; obtain ⟨A, c, hv, hc1, hc2, hcell⟩ := ho; rw [il_len] at hv hc1 hcell; subst hv; clear hcell; generalize (bsL n L).length = m at *) | (go_at_call 57; first | (refine (in_yes _ _ _ _ (by omega) (by omega)).mono ?_; rintro e w' ⟨rfl, rfl⟩) | (refine (in_not _ _ _ _ (by omega)).mono ?_; rintro e w' ⟨rfl, rfl⟩)))
  go_ret3
  exact ⟨rfl, hb1⟩
set_option maxHeartbeats 1000000 in
theorem cvS_f4 (n L i x : Int) (b : Nat) (w : World) (h : bsB n L = true) (hb : b < (bsL n L).length) (hx : (bsL n L)[b]? = some x) (hi : i < 0) :
    Calls Try.prog 35 #[.int .i64 n, .int .i64 L, .int .i64 b, .int .i64 i] w (RetCv 0 0 false w) := by
  have hlm := bsL_len n L
  have hx128 := bsL_bd h hx
  obtain ⟨hx1, hx2⟩ := hx128
  obtain ⟨p0, p1, p2, p3⟩ := bs_true h
  have HB := Lib.hid h
  clear h
  have HX := Lib.hid hx
  clear hx
  go_enter Try.func35, Try.ntmps35
  go_wp2_with (first | (go_at_call 69; go_in) | (go_at_call 70; refine (szS_any' _ _ _ HB.out).mono ?_; rintro e w1 ⟨v, rfl, ho, hb1⟩; obtain ⟨A, c, hv, hc1, hc2, hcell⟩ := ho; rw [il_len] at hv hc1 hcell; subst hv; obtain ⟨blk, off, rfl, hlo, hbw, hcc, hfz⟩ := hcell (by omega); have hsrc := hcc b _ (il_at HX.out); clear hcc hfz hcell; (try rw [Nat.add_zero] at hsrc); generalize (bsL n L).length = m at *) | (go_at_call 57; first | (refine (in_yes _ _ _ _ (by omega) (by omega)).mono ?_; rintro e w' ⟨rfl, rfl⟩) | (refine (in_not _ _ _ _ (by omega)).mono ?_; rintro e w' ⟨rfl, rfl⟩)))
  go_ret3
  exact ⟨rfl, hb1⟩
set_option maxHeartbeats 1000000 in
theorem cvS_f5 (n L i x : Int) (b : Nat) (w : World) (h : bsB n L = true) (hb : b < (bsL n L).length) (hx : (bsL n L)[b]? = some x) (hi : x ≤ i) :
    Calls Try.prog 35 #[.int .i64 n, .int .i64 L, .int .i64 b, .int .i64 i] w (RetCv 0 0 false w) := by
  have hlm := bsL_len n L
  have hx128 := bsL_bd h hx
  obtain ⟨hx1, hx2⟩ := hx128
  have hi0 : 0 ≤ i := by omega
  obtain ⟨p0, p1, p2, p3⟩ := bs_true h
  have HB := Lib.hid h
  clear h
  have HX := Lib.hid hx
  clear hx
  go_enter Try.func35, Try.ntmps35
  go_wp2_with (first | (go_at_call 69; go_in) | (go_at_call 70; refine (szS_any' _ _ _ HB.out).mono ?_; rintro e w1 ⟨v, rfl, ho, hb1⟩; obtain ⟨A, c, hv, hc1, hc2, hcell⟩ := ho; rw [il_len] at hv hc1 hcell; subst hv; obtain ⟨blk, off, rfl, hlo, hbw, hcc, hfz⟩ := hcell (by omega); have hsrc := hcc b _ (il_at HX.out); clear hcc hfz hcell; (try rw [Nat.add_zero] at hsrc); generalize (bsL n L).length = m at *) | (go_at_call 57; first | (refine (in_yes _ _ _ _ (by omega) (by omega)).mono ?_; rintro e w' ⟨rfl, rfl⟩) | (refine (in_not _ _ _ _ (by omega)).mono ?_; rintro e w' ⟨rfl, rfl⟩)))
  go_ret3
  exact ⟨rfl, hb1⟩
end Go.Proofs.Yteogogcjndfkoaa
