/-
  Contracts: ridges, of both sides.
-/
import Derived.Test.YtfhngajodfjkeabAr
import Derived.Test.YtfhngajodfjkeabMx
namespace Go.Proofs.Ytfhngajodfjkeab
open Go.RowKit Fl
set_option linter.unusedVariables false

def atR (xss : List (List Nat)) (k i : Nat) : Nat := (xss.getD k []).getD i 0
/-- Which of the first k rows is the greatest at i. -/
def rdK (xss : List (List Nat)) (i : Nat) : Nat → Nat
  | 0 => 0
  | k + 1 => if gt32 (atR xss k i) (atR xss (rdK xss i k) i) then k else rdK xss i k
theorem rdK_lt (xss : List (List Nat)) (i k n : Nat) (hn : 1 ≤ n) (h : k ≤ n) : rdK xss i k < n := by
  induction k with
  | zero => exact hn
  | succ k ih =>
    unfold rdK
    split
    · omega
    · exact ih (by omega)
theorem rdK_yes {xss : List (List Nat)} {i k : Nat} (h : gt32 (atR xss k i) (atR xss (rdK xss i k) i) = true) : rdK xss i (k + 1) = k := by unfold rdK; rw [if_pos h]
theorem rdK_no {xss : List (List Nat)} {i k : Nat} (h : gt32 (atR xss k i) (atR xss (rdK xss i k) i) = false) : rdK xss i (k + 1) = rdK xss i k := by conv => lhs; unfold rdK; rw [if_neg (by rw [h]; decide)]
def rgL (xss : List (List Nat)) (n i : Nat) : List Int := (List.range i).map fun c => ((rdK xss c n : Nat) : Int)
theorem rgL_succ (xss : List (List Nat)) (n i : Nat) : rgL xss n (i + 1) = rgL xss n i ++ [((rdK xss i n : Nat) : Int)] := by
  unfold rgL; rw [List.range_succ, List.map_append]; rfl
theorem rgL_len (xss : List (List Nat)) (n i : Nat) : (rgL xss n i).length = i := by simp [rgL]
/-- The ridge after k rows, and i numbers of the next one. -/
def rgM (xss : List (List Nat)) (m k i : Nat) : List Int := (List.range m).map fun c => (((if c < i then rdK xss c (k + 1) else rdK xss c k) : Nat) : Int)
theorem rgM_len (xss : List (List Nat)) (m k i : Nat) : (rgM xss m k i).length = m := by simp [rgM]
theorem rgM_zero (xss : List (List Nat)) (m : Nat) : rgM xss m 0 0 = List.replicate m 0 := by
  apply List.ext_getElem?
  intro i
  by_cases hi : i < m
  · simp [rgM, hi, rdK]
  · simp [rgM, hi]
theorem rgM_next (xss : List (List Nat)) (m k : Nat) : rgM xss m k m = rgM xss m (k + 1) 0 := by
  apply List.ext_getElem?
  intro i
  by_cases hi : i < m
  · simp [rgM, hi]
  · simp [rgM, hi]
theorem rgM_all (xss : List (List Nat)) (m n : Nat) : rgM xss m n 0 = rgL xss n m := by simp [rgM, rgL]
theorem rgM_at (xss : List (List Nat)) (m k i : Nat) (h : i < m) : (il (rgM xss m k i))[i]? = some (.int .i64 ((rdK xss i k : Nat) : Int)) := by
  simp [il, rgM, h]
theorem rgM_yes {xss : List (List Nat)} {m k i : Nat} (h : i < m) (hg : gt32 (atR xss k i) (atR xss (rdK xss i k) i) = true) : (il (rgM xss m k i)).set i (.int .i64 ((k : Nat) : Int)) = il (rgM xss m k (i + 1)) := by
  rw [il_set]
  congr 1
  apply List.ext_getElem?
  intro j
  rw [List.getElem?_set]
  by_cases hj : i = j
  · subst hj
    rw [if_pos rfl, if_pos (by rw [rgM_len]; exact h)]
    simp [rgM, h, rdK_yes hg]
  · rw [if_neg hj]
    by_cases hm : j < m
    · have : (j < i) = (j < i + 1) := by apply propext; omega
      simp [rgM, hm, this]
    · simp [rgM, hm]
theorem rgM_no {xss : List (List Nat)} {m k i : Nat} (h : i < m) (hg : gt32 (atR xss k i) (atR xss (rdK xss i k) i) = false) : rgM xss m k i = rgM xss m k (i + 1) := by
  apply List.ext_getElem?
  intro j
  by_cases hj : i = j
  · subst hj
    simp [rgM, h, rdK_no hg]
  · by_cases hm : j < m
    · have : (j < i) = (j < i + 1) := by apply propext; omega
      simp [rgM, hm, this]
    · simp [rgM, hm]
def widR (xss : List (List Nat)) : Nat := (xss.getD 0 []).length
/-- What is known of rows: each row's value and cells. -/
structure RowAt (w : World) (B : Nat) (b off : Nat) (m : Nat) (xss : List (List Nat)) (k : Nat) : Prop where
  ex : ∃ bk ok ck, w.cell? ⟨b, off + k, none⟩ = some (.slice (some ⟨bk, ok, none⟩) m ck) ∧ bk < B ∧ ∀ i, i < m → w.cell? ⟨bk, ok + i, none⟩ = some (.float .f32 (atR xss k i))
theorem rowAt_of {w : World} {B b off m : Nat} {vs : List Value} {xss : List (List Nat)} (hcc : ∀ (i : Nat) (x : Value), vs[i]? = some x → w.cell? ⟨b, off + i, none⟩ = some x) (hls : RdLs w B vs (fll xss)) (hm : 1 ≤ m) (hl : ∀ i (hi : i < xss.length), xss[i].length = m) {k : Nat} (hk : k < xss.length) : RowAt w B b off m xss k := by
  have hlen : vs.length = xss.length := by rw [hls.1, fll_len]
  have hx : vs[k]? = some (vs[k]'(by omega)) := List.getElem?_eq_getElem (by omega)
  have hox := hls.2 k _ _ hx (fll_get _ _ hk)
  obtain ⟨Ax, cx, hxv, q1, q2, q3⟩ := hox
  rw [fl_len, hl k hk] at hxv q3
  obtain ⟨bk, ok, e, hb, hc⟩ := q3 (by omega)
  subst e
  refine ⟨bk, ok, cx, by rw [hcc k _ hx, hxv], hb, fun i hi => ?_⟩
  have hi' : i < xss[k].length := by rw [hl k hk]; exact hi
  rw [hc i _ (fl_get _ i hi')]
  simp [atR, List.getD, hk, hi']
theorem RowAt.below {w w' : World} {B b off m k : Nat} {xss : List (List Nat)} (h : RowAt w B b off m xss k) (hb : b < B) (hbe : Below B w w') : RowAt w' B b off m xss k := by
  obtain ⟨bk, ok, ck, h1, h2, h3⟩ := h.ex
  exact ⟨bk, ok, ck, (hbe.cell (p := ⟨b, off + k, none⟩) hb).trans h1, h2, fun i hi => (hbe.cell (p := ⟨bk, ok + i, none⟩) h2).trans (h3 i hi)⟩

def RgOut (w0 : World) (xss : List (List Nat)) (m : Nat) (v i : Value) (wr : World) : Prop :=
  ∃ k : Nat, k ≤ m ∧ i = .int .i64 k ∧ wr.ownsRow w0.heap.size 2 1 v k (il (rgL xss xss.length k)) ∧ Below w0.heap.size w0 wr
def RgIn (w0 : World) (xss : List (List Nat)) (c : Nat) (b i : Value) (wr : World) : Prop :=
  ∃ k q : Nat, k ≤ xss.length ∧ i = .int .i64 k ∧ b = .int .i64 ((rdK xss c k : Nat) : Int) ∧ wr = w0.drewN q
def rgR (xss : List (List Nat)) : List Int := if rwB xss 12 then rgL xss xss.length (widR xss) else []
theorem rgR_len (xss : List (List Nat)) : (rgR xss).length ≤ 1048576 := by
  unfold rgR
  split
  · rename_i h
    have := rwB_out h
    rw [rgL_len]
    unfold widR
    omega
  · simp
set_option maxRecDepth 100000 in
set_option maxHeartbeats 2000000 in
theorem rgS_any (v : Value) (xss : List (List Nat)) (w : World) (h : RdL w w.heap.size v (fll xss)) (hm : xss.length ≤ 1048576) (hm2 : ∀ xs ∈ xss, xs.length ≤ 1048576) (hx : ∀ xs ∈ xss, ∀ x ∈ xs, x < 2 ^ 32) :
    Calls Try.prog 23 #[v] w (RetJ (rgR xss) (rwB xss 12) w) := by
  have HA := Lib.hid (arS_any v xss 12 w _ h hm hm2 hx (by omega))
  obtain ⟨i0, hi, hz0, hz1, hz2⟩ := info_parts infoJ
  obtain ⟨vs, ho, hls⟩ := h
  have hlen : vs.length = xss.length := by rw [hls.1, fll_len]
  obtain ⟨A, c, hv, hc1, hc2, hcell⟩ := id ho
  have hvl : v = .slice A xss.length c := by rw [hv, hlen]
  clear hv hc1 hc2
  subst hvl
  clear hx hm2
  cases hb : rwB xss 12 with
  | false =>
    rw [hb] at HA
    have HR := Lib.hid (show rgR xss = [] by unfold rgR; rw [hb]; rfl)
    clear hcell hls ho hb
    go_enter Try.func23, Try.ntmps23
    go_wp2_with fail
    refine HA.out.mono ?_
    rintro e w1 ⟨rfl, n, rfl⟩
    go_wp2_with fail
    go_ret2
    exact ⟨_, rfl, by rw [HR.out]; exact own_nilJ _ _, below_drawn (Below.refl _ _) _⟩
  | true =>
    rw [hb] at HA
    obtain ⟨k1, k2, k3, k4, k5⟩ := rwB_out hb
    have HR := Lib.hid (show rgR xss = rgL xss xss.length (widR xss) by unfold rgR; rw [hb]; rfl)
    obtain ⟨m, hmd⟩ : ∃ m, m = widR xss := ⟨_, rfl⟩
    replace k3 : 1 ≤ m := by rw [hmd]; exact k3
    replace k4 : m ≤ 128 := by rw [hmd]; exact k4
    obtain ⟨b, off, rfl, hbw, hcc⟩ := hcell (by omega)
    have HRow := Lib.hid (fun (k : Nat) (hk : k < xss.length) => rowAt_of hcc hls k3 (fun i hi => by rw [hmd]; exact (k5 i hi).1) hk)
    rw [← hmd] at HR
    clear hcell hcc hls ho hb k5 hmd hlen
    obtain ⟨b0, o0, c0, s0, s1, s2⟩ := (HRow.out 0 (by omega)).ex
    replace s0 : w.cell? ⟨b, off, none⟩ = some (.slice (some ⟨b0, o0, none⟩) m c0) := s0
    clear s1 s2
    go_enter Try.func23, Try.ntmps23
    go_wp2_with fail
    refine HA.out.mono ?_
    rintro e w1 ⟨rfl, n, rfl⟩
    have hbx : Below w.heap.size w ((w.drewN n).alloc (Obj.cells #[] 2)) := (below_drawn (Below.refl _ _) n).alloc (Nat.le_refl _) _
    have s0' := (hbx.cell (p := ⟨b, off, none⟩) hbw).trans s0
    clear s0 hbx
    go_wp2_with fail
    have hown : ((w.drewN n).alloc (Obj.cells #[] 2)).ownsRow w.heap.size 2 1 (.slice (some ⟨w.heap.size, 0, none⟩) 0 0) 0 (il []) := World.ownsRow_made (w.drewN n) #[] 0 (Nat.le_refl _) (Nat.zero_le _) rfl
    have hb0 : Below w.heap.size w ((w.drewN n).alloc (Obj.cells #[] 2)) := (below_drawn (Below.refl _ _) n).alloc (Nat.le_refl _) _
    go_loopw [4, 16] (RgOut w xss m) (fun _ i _ => m - (intOf i).toNat)
    case atStart => exact ⟨0, Nat.zero_le _, rfl, hown, hb0⟩
    case round =>
      clear hown hb0 s0'
      obtain ⟨i, hik, rfl, hown, hb⟩ := hrel
      have HOW := Lib.hid hown
      have HB := Lib.hid hb
      clear hown hb
      by_cases hlt : i < m
      · go_wp2_with fail
        go_loopw [6, 21] (RgIn wr xss i) (fun _ j _ => xss.length - (intOf j).toNat)
        case atStart => exact ⟨0, 0, Nat.zero_le _, rfl, rfl, rfl⟩
        case round =>
          obtain ⟨k, q, hk, rfl, rfl, rfl⟩ := hrel
          by_cases hlk : k < xss.length
          · have hbd := rdK_lt xss i k xss.length (by omega) hk
            obtain ⟨ba, oa, ca, a0, a1, a2⟩ := ((HRow.out k hlk).below hbw HB.out).ex
            obtain ⟨bb, ob, cb, b0', b1, b2⟩ := ((HRow.out (rdK xss i k) hbd).below hbw HB.out).ex
            have a3 := a2 i hlt
            have b3 := b2 i hlt
            have z1 : (k : Int) < (xss.length : Int) := by omega
            have z2 : ((rdK xss i k : Nat) : Int) < (xss.length : Int) := by omega
            have z3 : (i : Int) < (m : Int) := by omega
            clear a1 a2 b1 b2
            cases hg : gt32 (atR xss k i) (atR xss (rdK xss i k) i) with
            | true =>
              have HN := Lib.hid (rdK_yes hg)
              have e1 : (FloatKind.f32.format.order (atR xss k i) (atR xss (rdK xss i k) i) == some .gt) = true := hg
              clear hg
              generalize atR xss k i = x at *
              generalize atR xss (rdK xss i k) i = y at *
              generalize rdK xss i k = r at *
              go_wp2_with fail
              go_quiet (fail)
              go_wp2
              go_roundw
              case rel => exact ⟨k + 1, _, by omega, by go_num, by rw [HN.out], rfl⟩
              case measure => simp [intOf]; omega
            | false =>
              have HN := Lib.hid (rdK_no hg)
              have e1 : (FloatKind.f32.format.order (atR xss k i) (atR xss (rdK xss i k) i) == some .gt) = false := hg
              clear hg
              generalize atR xss k i = x at *
              generalize atR xss (rdK xss i k) i = y at *
              generalize rdK xss i k = r at *
              go_wp2_with fail
              go_quiet (fail)
              go_wp2
              go_roundw
              case rel => exact ⟨k + 1, _, by omega, by go_num, by rw [HN.out], rfl⟩
              case measure => simp [intOf]; omega
          · obtain rfl : k = xss.length := by omega
            have HS := Lib.hid (rgL_succ xss xss.length i)
            generalize rdK xss i xss.length = r at *
            go_wp2_with (at_builtin; refine wpList_append_own _ rfl _ _ 23 rfl w.heap.size 2 i0 (.int .i64 0) 1 8 Try.underlying23 hi hz0 hz1 hz2 rfl (by decide) _ _ _ rfl ((rowDrew HOW.out _).alloc _) ⟨wr.heap.size, 0, none⟩ 1 1 [.int .i64 r] rfl rfl (one_newJ _ _ _) (one_cellJ _ _) (by unfold maxLen; omega) (by omega) (by simp; have := HB.out.size; omega) ?_; intro v' w1 hown' hgrow _)
            have hown2 : w1.ownsRow w.heap.size 2 1 v' (i + 1) (il (rgL xss xss.length (i + 1))) := by rw [HS.out, il_appJ]; exact hown'
            have hb2 : Below w.heap.size w w1 := ((below_drawn HB.out _).alloc (by exact HB.out.size) _).grown hgrow (by simp; have := HB.out.size; omega) (fun j hj => (HOW.out.lt j hj).1)
            have HO2 := Lib.hid hown2
            have HB2 := Lib.hid hb2
            clear hown' hgrow hown2 hb2
            go_wp2
            go_roundw
            case rel => exact ⟨i + 1, by omega, by go_num, HO2.out, HB2.out⟩
            case measure => simp [intOf]; omega
      · obtain rfl : i = m := by omega
        go_wp2
        go_ret2
        exact ⟨_, rfl, by rw [HR.out]; exact Own.row HOW.out, HB.out⟩
def RgA (w0 : World) (xss : List (List Nat)) (m g : Nat) (i : Value) (wr : World) : Prop :=
  ∃ k : Nat, k ≤ xss.length ∧ i = .int .i64 k ∧ wr.ownsRow w0.heap.size 2 1 (.slice (some ⟨g, 0, none⟩) m m) m (il (rgM xss m k 0)) ∧ Below w0.heap.size w0 wr
def RgB (w0 : World) (xss : List (List Nat)) (m g k : Nat) (i : Value) (wr : World) : Prop :=
  ∃ c : Nat, c ≤ m ∧ i = .int .i64 c ∧ wr.ownsRow w0.heap.size 2 1 (.slice (some ⟨g, 0, none⟩) m m) m (il (rgM xss m k c)) ∧ Below w0.heap.size w0 wr
set_option maxRecDepth 100000 in
set_option maxHeartbeats 2000000 in
theorem rgI_any (v : Value) (xss : List (List Nat)) (w : World) (h : RdL w w.heap.size v (fll xss)) (hm : xss.length ≤ 1048576) (hm2 : ∀ xs ∈ xss, xs.length ≤ 1048576) (hx : ∀ xs ∈ xss, ∀ x ∈ xs, x < 2 ^ 32) :
    Calls Try.prog 25 #[v] w (RetJ (rgR xss) (rwB xss 12) w) := by
  have HA := Lib.hid (arI_any v xss 12 w _ h hm hm2 hx (by omega))
  obtain ⟨i0, hi, hz0, hz1, hz2⟩ := info_parts infoJ
  obtain ⟨vs, ho, hls⟩ := h
  have hlen : vs.length = xss.length := by rw [hls.1, fll_len]
  obtain ⟨A, c, hv, hc1, hc2, hcell⟩ := id ho
  have hvl : v = .slice A xss.length c := by rw [hv, hlen]
  clear hv hc1 hc2
  subst hvl
  clear hx hm2
  cases hb : rwB xss 12 with
  | false =>
    rw [hb] at HA
    have HR := Lib.hid (show rgR xss = [] by unfold rgR; rw [hb]; rfl)
    clear hcell hls ho hb
    go_enter Try.func25, Try.ntmps25
    go_wp2_with fail
    refine HA.out.mono ?_
    rintro e w1 ⟨rfl, n, rfl⟩
    go_wp2_with fail
    go_ret2
    exact ⟨_, rfl, by rw [HR.out]; exact own_nilJ _ _, below_drawn (Below.refl _ _) _⟩
  | true =>
    rw [hb] at HA
    obtain ⟨k1, k2, k3, k4, k5⟩ := rwB_out hb
    have HR := Lib.hid (show rgR xss = rgL xss xss.length (widR xss) by unfold rgR; rw [hb]; rfl)
    obtain ⟨m, hmd⟩ : ∃ m, m = widR xss := ⟨_, rfl⟩
    replace k3 : 1 ≤ m := by rw [hmd]; exact k3
    replace k4 : m ≤ 128 := by rw [hmd]; exact k4
    obtain ⟨b, off, rfl, hbw, hcc⟩ := hcell (by omega)
    have HRow := Lib.hid (fun (k : Nat) (hk : k < xss.length) => rowAt_of hcc hls k3 (fun i hi => by rw [hmd]; exact (k5 i hi).1) hk)
    rw [← hmd] at HR
    clear hcell hcc hls ho hb k5 hmd hlen
    obtain ⟨b0, o0, c0, s0, s1, s2⟩ := (HRow.out 0 (by omega)).ex
    replace s0 : w.cell? ⟨b, off, none⟩ = some (.slice (some ⟨b0, o0, none⟩) m c0) := s0
    clear s1 s2
    go_enter Try.func25, Try.ntmps25
    go_wp2_with fail
    refine HA.out.mono ?_
    rintro e w1 ⟨rfl, n, rfl⟩
    go_wp2_with (refine wpList_make_full _ rfl _ _ 23 rfl w.heap.size 2 i0 (.int .i64 0) 1 Try.underlying23 hi hz0 hz1 .i64 .i64 _ _ m rfl rfl rfl rfl (by rw [hz2]; omega) (by unfold maxLen; omega) (Nat.le_refl _) ?_; intro w1 hown hgrow)
    have hb1 : Below w.heap.size w w1 := (below_drawn (Below.refl _ _) n).grown hgrow (Nat.le_refl _) (fun _ h => by cases h)
    have hown1 : w1.ownsRow w.heap.size 2 1 (.slice (some ⟨w.heap.size, 0, none⟩) m m) m (il (rgM xss m 0 0)) := by
      rw [rgM_zero]
      have e : (madeCells (Value.cells (.int .i64 0)) (m * 1)).toList = il (List.replicate m 0) := by
        rw [Nat.mul_one]
        show (madeCells #[Value.int .i64 0] m).toList = _
        rw [toList_madeCells_one]; simp [il]
      rw [← e]; exact hown
    clear hown hgrow s0
    go_loopw [19] (RgA w xss m w.heap.size) (fun i _ => xss.length - (intOf i).toNat)
    case atStart => exact ⟨0, Nat.zero_le _, rfl, hown1, hb1⟩
    case round =>
      obtain ⟨k, hk, rfl, hown, hb⟩ := hrel
      clear hown1 hb1
      have HOW := Lib.hid hown
      have HB := Lib.hid hb
      clear hown hb
      by_cases hlk : k < xss.length
      · obtain ⟨ba, oa, ca, a0, a1, a2⟩ := (HRow.out k hlk).ex
        have a0' := (HB.out.cell (p := ⟨b, off + k, none⟩) hbw).trans a0
        have HA2 := Lib.hid a2
        clear a0 a2
        go_wp2_with fail
        go_loopw [26] (RgB w xss m w.heap.size k) (fun i _ => m - (intOf i).toNat)
        case atStart => exact ⟨0, Nat.zero_le _, rfl, HOW.out, HB.out⟩
        case round =>
          clear HOW HB a0'
          obtain ⟨i, hik, rfl, hown, hb⟩ := hrel
          by_cases hlt : i < m
          · have hbd := rdK_lt xss i k xss.length (by omega) (by omega)
            obtain ⟨bb, ob, cb, b0', b1, b2⟩ := (HRow.out (rdK xss i k) hbd).ex
            have c1 := (hb.cell (p := ⟨ba, oa + i, none⟩) a1).trans (HA2.out i hlt)
            have c2 : wr.cell? ⟨w.heap.size, i, none⟩ = some (.int .i64 ((rdK xss i k : Nat) : Int)) := by rw [hown.cellAt i (by omega)]; exact rgM_at xss m k i hlt
            have c3 := (hb.cell (p := ⟨b, off + rdK xss i k, none⟩) hbw).trans b0'
            have c4 := (hb.cell (p := ⟨bb, ob + i, none⟩) b1).trans (b2 i hlt)
            have c5 : wr.frozen? ⟨w.heap.size, i, none⟩ = false := hown.frozenAt i
            have z2 : ((rdK xss i k : Nat) : Int) < (xss.length : Int) := by omega
            clear b0' b1 b2
            cases hg : gt32 (atR xss k i) (atR xss (rdK xss i k) i) with
            | true =>
              have hst := (hown.stored i (.int .i64 ((k : Nat) : Int))).1
              rw [rgM_yes hlt hg] at hst
              have HO2 := Lib.hid hst
              have HB2 := Lib.hid (show Below w.heap.size w (wr.setCell ⟨w.heap.size, i, none⟩ (.int .i64 ((k : Nat) : Int))) from hb.setCell (Nat.le_refl _) _)
              have e1 : (FloatKind.f32.format.order (atR xss k i) (atR xss (rdK xss i k) i) == some .gt) = true := hg
              clear hst hg hown hb HA2
              generalize atR xss k i = x at *
              generalize atR xss (rdK xss i k) i = y at *
              generalize rdK xss i k = r at *
              go_wp2
              go_roundw
              case rel => exact ⟨i + 1, by omega, by go_num, HO2.out, HB2.out⟩
              case measure => simp [intOf]; omega
            | false =>
              rw [rgM_no hlt hg] at hown
              have HO2 := Lib.hid hown
              have HB2 := Lib.hid hb
              have e1 : (FloatKind.f32.format.order (atR xss k i) (atR xss (rdK xss i k) i) == some .gt) = false := hg
              clear hg hown hb HA2
              generalize atR xss k i = x at *
              generalize atR xss (rdK xss i k) i = y at *
              generalize rdK xss i k = r at *
              go_wp2
              go_roundw
              case rel => exact ⟨i + 1, by omega, by go_num, HO2.out, HB2.out⟩
              case measure => simp [intOf]; omega
          · obtain rfl : i = m := by omega
            have HO2 := Lib.hid hown
            have HB2 := Lib.hid hb
            have HN := Lib.hid (rgM_next xss i k)
            clear hown hb
            go_wp2
            go_roundw
            case rel => exact ⟨k + 1, by omega, by go_num, by rw [← HN.out]; exact HO2.out, HB2.out⟩
            case measure => simp [intOf]; omega
      · obtain rfl : k = xss.length := by omega
        have HO2 := Lib.hid (show Own wr w.heap.size _ (il (rgL xss xss.length m)) by rw [← rgM_all]; exact Own.row HOW.out)
        go_wp2
        go_ret2
        exact ⟨_, rfl, by rw [HR.out]; exact HO2.out, HB.out⟩
end Go.Proofs.Ytfhngajodfjkeab
