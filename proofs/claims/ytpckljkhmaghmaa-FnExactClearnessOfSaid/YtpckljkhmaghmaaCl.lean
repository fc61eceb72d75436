/-
  Contracts: how clear lists are, of both sides.
-/
import Derived.Test.YtpckljkhmaghmaaMio
import Derived.Test.YtpckljkhmaghmaaLgt
import Derived.Deep.RegionWith
namespace Go.Proofs.Ytpckljkhmaghmaa
open Go.RowKit Fl Ieee
set_option linter.unusedVariables false

set_option maxHeartbeats 2000000 in
theorem en3_any (v : Value) (xs : List Nat) (w : World) (B : Nat) (h : Rd w B v (fl xs)) (hm : xs.length ≤ 1048576) :
    Calls Try.prog 74 #[v] w (RetF32 (enF xs) w) := by
  obtain ⟨A, c, hv, hc1, hc2, hcell⟩ := h
  rw [fl_len] at hv hc1 hcell
  subst hv
  have hC := Lib.hid hcell
  clear hcell
  go_enter Try.func74, Try.ntmps74
  go_wp2
  go_loopw [3, 7] (DotRel w xs xs) (fun _ i _ => xs.length - (intOf i).toNat)
  case atStart => exact ⟨0, 0, 0, Nat.zero_le _, rfl, rfl, is_lit (by decide), rfl⟩
  case round =>
    obtain ⟨k, m, r0, hk, rfl, rfl, hr0, rfl⟩ := hrel
    by_cases hlt : k < xs.length
    · obtain ⟨b, off, rfl, hbl, hcc⟩ := hC.out (by omega)
      have h1 : w.cell? ⟨b, off + k, none⟩ = some (.float .f32 xs[k]) := hcc k _ (fl_get xs k hlt)
      have hS := Lib.hid (dotK_succ xs xs k hlt hlt)
      clear hcc hC
      generalize xs[k] = x at *
      go_wp2
      go_region_with (first | (refine up_ar (op := .mul) rfl ?_; intro rp np hp) | (refine up_ar2 (op := .add) rfl hr0 hp ?_; intro rs ns hs))
      all_goals
        go_wp2
        go_roundw
        case rel => exact ⟨k + 1, _, _, by omega, by go_num, rfl, by rw [hS.out]; exact hs, rfl⟩
        case measure => simp [intOf]; omega
    · obtain rfl : k = xs.length := by omega
      go_wp2
      go_ret
      exact ⟨_, _, rfl, hr0, rfl⟩

theorem psB_is {r c : Nat} (h : Is .f32 r c) : psB r = psB c := by unfold psB gt32; rw [fin_is h, order_is_l h]
theorem psB_out {x : Nat} (h : psB x = true) : finB .f32 x = true ∧ gt32 x 0 = true := by unfold psB at h; rw [Bool.and_eq_true] at h; exact h
theorem le_0 {a : Nat} (ha : finB .f32 a = true) : (FloatKind.f32.format.order a 0 == some .lt || FloatKind.f32.format.order a 0 == some .eq) = !gt32 a 0 := by
  obtain ⟨s, m, e, hr⟩ := fin_num ha
  unfold gt32
  rw [order_num hr read_0]
  rcases Int.lt_trichotomy (signed s m (e - min e (-149)).toNat) (signed false 0 (-149 - min e (-149)).toNat) with h | h | h
  · rw [cmp_lt h]; rfl
  · rw [cmp_eq h]; rfl
  · rw [cmp_gt h]; rfl
/-- How clear a list is, d being the logarithm. -/
def clG (xs ys : List Nat) : Bool := mlB xs ys && psB (msX xs) && gt32 (msX (dfL xs ys)) 0
def clX (d : Nat) : Nat := ar .mul .f32 1082849639 d
def clV (xs ys : List Nat) (d : Nat) : Nat := if clG xs ys then fnV (clX d) else 0
def clB (xs ys : List Nat) (d : Nat) : Bool := clG xs ys && finB .f32 (clX d)
theorem cl_no {xs ys : List Nat} {d : Nat} (h : clG xs ys = false) : clV xs ys d = 0 ∧ clB xs ys d = false := by unfold clV clB; rw [h]; exact ⟨rfl, rfl⟩
theorem cl_yes {xs ys : List Nat} {d : Nat} (h : clG xs ys = true) : clV xs ys d = fnV (clX d) ∧ clB xs ys d = finB .f32 (clX d) := by unfold clV clB; rw [h]; exact ⟨rfl, rfl⟩
theorem mlB_out {xs ys : List Nat} (h : mlB xs ys = true) : mlG xs ys = true ∧ mlV xs ys = msX (dfL xs ys) ∧ finB .f32 (msX (dfL xs ys)) = true := by
  unfold mlB at h
  rw [Bool.and_eq_true] at h
  exact ⟨h.1, by rw [(ml_yes h.1).1]; unfold fnV; rw [h.2]; rfl, h.2⟩
def LogB (x d : Nat) : Prop := ∀ r, Is .f32 r x → (∀ w, Calls Try.prog 59 #[.float .f32 r] w (RetF .f32 d w)) ∧ (∀ w, Calls Try.prog 63 #[.float .f32 r] w (RetF .f32 d w))
theorem logB (op : BinOp) (x y : Nat) : ∃ d, LogB (ar op .f32 x y) d := log_is _ ⟨_, ar_self op x y⟩
theorem retB1_cl {xs ys : List Nat} {d : Nat} {w w' : World} (hG : clG xs ys = false) (h : Below w.heap.size w w') : RetB1 (clV xs ys d) (clB xs ys d) w (.returned (.tuple #[.float .f32 0, .bool false])) w' := by
  rw [(cl_no hG).1, (cl_no hG).2]; exact retB1_no h
set_option maxRecDepth 100000 in
set_option maxHeartbeats 1000000 in
theorem cl1S (va vb : Value) (xs ys : List Nat) (d : Nat) (w : World) (hva : Rd w w.heap.size va (fl xs)) (hvb : Rd w w.heap.size vb (fl ys)) (hm : xs.length ≤ 1048576) (hm2 : ys.length ≤ 1048576) (hx : ∀ x ∈ xs, x < 2 ^ 32) (hy : ∀ x ∈ ys, x < 2 ^ 32) (q1 : mlB xs ys = false) : Calls Try.prog 34 #[va, vb] w (RetB1 (clV xs ys d) (clB xs ys d) w) := by
  have H1 := Lib.hid (mlS_any va vb xs ys w hva hvb hm hm2 hx hy)
  obtain ⟨A, c, ea, z1, z2, z3⟩ := id hva
  obtain ⟨A', c', eb, z4, z5, z6⟩ := id hvb
  clear z1 z2 z3 z4 z5 z6
  rw [fl_len] at ea eb
  subst ea eb
  have RA := Lib.hid hva
  clear hva hvb hx hy
  have T1 := Lib.hid q1
  have HG := Lib.hid (show clG xs ys = false by unfold clG; rw [q1]; rfl)
  clear q1
  go_enter Try.func34, Try.ntmps34
  go_wp2_with (go_at_call 32; refine H1.out.mono ?_; rintro e w1 ⟨r1, rfl, h1, hb1⟩; rw [T1.out])
  go_ret2
  exact retB1_cl HG.out hb1
set_option maxRecDepth 100000 in
set_option maxHeartbeats 1000000 in
theorem cl1I (va vb : Value) (xs ys : List Nat) (d : Nat) (w : World) (hva : Rd w w.heap.size va (fl xs)) (hvb : Rd w w.heap.size vb (fl ys)) (hm : xs.length ≤ 1048576) (hm2 : ys.length ≤ 1048576) (hx : ∀ x ∈ xs, x < 2 ^ 32) (hy : ∀ x ∈ ys, x < 2 ^ 32) (q1 : mlB xs ys = false) : Calls Try.prog 35 #[va, vb] w (RetB1 (clV xs ys d) (clB xs ys d) w) := by
  have H1 := Lib.hid (mlI_any va vb xs ys w hva hvb hm hm2 hx hy)
  obtain ⟨A, c, ea, z1, z2, z3⟩ := id hva
  obtain ⟨A', c', eb, z4, z5, z6⟩ := id hvb
  clear z1 z2 z3 z4 z5 z6
  rw [fl_len] at ea eb
  subst ea eb
  have RA := Lib.hid hva
  clear hva hvb hx hy
  have T1 := Lib.hid q1
  have HG := Lib.hid (show clG xs ys = false by unfold clG; rw [q1]; rfl)
  clear q1
  go_enter Try.func35, Try.ntmps35
  go_wp2_with (go_at_call 33; refine H1.out.mono ?_; rintro e w1 ⟨r1, rfl, h1, hb1⟩; rw [T1.out])
  go_ret2
  exact retB1_cl HG.out hb1
set_option maxRecDepth 100000 in
set_option maxHeartbeats 1000000 in
theorem cl2S (va vb : Value) (xs ys : List Nat) (d : Nat) (w : World) (hva : Rd w w.heap.size va (fl xs)) (hvb : Rd w w.heap.size vb (fl ys)) (hm : xs.length ≤ 1048576) (hm2 : ys.length ≤ 1048576) (hx : ∀ x ∈ xs, x < 2 ^ 32) (hy : ∀ x ∈ ys, x < 2 ^ 32) (q1 : mlB xs ys = true) (q2 : psB (msX xs) = false) : Calls Try.prog 34 #[va, vb] w (RetB1 (clV xs ys d) (clB xs ys d) w) := by
  have H1 := Lib.hid (mlS_any va vb xs ys w hva hvb hm hm2 hx hy)
  obtain ⟨A, c, ea, z1, z2, z3⟩ := id hva
  obtain ⟨A', c', eb, z4, z5, z6⟩ := id hvb
  clear z1 z2 z3 z4 z5 z6
  rw [fl_len] at ea eb
  subst ea eb
  have RA := Lib.hid hva
  clear hva hvb hx hy
  have T1 := Lib.hid q1
  have HM := Lib.hid (mlB_out q1)
  have hlen := (isL_len (mlG_out HM.out.1).1)
  have hl1 := hlen.1
  have hl2 := hlen.2.1
  clear hlen
  have HE := Lib.hid (fun w' (hr : Rd w' w'.heap.size (.slice A xs.length c) (fl xs)) => en3_any _ xs w' _ hr hm)
  have T2 := Lib.hid q2
  have HG := Lib.hid (show clG xs ys = false by unfold clG; rw [q1, q2]; rfl)
  clear q1 q2
  go_enter Try.func34, Try.ntmps34
  go_wp2_with (go_at_call 32; refine H1.out.mono ?_; rintro e w1 ⟨r1, rfl, h1, hb1⟩; rw [T1.out])
  go_wp2_with fail
  rw [HM.out.2.1] at h1
  obtain rfl := is_eq h1 (nan_fin HM.out.2.2)
  have R1 := Lib.hid (RA.out.step hb1)
  have HB1 := Lib.hid hb1
  have HI1 := Lib.hid h1
  clear hb1 RA H1 h1
  go_wp2_with (first | (go_at_call 74; refine (HE.out _ R1.out).mono ?_; rintro e w' ⟨r2, n2, rfl, h2, rfl⟩) | (refine up_ar2 (op := .quo) rfl h2 (is_int32 _) ?_; intro r3 n3 h3) | (go_at_call 64; refine (psS_any _ _ h3.2).mono ?_; rintro e w' ⟨rfl, n4, rfl⟩; rw [psB_is h3]; rw [show psB (ar .quo .f32 (enF xs) (floatOfInt .f32 (xs.length : Int))) = psB (msX xs) from rfl, T2.out]))
  go_ret2
  exact retB1_cl HG.out (below_drawn HB1.out _)
set_option maxRecDepth 100000 in
set_option maxHeartbeats 1000000 in
theorem cl3S (va vb : Value) (xs ys : List Nat) (d : Nat) (w : World) (hva : Rd w w.heap.size va (fl xs)) (hvb : Rd w w.heap.size vb (fl ys)) (hm : xs.length ≤ 1048576) (hm2 : ys.length ≤ 1048576) (hx : ∀ x ∈ xs, x < 2 ^ 32) (hy : ∀ x ∈ ys, x < 2 ^ 32) (q1 : mlB xs ys = true) (q2 : psB (msX xs) = true) (q3 : gt32 (msX (dfL xs ys)) 0 = false) : Calls Try.prog 34 #[va, vb] w (RetB1 (clV xs ys d) (clB xs ys d) w) := by
  have H1 := Lib.hid (mlS_any va vb xs ys w hva hvb hm hm2 hx hy)
  obtain ⟨A, c, ea, z1, z2, z3⟩ := id hva
  obtain ⟨A', c', eb, z4, z5, z6⟩ := id hvb
  clear z1 z2 z3 z4 z5 z6
  rw [fl_len] at ea eb
  subst ea eb
  have RA := Lib.hid hva
  clear hva hvb hx hy
  have T1 := Lib.hid q1
  have HM := Lib.hid (mlB_out q1)
  have hlen := (isL_len (mlG_out HM.out.1).1)
  have hl1 := hlen.1
  have hl2 := hlen.2.1
  clear hlen
  have HE := Lib.hid (fun w' (hr : Rd w' w'.heap.size (.slice A xs.length c) (fl xs)) => en3_any _ xs w' _ hr hm)
  have T2 := Lib.hid q2
  have HG := Lib.hid (show clG xs ys = false by unfold clG; rw [q1, q2, q3]; rfl)
  have q3' : (FloatKind.f32.format.order (msX (dfL xs ys)) 0 == some .gt) = false := q3
  clear q1 q2 q3
  go_enter Try.func34, Try.ntmps34
  go_wp2_with (go_at_call 32; refine H1.out.mono ?_; rintro e w1 ⟨r1, rfl, h1, hb1⟩; rw [T1.out])
  go_wp2_with fail
  rw [HM.out.2.1] at h1
  obtain rfl := is_eq h1 (nan_fin HM.out.2.2)
  have R1 := Lib.hid (RA.out.step hb1)
  have HB1 := Lib.hid hb1
  have HI1 := Lib.hid h1
  clear hb1 RA H1 h1
  go_wp2_with (first | (go_at_call 74; refine (HE.out _ R1.out).mono ?_; rintro e w' ⟨r2, n2, rfl, h2, rfl⟩) | (refine up_ar2 (op := .quo) rfl h2 (is_int32 _) ?_; intro r3 n3 h3) | (go_at_call 64; refine (psS_any _ _ h3.2).mono ?_; rintro e w' ⟨rfl, n4, rfl⟩; rw [psB_is h3]; rw [show psB (ar .quo .f32 (enF xs) (floatOfInt .f32 (xs.length : Int))) = psB (msX xs) from rfl, T2.out]))
  go_ret2
  exact retB1_cl HG.out (below_drawn HB1.out _)
set_option maxRecDepth 100000 in
set_option maxHeartbeats 1000000 in
theorem cl5S (va vb : Value) (xs ys : List Nat) (d : Nat) (w : World) (hva : Rd w w.heap.size va (fl xs)) (hvb : Rd w w.heap.size vb (fl ys)) (hm : xs.length ≤ 1048576) (hm2 : ys.length ≤ 1048576) (hx : ∀ x ∈ xs, x < 2 ^ 32) (hy : ∀ x ∈ ys, x < 2 ^ 32) (hL : LogB (ar .quo .f32 (msX xs) (msX (dfL xs ys))) d) (q1 : mlB xs ys = true) (q2 : psB (msX xs) = true) (q3 : gt32 (msX (dfL xs ys)) 0 = true) : Calls Try.prog 34 #[va, vb] w (RetB1 (clV xs ys d) (clB xs ys d) w) := by
  have H1 := Lib.hid (mlS_any va vb xs ys w hva hvb hm hm2 hx hy)
  obtain ⟨A, c, ea, z1, z2, z3⟩ := id hva
  obtain ⟨A', c', eb, z4, z5, z6⟩ := id hvb
  clear z1 z2 z3 z4 z5 z6
  rw [fl_len] at ea eb
  subst ea eb
  have RA := Lib.hid hva
  clear hva hvb hx hy
  have T1 := Lib.hid q1
  have HM := Lib.hid (mlB_out q1)
  have hlen := (isL_len (mlG_out HM.out.1).1)
  have hl1 := hlen.1
  have hl2 := hlen.2.1
  clear hlen
  have HE := Lib.hid (fun w' (hr : Rd w' w'.heap.size (.slice A xs.length c) (fl xs)) => en3_any _ xs w' _ hr hm)
  have T2 := Lib.hid q2
  have HV := Lib.hid (cl_yes (d := d) (show clG xs ys = true by unfold clG; rw [q1, q2, q3]; rfl))
  have HL := Lib.hid (show LogB (ar .quo .f32 (ar .quo .f32 (enF xs) (floatOfInt .f32 (xs.length : Int))) (msX (dfL xs ys))) d from hL)
  have q3' : (FloatKind.f32.format.order (msX (dfL xs ys)) 0 == some .gt) = true := q3
  clear q1 q2 q3 hL
  go_enter Try.func34, Try.ntmps34
  go_wp2_with (go_at_call 32; refine H1.out.mono ?_; rintro e w1 ⟨r1, rfl, h1, hb1⟩; rw [T1.out])
  go_wp2_with fail
  rw [HM.out.2.1] at h1
  obtain rfl := is_eq h1 (nan_fin HM.out.2.2)
  have R1 := Lib.hid (RA.out.step hb1)
  have HB1 := Lib.hid hb1
  have HI1 := Lib.hid h1
  clear hb1 RA H1 h1
  go_wp2_with (first | (go_at_call 74; refine (HE.out _ R1.out).mono ?_; rintro e w' ⟨r2, n2, rfl, h2, rfl⟩) | (refine up_ar2 (op := .quo) rfl h2 (is_int32 _) ?_; intro r3 n3 h3) | (go_at_call 64; refine (psS_any _ _ h3.2).mono ?_; rintro e w' ⟨rfl, n4, rfl⟩; rw [psB_is h3]; rw [show psB (ar .quo .f32 (enF xs) (floatOfInt .f32 (xs.length : Int))) = psB (msX xs) from rfl, T2.out]) | (refine up_ar2 (op := .quo) rfl h3 HI1.out ?_; intro r5 n5 h5) | (go_at_call 59; refine ((HL.out _ h5).1 _).mono ?_; rintro e w7 ⟨r7, n7, rfl, h7, rfl⟩) | (refine up_ar2 (op := .mul) rfl (is_lit (by decide)) h7 ?_; intro r8 n8 h8) | (go_at_call 57; refine (numS_any _ _ _ h8).mono ?_; rintro e w9 ⟨r9, n9, rfl, h9, rfl⟩))
  go_ret2
  rw [HV.out.1, HV.out.2]
  exact ⟨_, rfl, h9, below_drawn HB1.out _⟩
set_option maxRecDepth 100000 in
set_option maxHeartbeats 1000000 in
theorem cl2I (va vb : Value) (xs ys : List Nat) (d : Nat) (w : World) (hva : Rd w w.heap.size va (fl xs)) (hvb : Rd w w.heap.size vb (fl ys)) (hm : xs.length ≤ 1048576) (hm2 : ys.length ≤ 1048576) (hx : ∀ x ∈ xs, x < 2 ^ 32) (hy : ∀ x ∈ ys, x < 2 ^ 32) (q1 : mlB xs ys = true) (q3 : gt32 (msX (dfL xs ys)) 0 = false) : Calls Try.prog 35 #[va, vb] w (RetB1 (clV xs ys d) (clB xs ys d) w) := by
  have H1 := Lib.hid (mlI_any va vb xs ys w hva hvb hm hm2 hx hy)
  obtain ⟨A, c, ea, z1, z2, z3⟩ := id hva
  obtain ⟨A', c', eb, z4, z5, z6⟩ := id hvb
  clear z1 z2 z3 z4 z5 z6
  rw [fl_len] at ea eb
  subst ea eb
  have RA := Lib.hid hva
  clear hva hvb hx hy
  have T1 := Lib.hid q1
  have HM := Lib.hid (mlB_out q1)
  have hlen := (isL_len (mlG_out HM.out.1).1)
  have hl1 := hlen.1
  have hl2 := hlen.2.1
  clear hlen
  have HE := Lib.hid (fun w' (hr : Rd w' w'.heap.size (.slice A xs.length c) (fl xs)) => msI_any _ xs w' _ hr hl1 (by omega) ⟨_, en_self _⟩)
  have HG := Lib.hid (show clG xs ys = false by unfold clG; rw [q1, q3, Bool.and_false])
  have q3' := le_0 HM.out.2.2
  rw [q3] at q3'
  simp only [Bool.not_false] at q3'
  clear q1 q3
  go_enter Try.func35, Try.ntmps35
  go_wp2_with (go_at_call 33; refine H1.out.mono ?_; rintro e w1 ⟨r1, rfl, h1, hb1⟩; rw [T1.out]; rw [HM.out.2.1] at h1; (have h1e := is_eq h1 (nan_fin HM.out.2.2)); subst h1e; have R1 := Lib.hid (RA.out.step hb1); have HB1 := Lib.hid hb1; have HI1 := Lib.hid h1; clear hb1 h1)
  go_ret2
  exact retB1_cl HG.out HB1.out
set_option maxRecDepth 100000 in
set_option maxHeartbeats 1000000 in
theorem cl3I (va vb : Value) (xs ys : List Nat) (d : Nat) (w : World) (hva : Rd w w.heap.size va (fl xs)) (hvb : Rd w w.heap.size vb (fl ys)) (hm : xs.length ≤ 1048576) (hm2 : ys.length ≤ 1048576) (hx : ∀ x ∈ xs, x < 2 ^ 32) (hy : ∀ x ∈ ys, x < 2 ^ 32) (q1 : mlB xs ys = true) (q3 : gt32 (msX (dfL xs ys)) 0 = true) (q4 : finB .f32 (msX xs) = false) : Calls Try.prog 35 #[va, vb] w (RetB1 (clV xs ys d) (clB xs ys d) w) := by
  have H1 := Lib.hid (mlI_any va vb xs ys w hva hvb hm hm2 hx hy)
  obtain ⟨A, c, ea, z1, z2, z3⟩ := id hva
  obtain ⟨A', c', eb, z4, z5, z6⟩ := id hvb
  clear z1 z2 z3 z4 z5 z6
  rw [fl_len] at ea eb
  subst ea eb
  have RA := Lib.hid hva
  clear hva hvb hx hy
  have T1 := Lib.hid q1
  have HM := Lib.hid (mlB_out q1)
  have hlen := (isL_len (mlG_out HM.out.1).1)
  have hl1 := hlen.1
  have hl2 := hlen.2.1
  clear hlen
  have HE := Lib.hid (fun w' (hr : Rd w' w'.heap.size (.slice A xs.length c) (fl xs)) => msI_any _ xs w' _ hr hl1 (by omega) ⟨_, en_self _⟩)
  have HG := Lib.hid (show clG xs ys = false by unfold clG psB; rw [q1, q4]; rfl)
  have T4 := Lib.hid q4
  have q3' := le_0 HM.out.2.2
  rw [q3] at q3'
  simp only [Bool.not_true] at q3'
  clear q1 q3 q4
  go_enter Try.func35, Try.ntmps35
  go_wp2_with (first | (go_at_call 33; refine H1.out.mono ?_; rintro e w1 ⟨r1, rfl, h1, hb1⟩; rw [T1.out]; rw [HM.out.2.1] at h1; (have h1e := is_eq h1 (nan_fin HM.out.2.2)); subst h1e; have R1 := Lib.hid (RA.out.step hb1); have HB1 := Lib.hid hb1; have HI1 := Lib.hid h1; clear hb1 h1) | (go_at_call 72; refine (HE.out _ R1.out).mono ?_; rintro e w' ⟨r2, n2, rfl, h2, rfl⟩; rw [T4.out]))
  go_ret2
  exact retB1_cl HG.out (below_drawn HB1.out _)
set_option maxRecDepth 100000 in
set_option maxHeartbeats 1000000 in
theorem cl4I (va vb : Value) (xs ys : List Nat) (d : Nat) (w : World) (hva : Rd w w.heap.size va (fl xs)) (hvb : Rd w w.heap.size vb (fl ys)) (hm : xs.length ≤ 1048576) (hm2 : ys.length ≤ 1048576) (hx : ∀ x ∈ xs, x < 2 ^ 32) (hy : ∀ x ∈ ys, x < 2 ^ 32) (q1 : mlB xs ys = true) (q3 : gt32 (msX (dfL xs ys)) 0 = true) (q4 : finB .f32 (msX xs) = true) (q5 : gt32 (msX xs) 0 = false) : Calls Try.prog 35 #[va, vb] w (RetB1 (clV xs ys d) (clB xs ys d) w) := by
  have H1 := Lib.hid (mlI_any va vb xs ys w hva hvb hm hm2 hx hy)
  obtain ⟨A, c, ea, z1, z2, z3⟩ := id hva
  obtain ⟨A', c', eb, z4, z5, z6⟩ := id hvb
  clear z1 z2 z3 z4 z5 z6
  rw [fl_len] at ea eb
  subst ea eb
  have RA := Lib.hid hva
  clear hva hvb hx hy
  have T1 := Lib.hid q1
  have HM := Lib.hid (mlB_out q1)
  have hlen := (isL_len (mlG_out HM.out.1).1)
  have hl1 := hlen.1
  have hl2 := hlen.2.1
  clear hlen
  have HE := Lib.hid (fun w' (hr : Rd w' w'.heap.size (.slice A xs.length c) (fl xs)) => msI_any _ xs w' _ hr hl1 (by omega) ⟨_, en_self _⟩)
  have HG := Lib.hid (show clG xs ys = false by unfold clG psB; rw [q1, q4, q5]; rfl)
  have T4 := Lib.hid q4
  have q5' := le_0 q4
  rw [q5] at q5'
  simp only [Bool.not_false] at q5'
  have q3' := le_0 HM.out.2.2
  rw [q3] at q3'
  simp only [Bool.not_true] at q3'
  clear q1 q3 q4 q5
  go_enter Try.func35, Try.ntmps35
  go_wp2_with (first | (go_at_call 33; refine H1.out.mono ?_; rintro e w1 ⟨r1, rfl, h1, hb1⟩; rw [T1.out]; rw [HM.out.2.1] at h1; (have h1e := is_eq h1 (nan_fin HM.out.2.2)); subst h1e; have R1 := Lib.hid (RA.out.step hb1); have HB1 := Lib.hid hb1; have HI1 := Lib.hid h1; clear hb1 h1) | (go_at_call 72; refine (HE.out _ R1.out).mono ?_; rintro e w' ⟨r2, n2, rfl, h2, rfl⟩; rw [T4.out]; (rw [show fnV (msX xs) = msX xs by (unfold fnV; rw [T4.out]; rfl)] at h2); (have h2e := is_eq h2 (nan_fin T4.out)); subst h2e))
  go_ret2
  exact retB1_cl HG.out (below_drawn HB1.out _)
set_option maxRecDepth 100000 in
set_option maxHeartbeats 1000000 in
theorem cl5I (va vb : Value) (xs ys : List Nat) (d : Nat) (w : World) (hva : Rd w w.heap.size va (fl xs)) (hvb : Rd w w.heap.size vb (fl ys)) (hm : xs.length ≤ 1048576) (hm2 : ys.length ≤ 1048576) (hx : ∀ x ∈ xs, x < 2 ^ 32) (hy : ∀ x ∈ ys, x < 2 ^ 32) (hL : LogB (ar .quo .f32 (msX xs) (msX (dfL xs ys))) d) (q1 : mlB xs ys = true) (q3 : gt32 (msX (dfL xs ys)) 0 = true) (q4 : finB .f32 (msX xs) = true) (q5 : gt32 (msX xs) 0 = true) : Calls Try.prog 35 #[va, vb] w (RetB1 (clV xs ys d) (clB xs ys d) w) := by
  have H1 := Lib.hid (mlI_any va vb xs ys w hva hvb hm hm2 hx hy)
  obtain ⟨A, c, ea, z1, z2, z3⟩ := id hva
  obtain ⟨A', c', eb, z4, z5, z6⟩ := id hvb
  clear z1 z2 z3 z4 z5 z6
  rw [fl_len] at ea eb
  subst ea eb
  have RA := Lib.hid hva
  clear hva hvb hx hy
  have T1 := Lib.hid q1
  have HM := Lib.hid (mlB_out q1)
  have hlen := (isL_len (mlG_out HM.out.1).1)
  have hl1 := hlen.1
  have hl2 := hlen.2.1
  clear hlen
  have HE := Lib.hid (fun w' (hr : Rd w' w'.heap.size (.slice A xs.length c) (fl xs)) => msI_any _ xs w' _ hr hl1 (by omega) ⟨_, en_self _⟩)
  have HV := Lib.hid (cl_yes (d := d) (show clG xs ys = true by unfold clG psB; rw [q1, q3, q4, q5]; rfl))
  have HL := Lib.hid hL
  have T4 := Lib.hid q4
  have q5' := le_0 q4
  rw [q5] at q5'
  simp only [Bool.not_true] at q5'
  have q3' := le_0 HM.out.2.2
  rw [q3] at q3'
  simp only [Bool.not_true] at q3'
  clear q1 q3 q4 q5 hL
  go_enter Try.func35, Try.ntmps35
  go_wp2_with (first | (go_at_call 33; refine H1.out.mono ?_; rintro e w1 ⟨r1, rfl, h1, hb1⟩; rw [T1.out]; rw [HM.out.2.1] at h1; (have h1e := is_eq h1 (nan_fin HM.out.2.2)); subst h1e; have R1 := Lib.hid (RA.out.step hb1); have HB1 := Lib.hid hb1; have HI1 := Lib.hid h1; clear hb1 h1) | (go_at_call 72; refine (HE.out _ R1.out).mono ?_; rintro e w' ⟨r2, n2, rfl, h2, rfl⟩; rw [T4.out]; (rw [show fnV (msX xs) = msX xs by (unfold fnV; rw [T4.out]; rfl)] at h2); (have h2e := is_eq h2 (nan_fin T4.out)); subst h2e) | (refine up_ar2 (op := .quo) rfl h2 HI1.out ?_; intro r5 n5 h5) | (go_at_call 63; refine ((HL.out _ h5).2 _).mono ?_; rintro e w7 ⟨r7, n7, rfl, h7, rfl⟩) | (refine up_ar2 (op := .mul) rfl (is_lit (by decide)) h7 ?_; intro r8 n8 h8) | (go_at_call 61; refine (ifI_any _ _ _ h8).mono ?_; rintro e w9 ⟨r9, n9, rfl, h9, rfl⟩))
  go_ret2
  rw [HV.out.1, HV.out.2]
  exact ⟨_, rfl, h9, below_drawn HB1.out _⟩
theorem clS_any (va vb : Value) (xs ys : List Nat) (d : Nat) (w : World) (hva : Rd w w.heap.size va (fl xs)) (hvb : Rd w w.heap.size vb (fl ys)) (hm : xs.length ≤ 1048576) (hm2 : ys.length ≤ 1048576) (hx : ∀ x ∈ xs, x < 2 ^ 32) (hy : ∀ x ∈ ys, x < 2 ^ 32) (hL : LogB (ar .quo .f32 (msX xs) (msX (dfL xs ys))) d) : Calls Try.prog 34 #[va, vb] w (RetB1 (clV xs ys d) (clB xs ys d) w) := by
  cases q1 : mlB xs ys with
  | false => exact cl1S va vb xs ys d w hva hvb hm hm2 hx hy q1
  | true =>
    cases q2 : psB (msX xs) with
    | false => exact cl2S va vb xs ys d w hva hvb hm hm2 hx hy q1 q2
    | true =>
      cases q3 : gt32 (msX (dfL xs ys)) 0 with
      | false => exact cl3S va vb xs ys d w hva hvb hm hm2 hx hy q1 q2 q3
      | true => exact cl5S va vb xs ys d w hva hvb hm hm2 hx hy hL q1 q2 q3
theorem clI_any (va vb : Value) (xs ys : List Nat) (d : Nat) (w : World) (hva : Rd w w.heap.size va (fl xs)) (hvb : Rd w w.heap.size vb (fl ys)) (hm : xs.length ≤ 1048576) (hm2 : ys.length ≤ 1048576) (hx : ∀ x ∈ xs, x < 2 ^ 32) (hy : ∀ x ∈ ys, x < 2 ^ 32) (hL : LogB (ar .quo .f32 (msX xs) (msX (dfL xs ys))) d) : Calls Try.prog 35 #[va, vb] w (RetB1 (clV xs ys d) (clB xs ys d) w) := by
  cases q1 : mlB xs ys with
  | false => exact cl1I va vb xs ys d w hva hvb hm hm2 hx hy q1
  | true =>
    cases q3 : gt32 (msX (dfL xs ys)) 0 with
    | false => exact cl2I va vb xs ys d w hva hvb hm hm2 hx hy q1 q3
    | true =>
      cases q4 : finB .f32 (msX xs) with
      | false => exact cl3I va vb xs ys d w hva hvb hm hm2 hx hy q1 q3 q4
      | true =>
        cases q5 : gt32 (msX xs) 0 with
        | false => exact cl4I va vb xs ys d w hva hvb hm hm2 hx hy q1 q3 q4 q5
        | true => exact cl5I va vb xs ys d w hva hvb hm hm2 hx hy hL q1 q3 q4 q5
end Go.Proofs.Ytpckljkhmaghmaa
