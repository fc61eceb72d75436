/-
  Contracts: grids of few surpluses, by both sides.
-/
import Derived.Test.YtfcegkighjnmeaaFsu
import Derived.Test.YtfcegkighjnmeaaAbs
import Derived.Test.YtfcegkighjnmeaaSh
import Derived.Test.YtfcegkighjnmeaaShl
import Derived.Test.YtfcegkighjnmeaaFloOd
namespace Go.Proofs.Ytfcegkighjnmeaa
open Go.RowKit Fl Ieee
set_option linter.unusedVariables false

theorem le_gtT {a b : Nat} (ha : finB .f32 a = true) (hb : finB .f32 b = true) : (FloatKind.f32.format.order a b == some .lt || FloatKind.f32.format.order a b == some .eq) = !gt32 a b := by
  obtain ⟨s, m, i, hx⟩ := fin_num ha
  obtain ⟨t, n, j, hy⟩ := fin_num hb
  unfold gt32
  rw [order_num hx hy]
  rcases Int.lt_trichotomy (signed s m (i - min i j).toNat) (signed t n (j - min i j).toNat) with h | h | h
  · rw [cmp_lt h]; rfl
  · rw [cmp_eq h]; rfl
  · rw [cmp_gt h]; rfl
theorem neq_sh {x l : Nat} (hf : finB .f32 x = true) (hl : lsB l = true) : (FloatKind.f32.format.order (shF true x l) 0 != some .eq) = gt32 (x % 2 ^ 31) l := by
  cases g : gt32 (x % 2 ^ 31) l with
  | false => rw [shF_out true g]; decide
  | true =>
    rw [shF_hard g]
    obtain ⟨s, m, e, hx⟩ := fin_num hf
    obtain ⟨t, n, j, hy, hn⟩ := ls_read hl
    unfold gt32 at g
    rw [order_num (read_mod_num hx) hy, cmp_gt_iff, decide_eq_true_eq] at g
    have h0 := signed_ls hn (j - min e j).toNat
    have hm := ((signed_m false m _).1.1 (by omega : 0 < signed false m (e - min e j).toNat)).2
    have : (FloatKind.f32.format.order x 0 == some .eq) = false := by
      rw [order_num hx read_0, cmp_eq_iff, signed_zero, decide_eq_false_iff_not]
      exact fun h => hm ((signed_m s m _).2.1 h)
    simp only [bne, this]; rfl
def thA (s : List Nat) (l i : Nat) : Nat := if 1 ≤ i ∧ i + 1 < s.length then shF true (s.getD i 0) l else s.getD i 0
def thK (s : List Nat) (l k : Nat) : List Nat := (List.range s.length).map fun i => if i < k then thA s l i else s.getD i 0
def thF (s : List Nat) (l : Nat) : List Nat := (List.range s.length).map (thA s l)
def thN (s : List Nat) (l : Nat) : Nat → Nat
  | 0 => 0
  | k + 1 => if 1 ≤ k ∧ k + 1 < s.length ∧ gt32 (s.getD k 0 % 2 ^ 31) l = true then thN s l k + 1 else thN s l k
theorem thF_len (s : List Nat) (l : Nat) : (thF s l).length = s.length := by simp [thF]
theorem thN_le (s : List Nat) (l : Nat) : ∀ k, thN s l k ≤ k
  | 0 => Nat.le_refl _
  | k + 1 => by unfold thN; have := thN_le s l k; split <;> omega
theorem thN_one (s : List Nat) (l : Nat) : thN s l 1 = 0 := by simp [thN]
theorem thN_yes {s : List Nat} {l k : Nat} (h1 : 1 ≤ k) (h2 : k + 1 < s.length) (h : gt32 (s.getD k 0 % 2 ^ 31) l = true) : thN s l (k + 1) = thN s l k + 1 := by
  show (if _ then _ else _) = _
  rw [if_pos ⟨h1, h2, h⟩]
theorem thN_no {s : List Nat} {l k : Nat} (h : gt32 (s.getD k 0 % 2 ^ 31) l = false) : thN s l (k + 1) = thN s l k := by
  show (if _ then _ else _) = _
  rw [if_neg (fun x => by rw [h] at x; exact absurd x.2.2 (by simp))]
theorem thK_one (s : List Nat) (l : Nat) (h : 2 ≤ s.length) : thK s l 1 = s := by
  conv => rhs; rw [← list_range s]
  refine map_congr' fun i hi => ?_
  by_cases h0 : i < 1
  · rw [if_pos h0]; unfold thA; rw [if_neg (by omega)]
  · rw [if_neg h0]
theorem thK_set (s : List Nat) (l k : Nat) (h : k < s.length) : (thK s l k).set k (thA s l k) = thK s l (k + 1) := by
  refine rsetN h (by rw [if_pos (by omega)]) fun i hi hne => ?_
  by_cases h0 : i < k
  · rw [if_pos h0, if_pos (by omega)]
  · rw [if_neg h0, if_neg (by omega)]
theorem thK_all (s : List Nat) (l k : Nat) (h : s.length ≤ k + 1) (h1 : 1 ≤ k) : thK s l k = thF s l := by
  refine map_congr' fun i hi => ?_
  by_cases h0 : i < k
  · rw [if_pos h0]
  · rw [if_neg h0]; unfold thA; rw [if_neg (by omega)]
theorem thK_at (s : List Nat) (l k : Nat) (h : k < s.length) : (thK s l k).getD k 0 = s.getD k 0 := by
  unfold thK; rw [range_getD _ h, if_neg (by omega)]
theorem thK_len (s : List Nat) (l k : Nat) : (thK s l k).length = s.length := by simp [thK]
theorem thK_keep (s : List Nat) (l k : Nat) (h : k < s.length) (h2 : thA s l k = s.getD k 0) : thK s l (k + 1) = thK s l k := by
  refine map_congr' fun i hi => ?_
  by_cases h0 : i < k
  · rw [if_pos h0, if_pos (by omega)]
  · by_cases h1 : i < k + 1
    · rw [if_pos h1, if_neg h0, show i = k by omega, h2]
    · rw [if_neg h1, if_neg h0]
theorem thA_in {s : List Nat} {l k : Nat} (h1 : 1 ≤ k) (h2 : k + 1 < s.length) : thA s l k = shF true (s.getD k 0) l := by unfold thA; rw [if_pos ⟨h1, h2⟩]
theorem thF_gr {xs : List Nat} {l : Nat} (h : suB xs = true) (hl : lsB l = true) : grB (thF (suF xs) l) = true := by
  unfold suB at h
  rw [Bool.and_eq_true] at h
  unfold grB
  rw [thF_len, suF_len, (grB_len h.1).1, Bool.true_and]
  unfold finA
  rw [decide_eq_true_eq]
  intro i hi
  rw [show (thF (suF xs) l)[i] = (thF (suF xs) l).getD i 0 by simp [List.getD, hi]]
  rw [thF_len] at hi
  unfold thF
  rw [range_getD _ hi]
  have hq := fin_getD h.2 i
  unfold thA
  split
  · cases g : gt32 ((suF xs).getD i 0 % 2 ^ 31) l with
    | false => rw [shF_out true g]; decide
    | true => rw [shF_hard g]; exact hq
  · exact hq
theorem suF_lt {xs : List Nat} (h : ∀ x ∈ xs, x < 2 ^ 32) : ∀ x ∈ suF xs, x < 2 ^ 32 := by
  intro x hx
  obtain ⟨i, hi, rfl⟩ := List.mem_map.1 hx
  unfold suA
  split
  · exact ar_ltS _ _ _
  · exact lt_getD h i
theorem thF_lt {s : List Nat} {l : Nat} (h : ∀ x ∈ s, x < 2 ^ 32) : ∀ x ∈ thF s l, x < 2 ^ 32 := by
  intro x hx
  obtain ⟨i, hi, rfl⟩ := List.mem_map.1 hx
  have := lt_getD h i
  unfold thA
  split
  · cases g : gt32 (s.getD i 0 % 2 ^ 31) l with
    | false => rw [shF_out true g]; decide
    | true => rw [shF_hard g]; exact this
  · exact this
def thB (xs : List Nat) (l : Nat) : Bool := suB xs && lsB l && finA (fsF (thF (suF xs) l))
def thV (xs : List Nat) (l : Nat) : List Nat := if thB xs l then fsF (thF (suF xs) l) else []
def thC (xs : List Nat) (l : Nat) : Int := if thB xs l then (thN (suF xs) l (xs.length - 1) : Nat) else 0
theorem thV_len (xs : List Nat) (l : Nat) (h : xs.length ≤ 1048576) : (thV xs l).length ≤ 1048576 := by
  unfold thV; split
  · rw [fsF_len, thF_len, suF_len]; exact h
  · simp
def RetLIB (L : List Nat) (c : Int) (b : Bool) (w : World) (e : Ending) (w' : World) : Prop := ∃ v, e = .returned (.tuple #[v, .int .i64 c, .bool b]) ∧ Own w' w.heap.size v (fl L) ∧ Below w.heap.size w w'
theorem th_no {xs : List Nat} {l : Nat} {w w' : World} (h : thB xs l = false) (hb : Below w.heap.size w w') : RetLIB (thV xs l) (thC xs l) (thB xs l) w (.returned (.tuple #[.slice none 0 0, .int .i64 0, .bool false])) w' := by
  unfold thV thC; rw [h, if_neg (by simp), if_neg (by simp)]; exact ⟨_, rfl, own_nilF _ _, hb⟩
theorem th_yes {xs L : List Nat} {l : Nat} {c : Int} {v : Value} {w w' : World} (h : thB xs l = true) (hL : L = fsF (thF (suF xs) l)) (hc : c = (thN (suF xs) l (xs.length - 1) : Nat)) (ho : Own w' w.heap.size v (fl L)) (hb : Below w.heap.size w w') : RetLIB (thV xs l) (thC xs l) (thB xs l) w (.returned (.tuple #[v, .int .i64 c, .bool true])) w' := by
  unfold thV thC; rw [h, if_pos rfl, if_pos rfl, ← hL, ← hc]; exact ⟨_, rfl, ho, hb⟩
def ThR (w0 : World) (lo : Nat) (v : Value) (s : List Nat) (l : Nat) (cv iv : Value) (wr : World) : Prop := ∃ k : Nat, 1 ≤ k ∧ k + 1 ≤ s.length ∧ iv = .int .i64 k ∧ cv = .int .i64 (thN s l k) ∧ Own wr lo v (fl (thK s l k)) ∧ Below lo w0 wr
def ThP (w0 : World) (lo : Nat) (v : Value) (s : List Nat) (l : Nat) (cv iv : Value) (wr : World) : Prop := ∃ k : Nat, k + 2 ≤ s.length ∧ iv = .int .i64 k ∧ cv = .int .i64 (thN s l (k + 1)) ∧ Own wr lo v (fl (thK s l (k + 1))) ∧ Below lo w0 wr
theorem first_below {w w1 : World} {n : Nat} (h : Below w.heap.size w w1) : Below w.heap.size w (w1.drewN n) := below_drawn h n
theorem Own.capF {w : World} {lo g o n c : Nat} {xs : List Nat} (h : Own w lo (.slice (some ⟨g, o, none⟩) n c) (fl xs)) : n ≤ c := by
  obtain ⟨A, c', hv, h1, _, _⟩ := h
  cases hv
  exact h1
set_option maxRecDepth 100000 in
set_option maxHeartbeats 4000000 in
theorem thnS_any (v : Value) (xs : List Nat) (l : Nat) (w : World) (h : Rd w w.heap.size v (fl xs)) (hm : xs.length ≤ 1048576) (hx : ∀ x ∈ xs, x < 2 ^ 32) (hl : l < 2 ^ 32) :
    Calls Try.prog 49 #[v, .float .f32 l] w (RetLIB (thV xs l) (thC xs l) (thB xs l) w) := by
  have HT := Lib.hid (sufS_any v xs w h hm hx)
  have HLS := Lib.hid (fun w => lsS_any l w hl)
  cases hs : suB xs with
  | false =>
    rw [hs, suV_no hs] at HT
    have HN := Lib.hid (show thB xs l = false by unfold thB; rw [hs]; rfl)
    clear hs h hx
    go_enter Try.func49, Try.ntmps49
    go_wp2_with (first | (go_at_call 45; refine HT.out.mono ?_; rintro e w1 ⟨u, rfl, ho, hb1⟩; have HD := Lib.hid hb1; clear ho hb1) | (go_at_call 88; refine (HLS.out _).mono ?_; rintro e w2 ⟨rfl, n2, rfl⟩))
    go_ret3
    first | exact th_no HN.out HD.out | exact th_no HN.out (first_below HD.out)
  | true =>
    cases hl2 : lsB l with
    | false =>
      rw [hs] at HT
      rw [hl2] at HLS
      have HN := Lib.hid (show thB xs l = false by unfold thB; rw [hs, hl2]; rfl)
      clear hs h hx hl2
      go_enter Try.func49, Try.ntmps49
      go_wp2_with (first | (go_at_call 45; refine HT.out.mono ?_; rintro e w1 ⟨u, rfl, ho, hb1⟩; have HD := Lib.hid hb1; clear ho hb1) | (go_at_call 88; refine (HLS.out _).mono ?_; rintro e w2 ⟨rfl, n2, rfl⟩))
      go_ret3
      first | exact th_no HN.out HD.out | exact th_no HN.out (first_below HD.out)
    | true =>
      rw [hs, suV_yes hs] at HT
      rw [hl2] at HLS
      have hgr := thF_gr hs hl2
      have hsf2 : finA (suF xs) = true := by unfold suB at hs; rw [Bool.and_eq_true] at hs; exact hs.2
      have hgx : grB xs = true := by unfold suB at hs; rw [Bool.and_eq_true] at hs; exact hs.1
      obtain ⟨b2, b65⟩ := gdB_bd (grB_len hgx).1
      have HBB := Lib.hid (show thB xs l = finA (fsF (thF (suF xs) l)) by unfold thB; rw [hs, hl2]; rfl)
      have HSL := Lib.hid hl2
      have HLT := Lib.hid (suF_lt hx)
      have HGR := Lib.hid hgr
      have HFS := Lib.hid hsf2
      obtain ⟨s, hse⟩ : ∃ s, suF xs = s := ⟨_, rfl⟩
      have hsl : s.length = xs.length := by rw [← hse, suF_len]
      have HSE := Lib.hid hse
      rw [hse] at HT HBB HLT HGR HFS
      obtain ⟨n, hn⟩ : ∃ n, xs.length = n := ⟨_, rfl⟩
      rw [hn] at hsl b2 b65
      have HL := Lib.hid hsl
      have HXL := Lib.hid hn
      clear hs h hx hl2 hgr hsf2 hgx hse hsl hn hm
      have hsf : ∀ (a : Addr) (x : Nat) (w : World), (store a (.float .f32 x)).run Try.prog w = stored Try.prog w a (.float .f32 x) .plain := fun a x w => run_store _ w a _ _ rfl
      go_enter Try.func49, Try.ntmps49
      go_wp2_with (first | (go_at_call 45; refine HT.out.mono ?_; rintro e w1 ⟨u, rfl, ho, hb1⟩; obtain ⟨g, go, c', hv'⟩ := ho.openF (by have := HL.out; omega); rw [HL.out] at hv'; subst hv'; have HO1 := Lib.hid ho; have HB1 := Lib.hid hb1; have hcc1 := ho.capF; clear ho hb1) | (go_at_call 88; refine (HLS.out _).mono ?_; rintro e w2 ⟨rfl, n2, rfl⟩))
      go_loopw [9, 10] (ThR w w.heap.size (.slice (some ⟨g, go, none⟩) n c') s l) (fun _ i _ => n - (intOf i).toNat)
      case atStart => exact ⟨1, by omega, by rw [HL.out]; omega, rfl, by rw [thN_one]; rfl, by rw [thK_one s l (by rw [HL.out]; omega)]; exact HO1.out.drewN _, below_drawn HB1.out _⟩
      case round =>
        clear HO1 HB1
        obtain ⟨k, hk1, hkn, rfl, rfl, ho, hbl⟩ := hrel
        rw [HL.out] at hkn
        have hnl := thN_le s l k
        by_cases hlt : k + 1 < n
        · have hI : (k : Int) + 1 < n := by omega
          obtain ⟨hcl, hg1, hg2, hcc, hfz⟩ := ho.nums (by omega)
          have d0 := hcc k (by omega)
          have z0 := hfz k (by omega)
          rw [thK_at s l k (by rw [HL.out]; omega)] at d0
          have HS := Lib.hid (thK_set s l k (by rw [HL.out]; omega))
          have HA := Lib.hid (thA_in (l := l) hk1 (show k + 1 < s.length by rw [HL.out]; exact hlt))
          have hxf := fin_getD HFS.out k
          have hxl := lt_getD HLT.out k
          have HZ := Lib.hid (fun w => sizS_any (s.getD k 0) w hxl hxf)
          have hle := le_gtT (abs_fin hxf) (show finB .f32 l = true by have := HSL.out; unfold lsB at this; rw [Bool.and_eq_true] at this; exact this.1)
          have HKP := Lib.hid (fun h => thK_keep s l k (by rw [HL.out]; omega) h)
          have HNY := Lib.hid (fun h => thN_yes (l := l) hk1 (show k + 1 < s.length by rw [HL.out]; exact hlt) h)
          have HNN := Lib.hid (fun h => thN_no (s := s) (l := l) (k := k) h)
          have HO := Lib.hid ho
          have HB := Lib.hid hbl
          have hk0 : k < n := by omega
          clear ho hbl hcl hcc hfz hxf hxl
          generalize s.getD k 0 = x at *
          cases gt : gt32 (x % 2 ^ 31) l with
          | false =>
            rw [gt] at hle
            rw [shF_out true gt] at HA
            have HN := Lib.hid (HNN.out gt)
            clear gt HKP HNY HNN
            go_wp2_with (go_at_call 89; refine (HZ.out _).mono ?_; rintro e w' ⟨rfl, nz, rfl⟩)
            go_roundw
            case rel =>
              refine ⟨k + 1, by omega, by rw [HL.out]; omega, by go_num, by rw [HN.out], ?_, ?_⟩
              · rw [← HS.out, HA.out]; exact (HO.out.drewN _).putF k hk0 0
              · exact (below_drawn HB.out _).setCell hg1 _
            case measure => simp [intOf]; omega
          | true =>
            rw [gt] at hle
            rw [shF_hard gt] at HA
            have HN := Lib.hid (HNY.out gt)
            have HK := Lib.hid (HKP.out HA.out)
            clear gt HKP HNY HNN
            go_wp2_with (go_at_call 89; refine (HZ.out _).mono ?_; rintro e w' ⟨rfl, nz, rfl⟩)
            go_roundw
            case rel => exact ⟨k + 1, by omega, by rw [HL.out]; omega, by go_num, by rw [HN.out]; go_num, by rw [HK.out]; exact HO.out.drewN _, below_drawn HB.out _⟩
            case measure => simp [intOf]; omega
        · have hI : ¬ (k : Int) + 1 < n := by omega
          have hA := thK_all s l k (by rw [HL.out]; omega) hk1
          rw [hA] at ho
          have HK := Lib.hid (show k = n - 1 by omega)
          have HO := Lib.hid ho
          have HB := Lib.hid hbl
          obtain ⟨g1, g2⟩ := grB_len HGR.out
          have HW := Lib.hid (fun q => fsS_any (some ⟨g, go, none⟩) n c' (thF s l) (wr.drewN q) ((ho.drewN q).rd) (by rw [thF_len, HL.out]) (by rw [thF_len, HL.out] at g1; exact g1) g2 (thF_lt HLT.out))
          clear ho hbl hA g1 g2
          cases hf : finA (fsF (thF s l)) with
          | false =>
            rw [hf] at HBB
            have HF := Lib.hid hf
            clear hf
            go_wp2_with (first | (go_at_call 87; refine (HW.out 0).mono ?_; rintro e w2 ⟨u, ys, rfl, hw, ho, hb2⟩; have HI := Lib.hid hw; have HO2 := Lib.hid ho; have HD := Lib.hid hb2; clear hw ho hb2) | (go_at_call 63; refine (finS_any _ ys _ _ HO2.out.rd (by rw [HI.out.len, fsF_len, thF_len, HL.out]; omega) HI.out.lt).mono ?_; rintro e w3 ⟨rfl, n3, rfl⟩; rw [HI.out.fin, HF.out]))
            go_ret3
            exact th_no HBB.out (below_drawn (HB.out.trans (HD.out.mono HB.out.size)) _)
          | true =>
            rw [hf] at HBB
            have HF := Lib.hid hf
            clear hf
            go_wp2_with (first | (go_at_call 87; refine (HW.out 0).mono ?_; rintro e w2 ⟨u, ys, rfl, hw, ho, hb2⟩; have HI := Lib.hid hw; have HO2 := Lib.hid ho; have HD := Lib.hid hb2; clear hw ho hb2) | (go_at_call 63; refine (finS_any _ ys _ _ HO2.out.rd (by rw [HI.out.len, fsF_len, thF_len, HL.out]; omega) HI.out.lt).mono ?_; rintro e w3 ⟨rfl, n3, rfl⟩; rw [HI.out.fin, HF.out]))
            go_ret3
            exact th_yes HBB.out (by rw [HSE.out]; exact HI.out.eq HF.out) (by rw [HSE.out, HXL.out, HK.out]) ((HO2.out.less HB.out.size).drewN _) (below_drawn (HB.out.trans (HD.out.mono HB.out.size)) _)
set_option maxRecDepth 100000 in
set_option maxHeartbeats 4000000 in
theorem thnI_any (v : Value) (xs : List Nat) (l : Nat) (w : World) (h : Rd w w.heap.size v (fl xs)) (hm : xs.length ≤ 1048576) (hx : ∀ x ∈ xs, x < 2 ^ 32) (hl : l < 2 ^ 32) :
    Calls Try.prog 50 #[v, .float .f32 l] w (RetLIB (thV xs l) (thC xs l) (thB xs l) w) := by
  have HT := Lib.hid (sufI_any v xs w h hm hx)
  have HLS := Lib.hid (fun w => lsI_any l w hl)
  cases hs : suB xs with
  | false =>
    rw [hs, suV_no hs] at HT
    have HN := Lib.hid (show thB xs l = false by unfold thB; rw [hs]; rfl)
    clear hs h hx
    go_enter Try.func50, Try.ntmps50
    go_wp2_with (first | (go_at_call 46; refine HT.out.mono ?_; rintro e w1 ⟨u, rfl, ho, hb1⟩; have HD := Lib.hid hb1; clear ho hb1) | (go_at_call 53; refine (HLS.out _).mono ?_; rintro e w2 ⟨rfl, n2, rfl⟩))
    go_ret3
    first | exact th_no HN.out HD.out | exact th_no HN.out (first_below HD.out)
  | true =>
    cases hl2 : lsB l with
    | false =>
      rw [hs] at HT
      rw [hl2] at HLS
      have HN := Lib.hid (show thB xs l = false by unfold thB; rw [hs, hl2]; rfl)
      clear hs h hx hl2
      go_enter Try.func50, Try.ntmps50
      go_wp2_with (first | (go_at_call 46; refine HT.out.mono ?_; rintro e w1 ⟨u, rfl, ho, hb1⟩; have HD := Lib.hid hb1; clear ho hb1) | (go_at_call 53; refine (HLS.out _).mono ?_; rintro e w2 ⟨rfl, n2, rfl⟩))
      go_ret3
      first | exact th_no HN.out HD.out | exact th_no HN.out (first_below HD.out)
    | true =>
      rw [hs, suV_yes hs] at HT
      rw [hl2] at HLS
      have hgr := thF_gr hs hl2
      have hsf2 : finA (suF xs) = true := by unfold suB at hs; rw [Bool.and_eq_true] at hs; exact hs.2
      have hgx : grB xs = true := by unfold suB at hs; rw [Bool.and_eq_true] at hs; exact hs.1
      obtain ⟨b2, b65⟩ := gdB_bd (grB_len hgx).1
      have HBB := Lib.hid (show thB xs l = finA (fsF (thF (suF xs) l)) by unfold thB; rw [hs, hl2]; rfl)
      have HSL := Lib.hid hl2
      have HLT := Lib.hid (suF_lt hx)
      have HGR := Lib.hid hgr
      have HFS := Lib.hid hsf2
      obtain ⟨s, hse⟩ : ∃ s, suF xs = s := ⟨_, rfl⟩
      have hsl : s.length = xs.length := by rw [← hse, suF_len]
      have HSE := Lib.hid hse
      rw [hse] at HT HBB HLT HGR HFS
      obtain ⟨n, hn⟩ : ∃ n, xs.length = n := ⟨_, rfl⟩
      rw [hn] at hsl b2 b65
      have HL := Lib.hid hsl
      have HXL := Lib.hid hn
      clear hs h hx hl2 hgr hsf2 hgx hse hsl hn hm
      have hsf : ∀ (a : Addr) (x : Nat) (w : World), (store a (.float .f32 x)).run Try.prog w = stored Try.prog w a (.float .f32 x) .plain := fun a x w => run_store _ w a _ _ rfl
      go_enter Try.func50, Try.ntmps50
      obtain ⟨m, hmn⟩ : ∃ m, n = m + 2 := ⟨n - 2, by omega⟩
      subst hmn
      have hm63 : m ≤ 63 := by omega
      go_wp2_with (first | (go_at_call 46; refine HT.out.mono ?_; rintro e w1 ⟨u, rfl, ho, hb1⟩; obtain ⟨g, go, c', hv'⟩ := ho.openF (by have := HL.out; omega); rw [HL.out] at hv'; subst hv'; have HO1 := Lib.hid ho; have HB1 := Lib.hid hb1; have hcc1 := ho.capF; clear ho hb1) | (go_at_call 53; refine (HLS.out _).mono ?_; rintro e w2 ⟨rfl, n2, rfl⟩))
      rw [show (m + 2 - 1 - 1 : Nat) = m by omega]
      go_loopw [9, 33] (ThP w w.heap.size (.slice (some ⟨g, go, none⟩) (m + 2) c') s l) (fun _ i _ => m - (intOf i).toNat)
      case atStart => exact ⟨0, by rw [HL.out]; omega, rfl, by rw [thN_one]; rfl, by rw [thK_one s l (by rw [HL.out]; omega)]; exact HO1.out.drewN _, below_drawn HB1.out _⟩
      case round =>
        clear HO1 HB1
        obtain ⟨k, hkn, rfl, rfl, ho, hbl⟩ := hrel
        rw [HL.out] at hkn
        have hnl := thN_le s l (k + 1)
        by_cases hlt : k < m
        · obtain ⟨hcl, hg1, hg2, hcc, hfz⟩ := ho.nums (by omega)
          have d0 := hcc (k + 1) (by omega)
          have z0 := hfz (k + 1) (by omega)
          rw [thK_at s l (k + 1) (by rw [HL.out]; omega)] at d0
          rw [show go + (k + 1) = go + 1 + k by omega] at d0 z0
          have HS := Lib.hid (thK_set s l (k + 1) (by rw [HL.out]; omega))
          have HA := Lib.hid (thA_in (l := l) (show 1 ≤ k + 1 by omega) (show k + 1 + 1 < s.length by rw [HL.out]; omega))
          have hxf := fin_getD HFS.out (k + 1)
          have hxl := lt_getD HLT.out (k + 1)
          have HZ := Lib.hid (fun w => (hrdI_any (s.getD (k + 1) 0) l w hxl hxf).mono (R' := fun e w' => e = .returned (.float .f32 (shF true (s.getD (k + 1) 0) l)) ∧ ∃ n, w' = w.drewN n) fun e w' hh => retX_of hh (shF_not hxf HSL.out))
          have hne := neq_sh hxf HSL.out
          have HNY := Lib.hid (fun h => thN_yes (l := l) (show 1 ≤ k + 1 by omega) (show k + 1 + 1 < s.length by rw [HL.out]; omega) h)
          have HNN := Lib.hid (fun h => thN_no (s := s) (l := l) (k := k + 1) h)
          have HO := Lib.hid ho
          have HB := Lib.hid hbl
          clear ho hbl hcl hcc hfz hxf hxl
          generalize s.getD (k + 1) 0 = x at *
          generalize shF true x l = y at *
          cases gt : gt32 (x % 2 ^ 31) l with
          | false =>
            rw [gt] at hne
            have HN := Lib.hid (HNN.out gt)
            clear gt HNY HNN
            go_wp2_with (go_at_call 90; refine (HZ.out _).mono ?_; rintro e w' ⟨rfl, nz, rfl⟩)
            go_roundw
            case rel =>
              refine ⟨k + 1, by rw [HL.out]; omega, by go_num, by rw [HN.out], ?_, ?_⟩
              · rw [← HS.out, HA.out, show go + 1 + k = go + (k + 1) by omega]; exact (HO.out.drewN _).putF (k + 1) (by omega) y
              · exact (below_drawn HB.out _).setCell hg1 _
            case measure => simp [intOf]; omega
          | true =>
            rw [gt] at hne
            have HN := Lib.hid (HNY.out gt)
            clear gt HNY HNN
            go_wp2_with (go_at_call 90; refine (HZ.out _).mono ?_; rintro e w' ⟨rfl, nz, rfl⟩)
            go_roundw
            case rel =>
              refine ⟨k + 1, by rw [HL.out]; omega, by go_num, by rw [HN.out]; go_num, ?_, ?_⟩
              · rw [← HS.out, HA.out, show go + 1 + k = go + (k + 1) by omega]; exact (HO.out.drewN _).putF (k + 1) (by omega) y
              · exact (below_drawn HB.out _).setCell hg1 _
            case measure => simp [intOf]; omega
        · obtain rfl : k = m := by omega
          have hA := thK_all s l (k + 1) (by rw [HL.out]; omega) (by omega)
          rw [hA] at ho
          have HO := Lib.hid ho
          have HB := Lib.hid hbl
          have HW := Lib.hid (fun q => fsfI_any (.slice (some ⟨g, go, none⟩) (k + 2) c') (thF s l) (wr.drewN q) ((ho.drewN q).rd) (by rw [thF_len, HL.out]; omega) (thF_lt HLT.out))
          have hfb : fsB (thF s l) = finA (fsF (thF s l)) := by unfold fsB; rw [HGR.out, Bool.true_and]
          cases hf : finA (fsF (thF s l)) with
          | false =>
            rw [hf] at HBB hfb
            rw [hfb] at HW
            clear hf hfb ho hbl hA
            go_wp2_with (go_at_call 48; refine (HW.out 0).mono ?_; rintro e w2 ⟨u, rfl, ho, hb2⟩; have HD := Lib.hid hb2; clear ho hb2)
            go_ret3
            exact th_no HBB.out (HB.out.trans (HD.out.mono HB.out.size))
          | true =>
            rw [hf] at HBB hfb
            rw [hfb, fsV_yes hfb] at HW
            clear hf hfb ho hbl hA
            go_wp2_with (go_at_call 48; refine (HW.out 0).mono ?_; rintro e w2 ⟨u, rfl, ho, hb2⟩; have HO2 := Lib.hid ho; have HD := Lib.hid hb2; clear ho hb2)
            go_ret3
            exact th_yes HBB.out (by rw [HSE.out]) (by rw [HSE.out, HXL.out]; rfl) (HO2.out.less HB.out.size) (HB.out.trans (HD.out.mono HB.out.size))
end Go.Proofs.Ytfcegkighjnmeaa
