/-
  Contracts: RefineLine, of both sides.
-/
import Derived.Test.YtfcegkighjnmeaaRei
namespace Go.Proofs.Ytfcegkighjnmeaa
open Go.RowKit Fl
set_option linter.unusedVariables false

/-- What has been laid after the evens, and after k odds. -/
def zpAtN (n : Nat) (ev od : List Nat) (ke ko i : Nat) : Nat := if i % 2 = 0 then (if i / 2 < ke then ev.getD (i / 2) 0 else 0) else (if i / 2 < ko then od.getD (i / 2) 0 else 0)
def zpN (n : Nat) (ev od : List Nat) (ke ko : Nat) : List Nat := (List.range n).map (zpAtN n ev od ke ko)
theorem zpN_zero (n : Nat) (ev od : List Nat) : zpN n ev od 0 0 = List.replicate n 0 := by
  apply List.ext_getElem?
  intro i
  by_cases hi : i < n
  · simp [zpN, zpAtN, hi]
  · simp [zpN, hi]
theorem zpN_ev (n : Nat) (ev od : List Nat) (k : Nat) (h : 2 * k < n) (hk : k < ev.length) : (zpN n ev od k 0).set (2 * k) ev[k] = zpN n ev od (k + 1) 0 := by
  refine rsetN h ?_ fun i hi hne => ?_
  · unfold zpAtN
    rw [if_pos (by omega), if_pos (by omega), show 2 * k / 2 = k by omega]
    simp [List.getD, hk]
  · unfold zpAtN
    by_cases h1 : i % 2 = 0
    · rw [if_pos h1, if_pos h1]
      by_cases h2 : i / 2 < k
      · rw [if_pos h2, if_pos (by omega)]
      · rw [if_neg h2, if_neg (by omega)]
    · rw [if_neg h1, if_neg h1]
theorem zpN_od (n : Nat) (ev od : List Nat) (ke k : Nat) (h : 2 * k + 1 < n) (hk : k < od.length) : (zpN n ev od ke k).set (2 * k + 1) od[k] = zpN n ev od ke (k + 1) := by
  refine rsetN h ?_ fun i hi hne => ?_
  · unfold zpAtN
    rw [if_neg (by omega), if_pos (by omega), show (2 * k + 1) / 2 = k by omega]
    simp [List.getD, hk]
  · unfold zpAtN
    by_cases h1 : i % 2 = 0
    · rw [if_pos h1, if_pos h1]
    · rw [if_neg h1, if_neg h1]
      by_cases h2 : i / 2 < k
      · rw [if_pos h2, if_pos (by omega)]
      · rw [if_neg h2, if_neg (by omega)]
/-- The list of its halves. -/
def joN (ev od : List Nat) : List Nat := zpN (ev.length + od.length) ev od ev.length od.length
theorem joN_len (ev od : List Nat) : (joN ev od).length = ev.length + od.length := by simp [joN, zpN]
def ZpRelN (w : World) (n : Nat) (ev od : List Nat) (ke ko : Nat → Nat) (m : Nat) (i : Value) (wr : World) : Prop :=
  ∃ k : Nat, k ≤ m ∧ i = .int .i64 k ∧ wr.ownsRow w.heap.size 47 1 (.slice (some ⟨w.heap.size, 0, none⟩) n n) n (fl (zpN n ev od (ke k) (ko k))) ∧ Below w.heap.size w wr
set_option maxHeartbeats 2000000 in
theorem joN_any (vl vh : Value) (ev od : List Nat) (w : World) (h : Rd w w.heap.size vl (fl ev)) (h2 : Rd w w.heap.size vh (fl od)) (he : 1 ≤ ev.length) (he2 : ev.length ≤ 64) (hf : od.length ≤ ev.length) (hf2 : ev.length ≤ od.length + 1) :
    Calls Try.prog 69 #[vl, vh] w (RetF1 (joN ev od) w) := by
  obtain ⟨i0, hi, hz0, hz1, hz2⟩ := info_parts infoF
  obtain ⟨Ae, ce, hv, _, _, hce⟩ := id h
  obtain ⟨Ao, co, hv2, _, _, hco⟩ := id h2
  rw [fl_len] at hv hv2 hce hco
  subst hv hv2
  have HE := Lib.hid hce
  have HO := Lib.hid hco
  clear hce hco
  obtain ⟨n, hn⟩ : ∃ n : Nat, n = ev.length + od.length := ⟨_, rfl⟩
  have hni : (ev.length : Int) + (od.length : Int) = (n : Int) := by omega
  have hn1 : n ≤ 128 := by omega
  have hn2 : 2 * ev.length ≤ n + 1 := by omega
  have hn3 : 2 * od.length ≤ n := by omega
  rw [show joN ev od = zpN n ev od ev.length od.length by unfold joN; rw [hn]]
  clear hn
  have hsf : ∀ (a : Addr) (x : Nat) (w : World), (store a (.float .f32 x)).run Try.prog w = stored Try.prog w a (.float .f32 x) .plain := fun a x w => run_store _ w a _ _ rfl
  go_enter Try.func69, Try.ntmps69
  go_wp2_with (refine wpList_make_full _ rfl _ _ 35 rfl w.heap.size 47 i0 (.float .f32 0) 1 Try.underlying35 hi hz0 hz1 .i64 .i64 _ _ n rfl rfl rfl rfl (by rw [hz2]; omega) (by unfold maxLen; omega) (Nat.le_refl _) ?_; intro w1 hown hgrow)
  have hb1 : Below w.heap.size w w1 := (Below.refl _ _).grown hgrow (Nat.le_refl _) (fun _ h => by cases h)
  have hown1 : w1.ownsRow w.heap.size 47 1 (.slice (some ⟨w.heap.size, 0, none⟩) n n) n (fl (zpN n ev od 0 0)) := by
    rw [zpN_zero]
    have e : (madeCells (Value.cells (.float .f32 0)) (n * 1)).toList = fl (List.replicate n 0) := by
      rw [Nat.mul_one]
      show (madeCells #[Value.float .f32 0] n).toList = _
      rw [toList_madeCells_one]; simp [fl]
    rw [← e]; exact hown
  clear hown hgrow
  go_loopw [18] (ZpRelN w n ev od (fun k => k) (fun _ => 0) ev.length) (fun i _ => ev.length - (intOf i).toNat)
  case atStart => exact ⟨0, Nat.zero_le _, rfl, hown1, hb1⟩
  case round =>
    obtain ⟨k, hk, rfl, hown, hb⟩ := hrel
    simp only [] at hown
    clear hown1 hb1
    by_cases hlt : k < ev.length
    · obtain ⟨b, off, rfl, hbl, hcc⟩ := HE.out (by omega)
      have hsrc : wr.cell? ⟨b, off + k, none⟩ = some (.float .f32 ev[k]) := (hb.cell (p := ⟨b, off + k, none⟩) hbl).trans (hcc k _ (fl_get ev k hlt))
      have hlen : (fl (zpN n ev od k 0)).length = n := by rw [hown.1]; omega
      have hst := (hown.stored (2 * k) (.float .f32 ev[k])).1
      rw [fl_set, zpN_ev n ev od k (by omega) hlt] at hst
      obtain ⟨x0, hdst⟩ : ∃ x0, wr.cell? ⟨w.heap.size, 2 * k, none⟩ = some x0 :=
        ⟨(fl (zpN n ev od k 0))[2 * k]'(by rw [hlen]; omega), by rw [hown.cellAt (2 * k) (by omega)]; exact List.getElem?_eq_getElem _⟩
      have hfz : wr.frozen? ⟨w.heap.size, 2 * k, none⟩ = false := hown.frozenAt (2 * k)
      have hbb : Below w.heap.size w (wr.setCell ⟨w.heap.size, 2 * k, none⟩ (.float .f32 ev[k])) := hb.setCell (Nat.le_refl _) _
      have hq : 2 * (k : Int) = ((2 * k : Nat) : Int) := by omega
      have hq2 : 2 * k < n := by omega
      have Q1 := Lib.hid hst
      have Q2 := Lib.hid hbb
      clear hst hbb hown hb hlen hcc
      generalize 2 * k = q at *
      go_wp2
      go_roundw
      case rel => exact ⟨k + 1, by omega, by go_num, Q1.out, Q2.out⟩
      case measure => simp [intOf]; omega
    · obtain rfl : k = ev.length := by omega
      go_wp2_with fail
      go_loopw [31] (ZpRelN w n ev od (fun _ => ev.length) (fun k => k) od.length) (fun i _ => od.length - (intOf i).toNat)
      case atStart => exact ⟨0, Nat.zero_le _, rfl, hown, hb⟩
      case round =>
        clear hown hb
        obtain ⟨k, hk2, rfl, hown, hb⟩ := hrel
        simp only [] at hown
        by_cases hlt2 : k < od.length
        · obtain ⟨b, off, rfl, hbl, hcc⟩ := HO.out (by omega)
          have hsrc : wr.cell? ⟨b, off + k, none⟩ = some (.float .f32 od[k]) := (hb.cell (p := ⟨b, off + k, none⟩) hbl).trans (hcc k _ (fl_get od k hlt2))
          have hlen : (fl (zpN n ev od ev.length k)).length = n := by rw [hown.1]; omega
          have hst := (hown.stored (2 * k + 1) (.float .f32 od[k])).1
          rw [fl_set, zpN_od n ev od ev.length k (by omega) hlt2] at hst
          obtain ⟨x0, hdst⟩ : ∃ x0, wr.cell? ⟨w.heap.size, 2 * k + 1, none⟩ = some x0 :=
            ⟨(fl (zpN n ev od ev.length k))[2 * k + 1]'(by rw [hlen]; omega), by rw [hown.cellAt (2 * k + 1) (by omega)]; exact List.getElem?_eq_getElem _⟩
          have hfz : wr.frozen? ⟨w.heap.size, 2 * k + 1, none⟩ = false := hown.frozenAt (2 * k + 1)
          have hbb : Below w.heap.size w (wr.setCell ⟨w.heap.size, 2 * k + 1, none⟩ (.float .f32 od[k])) := hb.setCell (Nat.le_refl _) _
          have hq : 2 * (k : Int) + 1 = ((2 * k + 1 : Nat) : Int) := by omega
          have hq2 : 2 * k + 1 < n := by omega
          have Q1 := Lib.hid hst
          have Q2 := Lib.hid hbb
          clear hst hbb hown hb hlen hcc
          generalize 2 * k + 1 = q at *
          go_wp2
          go_roundw
          case rel => exact ⟨k + 1, by omega, by go_num, Q1.out, Q2.out⟩
          case measure => simp [intOf]; omega
        · obtain rfl : k = od.length := by omega
          go_wp2
          go_ret
          exact ⟨_, rfl, Own.row hown, hb⟩

theorem joN_getD (ev od : List Nat) (i : Nat) (hi : i < ev.length + od.length) (h1 : od.length ≤ ev.length) (h2 : ev.length ≤ od.length + 1) : (joN ev od).getD i 0 = if i % 2 = 0 then ev.getD (i / 2) 0 else od.getD (i / 2) 0 := by
  unfold joN zpN
  rw [range_getD _ hi]
  unfold zpAtN
  by_cases h : i % 2 = 0
  · rw [if_pos h, if_pos h, if_pos (by omega)]
  · rw [if_neg h, if_neg h, if_pos (by omega)]
/-- A number of the finer line. -/
def rfA (xs : List Nat) (i : Nat) : Nat := if i % 2 = 1 then xs.getD (i / 2) 0 else h2F ((0 :: xs).getD (i / 2) 0) ((0 :: xs).getD (i / 2 + 1) 0)
def rfP (xs : List Nat) (k : Nat) : List Nat := (List.range k).map (rfA xs)
def rfF (xs : List Nat) : List Nat := rfP xs (2 * xs.length + 1)
theorem rfP_len (xs : List Nat) (k : Nat) : (rfP xs k).length = k := by simp [rfP]
theorem rfP_succ (xs : List Nat) (k : Nat) : rfP xs (k + 1) = rfP xs k ++ [rfA xs k] := by simp [rfP, List.range_succ]
theorem rfF_len (xs : List Nat) : (rfF xs).length = 2 * xs.length + 1 := rfP_len _ _
def rfG (xs : List Nat) : Bool := lnG xs && decide (xs.length ≤ 31)
def rfB (xs : List Nat) : Bool := rfG xs && finA (rfF xs)
def rfV (xs : List Nat) : List Nat := if rfB xs then rfF xs else []
theorem rfV_yes {xs : List Nat} (h : rfB xs = true) : rfV xs = rfF xs := by unfold rfV; rw [if_pos h]
theorem rfV_no {xs : List Nat} (h : rfB xs = false) : rfV xs = [] := by unfold rfV; rw [if_neg (by rw [h]; simp)]
theorem rfV_len (xs : List Nat) : (rfV xs).length ≤ 1048576 := by
  cases hb : rfB xs with
  | false => rw [rfV_no hb]; simp
  | true =>
    have : xs.length ≤ 31 := by unfold rfB rfG at hb; simp only [Bool.and_eq_true, decide_eq_true_eq] at hb; exact hb.1.2
    rw [rfV_yes hb, rfF_len]; omega
def RfS (w0 : World) (xs : List Nat) (v iv : Value) (wr : World) : Prop := ∃ (k : Nat) (cur : List Nat), k ≤ 2 * xs.length + 1 ∧ iv = .int .i64 k ∧ IsW cur (rfP xs k) ∧ RowF w0 v cur wr
set_option maxRecDepth 100000 in
set_option maxHeartbeats 8000000 in
theorem rfS_any (A : Option Addr) (n c : Nat) (xs : List Nat) (w : World) (h : Rd w w.heap.size (.slice A n c) (fl xs)) (hn : xs.length = n) (h1 : 1 ≤ n) (h31 : n ≤ 31) (hf : finA xs = true) (hx : ∀ x ∈ xs, x < 2 ^ 32) :
    Calls Try.prog 66 #[.slice A n c] w (RetW (rfF xs) w) := by
  obtain ⟨i0, hi, hz0, hz1, hz2⟩ := info_parts infoF
  obtain ⟨b, off, rfl, hb, hc⟩ := h.num (i := 0) (by omega)
  have HC := Lib.hid hc
  have HU := Lib.hid (IsW.self hf hx)
  have HE := Lib.hid (cons_is hf hx)
  have HA := Lib.hid (fun (W : World) (hW : Rd W w.heap.size (.slice (some ⟨b, off, none⟩) n c) (fl xs)) (j : Nat) (hj : j ≤ n + 1) (z : Int) (hz : z = (j : Int) - 1) => atS_any (some ⟨b, off, none⟩) n c xs W _ hW (by omega) (by omega) j hj z hz)
  have HR := Lib.hid h
  have HL := Lib.hid hn
  clear h hc hn hf hx
  go_enter Try.func66, Try.ntmps66
  go_wp2
  go_loopw [3, 4] (RfS w xs) (fun _ i _ => 2 * n + 1 - (intOf i).toNat)
  case atStart => exact ⟨0, [], Nat.zero_le _, rfl, IsW.nil, RowF.lit _⟩
  case round =>
    obtain ⟨k, cur, hk, rfl, hw, hr⟩ := hrel
    rw [HL.out] at hk
    by_cases hlt : k ≤ 2 * n
    · have hI : (k : Int) ≤ 2 * n := by omega
      obtain ⟨q, hq⟩ : ∃ q, k / 2 = q := ⟨_, rfl⟩
      have e1 : (k : Int) / 2 = (q : Int) := by omega
      have HS := Lib.hid (rfP_succ xs k)
      have HN := Lib.hid (show cur.length ≤ 64 by rw [hw.len, rfP_len]; omega)
      have HRr := Lib.hid (HR.out.below hr.2)
      have HR' := Lib.hid hr
      have HW := Lib.hid hw
      by_cases hp : k % 2 = 1
      · have e2 : (k : Int) % 2 = 1 := by omega
        have hqn : q < n := by omega
        have HD := Lib.hid (show rfA xs k = xs.getD q 0 by unfold rfA; rw [if_pos hp, hq])
        have c0 : wr.cell? ⟨b, off + q, none⟩ = some (.float .f32 (xs.getD q 0)) := (hr.2.cell (p := ⟨b, off + q, none⟩) hb).trans (HC.out q hqn)
        have kq := HU.out.at q
        generalize xs.getD q 0 = x0 at *
        clear hr hw hp hq
        go_wp2_with (first | (at_builtin; refine wpList_append_own _ rfl _ _ 35 rfl w.heap.size 47 i0 (.float .f32 0) 1 4 Try.underlying35 hi hz0 hz1 hz2 rfl (by decide) _ _ _ rfl (HR'.out.1.alloc _) ⟨wr.heap.size, 0, none⟩ 1 1 [.float .f32 x0] rfl rfl (one_newF _ _ _) (cellsF [x0]) (by unfold maxLen; have := HN.out; omega) (by have := HN.out; omega) (by simp; have := HR'.out.2.size; omega) ?_; intro v' w1 hown' hgrow _) | (at_builtin; refine wpList_append_own _ rfl _ _ 35 rfl w.heap.size 47 i0 (.float .f32 0) 1 4 Try.underlying35 hi hz0 hz1 hz2 rfl (by decide) _ _ _ rfl ((rowDrewF HR'.out.1 _).alloc _) ⟨wr.heap.size, 0, none⟩ 1 1 [.float .f32 x0] rfl rfl (one_newF _ _ _) (cellsF [x0]) (by unfold maxLen; have := HN.out; omega) (by have := HN.out; omega) (by simp; have := HR'.out.2.size; omega) ?_; intro v' w1 hown' hgrow _))
        have HR2 := Lib.hid (show RowF w v' (cur ++ [x0]) w1 from RowF.push hown' (by first | exact HR'.out.2.alloc HR'.out.2.size _ | exact (below_drawn HR'.out.2 _).alloc HR'.out.2.size _) hgrow (fun j hj => (HR'.out.1.lt j hj).1))
        clear hown' hgrow
        go_wp2
        go_roundw
        case rel => exact ⟨k + 1, cur ++ [x0], by rw [HL.out]; omega, by go_num, by rw [HS.out]; exact HW.out.app (by rw [HD.out]; exact kq), HR2.out⟩
        case measure => simp [intOf]; omega
      · have e2 : (((k : Int) % 2) == 1) = false := by rw [beq_eq_false_iff_ne]; omega
        have HD := Lib.hid (show rfA xs k = ar .mul .f32 1056964608 (ar .add .f32 ((0 :: xs).getD q 0) ((0 :: xs).getD (q + 1) 0)) by unfold rfA; rw [if_neg hp, hq, half_two]; rfl)
        have ke1 := HE.out q
        have ke2 := HE.out (q + 1)
        have HA1 := Lib.hid (HA.out wr HRr.out q (by omega) ((q : Int) - 1) rfl)
        have HA2 := Lib.hid (HA.out wr HRr.out (q + 1) (by omega) (q : Int) (by omega))
        have hq0 : q ≤ n := by omega
        have hhf : Is .f32 1056964608 1056964608 := is_lit (by decide)
        generalize (0 :: xs).getD q 0 = xb at *
        generalize (0 :: xs).getD (q + 1) 0 = xa at *
        clear hr hw hp hq
        go_wp2_with (first | (go_at_call 94; (first | (with_reducible refine HA1.out.mono ?_) | (with_reducible refine HA2.out.mono ?_)); rintro e w' ⟨rfl, rfl⟩) | (refine up_ar2 (op := .add) rfl ke1 ke2 ?_; intro r1 n1 hr1) | (refine up_ar2 (op := .mul) rfl hhf hr1 ?_; intro r2 n2 hr2) | (first | (at_builtin; refine wpList_append_own _ rfl _ _ 35 rfl w.heap.size 47 i0 (.float .f32 0) 1 4 Try.underlying35 hi hz0 hz1 hz2 rfl (by decide) _ _ _ rfl (HR'.out.1.alloc _) ⟨wr.heap.size, 0, none⟩ 1 1 [.float .f32 r2] rfl rfl (one_newF _ _ _) (cellsF [r2]) (by unfold maxLen; have := HN.out; omega) (by have := HN.out; omega) (by simp; have := HR'.out.2.size; omega) ?_; intro v' w1 hown' hgrow _) | (at_builtin; refine wpList_append_own _ rfl _ _ 35 rfl w.heap.size 47 i0 (.float .f32 0) 1 4 Try.underlying35 hi hz0 hz1 hz2 rfl (by decide) _ _ _ rfl ((rowDrewF HR'.out.1 _).alloc _) ⟨wr.heap.size, 0, none⟩ 1 1 [.float .f32 r2] rfl rfl (one_newF _ _ _) (cellsF [r2]) (by unfold maxLen; have := HN.out; omega) (by have := HN.out; omega) (by simp; have := HR'.out.2.size; omega) ?_; intro v' w1 hown' hgrow _)))
        have HR2 := Lib.hid (show RowF w v' (cur ++ [r2]) w1 from RowF.push hown' (by first | exact HR'.out.2.alloc HR'.out.2.size _ | exact (below_drawn HR'.out.2 _).alloc HR'.out.2.size _) hgrow (fun j hj => (HR'.out.1.lt j hj).1))
        clear hown' hgrow
        go_wp2
        go_roundw
        case rel => exact ⟨k + 1, cur ++ [r2], by rw [HL.out]; omega, by go_num, by rw [HS.out]; exact HW.out.app (by rw [HD.out]; exact hr2), HR2.out⟩
        case measure => simp [intOf]; omega
    · obtain rfl : k = 2 * n + 1 := by omega
      have hI : ¬ ((2 * n + 1 : Nat) : Int) ≤ 2 * n := by omega
      have hF : rfP xs (2 * n + 1) = rfF xs := by unfold rfF; rw [HL.out]
      rw [hF] at hw
      have HW := Lib.hid hw
      have HR' := Lib.hid hr
      clear hw hr hF
      go_wp2
      go_ret
      exact ⟨_, cur, rfl, HW.out, HR'.out.own, HR'.out.2⟩
end Go.Proofs.Ytfcegkighjnmeaa
