/-
  Contracts: bits out of texts, of both sides.
-/
import Derived.Test.YtmokgmmjnfnbfaaLst
import Derived.Laws.RangeAny
import Derived.Lib.OthersKept
namespace Go.Proofs.Ytmokgmmjnfnbfaa
open Go.RowKit Fl
set_option linter.unusedVariables false

theorem RowB.alloc {w0 wr : World} {v : Value} {L : List Bool} (h : RowB w0 v L wr) (o : Obj) : RowB w0 v L (wr.alloc o) := ⟨h.1.alloc _, h.2.alloc h.2.size _⟩
/-- A list stays what it is while a text's reader moves on. -/
theorem RowB.iter {w0 wr : World} {v : Value} {L : List Bool} {k p : Nat} {s : ByteArray} (h : RowB w0 v L wr) (hk : wr.heap[k]? = some (.stringIter s p)) (hlo : w0.heap.size ≤ k) (p' : Nat) : RowB w0 v L (wr.iterAt k s p') := by
  obtain ⟨⟨h1, h2⟩, hb⟩ := h
  refine ⟨⟨h1, ?_⟩, Lib.below_iterAt hb hlo s p'⟩
  rcases h2 with h0 | ⟨g, cap, cur, hv, hbg, hg, hrest⟩
  · exact .inl h0
  · have hne : g ≠ k := fun e => by rw [e, hk] at hg; cases hg
    exact .inr ⟨g, cap, cur, hv, hbg, (Lib.iterAt_other _ _ _ _ _ hne).trans hg, hrest⟩
theorem row_not_iter {w0 wr : World} {v : Value} {L : List Bool} {k p : Nat} {s : ByteArray} (h : RowB w0 v L wr) (hk : wr.heap[k]? = some (.stringIter s p)) : some k ≠ v.ownBlock := by
  rcases h.1.2 with ⟨rfl, _⟩ | ⟨g, cap, cur, rfl, _, hg, _⟩
  · intro e; cases e
  · intro e
    have e2 : k = g := by simpa [Value.ownBlock] using e
    rw [e2, hg] at hk
    cases hk
theorem alloc_old (w : World) (o : Obj) (k : Nat) (h : k < w.heap.size) : (w.alloc o).heap[k]? = w.heap[k]? := by
  show (w.heap.push o)[k]? = _
  rw [Array.getElem?_push, if_neg (by omega)]
theorem iter_lt {wr : World} {k p : Nat} {s : ByteArray} (hk : wr.heap[k]? = some (.stringIter s p)) : k < wr.heap.size := (Array.getElem?_eq_some_iff.1 hk).1
theorem iter_grown {w0 wr w1 : World} {v : Value} {L : List Bool} {k p : Nat} {s : ByteArray} {o : Obj} (h : RowB w0 v L wr) (hk : wr.heap[k]? = some (.stringIter s p)) (hg : (wr.alloc o).grownBy w1 v.ownBlock) : w1.heap[k]? = some (.stringIter s p) := by
  have hlt := iter_lt hk
  rw [hg.block k (by simp; omega) (row_not_iter h hk), alloc_old _ _ _ hlt]
  exact hk
def rbK (s : ByteArray) (k : Nat) : List Bool := (List.range k).map fun i => if h : i < s.size then decide (s[i].toNat = 49) else false
theorem rbK_succ (s : ByteArray) (k : Nat) (h : k < s.size) : rbK s (k + 1) = rbK s k ++ [decide (s[k].toNat = 49)] := by simp [rbK, List.range_succ, h]
theorem rbK_len (s : ByteArray) (k : Nat) : (rbK s k).length = k := by simp [rbK]
def bitAt (s : ByteArray) (i : Nat) : Prop := ∀ h : i < s.size, s[i].toNat = 48 ∨ s[i].toNat = 49
def RbTo (s : ByteArray) (k : Nat) : Prop := ∀ i (h : i < s.size), i < k → s[i].toNat = 48 ∨ s[i].toNat = 49
def rbG (s : ByteArray) : Bool := decide (s.size ≤ 32768 ∧ ∀ i (h : i < s.size), s[i].toNat = 48 ∨ s[i].toNat = 49)
def rbV (s : ByteArray) : List Bool := if rbG s then rbK s s.size else []
theorem rbV_yes {s : ByteArray} (h : rbG s = true) : rbV s = rbK s s.size := by unfold rbV; rw [if_pos h]
theorem rbV_no {s : ByteArray} (h : rbG s = false) : rbV s = [] := by unfold rbV; rw [if_neg (by rw [h]; simp)]
theorem rbG_yes {s : ByteArray} (hs : s.size ≤ 32768) (h : RbTo s s.size) : rbG s = true := decide_eq_true ⟨hs, fun i hi => h i hi hi⟩
theorem rbG_no {s : ByteArray} {k : Nat} (hk : k < s.size) (h1 : s[k].toNat ≠ 48) (h2 : s[k].toNat ≠ 49) : rbG s = false := decide_eq_false fun ⟨_, hh⟩ => by have := hh k hk; omega
theorem rbG_long {s : ByteArray} (hs : 32768 < s.size) : rbG s = false := decide_eq_false fun ⟨_, _⟩ => by omega
theorem rbTo_succ {s : ByteArray} {k : Nat} (hk : k < s.size) (h : RbTo s k) (h1 : s[k].toNat = 48 ∨ s[k].toNat = 49) : RbTo s (k + 1) := by
  intro i hi hlt
  by_cases he : i = k
  · subst he; exact h1
  · exact h i hi (by omega)
theorem rbV_len (s : ByteArray) : (rbV s).length ≤ 1048576 := by
  cases hg : rbG s with
  | false => rw [rbV_no hg]; simp
  | true => rw [rbV_yes hg, rbK_len]; have := (of_decide_eq_true hg).1; omega
def RbRelS (w0 : World) (s : ByteArray) (v i : Value) (wr : World) : Prop := ∃ k : Nat, k ≤ s.size ∧ i = .int .i64 k ∧ RbTo s k ∧ RowB w0 v (rbK s k) wr
def RbRelI (w0 : World) (s : ByteArray) (g : Nat) (v : Value) (wr : World) : Prop := ∃ k : Nat, k ≤ s.size ∧ RbTo s k ∧ RowB w0 v (rbK s k) wr ∧ wr.heap[g]? = some (.stringIter s k)
set_option maxRecDepth 100000 in
set_option maxHeartbeats 4000000 in
theorem rdS_any (s : ByteArray) (w : World) (hs0 : s.size ≤ maxLen) : Calls Try.prog 74 #[.string s] w (RetBl (rbV s) (rbG s) w) := by
  obtain ⟨i0, hi, hz0, hz1, hz2⟩ := info_parts infoB
  unfold maxLen at hs0
  by_cases hs : s.size ≤ 32768
  · go_enter Try.func74, Try.ntmps74
    go_wp2
    go_loopw [4, 5] (RbRelS w s) (fun _ i _ => s.size - (intOf i).toNat)
    case atStart => exact ⟨0, Nat.zero_le _, rfl, fun i _ h => absurd h (Nat.not_lt_zero _), RowB.lit w⟩
    case round =>
      obtain ⟨k, hk, rfl, ht, hr⟩ := hrel
      have HR := Lib.hid hr
      have HT := Lib.hid ht
      clear hr ht
      by_cases hlt : k < s.size
      · have HN := Lib.hid (show (rbK s k).length ≤ 32768 by rw [rbK_len]; omega)
        by_cases hb : s[k].toNat = 48
        · skip
          have hc : (s[k].toNat : Int) = 48 := by omega
          have HS2 := Lib.hid (show rbK s (k + 1) = rbK s k ++ [false] by rw [rbK_succ s k hlt, hb]; rfl)
          have HT2 := Lib.hid (rbTo_succ hlt HT.out (by omega))
          clear hb
          generalize rbK s k = L at *
          go_wp2_with (first | (at_builtin; refine wpList_append_own _ rfl _ _ 28 rfl w.heap.size 4 i0 (.bool false) 1 1 Try.underlying28 hi hz0 hz1 hz2 rfl (by decide) _ _ _ rfl (HR.out.1.alloc _) ⟨wr.heap.size, 0, none⟩ 1 1 [.bool false] rfl rfl (one_newF _ _ _) (cellsB [false]) (by unfold maxLen; have := HN.out; omega) (by have := HN.out; omega) (by simp; have := HR.out.2.size; omega) ?_; intro v' w1 hown' hgrow _) | (at_builtin; refine wpList_append_own _ rfl _ _ 28 rfl w.heap.size 4 i0 (.bool false) 1 1 Try.underlying28 hi hz0 hz1 hz2 rfl (by decide) _ _ _ rfl ((rowDrewF HR.out.1 _).alloc _) ⟨wr.heap.size, 0, none⟩ 1 1 [.bool false] rfl rfl (one_newF _ _ _) (cellsB [false]) (by unfold maxLen; have := HN.out; omega) (by have := HN.out; omega) (by simp; have := HR.out.2.size; omega) ?_; intro v' w1 hown' hgrow _))
          have HR2 := Lib.hid (show RowB w v' (L ++ [false]) w1 from RowB.push hown' (by first | exact HR.out.2.alloc HR.out.2.size _ | exact (below_drawn HR.out.2 _).alloc HR.out.2.size _) hgrow (fun j hj => (HR.out.1.lt j hj).1))
          clear hown' hgrow
          go_wp2
          go_roundw
          case rel => exact ⟨k + 1, by omega, by go_num, HT2.out, by rw [HS2.out]; exact HR2.out⟩
          case measure => simp [intOf]; omega
        · by_cases hb2 : s[k].toNat = 49
          · have hb := hb2
            clear hb2
            have hc : (s[k].toNat : Int) = 49 := by omega
            have HS2 := Lib.hid (show rbK s (k + 1) = rbK s k ++ [true] by rw [rbK_succ s k hlt, hb]; rfl)
            have HT2 := Lib.hid (rbTo_succ hlt HT.out (by omega))
            clear hb
            generalize rbK s k = L at *
            go_wp2_with (first | (at_builtin; refine wpList_append_own _ rfl _ _ 28 rfl w.heap.size 4 i0 (.bool false) 1 1 Try.underlying28 hi hz0 hz1 hz2 rfl (by decide) _ _ _ rfl (HR.out.1.alloc _) ⟨wr.heap.size, 0, none⟩ 1 1 [.bool true] rfl rfl (one_newF _ _ _) (cellsB [true]) (by unfold maxLen; have := HN.out; omega) (by have := HN.out; omega) (by simp; have := HR.out.2.size; omega) ?_; intro v' w1 hown' hgrow _) | (at_builtin; refine wpList_append_own _ rfl _ _ 28 rfl w.heap.size 4 i0 (.bool false) 1 1 Try.underlying28 hi hz0 hz1 hz2 rfl (by decide) _ _ _ rfl ((rowDrewF HR.out.1 _).alloc _) ⟨wr.heap.size, 0, none⟩ 1 1 [.bool true] rfl rfl (one_newF _ _ _) (cellsB [true]) (by unfold maxLen; have := HN.out; omega) (by have := HN.out; omega) (by simp; have := HR.out.2.size; omega) ?_; intro v' w1 hown' hgrow _))
            have HR2 := Lib.hid (show RowB w v' (L ++ [true]) w1 from RowB.push hown' (by first | exact HR.out.2.alloc HR.out.2.size _ | exact (below_drawn HR.out.2 _).alloc HR.out.2.size _) hgrow (fun j hj => (HR.out.1.lt j hj).1))
            clear hown' hgrow
            go_wp2
            go_roundw
            case rel => exact ⟨k + 1, by omega, by go_num, HT2.out, by rw [HS2.out]; exact HR2.out⟩
            case measure => simp [intOf]; omega
          · have HF := Lib.hid (rbG_no hlt hb hb2)
            have h1 : ((s[k].toNat : Int) != 48) = true := by simp; omega
            have h2 : ((s[k].toNat : Int) != 49) = true := by simp; omega
            clear hb hb2
            go_wp2
            go_ret2
            rw [rbV_no HF.out, HF.out]
            exact retBl_nil HR.out.2
      · obtain rfl : k = s.size := by omega
        have HG := Lib.hid (rbG_yes hs HT.out)
        go_wp2
        go_ret2
        rw [rbV_yes HG.out, HG.out]
        exact ⟨_, rfl, HR.out.own, HR.out.2⟩
  · have HG := Lib.hid (rbG_long (s := s) (by omega))
    have hs' : 32768 < s.size := by omega
    have h0 : 0 < s.size := by omega
    clear hs
    go_enter Try.func74, Try.ntmps74
    go_wp2
    refine wp_loop_rounds 1 ?_
    rw [rounds_succ]
    go_wp2
    go_ret2
    rw [rbV_no HG.out, HG.out]
    exact retBl_nil ((Below.refl _ _).alloc (Nat.le_refl _) _)
theorem rdoS_any (s : ByteArray) (w : World) (hs0 : s.size ≤ maxLen) : Calls Try.prog 40 #[.string s] w (RetBl (rbV s) (rbG s) w) := by
  have HC := Lib.hid (rdS_any s w hs0)
  clear hs0
  go_enter Try.func40, Try.ntmps40
  go_wp2_with (go_at_call 74; refine HC.out.mono ?_; rintro e w' ⟨u, rfl, ho, hb⟩)
  go_ret2
  exact ⟨_, rfl, ho, hb⟩
set_option maxRecDepth 100000 in
set_option maxHeartbeats 4000000 in
theorem rdoI_any (s : ByteArray) (w : World) (hs0 : s.size ≤ maxLen) : Calls Try.prog 41 #[.string s] w (RetBl (rbV s) (rbG s) w) := by
  obtain ⟨i0, hi, hz0, hz1, hz2⟩ := info_parts infoB
  unfold maxLen at hs0
  by_cases hs : s.size ≤ 32768
  · go_enter Try.func41, Try.ntmps41
    go_wp2_with (at_make; refine wpList_make_own _ rfl _ _ 28 rfl w.heap.size 4 i0 (.bool false) 1 Try.underlying28 hi hz0 hz1 .i64 .i64 _ s.size rfl rfl (by omega) (by rw [hz2]; omega) (by unfold maxLen; omega) (Nat.le_refl _) ?_; intro w1 hown hgrow)
    have hR0 := RowB.made hown hgrow
    have hR1 := hR0.alloc (.stringIter s 0)
    have hI0 : (w1.iter s 0).heap[w1.heap.size]? = some (.stringIter s 0) := World.iter_heap _ _ _
    have hg0 : w.heap.size ≤ w1.heap.size := hR0.2.size
    clear hown hgrow hR0
    go_loopw [4] (RbRelI w s w1.heap.size) (fun _ wr => s.size - wr.iterPos w1.heap.size)
    case atStart => exact ⟨0, Nat.zero_le _, fun i _ h => absurd h (Nat.not_lt_zero _), hR1, hI0⟩
    case round =>
      clear hR1 hI0
      obtain ⟨k, hk, ht, hr, hi0⟩ := hrel
      generalize w1.heap.size = g at *
      have HT := Lib.hid ht
      have hm0 := iterPos_of hi0
      by_cases hlt : k < s.size
      · have HN := Lib.hid (show (rbK s k).length ≤ 32768 by rw [rbK_len]; omega)
        by_cases h128 : s[k].toNat < 128
        · have hnx := fun ty => Lib.run_next_ascii_at (P := Try.prog) wr g s k ty hi0 hlt h128
          have hr2 := hr.iter hi0 hg0 (k + 1)
          have hi2 := Lib.iterAt_heap wr g s k (k + 1) hi0
          clear hr hi0 ht
          generalize wr.iterAt g s (k + 1) = W2 at *
          have HR := Lib.hid hr2
          have HI := Lib.hid hi2
          clear hr2 hi2
          by_cases hb : s[k].toNat = 48
          · have hnx2 : ∀ ty, (Instr.next (.pointer (some ⟨g, 0, none⟩)) true ty).run Try.prog wr = .ok (.tuple #[.bool true, .int .i64 k, .int .i32 48]) W2 := fun ty => by have := hnx ty; rw [hb] at this; exact this
            have HS2 := Lib.hid (show rbK s (k + 1) = rbK s k ++ [false] by rw [rbK_succ s k hlt, hb]; rfl)
            have HT2 := Lib.hid (rbTo_succ hlt HT.out (by omega))
            clear hb hnx h128
            generalize rbK s k = L at *
            go_wp2_with (first | (at_builtin; refine wpList_append_own _ rfl _ _ 28 rfl w.heap.size 4 i0 (.bool false) 1 1 Try.underlying28 hi hz0 hz1 hz2 rfl (by decide) _ _ _ rfl (HR.out.1.alloc _) ⟨W2.heap.size, 0, none⟩ 1 1 [.bool false] rfl rfl (one_newF _ _ _) (cellsB [false]) (by unfold maxLen; have := HN.out; omega) (by have := HN.out; omega) (by simp; have := HR.out.2.size; omega) ?_; intro v' w1_ hown' hgrow _) | (at_builtin; refine wpList_append_own _ rfl _ _ 28 rfl w.heap.size 4 i0 (.bool false) 1 1 Try.underlying28 hi hz0 hz1 hz2 rfl (by decide) _ _ _ rfl ((rowDrewF HR.out.1 _).alloc _) ⟨W2.heap.size, 0, none⟩ 1 1 [.bool false] rfl rfl (one_newF _ _ _) (cellsB [false]) (by unfold maxLen; have := HN.out; omega) (by have := HN.out; omega) (by simp; have := HR.out.2.size; omega) ?_; intro v' w1_ hown' hgrow _))
            have HI2 := Lib.hid (show w1_.heap[g]? = some (.stringIter s (k + 1)) from by first | exact iter_grown HR.out HI.out hgrow | exact iter_grown (HR.out.drewN _) HI.out hgrow)
            have HR2 := Lib.hid (show RowB w v' (L ++ [false]) w1_ from RowB.push hown' (by first | exact HR.out.2.alloc HR.out.2.size _ | exact (below_drawn HR.out.2 _).alloc HR.out.2.size _) hgrow (fun j hj => (HR.out.1.lt j hj).1))
            clear hown' hgrow
            go_wp2
            go_roundw
            case rel => exact ⟨k + 1, by omega, HT2.out, by rw [HS2.out]; exact HR2.out, HI2.out⟩
            case measure => simp [iterPos_of HI2.out, hm0]; omega
          · by_cases hb2 : s[k].toNat = 49
            · have hnx2 : ∀ ty, (Instr.next (.pointer (some ⟨g, 0, none⟩)) true ty).run Try.prog wr = .ok (.tuple #[.bool true, .int .i64 k, .int .i32 49]) W2 := fun ty => by have := hnx ty; rw [hb2] at this; exact this
              have hb := hb2
              clear hb2
              have HS2 := Lib.hid (show rbK s (k + 1) = rbK s k ++ [true] by rw [rbK_succ s k hlt, hb]; rfl)
              have HT2 := Lib.hid (rbTo_succ hlt HT.out (by omega))
              clear hb hnx h128
              generalize rbK s k = L at *
              go_wp2_with (first | (at_builtin; refine wpList_append_own _ rfl _ _ 28 rfl w.heap.size 4 i0 (.bool false) 1 1 Try.underlying28 hi hz0 hz1 hz2 rfl (by decide) _ _ _ rfl (HR.out.1.alloc _) ⟨W2.heap.size, 0, none⟩ 1 1 [.bool true] rfl rfl (one_newF _ _ _) (cellsB [true]) (by unfold maxLen; have := HN.out; omega) (by have := HN.out; omega) (by simp; have := HR.out.2.size; omega) ?_; intro v' w1_ hown' hgrow _) | (at_builtin; refine wpList_append_own _ rfl _ _ 28 rfl w.heap.size 4 i0 (.bool false) 1 1 Try.underlying28 hi hz0 hz1 hz2 rfl (by decide) _ _ _ rfl ((rowDrewF HR.out.1 _).alloc _) ⟨W2.heap.size, 0, none⟩ 1 1 [.bool true] rfl rfl (one_newF _ _ _) (cellsB [true]) (by unfold maxLen; have := HN.out; omega) (by have := HN.out; omega) (by simp; have := HR.out.2.size; omega) ?_; intro v' w1_ hown' hgrow _))
              have HI2 := Lib.hid (show w1_.heap[g]? = some (.stringIter s (k + 1)) from by first | exact iter_grown HR.out HI.out hgrow | exact iter_grown (HR.out.drewN _) HI.out hgrow)
              have HR2 := Lib.hid (show RowB w v' (L ++ [true]) w1_ from RowB.push hown' (by first | exact HR.out.2.alloc HR.out.2.size _ | exact (below_drawn HR.out.2 _).alloc HR.out.2.size _) hgrow (fun j hj => (HR.out.1.lt j hj).1))
              clear hown' hgrow
              go_wp2
              go_roundw
              case rel => exact ⟨k + 1, by omega, HT2.out, by rw [HS2.out]; exact HR2.out, HI2.out⟩
              case measure => simp [iterPos_of HI2.out, hm0]; omega
            · have HF := Lib.hid (rbG_no hlt hb hb2)
              have h1 : ((s[k].toNat : Int) != 48) = true := by simp; omega
              have h2 : ((s[k].toNat : Int) != 49) = true := by simp; omega
              clear hb hb2
              go_wp2
              go_ret2
              rw [rbV_no HF.out, HF.out]
              exact retBl_nil HR.out.2
        · have hnx := fun ty => Lib.run_next_any_at (P := Try.prog) wr g s k ty hi0 hlt
          obtain ⟨hd1, hd2⟩ := decode_high s k hlt (by omega)
          have HF := Lib.hid (rbG_no hlt (by omega) (by omega))
          have hr2 := hr.iter hi0 hg0 (k + (Utf8.decode s k).2)
          generalize wr.iterAt g s (k + (Utf8.decode s k).2) = W2 at *
          generalize (Utf8.decode s k).1 = c at *
          have h1 : ((c : Int) != 48) = true := by simp; omega
          have h2 : ((c : Int) != 49) = true := by simp; omega
          have HR := Lib.hid hr2
          clear hr hi0 ht hr2 hd1 hd2 h128
          go_wp2
          go_ret2
          rw [rbV_no HF.out, HF.out]
          exact retBl_nil HR.out.2
      · obtain rfl : k = s.size := by omega
        have hnx := fun ty => Lib.run_next_end_at (P := Try.prog) wr g s s.size ty hi0 (by omega)
        have HG := Lib.hid (rbG_yes hs HT.out)
        have HR := Lib.hid hr
        clear hr hi0 ht
        go_wp2
        go_ret2
        rw [rbV_yes HG.out, HG.out]
        exact ⟨_, rfl, HR.out.own, HR.out.2⟩
  · have HG := Lib.hid (rbG_long (s := s) (by omega))
    have hs' : 32768 < s.size := by omega
    clear hs
    go_enter Try.func41, Try.ntmps41
    go_wp2_with fail
    go_ret2
    rw [rbV_no HG.out, HG.out]
    exact retBl_nil (Below.refl _ _)
end Go.Proofs.Ytmokgmmjnfnbfaa
