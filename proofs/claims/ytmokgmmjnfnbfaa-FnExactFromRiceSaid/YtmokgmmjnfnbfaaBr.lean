/-
  A reader of bits: what it holds, and what its step answers.
-/
import Derived.Test.YtmokgmmjnfnbfaaLst
import Derived.Deep.RegionHeld3
import Derived.Deep.RegionWith
namespace Go.Proofs.Ytmokgmmjnfnbfaa
open Go.RowKit Fl
set_option linter.unusedVariables false

/-- What differs is the block g alone, and no block is new. -/
def OnlyG (g : Nat) (w w' : World) : Prop := w'.heap.size = w.heap.size ∧ (∀ j, j ≠ g → w'.heap[j]? = w.heap[j]?) ∧ ∀ B, B ≤ g → Below B w w'
theorem OnlyG.refl (g : Nat) (w : World) : OnlyG g w w := ⟨rfl, fun _ _ => rfl, fun _ _ => Below.refl _ _⟩
theorem OnlyG.trans {g : Nat} {a b c : World} (h : OnlyG g a b) (h' : OnlyG g b c) : OnlyG g a c := ⟨h'.1.trans h.1, fun j hj => (h'.2.1 j hj).trans (h.2.1 j hj), fun B hB => (h.2.2 B hB).trans (h'.2.2 B hB)⟩
theorem OnlyG.draw {g : Nat} {a b : World} (h : OnlyG g a b) (n : Nat) : OnlyG g a (b.drewN n) := ⟨h.1, h.2.1, fun B hB => below_drawn (h.2.2 B hB) n⟩
theorem setCell_other (w : World) (a : Addr) (u : Value) (j : Nat) (h : j ≠ a.block) : (w.setCell a u).heap[j]? = w.heap[j]? := by
  unfold World.setCell
  simp only [Array.getElem?_modify]
  rw [if_neg (fun e => h e.symm)]
theorem OnlyG.set {g : Nat} {a b : World} (h : OnlyG g a b) (u : Value) : OnlyG g a (b.setCell ⟨g, 0, none⟩ u) :=
  ⟨by rw [← h.1]; simp [World.setCell], fun j hj => (setCell_other b ⟨g, 0, none⟩ u j hj).trans (h.2.1 j hj), fun B hB => (h.2.2 B hB).setCell hB u⟩
theorem OnlyG.row {g base : Nat} {w w' : World} {e : TypeId} {size n : Nat} {v : Value} {xs : List Value} (h : OnlyG g w w') (hg : g < base) (ho : w.ownsRow base e size v n xs) : w'.ownsRow base e size v n xs := by
  refine ⟨ho.1, ?_⟩
  rcases ho.2 with h0 | ⟨b, cap, cur, hv, hb, hg', hrest⟩
  · exact .inl h0
  · exact .inr ⟨b, cap, cur, hv, hb, (h.2.1 b (by omega)).trans hg', hrest⟩
/-- The reader in block g has these bits left, which lie below B. -/
def RdrOk (g B : Nat) (l : List Bool) (w : World) : Prop := ∃ v, w.cell? ⟨g, 0, none⟩ = some v ∧ w.frozen? ⟨g, 0, none⟩ = false ∧ Rd w B v (bl l) ∧ l.length ≤ 1048576
theorem RdrOk.draw {g B : Nat} {l : List Bool} {w : World} (h : RdrOk g B l w) (n : Nat) : RdrOk g B l (w.drewN n) := h
theorem RdrOk.keep {g B : Nat} {l : List Bool} {w w' : World} (h : RdrOk g B l w) (hB : B ≤ g) (hb : Below (g + 1) w w') : RdrOk g B l w' := by
  obtain ⟨v, h1, h2, h3, h4⟩ := h
  exact ⟨v, (hb.cell (p := ⟨g, 0, none⟩) (by show g < g + 1; omega)).trans h1, (hb.frozen (p := ⟨g, 0, none⟩) (by show g < g + 1; omega)).trans h2, h3.below (hb.mono (by omega)), h4⟩
set_option maxRecDepth 100000 in
set_option maxHeartbeats 2000000 in
theorem next_any (g B : Nat) (l : List Bool) (w : World) (h : RdrOk g B l w) (hB : B ≤ g) :
    Calls Try.prog 67 #[.pointer (some ⟨g, 0, none⟩)] w fun e w' => e = .returned (.tuple #[.bool (l.headD false), .bool (!l.isEmpty)]) ∧ RdrOk g B l.tail w' ∧ OnlyG g w w' := by
  have H0 := Lib.hid h
  obtain ⟨v, h1, h2, ⟨A, c, hv, hc1, hc2, hcell⟩, hm⟩ := h
  cases l with
  | nil =>
    rw [show (bl []).length = 0 from rfl] at hv
    subst hv
    clear hcell
    go_enter Try.func67, Try.ntmps67
    go_wp2_with fail
    go_ret2
    exact ⟨rfl, H0.out, OnlyG.refl _ _⟩
  | cons b r =>
    rw [bl_len, List.length_cons] at hv hc1 hcell
    rw [List.length_cons] at hm
    subst hv
    obtain ⟨bb, off, rfl, hbl, hcc⟩ := hcell (by omega)
    have hsrc : w.cell? ⟨bb, off, none⟩ = some (.bool b) := by have := hcc 0 (.bool b) rfl; rwa [Nat.add_zero] at this
    have hR2 : Rd w B (.slice (if c = 1 then some ⟨bb, off, none⟩ else some ⟨bb, off + 1, none⟩) r.length (c - 1)) (bl r) := by
      refine ⟨_, c - 1, by rw [bl_len], by rw [bl_len]; omega, by omega, fun hp => ?_⟩
      rw [bl_len] at hp
      rw [if_neg (by omega)]
      refine ⟨bb, off + 1, rfl, hbl, fun i x hx => ?_⟩
      have := hcc (i + 1) x (by rw [← hx]; simp [bl])
      rwa [show off + (i + 1) = off + 1 + i by omega] at this
    have hr1 : (((r.length : Nat) : Int) + 1 - 1) = r.length := by omega
    have H1 := Lib.hid h1
    have H2 := Lib.hid h2
    have HM1 := Lib.hid (show (b :: r).tail.length ≤ 1048576 by show r.length ≤ 1048576; omega)
    generalize r.length = n at *
    clear hcc hcell H0
    by_cases hce : c = 1
    · subst hce
      obtain rfl : n = 0 := by omega
      rw [if_pos rfl, show (1 - 1 : Nat) = 0 from rfl] at hR2
      have HR2 := Lib.hid hR2
      clear hR2
      go_enter Try.func67, Try.ntmps67
      go_wp2_with fail
      go_region
      go_wp2
      go_ret2
      exact ⟨rfl, ⟨_, World.cell?_setCell_same _ _ _ H1.out, by simpa using H2.out, HR2.out.below (below_drawn ((Below.refl B w).setCell (p := ⟨g, 0, none⟩) hB _) 1), HM1.out⟩, ((OnlyG.refl g w).set _).draw 1⟩
    · rw [if_neg hce] at hR2
      have HR2 := Lib.hid hR2
      clear hR2
      go_enter Try.func67, Try.ntmps67
      go_wp2_with fail
      go_region
      go_wp2
      go_ret2
      exact ⟨rfl, ⟨_, World.cell?_setCell_same _ _ _ H1.out, by simpa using H2.out, HR2.out.below (below_drawn ((Below.refl B w).setCell (p := ⟨g, 0, none⟩) hB _) 1), HM1.out⟩, ((OnlyG.refl g w).set _).draw 1⟩
def ones : List Bool → Nat
  | true :: r => ones r + 1
  | _ => 0
theorem ones_le : ∀ l, ones l ≤ l.length
  | [] => Nat.le_refl _
  | true :: r => by have := ones_le r; simp [ones]; omega
  | false :: r => by simp [ones]
theorem ones_at : ∀ (l : List Bool) (j : Nat), j < ones l → l.getD j false = true
  | [], j, h => by simp [ones] at h
  | true :: r, 0, _ => rfl
  | true :: r, j + 1, h => by have := ones_at r j (by simp [ones] at h; omega); simpa [List.getD] using this
  | false :: r, j, h => by simp [ones] at h
theorem ones_end : ∀ l : List Bool, l.getD (ones l) false = false
  | [] => rfl
  | true :: r => by have := ones_end r; simpa [ones, List.getD] using this
  | false :: r => rfl
theorem drop_hd (l : List Bool) (j : Nat) : (l.drop j).headD false = l.getD j false := by
  rw [List.headD_eq_head?_getD, List.head?_drop]; rfl
theorem drop_em (l : List Bool) (j : Nat) : (!(l.drop j).isEmpty) = decide (j + 1 ≤ l.length) := by
  by_cases h : j + 1 ≤ l.length
  · rw [decide_eq_true h]; simp; omega
  · rw [decide_eq_false h]; simp [List.isEmpty_iff]; omega
theorem drop_tl (l : List Bool) (j : Nat) : (l.drop j).tail = l.drop (j + 1) := by rw [List.tail_drop]
/-- The number that j digits from p on make. -/
def zJ (l : List Bool) (p : Nat) (z0 : Int) : Nat → Int
  | 0 => z0
  | j + 1 => 2 * zJ l p z0 j + (if l.getD (p + j) false then 1 else 0)
theorem zJ_b (l : List Bool) (p z0 : Nat) : ∀ j, 0 ≤ zJ l p z0 j ∧ zJ l p z0 j + 1 ≤ (((z0 + 1) * 2 ^ j : Nat) : Int)
  | 0 => by simp [zJ]
  | j + 1 => by
    obtain ⟨h1, h2⟩ := zJ_b l p z0 j
    have e : (z0 + 1) * 2 ^ (j + 1) = 2 * ((z0 + 1) * 2 ^ j) := by rw [Nat.pow_succ]; simp [Nat.mul_comm, Nat.mul_left_comm]
    rw [e]
    generalize (z0 + 1) * 2 ^ j = M at *
    show 0 ≤ 2 * zJ l p z0 j + _ ∧ 2 * zJ l p z0 j + _ + 1 ≤ _
    split <;> omega
theorem zJ_le (l : List Bool) (p z0 j : Nat) (hz : z0 ≤ 1048576) (hj : j ≤ 20) : 0 ≤ zJ l p z0 j ∧ zJ l p z0 j ≤ 1099512676352 := by
  obtain ⟨h1, h2⟩ := zJ_b l p z0 j
  have h3 : 2 ^ j ≤ 2 ^ 20 := Nat.pow_le_pow_right (by decide) hj
  have h4 : (2 : Nat) ^ 20 = 1048576 := by decide
  rw [h4] at h3
  have h5 : (z0 + 1) * 2 ^ j ≤ 1048577 * 1048576 := Nat.mul_le_mul (by omega) h3
  generalize (z0 + 1) * 2 ^ j = M at *
  omega
theorem zJ_1 {l : List Bool} {p j : Nat} {z0 : Int} (h : l.getD (p + j) false = true) : zJ l p z0 (j + 1) = 2 * zJ l p z0 j + 1 := by show 2 * zJ l p z0 j + _ = _; rw [if_pos h]
theorem zJ_0 {l : List Bool} {p j : Nat} {z0 : Int} (h : l.getD (p + j) false = false) : zJ l p z0 (j + 1) = 2 * zJ l p z0 j := by show 2 * zJ l p z0 j + _ = _; rw [if_neg (by rw [h]; simp)]; omega
def ZgA (g B : Nat) (w : World) (l : List Bool) (z m o : Value) (wr : World) : Prop := ∃ j : Nat, j ≤ ones l ∧ z = .int .i64 j ∧ m = .bool (l.getD j false) ∧ o = .bool (decide (j + 1 ≤ l.length)) ∧ RdrOk g B (l.drop (j + 1)) wr ∧ OnlyG g w wr
def ZgD (g B : Nat) (w : World) (l : List Bool) (k : Nat) (z o i : Value) (wr : World) : Prop := ∃ j : Nat, j ≤ k ∧ i = .int .i64 j ∧ z = .int .i64 (zJ l (ones l + 1) (ones l) j) ∧ o = .bool (decide (ones l + 1 + j ≤ l.length)) ∧ RdrOk g B (l.drop (ones l + 1 + j)) wr ∧ OnlyG g w wr
set_option maxRecDepth 100000 in
set_option maxHeartbeats 4000000 in
theorem zz_any (g B : Nat) (l : List Bool) (k : Nat) (w : World) (h : RdrOk g B l w) (hB : B ≤ g) (hk : k ≤ 20) (hl : l.length ≤ 1048576) :
    Calls Try.prog 72 #[.pointer (some ⟨g, 0, none⟩), .int .i64 k] w fun e w' => e = .returned (.tuple #[.int .i64 (zJ l (ones l + 1) (ones l) k), .bool (decide (ones l + 1 + k ≤ l.length))]) ∧ RdrOk g B (l.drop (ones l + 1 + k)) w' ∧ OnlyG g w w' := by
  have HN := Lib.hid (fun j w' (hr : RdrOk g B (l.drop j) w') => (by have := next_any g B (l.drop j) w' hr hB; rw [drop_hd, drop_em, drop_tl] at this; exact this : Calls Try.prog 67 #[.pointer (some ⟨g, 0, none⟩)] w' fun e w'' => e = .returned (.tuple #[.bool (l.getD j false), .bool (decide (j + 1 ≤ l.length))]) ∧ RdrOk g B (l.drop (j + 1)) w'' ∧ OnlyG g w' w''))
  have HO := Lib.hid (ones_le l)
  have ho := ones_le l
  have ho2 : ones l ≤ 1048576 := by omega
  have HA := Lib.hid (ones_at l)
  have HE := Lib.hid (ones_end l)
  have H0 := Lib.hid h
  clear h ho hl
  go_enter Try.func72, Try.ntmps72
  go_wp2_with (go_at_call 67; refine (HN.out 0 _ (by rw [List.drop_zero]; exact H0.out)).mono ?_; rintro e w1 ⟨rfl, hr1, ho1⟩)
  go_loopw [6, 7, 8] (ZgA g B w l) (fun z _ _ _ => ones l - (intOf z).toNat)
  case atStart => exact ⟨0, Nat.zero_le _, rfl, rfl, rfl, hr1, ho1⟩
  case round =>
    clear hr1 ho1
    obtain ⟨j, hj, rfl, rfl, rfl, hr, ho⟩ := hrel
    have HR := Lib.hid hr
    have HG := Lib.hid ho
    clear hr ho
    by_cases hlt : j < ones l
    · have hm := HA.out j hlt
      rw [hm]
      clear hm
      go_wp2_with (go_at_call 67; refine (HN.out (j + 1) _ HR.out).mono ?_; rintro e w2 ⟨rfl, hr2, ho2'⟩)
      go_roundw
      case rel => exact ⟨j + 1, by omega, by go_num, rfl, rfl, hr2, HG.out.trans ho2'⟩
      case measure => simp [intOf]; omega
    · obtain rfl : j = ones l := by omega
      rw [HE.out]
      clear HA hlt hj
      generalize hone : ones l = o at *
      go_wp2
      go_loopw [6, 8, 24] (ZgD g B w l k) (fun _ _ i _ => k - (intOf i).toNat)
      case atStart => exact ⟨0, Nat.zero_le _, rfl, by first | (rw [hone]; done) | (rw [hone]; rfl), by first | (rw [hone]; done) | (rw [hone]; rfl), by rw [hone]; exact HR.out, HG.out⟩
      case round =>
        clear HR HG
        obtain ⟨i, hi, rfl, rfl, rfl, hr, ho⟩ := hrel
        rw [hone] at hr ⊢
        have HR := Lib.hid hr
        have HG := Lib.hid ho
        clear hr ho
        by_cases hik : i < k
        · have hz := zJ_le l (o + 1) o i ho2 (by omega)
          obtain ⟨hz0, hz1⟩ := hz
          have HC := Lib.hid (HN.out (o + 1 + i) _ HR.out)
          cases hd : l.getD (o + 1 + i) false with
          | false =>
            rw [hd] at HC
            have HS := Lib.hid (zJ_0 (z0 := (o : Int)) hd)
            clear hd
            generalize zJ l (o + 1) o i = z at *
            go_wp2_with (go_at_call 67; refine HC.out.mono ?_; rintro e w2 ⟨rfl, hr2, ho2'⟩)
            go_roundw
            case rel => exact ⟨i + 1, by omega, by go_num, by rw [hone, HS.out, Int.mul_comm], by first | (rw [hone]; done) | (rw [hone]; rfl), by rw [hone]; exact hr2, HG.out.trans ho2'⟩
            case measure => simp [intOf]; omega
          | true =>
            rw [hd] at HC
            have HS := Lib.hid (zJ_1 (z0 := (o : Int)) hd)
            clear hd
            generalize zJ l (o + 1) o i = z at *
            go_wp2_with (go_at_call 67; refine HC.out.mono ?_; rintro e w2 ⟨rfl, hr2, ho2'⟩)
            go_roundw
            case rel => exact ⟨i + 1, by omega, by go_num, by rw [hone, HS.out, Int.mul_comm], by first | (rw [hone]; done) | (rw [hone]; rfl), by rw [hone]; exact hr2, HG.out.trans ho2'⟩
            case measure => simp [intOf]; omega
        · obtain rfl : i = k := by omega
          go_wp2
          go_ret2
          rw [hone]
          exact ⟨rfl, HR.out, HG.out⟩
end Go.Proofs.Ytmokgmmjnfnbfaa
