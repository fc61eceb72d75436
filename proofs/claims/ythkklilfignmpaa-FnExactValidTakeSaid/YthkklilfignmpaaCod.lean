/-
  Contracts: the law's own copies, comparisons and marks of codes.
-/
import Derived.Test.YthkklilfignmpaaBls
import Derived.Test.YthkklilfignmpaaListF
import Derived.Test.YthkklilfignmpaaFloMore
import Derived.Test.YthkklilfignmpaaBox
import Derived.Lib.SmallJoins
namespace Go.Proofs.Ythkklilfignmpaa.Cf
open Go.RowKit Fl
set_option linter.unusedVariables false

theorem own_box3 (w : World) (a b c : Value) (T : TypeId) : Own (w.alloc (.cells #[a, b, c] T)) w.heap.size (.slice (some ⟨w.heap.size, 0, none⟩) 3 3) [a, b, c] := by
  have h := Own.row (World.ownsRow_lit (base := w.heap.size) (e := T) (size := 1) w #[a, b, c] 3 (Nat.le_refl _) (by simp [maxLen]) rfl)
  exact h
/-- A new picture with these sides and lights, in memory of its own. -/
def MadeCd (p q : Int) (xs : List Bool) (w : World) (e : Ending) (w' : World) : Prop :=
  ∃ g, e = .returned (.agg #[.int .i64 p, .int .i64 q, .slice (some ⟨g, 0, none⟩) xs.length xs.length]) ∧ Own w' w.heap.size (.slice (some ⟨g, 0, none⟩) xs.length xs.length) (bl xs) ∧ Below w.heap.size w w'
set_option maxRecDepth 100000 in
set_option maxHeartbeats 2000000 in
theorem toCod_any (v : Value) (p q : Int) (xs : List Bool) (w : World) (h : Rd w w.heap.size v (bl xs)) (hm : xs.length ≤ 1048576) :
    Calls Try.prog 74 #[.agg #[.int .i64 p, .int .i64 q, v]] w (MadeCd p q xs w) := by
  obtain ⟨A, c, hv, q1, q2, q3⟩ := id h
  clear q1 q2 q3
  rw [bl_len] at hv
  subst hv
  have HT := Lib.hid (fun (w' : World) (hb : Below w.heap.size w w') => toB_any (.slice A xs.length c) xs w' w.heap.size (h.below hb) hb.size hm)
  go_enter Try.func74, Try.ntmps74
  go_wp2_with fail
  refine (HT.out _ (((Below.refl _ _).alloc (Nat.le_refl _) _).alloc (by simp) _ |>.alloc (by simp; omega) _)).mono ?_
  rintro e w1 ⟨g, rfl, ho, hb⟩
  obtain ⟨hc, hf⟩ := bcell hb
  have hz := hb.size
  simp at hz
  go_wp2_with fail
  have hb0 : Below w.heap.size w w1 := (((Below.refl _ _).alloc (Nat.le_refl _) _).alloc (by simp) _ |>.alloc (by simp; omega) _).trans (hb.mono (by simp; omega))
  have ho1 := (((ho.setLess (a := ⟨w.heap.size + 1 + 1, 2, none⟩) (by simp) (.slice (some ⟨g, 0, none⟩) xs.length xs.length)).setLess (a := ⟨w.heap.size + 1, 0, none⟩) (by simp) (.int .i64 p)).setLess (a := ⟨w.heap.size + 1, 1, none⟩) (by simp) (.int .i64 q)).setLess (a := ⟨w.heap.size + 1, 2, none⟩) (by simp) (.slice (some ⟨g, 0, none⟩) xs.length xs.length)
  have ho2 := ho1.less (lo' := w.heap.size) (by simp; omega)
  have hb1 := (((hb0.setCell (p := ⟨w.heap.size + 1 + 1, 2, none⟩) (by show _ ≤ w.heap.size + 1 + 1; omega) (.slice (some ⟨g, 0, none⟩) xs.length xs.length)).setCell (p := ⟨w.heap.size + 1, 0, none⟩) (by show _ ≤ w.heap.size + 1; omega) (.int .i64 p)).setCell (p := ⟨w.heap.size + 1, 1, none⟩) (by show _ ≤ w.heap.size + 1; omega) (.int .i64 q)).setCell (p := ⟨w.heap.size + 1, 2, none⟩) (by show _ ≤ w.heap.size + 1; omega) (.slice (some ⟨g, 0, none⟩) xs.length xs.length)
  clear ho ho1 hb hb0
  exact bodyPost_ret (v := .agg #[.int .i64 p, .int .i64 q, .slice (some ⟨g, 0, none⟩) xs.length xs.length]) (by simp [results, Try.results74, go_sem, hc]) rfl ⟨g, rfl, ho2, hb1⟩
/-- Returns yes, and turns nothing that there was. -/
def YesC (w : World) (e : Ending) (w' : World) : Prop := e = .returned (.bool true) ∧ Below w.heap.size w w'
set_option maxHeartbeats 1000000 in
theorem eqCod_any (v u : Value) (p q : Int) (xs ys : List Bool) (w : World) (h1 : Rd w w.heap.size v (bl xs)) (h2 : Rd w w.heap.size u (bl ys)) (hxy : xs = ys) (hm : xs.length ≤ 1048576) :
    Calls Try.prog 80 #[.agg #[.int .i64 p, .int .i64 q, v], .agg #[.int .i64 p, .int .i64 q, u]] w (YesC w) := by
  subst hxy
  have HE := Lib.hid (fun (w' : World) (hb : Below w.heap.size w w') => eqB_any v u xs w' w.heap.size w.heap.size (h1.below hb) (h2.below hb) hm)
  obtain ⟨A, c, hv, q1, q2, q3⟩ := id h1
  obtain ⟨A', c', hv', q4, q5, q6⟩ := id h2
  clear q1 q2 q3 q4 q5 q6
  rw [bl_len] at hv hv'
  subst hv hv'
  go_enter Try.func80, Try.ntmps80
  go_wp2_with fail
  refine (HE.out _ (((Below.refl _ _).alloc (Nat.le_refl _) _).alloc (by simp) _)).mono ?_
  rintro e w1 ⟨rfl, n, rfl⟩
  go_wp2_with fail
  go_ret
  exact ⟨rfl, below_drawn (((Below.refl _ _).alloc (Nat.le_refl _) _).alloc (by simp) _) _⟩
theorem szB_any (v : Value) (xs : List Bool) (l : Int) (w : World) (B : Nat) (h : Rd w B v (bl xs)) (h0 : 0 ≤ l) (h1 : l ≤ 1048576) (hm : xs.length ≤ 9223372036854775807) :
    Calls Try.prog 137 #[v, .int .i64 l] w fun e w' => e = .returned (.int .i64 (if l < xs.length then -1 else l - xs.length)) ∧ w = w' := by
  obtain ⟨A, c, hv, hc1, hc2, hcell⟩ := h
  rw [bl_len] at hv
  subst hv
  clear hcell hc1 hc2
  by_cases hl : l < xs.length
  · rw [if_pos hl]
    go_enter Try.func137, Try.ntmps137
    go_wp2_with fail
    go_ret
    exact ⟨rfl, rfl⟩
  · rw [if_neg hl]
    have hl' : (xs.length : Int) ≤ l := by omega
    clear hl
    go_enter Try.func137, Try.ntmps137
    go_wp2_with fail
    go_ret
    exact ⟨rfl, rfl⟩
set_option maxHeartbeats 400000 in
theorem szCod_any (v : Value) (p q : Int) (xs : List Bool) (l : Int) (w : World) (h : Rd w w.heap.size v (bl xs)) (h0 : 0 ≤ l) (h1 : l ≤ 1048576) (hm : xs.length ≤ 9223372036854775807) :
    Calls Try.prog 71 #[.agg #[.int .i64 p, .int .i64 q, v], .int .i64 l] w fun e w' => e = .returned (.int .i64 (if l < xs.length then -1 else l - xs.length)) ∧ Below w.heap.size w w' := by
  obtain ⟨A, c, hv, q1, q2, q3⟩ := id h
  clear q1 q2 q3
  rw [bl_len] at hv
  subst hv
  have HZ := Lib.hid (fun (w' : World) (hb : Below w.heap.size w w') => szB_any (.slice A xs.length c) xs l w' w.heap.size (h.below hb) h0 h1 hm)
  by_cases hl : l < xs.length
  · rw [if_pos hl] at HZ ⊢
    go_enter Try.func71, Try.ntmps71
    go_wp2_with fail
    refine (HZ.out _ ((Below.refl _ _).alloc (Nat.le_refl _) _)).mono ?_
    rintro e w1 ⟨rfl, rfl⟩
    go_wp2_with fail
    go_ret
    exact ⟨rfl, (Below.refl _ _).alloc (Nat.le_refl _) _⟩
  · rw [if_neg hl] at HZ ⊢
    have hl' : (xs.length : Int) ≤ l := by omega
    clear hl
    go_enter Try.func71, Try.ntmps71
    go_wp2_with fail
    refine (HZ.out _ ((Below.refl _ _).alloc (Nat.le_refl _) _)).mono ?_
    rintro e w1 ⟨rfl, rfl⟩
    go_wp2_with fail
    go_ret
    exact ⟨rfl, (Below.refl _ _).alloc (Nat.le_refl _) _⟩
def MarkC (v : Value) (k n : Int) (w : World) (e : Ending) (w' : World) : Prop := e = .returned (.int .i64 (k + n)) ∧ ∃ w0, Below w.heap.size w w0 ∧ w' = over w0 v (mkB k)
theorem array3 {α : Type} {cs : Array α} (h : cs.size = 3) : ∃ c0 c1 c2, cs = #[c0, c1, c2] := by
  obtain ⟨l⟩ := cs
  match l, h with
  | [c0, c1, c2], _ => exact ⟨c0, c1, c2, rfl⟩
section
open Go.WideShapes Go.ChangeShapes
variable {H : Type} {enc : TypeId × Value → H} {P : Program} {w : World} {spare : Nat → Bool}
theorem open_i64C {t : TypeId} {fuel : Nat} {v : Value} {y : DataW H × List MemPlace} (he : P.underlying t = some (.int .i64)) (htr : DataW.trod enc P w 0 spare true fuel t [v] = some y) : ∃ x, v = .int .i64 x ∧ (Lit.int .i64 x).wf = true := by
  cases fuel with
  | zero => simp [DataW.trod] at htr
  | succ n =>
    unfold DataW.trod at htr
    rw [he] at htr
    cases v with
    | int k x =>
      by_cases hw : (Lit.int .i64 x).wf = true
      · by_cases hk : k = .i64
        · subst hk; exact ⟨x, rfl, hw⟩
        · simp [hk] at htr
      · by_cases hk : k = .i64
        · subst hk; simp [hw] at htr
        · simp [hk] at htr
    | _ => simp at htr
theorem open_blsC {t e : TypeId} {fuel : Nat} {v : Value} {y : DataW H × List MemPlace} (ht : P.underlying t = some (.slice e)) (he : P.underlying e = some .bool) (hc : P.cellsOf e = 1)
    (hf : DataW.trod enc P w 0 spare true fuel t [v] = some y) (hlt : ∀ x ∈ y.2, x.block < w.heap.size) :
    ∃ xs : List Bool, Rd w w.heap.size v (bl xs) := by
  obtain ⟨a0, len0, cap0, hv0⟩ := Go.Joins.slice_form ht hf
  simp only [List.cons.injEq, and_true] at hv0
  subst hv0
  rcases Go.Deep.open_slice1 ht hc hf with ⟨h0, _⟩ | ⟨a, len, cap, m, n, V, D, Pl, hcs, _, hl, hm, hmm, hx, hel⟩
  · simp at h0
    obtain ⟨rfl, rfl, rfl⟩ := h0
    exact ⟨[], ⟨none, 0, rfl, Nat.le_refl _, Nat.zero_le _, fun h => absurd h (by simp [bl])⟩⟩
  · simp at hcs
    obtain ⟨rfl, rfl, rfl⟩ := hcs
    have hml : len0 ≤ m := by rw [hmm]; split <;> omega
    have each : ∀ i, i < m → ∃ x, V i = .bool x := by
      intro i hi
      obtain ⟨_, htr⟩ := hel i hi
      cases n with
      | zero => simp [DataW.trod] at htr
      | succ n =>
        unfold DataW.trod at htr
        rw [he] at htr
        cases hV : V i with
        | bool x => exact ⟨x, rfl⟩
        | _ => rw [hV] at htr; simp at htr
    have hpick : ∃ f : Nat → Bool, ∀ i, i < m → V i = .bool (f i) := Go.Deep.choose_lt each
    obtain ⟨f, hfx⟩ := hpick
    have hlen : ((List.range len0).map f).length = len0 := by simp
    refine ⟨(List.range len0).map f, ?_⟩
    · refine ⟨some a, cap0, by simp [bl], by simpa [bl] using hl, hm, fun hp => ?_⟩
      have hpos : 0 < len0 := by simpa [bl] using hp
      obtain ⟨b, off, spot⟩ := a
      have hspot : spot = none := by
        have h0 := (hel 0 (by omega)).1
        simpa [Addr.add] using World.cell?_spot h0
      subst hspot
      refine ⟨b, off, rfl, ?_, fun i x hx => ?_⟩
      · have hin : MemPlace.cell b off ∈ y.2 := by
          have h2 := congrArg Prod.snd hx
          simp only [] at h2
          rw [h2]
          exact List.mem_append_left _ (MemPlace.mem_row.2 ⟨0, by omega, by simp⟩)
        exact hlt _ hin
      · have hi : i < len0 := by
          have := (List.getElem?_eq_some_iff.1 hx).1
          simpa [bl] using this
        have hxe : x = .bool (f i) := by
          simp [bl, List.getElem?_map, List.getElem?_range hi] at hx
          exact hx.symm
        rw [hxe, ← add_plain, (hel i (by omega)).1, hfx i (by omega)]
theorem open_bls {t e : TypeId} {r : Reach} {b0 : Nat} {v : Value} {d : DataW H} {ps : List MemPlace} (ht : P.underlying t = some (.slice e)) (he : P.underlying e = some .bool) (hc : P.cellsOf e = 1)
    (hval : Value.okWide P w r b0 t v) (hd : DataW.Trod enc P w 0 spare true t v d ps) (hlt : ∀ x ∈ ps, x.block < w.heap.size) :
    ∃ xs : List Bool, Rd w w.heap.size v (bl xs) := by
  obtain ⟨a0, len0, cap0, rfl⟩ := okWide_slice ht hval
  obtain ⟨fuel, hf⟩ := hd
  rcases Go.Deep.open_slice1 ht hc hf with ⟨h0, _⟩ | ⟨a, len, cap, m, n, V, D, Pl, hcs, _, hl, hm, hmm, hx, hel⟩
  · simp [Value.cells] at h0
    obtain ⟨rfl, rfl, rfl⟩ := h0
    exact ⟨[], ⟨none, 0, rfl, Nat.le_refl _, Nat.zero_le _, fun h => absurd h (by simp [bl])⟩⟩
  · simp [Value.cells] at hcs
    obtain ⟨rfl, rfl, rfl⟩ := hcs
    have hml : len0 ≤ m := by rw [hmm]; split <;> omega
    have each : ∀ i, i < m → ∃ x, V i = .bool x := by
      intro i hi
      obtain ⟨_, htr⟩ := hel i hi
      cases n with
      | zero => simp [DataW.trod] at htr
      | succ n =>
        unfold DataW.trod at htr
        rw [he] at htr
        cases hV : V i with
        | bool x => exact ⟨x, rfl⟩
        | _ => rw [hV] at htr; simp at htr
    have hpick : ∃ f : Nat → Bool, ∀ i, i < m → V i = .bool (f i) := Go.Deep.choose_lt each
    obtain ⟨f, hfx⟩ := hpick
    have hlen : ((List.range len0).map f).length = len0 := by simp
    refine ⟨(List.range len0).map f, ?_⟩
    · refine ⟨some a, cap0, by simp [bl], by simpa [bl] using hl, hm, fun hp => ?_⟩
      have hpos : 0 < len0 := by simpa [bl] using hp
      obtain ⟨b, off, spot⟩ := a
      have hspot : spot = none := by
        have h0 := (hel 0 (by omega)).1
        simpa [Addr.add] using World.cell?_spot h0
      subst hspot
      refine ⟨b, off, rfl, ?_, fun i x hx => ?_⟩
      · have hin : MemPlace.cell b off ∈ ps := by
          have h2 := congrArg Prod.snd hx
          simp only [] at h2
          rw [h2]
          exact List.mem_append_left _ (MemPlace.mem_row.2 ⟨0, by omega, by simp⟩)
        exact hlt _ hin
      · have hi : i < len0 := by
          have := (List.getElem?_eq_some_iff.1 hx).1
          simpa [bl] using this
        have hxe : x = .bool (f i) := by
          simp [bl, List.getElem?_map, List.getElem?_range hi] at hx
          exact hx.symm
        rw [hxe, ← add_plain, (hel i (by omega)).1, hfx i (by omega)]
theorem open_cod {t e : TypeId} {f0 f1 f2 : Field} {r : Reach} {b0 : Nat} {v : Value} {d : DataW H} {ps : List MemPlace} (hs : P.underlying t = some (.struct #[f0, f1, f2])) (hone : Go.Deep.oneCellFields P #[f0, f1, f2] = true) (hC : P.cellsOf t = 3)
    (h0 : P.underlying f0.type = some (.int .i64)) (h1 : P.underlying f1.type = some (.int .i64)) (ht : P.underlying f2.type = some (.slice e)) (he : P.underlying e = some .bool) (hc : P.cellsOf e = 1)
    (hval : Value.okWide P w r b0 t v) (hd : DataW.Trod enc P w 0 spare true t v d ps) (hlt : ∀ x ∈ ps, x.block < w.heap.size) :
    ∃ (v0 : Value) (p q : Int) (xs : List Bool), v = .agg #[.int .i64 p, .int .i64 q, v0] ∧ (Lit.int .i64 p).wf = true ∧ (Lit.int .i64 q).wf = true ∧ Rd w w.heap.size v0 (bl xs) := by
  obtain ⟨cs, rfl, hsz⟩ := okWide_struct hs hval
  obtain ⟨c0, c1, c2, rfl⟩ := array3 (hsz.trans hC)
  obtain ⟨fuel, hf⟩ := hd
  obtain ⟨ys, n, _, hx, hl, hlen, hf⟩ := DataW.trod_struct hs hf
  obtain ⟨o0, k0⟩ := Go.Deep.hone_of hone 0 f0 rfl
  obtain ⟨o1, k1⟩ := Go.Deep.hone_of hone 1 f1 rfl
  obtain ⟨o2, k2⟩ := Go.Deep.hone_of hone 2 f2 rfl
  simp only [Prod.mk.injEq] at hx
  have q0 := hf 0 f0 rfl
  have q1 := hf 1 f1 rfl
  have q2 := hf 2 f2 rfl
  have hl0 : 0 < ys.length := by rw [hlen]; simp
  have hl1 : 1 < ys.length := by rw [hlen]; simp
  have hl2 : 2 < ys.length := by rw [hlen]; simp
  rw [List.getElem?_eq_getElem hl0] at q0
  rw [List.getElem?_eq_getElem hl1] at q1
  rw [List.getElem?_eq_getElem hl2] at q2
  obtain ⟨p, rfl, hp⟩ := open_i64C h0 (by simpa [Value.cells, o0, k0] using q0)
  obtain ⟨q, rfl, hq⟩ := open_i64C h1 (by simpa [Value.cells, o1, k1] using q1)
  obtain ⟨xs, g⟩ := open_blsC ht he hc (by simpa [Value.cells, o2, k2] using q2) (fun x hxm => hlt x (by rw [hx.2]; exact List.mem_flatMap.2 ⟨_, List.getElem_mem hl2, hxm⟩))
  exact ⟨c2, p, q, xs, rfl, hp, hq, g⟩
end
end Go.Proofs.Ythkklilfignmpaa.Cf
