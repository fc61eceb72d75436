/-
  Contracts: the law's own copies and comparisons of bands.
-/
import Derived.Test.YtfhngajodfjkeaaLr
import Derived.Test.YtfhngajodfjkeaaBox
namespace Go.Proofs.Ytfhngajodfjkeaa
open Go.RowKit Fl
set_option linter.unusedVariables false

theorem own_box2 (w : World) (a b : Value) (T : TypeId) : Own (w.alloc (.cells #[a, b] T)) w.heap.size (.slice (some ⟨w.heap.size, 0, none⟩) 2 2) [a, b] := by
  have h := Own.row (World.ownsRow_lit (base := w.heap.size) (e := T) (size := 1) w #[a, b] 2 (Nat.le_refl _) (by simp [maxLen]) rfl)
  exact h
theorem OwnL.setLess {w : World} {lo : Nat} {v : Value} {xss : List (List Value)} (h : OwnL w lo v xss) {a : Addr} (ha : a.block < lo) (u : Value) : OwnL (w.setCell a u) lo v xss := by
  obtain ⟨vs, h1, ⟨h2, h3, h4⟩, h5⟩ := h
  exact ⟨vs, h1.setLess ha u, ⟨h2, fun i x xs p q => (h3 i x xs p q).setLess ha u, h4⟩, h5⟩
/-- New bands with these numbers, in memory of their own. -/
def MadeB (xs : List Nat) (xss : List (List Nat)) (w : World) (e : Ending) (w' : World) : Prop :=
  ∃ g1 g2 md, e = .returned (.agg #[.slice (some ⟨g1, 0, none⟩) xs.length xs.length, .slice (some ⟨g2, 0, none⟩) xss.length xss.length]) ∧
    In w' w.heap.size md (.slice (some ⟨g1, 0, none⟩) xs.length xs.length) (fl xs) ∧ InL w' md w'.heap.size (.slice (some ⟨g2, 0, none⟩) xss.length xss.length) (fll xss) ∧ w.heap.size ≤ md ∧ md ≤ w'.heap.size ∧ Below w.heap.size w w'
set_option maxRecDepth 100000 in
set_option maxHeartbeats 2000000 in
theorem toBands_any (v u : Value) (xs : List Nat) (xss : List (List Nat)) (w : World) (h : Rd w w.heap.size v (fl xs)) (k : RdL w w.heap.size u (fll xss)) (hm : xs.length ≤ 1048576) (hm2 : xss.length ≤ 1048576) (hto : ofsF xss xss.length ≤ 1048576) :
    Calls Try.prog 40 #[.agg #[v, u]] w (MadeB xs xss w) := by
  have HT := Lib.hid (fun (w' : World) (hb : Below w.heap.size w w') => toF_any v xs w' w.heap.size (h.below hb) hb.size hm)
  have HL := Lib.hid (fun (w' : World) (hb : Below w.heap.size w w') => toLF_any u xss w' w.heap.size (k.below hb) hb.size hm2 hto)
  obtain ⟨A, c, hv, q1, q2, q3⟩ := id h
  obtain ⟨vs, ho, hls⟩ := id k
  have hlen : vs.length = xss.length := by rw [hls.1, fll_len]
  obtain ⟨A', c', hv', q4, q5, q6⟩ := ho
  rw [fl_len] at hv
  rw [hlen] at hv'
  subst hv hv'
  clear q1 q2 q3 q4 q5 q6 hls hlen h k
  go_enter Try.func40, Try.ntmps40
  go_wp2_with fail
  refine (HT.out _ (((Below.refl _ _).alloc (Nat.le_refl _) _).alloc (by simp) _ |>.alloc (by simp; omega) _)).mono ?_
  rintro e w1 ⟨g, rfl, ho, hb⟩
  obtain ⟨hc, hf⟩ := bcell hb
  have hz := hb.size
  simp at hz
  have hb0 : Below w.heap.size w w1 := (((Below.refl _ _).alloc (Nat.le_refl _) _).alloc (by simp) _ |>.alloc (by simp; omega) _).trans (hb.mono (by simp; omega))
  have HO := Lib.hid (Own.row ho)
  have d20 : w1.cell? ⟨w.heap.size + 1 + 1, 0, none⟩ = some (.slice none 0 0) := by rw [hc (w.heap.size + 1 + 1) 0 (by simp)]; simp [go_sem]
  have e20 : w1.frozen? ⟨w.heap.size + 1 + 1, 0, none⟩ = false := by rw [hf (w.heap.size + 1 + 1) 0 (by simp)]; simp [go_sem]
  have d21 : w1.cell? ⟨w.heap.size + 1 + 1, 1, none⟩ = some (.slice none 0 0) := by rw [hc (w.heap.size + 1 + 1) 1 (by simp)]; simp [go_sem]
  have e21 : w1.frozen? ⟨w.heap.size + 1 + 1, 1, none⟩ = false := by rw [hf (w.heap.size + 1 + 1) 1 (by simp)]; simp [go_sem]
  have d10 : w1.cell? ⟨w.heap.size + 1, 0, none⟩ = some (.slice none 0 0) := by rw [hc (w.heap.size + 1) 0 (by simp)]; simp [go_sem]
  have e10 : w1.frozen? ⟨w.heap.size + 1, 0, none⟩ = false := by rw [hf (w.heap.size + 1) 0 (by simp)]; simp [go_sem]
  have d11 : w1.cell? ⟨w.heap.size + 1, 1, none⟩ = some (.slice none 0 0) := by rw [hc (w.heap.size + 1) 1 (by simp)]; simp [go_sem]
  have e11 : w1.frozen? ⟨w.heap.size + 1, 1, none⟩ = false := by rw [hf (w.heap.size + 1) 1 (by simp)]; simp [go_sem]
  have dA : w1.cell? ⟨w.heap.size, 1, none⟩ = some (.slice A' xss.length c') := by rw [hc w.heap.size 1 (by simp; omega)]; simp [go_sem]
  have HBW := Lib.hid HO.out.blw
  clear ho hb hc hf
  go_wp2_with fail
  refine (HL.out _ (hb0.setCell (p := ⟨w.heap.size + 1 + 1, 0, none⟩) (by show _ ≤ w.heap.size + 1 + 1; omega) (.slice (some ⟨g, 0, none⟩) xs.length xs.length))).mono ?_
  rintro e w2 ⟨g2, rfl, ho2, hb2⟩
  obtain ⟨hc2, hf2⟩ := bcell hb2
  have hz2 := hb2.size
  simp at hz2
  have hb3 : Below w.heap.size w w2 := (hb0.setCell (p := ⟨w.heap.size + 1 + 1, 0, none⟩) (by show _ ≤ w.heap.size + 1 + 1; omega) (.slice (some ⟨g, 0, none⟩) xs.length xs.length)).trans (hb2.mono (by simp; omega))
  have c20 : w2.cell? ⟨w.heap.size + 1 + 1, 0, none⟩ = some (.slice (some ⟨g, 0, none⟩) xs.length xs.length) := by rw [hc2 _ _ (by show _ < (w1.setCell _ _).heap.size; simp [World.setCell]; omega)]; exact World.cell?_setCell_same _ _ _ d20
  have f20 : w2.frozen? ⟨w.heap.size + 1 + 1, 0, none⟩ = false := by rw [hf2 _ _ (by show _ < (w1.setCell _ _).heap.size; simp [World.setCell]; omega), World.frozen?_setCell]; exact e20
  have c21 : w2.cell? ⟨w.heap.size + 1 + 1, 1, none⟩ = some (.slice none 0 0) := by rw [hc2 _ _ (by show _ < (w1.setCell _ _).heap.size; simp [World.setCell]; omega), World.cell?_setCell_other _ _ _ _ (by simp)]; exact d21
  have f21 : w2.frozen? ⟨w.heap.size + 1 + 1, 1, none⟩ = false := by rw [hf2 _ _ (by show _ < (w1.setCell _ _).heap.size; simp [World.setCell]; omega), World.frozen?_setCell]; exact e21
  have c10 : w2.cell? ⟨w.heap.size + 1, 0, none⟩ = some (.slice none 0 0) := by rw [hc2 _ _ (by show _ < (w1.setCell _ _).heap.size; simp [World.setCell]; omega), World.cell?_setCell_other _ _ _ _ (by simp)]; exact d10
  have f10 : w2.frozen? ⟨w.heap.size + 1, 0, none⟩ = false := by rw [hf2 _ _ (by show _ < (w1.setCell _ _).heap.size; simp [World.setCell]; omega), World.frozen?_setCell]; exact e10
  have c11 : w2.cell? ⟨w.heap.size + 1, 1, none⟩ = some (.slice none 0 0) := by rw [hc2 _ _ (by show _ < (w1.setCell _ _).heap.size; simp [World.setCell]; omega), World.cell?_setCell_other _ _ _ _ (by simp)]; exact d11
  have f11 : w2.frozen? ⟨w.heap.size + 1, 1, none⟩ = false := by rw [hf2 _ _ (by show _ < (w1.setCell _ _).heap.size; simp [World.setCell]; omega), World.frozen?_setCell]; exact e11
  have HZ2 := Lib.hid hz2
  have HO2 := Lib.hid ho2
  have HB3 := Lib.hid hb3
  have HO1 := Lib.hid ((HO.out.setLess (a := ⟨w.heap.size + 1 + 1, 0, none⟩) (by simp) (.slice (some ⟨g, 0, none⟩) xs.length xs.length)).below hb2)
  clear hc2 hf2 hb2 ho2 hb3 hb0 HO d20 d21 d10 d11 e20 e21 e10 e11 dA
  go_wp2_with fail
  have q1 := ((HO1.out.setLess (a := ⟨w.heap.size + 1 + 1, 1, none⟩) (by simp) (.slice (some ⟨g2, 0, none⟩) xss.length xss.length)).setLess (a := ⟨w.heap.size + 1, 0, none⟩) (by simp) (.slice (some ⟨g, 0, none⟩) xs.length xs.length)).setLess (a := ⟨w.heap.size + 1, 1, none⟩) (by simp) (.slice (some ⟨g2, 0, none⟩) xss.length xss.length)
  have q2 := q1.less (lo' := w.heap.size) (by simp; omega)
  have r1 := ((HO2.out.setLess (a := ⟨w.heap.size + 1 + 1, 1, none⟩) (by show _ < (w1.setCell _ _).heap.size; simp [World.setCell]; omega) (.slice (some ⟨g2, 0, none⟩) xss.length xss.length)).setLess (a := ⟨w.heap.size + 1, 0, none⟩) (by show _ < (w1.setCell _ _).heap.size; simp [World.setCell]; omega) (.slice (some ⟨g, 0, none⟩) xs.length xs.length)).setLess (a := ⟨w.heap.size + 1, 1, none⟩) (by show _ < (w1.setCell _ _).heap.size; simp [World.setCell]; omega) (.slice (some ⟨g2, 0, none⟩) xss.length xss.length)
  have r2 := r1.less (lo' := w1.heap.size) (by simp [World.setCell])
  have s1 := ((HB3.out.setCell (p := ⟨w.heap.size + 1 + 1, 1, none⟩) (by show _ ≤ w.heap.size + 1 + 1; omega) (.slice (some ⟨g2, 0, none⟩) xss.length xss.length)).setCell (p := ⟨w.heap.size + 1, 0, none⟩) (by show _ ≤ w.heap.size + 1; omega) (.slice (some ⟨g, 0, none⟩) xs.length xs.length)).setCell (p := ⟨w.heap.size + 1, 1, none⟩) (by show _ ≤ w.heap.size + 1; omega) (.slice (some ⟨g2, 0, none⟩) xss.length xss.length)
  exact bodyPost_ret (v := .agg #[.slice (some ⟨g, 0, none⟩) xs.length xs.length, .slice (some ⟨g2, 0, none⟩) xss.length xss.length]) (by simp [results, Try.results40, go_sem, c10, c11]) rfl ⟨g, g2, w1.heap.size, rfl, ⟨q2, HBW.out⟩, InL.made r2, by omega, by simpa [World.setCell] using HZ2.out, s1⟩
/-- Returns yes, and turns nothing that there was. -/
def YesB (w : World) (e : Ending) (w' : World) : Prop := e = .returned (.bool true) ∧ Below w.heap.size w w'
set_option maxHeartbeats 1000000 in
theorem eqBands_any (v u v' u' : Value) (xs : List Nat) (xss : List (List Nat)) (w : World) (h1 : Rd w w.heap.size v (fl xs)) (h2 : RdL w w.heap.size u (fll xss)) (k1 : Rd w w.heap.size v' (fl xs)) (k2 : RdL w w.heap.size u' (fll xss)) (hm : xs.length ≤ 1048576) (hm2 : xss.length ≤ 1048576) (hm3 : ∀ xs ∈ xss, xs.length ≤ 1048576) :
    Calls Try.prog 42 #[.agg #[v, u], .agg #[v', u']] w (YesB w) := by
  have hb : Below w.heap.size w ((w.alloc (.cells #[v, u] 50)).alloc (.cells #[v', u'] 50)) := ((Below.refl _ _).alloc (Nat.le_refl _) _).alloc (by simp) _
  have HE := Lib.hid (eqF_any v v' xs xs _ w.heap.size (h1.below hb) (k1.below hb) (Worth.refl _) hm)
  have HL := Lib.hid (fun n => eqLF_any u u' xss (((w.alloc (.cells #[v, u] 50)).alloc (.cells #[v', u'] 50)).drewN n) w.heap.size ((h2.below hb).drewN n) ((k2.below hb).drewN n) hm2 hm3)
  obtain ⟨A, c, hv, q1, q2, q3⟩ := id h1
  obtain ⟨A', c', hv', q4, q5, q6⟩ := id k1
  clear q1 q2 q3 q4 q5 q6
  rw [fl_len] at hv hv'
  subst hv hv'
  obtain ⟨vs, ho, hls⟩ := id h2
  obtain ⟨D, d, hu, _, _, _⟩ := ho
  obtain ⟨us, hp, hus⟩ := id k2
  obtain ⟨D', d', hu', _, _, _⟩ := hp
  subst hu hu'
  clear hls hus h1 h2 k1 k2 hm3
  go_enter Try.func42, Try.ntmps42
  go_wp2_with fail
  refine HE.out.mono ?_
  rintro e w1 ⟨rfl, n, rfl⟩
  go_wp2_with fail
  refine (HL.out n).mono ?_
  rintro e w1 ⟨rfl, n2, rfl⟩
  go_wp2_with fail
  go_ret
  exact ⟨rfl, below_drawn hb _⟩
/-- What is left of l when bands are taken off; -1 where there is none left. -/
def szB (l : Int) (xs : List Nat) (xss : List (List Nat)) : Int := if l < xs.length then -1 else szR (l - xs.length) xss
set_option maxHeartbeats 1000000 in
theorem szBands_any (v u : Value) (xs : List Nat) (xss : List (List Nat)) (l : Int) (w : World) (h : Rd w w.heap.size v (fl xs)) (k : RdL w w.heap.size u (fll xss)) (h0 : 0 ≤ l) (h1 : l ≤ 1048576) (hm : xs.length ≤ 9223372036854775807) :
    Calls Try.prog 38 #[.agg #[v, u], .int .i64 l] w fun e w' => e = .returned (.int .i64 (szB l xs xss)) ∧ Below w.heap.size w w' := by
  have hb : Below w.heap.size w (w.alloc (.cells #[v, u] 50)) := (Below.refl _ _).alloc (Nat.le_refl _) _
  have HZ := Lib.hid (fun (w' : World) (hb : Below w.heap.size w w') => szFr_any v xs l w' w.heap.size (h.below hb) h0 h1 hm)
  obtain ⟨A, c, hv, q1, q2, q3⟩ := id h
  rw [fl_len] at hv
  clear q1 q2 q3
  obtain ⟨vs, ho, hls⟩ := id k
  obtain ⟨D, d, hu, _, _, _⟩ := ho
  subst hv hu
  clear hls h
  by_cases hl : l < xs.length
  · rw [if_pos hl] at HZ
    have HV := Lib.hid (show szB l xs xss = -1 from if_pos hl)
    clear hl
    go_enter Try.func38, Try.ntmps38
    go_wp2_with fail
    refine (HZ.out _ ((Below.refl _ _).alloc (Nat.le_refl _) _)).mono ?_
    rintro e w1 ⟨rfl, rfl⟩
    go_wp2_with fail
    go_ret
    rw [HV.out]
    exact ⟨rfl, (Below.refl _ _).alloc (Nat.le_refl _) _⟩
  · rw [if_neg hl] at HZ
    have HV := Lib.hid (show szB l xs xss = szR (l - xs.length) xss from if_neg hl)
    have hl' : (xs.length : Int) ≤ l := by omega
    have HK := Lib.hid (fun (w' : World) (hb : Below w.heap.size w w') => szLF_any _ xss (l - xs.length) w' w.heap.size (k.below hb) (by omega) (by omega))
    clear hl k
    obtain ⟨r, hr, hr2⟩ : ∃ r : Int, szR (l - xs.length) xss = r ∧ -1 ≤ r := ⟨_, rfl, by unfold szR; split <;> omega⟩
    rw [hr] at HK HV
    clear hr
    by_cases hneg : r < 0
    · obtain rfl : r = -1 := by omega
      clear hneg hr2
      go_enter Try.func38, Try.ntmps38
      go_wp2_with fail
      refine (HZ.out _ ((Below.refl _ _).alloc (Nat.le_refl _) _)).mono ?_
      rintro e w1 ⟨rfl, rfl⟩
      go_wp2_with fail
      refine (HK.out _ ((Below.refl _ _).alloc (Nat.le_refl _) _)).mono ?_
      rintro e w1 ⟨rfl, rfl⟩
      go_wp2_with fail
      go_ret
      rw [HV.out]
      exact ⟨rfl, (Below.refl _ _).alloc (Nat.le_refl _) _⟩
    · have hr3 : 0 ≤ r := by omega
      clear hneg hr2
      go_enter Try.func38, Try.ntmps38
      go_wp2_with fail
      refine (HZ.out _ ((Below.refl _ _).alloc (Nat.le_refl _) _)).mono ?_
      rintro e w1 ⟨rfl, rfl⟩
      go_wp2_with fail
      refine (HK.out _ ((Below.refl _ _).alloc (Nat.le_refl _) _)).mono ?_
      rintro e w1 ⟨rfl, rfl⟩
      go_wp2_with fail
      go_ret
      rw [HV.out]
      exact ⟨rfl, (Below.refl _ _).alloc (Nat.le_refl _) _⟩
section
open Go.WideShapes Go.ChangeShapes
variable {H : Type} {enc : TypeId × Value → H} {P : Program} {w : World} {spare : Nat → Bool}
theorem open_rowsC {t e f : TypeId} {fuel : Nat} {v : Value} {y : DataW H × List MemPlace} (ht : P.underlying t = some (.slice e)) (hce : P.cellsOf e = 1) (he : P.underlying e = some (.slice f)) (hf : P.underlying f = some (.float .f32)) (hcf : P.cellsOf f = 1)
    (hfu : DataW.trod enc P w 0 spare true fuel t [v] = some y) (hlt : ∀ x ∈ y.2, x.block < w.heap.size) :
    ∃ xss : List (List Nat), RdL w w.heap.size v (fll xss) ∧ ∀ xs ∈ xss, ∀ x ∈ xs, x < 2 ^ 32 := by
  obtain ⟨a0, len0, cap0, hv0⟩ := Go.Joins.slice_form ht hfu
  simp only [List.cons.injEq, and_true] at hv0
  subst hv0
  rcases Go.Deep.open_slice1 ht hce hfu with ⟨h0, _⟩ | ⟨a, len, cap, m, n, V, D, Pl, hcs, _, hl, hm, hmm, hx, hel⟩
  · simp at h0
    obtain ⟨rfl, rfl, rfl⟩ := h0
    exact ⟨[], ⟨[], ⟨none, 0, rfl, Nat.le_refl _, Nat.zero_le _, fun h => absurd h (by simp)⟩, rfl, fun i x xs a b => by simp at a⟩, by simp⟩
  · simp at hcs
    obtain ⟨rfl, rfl, rfl⟩ := hcs
    have hml : len0 ≤ m := by rw [hmm]; split <;> omega
    have h2 := congrArg Prod.snd hx
    simp only [] at h2
    have each : ∀ i, i < m → ∃ xs : List Nat, Rd w w.heap.size (V i) (xs.map (.float .f32)) ∧ ∀ x ∈ xs, x < 2 ^ 32 := by
      intro i hi
      exact open_floatsC he hf hcf (hel i hi).2 (fun x hx => hlt x (by rw [h2]; exact List.mem_append_right _ (List.mem_flatMap.2 ⟨i, List.mem_range.2 hi, hx⟩)))
    obtain ⟨g, hg⟩ : ∃ g : Nat → List Nat, ∀ i, i < m → Rd w w.heap.size (V i) ((g i).map (.float .f32)) ∧ ∀ x ∈ g i, x < 2 ^ 32 := Go.Deep.choose_lt each
    refine ⟨(List.range len0).map g, ⟨(List.range len0).map V, ⟨some a, cap0, by simp, by simpa using hl, hm, fun hp => ?_⟩, by simp [fll], fun i x xs p q => ?_⟩, ?_⟩
    · have hpos : 0 < len0 := by simpa using hp
      obtain ⟨b, off, spot⟩ := a
      have hspot : spot = none := by
        have h0 := (hel 0 (by omega)).1
        simpa [Addr.add] using World.cell?_spot h0
      subst hspot
      refine ⟨b, off, rfl, ?_, fun i x hx => ?_⟩
      · have hin : MemPlace.cell b off ∈ y.2 := by
          rw [h2]
          exact List.mem_append_left _ (MemPlace.mem_row.2 ⟨0, by omega, by simp⟩)
        exact hlt _ hin
      · have hi : i < len0 := by
          have := (List.getElem?_eq_some_iff.1 hx).1
          simpa using this
        have hxe : x = V i := by
          simp [List.getElem?_map, List.getElem?_range hi] at hx
          exact hx.symm
        rw [hxe, ← add_plain, (hel i (by omega)).1]
    · have hi : i < len0 := by
        have := (List.getElem?_eq_some_iff.1 p).1
        simpa using this
      simp [List.getElem?_map, List.getElem?_range hi] at p
      simp [fll, List.getElem?_map, List.getElem?_range hi] at q
      subst p
      subst q
      exact (hg i (by omega)).1
    · intro xs hxs
      obtain ⟨i, hi, rfl⟩ := List.mem_map.1 hxs
      exact (hg i (by have := List.mem_range.1 hi; omega)).2
theorem open_bands {t e f : TypeId} {f0 f1 : Field} {r : Reach} {b0 : Nat} {v : Value} {d : DataW H} {ps : List MemPlace} (hs : P.underlying t = some (.struct #[f0, f1])) (hone : Go.Deep.oneCellFields P #[f0, f1] = true) (hC : P.cellsOf t = 2)
    (ht : P.underlying f0.type = some (.slice f)) (hf : P.underlying f = some (.float .f32)) (hcf : P.cellsOf f = 1) (ht1 : P.underlying f1.type = some (.slice e)) (hce : P.cellsOf e = 1) (he : P.underlying e = some (.slice f))
    (hval : Value.okWide P w r b0 t v) (hd : DataW.Trod enc P w 0 spare true t v d ps) (hlt : ∀ x ∈ ps, x.block < w.heap.size) :
    ∃ (v0 v1 : Value) (xs : List Nat) (xss : List (List Nat)), v = .agg #[v0, v1] ∧ Rd w w.heap.size v0 (xs.map (.float .f32)) ∧ (∀ x ∈ xs, x < 2 ^ 32) ∧ RdL w w.heap.size v1 (fll xss) ∧ ∀ xs ∈ xss, ∀ x ∈ xs, x < 2 ^ 32 := by
  obtain ⟨v0, v1, y0, y1, n, rfl, rfl, rfl, q0, q1⟩ := Go.Joins.open_agg2 hs hone hC hval hd
  obtain ⟨xs, g, hx⟩ := open_floatsC ht hf hcf q0 (fun x hx => hlt x (List.mem_append_left _ hx))
  obtain ⟨xss, k, hxx⟩ := open_rowsC ht1 hce he hf hcf q1 (fun x hx => hlt x (List.mem_append_right _ hx))
  exact ⟨v0, v1, xs, xss, rfl, g, hx, k, hxx⟩
end
end Go.Proofs.Ytfhngajodfjkeaa
