/-
  Contracts: the law's own copies, comparisons and marks of pictures.
-/
import Derived.Test.YtfbdmhkmkmbipaaMkF
import Derived.Test.YtfbdmhkmkmbipaaBox
import Derived.Lib.SmallJoins
namespace Go.Proofs.Ytfbdmhkmkmbipaa
open Go.RowKit Fl
set_option linter.unusedVariables false

theorem own_box3 (w : World) (a b c : Value) (T : TypeId) : Own (w.alloc (.cells #[a, b, c] T)) w.heap.size (.slice (some ⟨w.heap.size, 0, none⟩) 3 3) [a, b, c] := by
  have h := Own.row (World.ownsRow_lit (base := w.heap.size) (e := T) (size := 1) w #[a, b, c] 3 (Nat.le_refl _) (by simp [maxLen]) rfl)
  exact h
/-- A new picture with these sides and lights, in memory of its own. -/
def MadePc (p q : Int) (xs : List Nat) (w : World) (e : Ending) (w' : World) : Prop :=
  ∃ g, e = .returned (.agg #[.int .i64 p, .int .i64 q, .slice (some ⟨g, 0, none⟩) xs.length xs.length]) ∧ Own w' w.heap.size (.slice (some ⟨g, 0, none⟩) xs.length xs.length) (fl xs) ∧ Below w.heap.size w w'
set_option maxRecDepth 100000 in
set_option maxHeartbeats 2000000 in
theorem toPic_any (v : Value) (p q : Int) (xs : List Nat) (w : World) (h : Rd w w.heap.size v (fl xs)) (hm : xs.length ≤ 1048576) :
    Calls Try.prog 36 #[.agg #[.int .i64 p, .int .i64 q, v]] w (MadePc p q xs w) := by
  obtain ⟨A, c, hv, q1, q2, q3⟩ := id h
  clear q1 q2 q3
  rw [fl_len] at hv
  subst hv
  have HT := Lib.hid (fun (w' : World) (hb : Below w.heap.size w w') => toF_any (.slice A xs.length c) xs w' w.heap.size (h.below hb) hb.size hm)
  go_enter Try.func36, Try.ntmps36
  go_wp2_with fail
  refine (HT.out _ (((Below.refl _ _).alloc (Nat.le_refl _) _).alloc (by simp) _ |>.alloc (by simp; omega) _)).mono ?_
  rintro e w1 ⟨g, rfl, ho, hb⟩
  obtain ⟨hc, hf⟩ := bcell hb
  have hz := hb.size
  simp at hz
  go_wp2_with fail
  have hb0 : Below w.heap.size w w1 := (((Below.refl _ _).alloc (Nat.le_refl _) _).alloc (by simp) _ |>.alloc (by simp; omega) _).trans (hb.mono (by simp; omega))
  have ho1 := ((((Own.row ho).setLess (a := ⟨w.heap.size + 1 + 1, 2, none⟩) (by simp) (.slice (some ⟨g, 0, none⟩) xs.length xs.length)).setLess (a := ⟨w.heap.size + 1, 0, none⟩) (by simp) (.int .i64 p)).setLess (a := ⟨w.heap.size + 1, 1, none⟩) (by simp) (.int .i64 q)).setLess (a := ⟨w.heap.size + 1, 2, none⟩) (by simp) (.slice (some ⟨g, 0, none⟩) xs.length xs.length)
  have ho2 := ho1.less (lo' := w.heap.size) (by simp; omega)
  have hb1 := (((hb0.setCell (p := ⟨w.heap.size + 1 + 1, 2, none⟩) (by show _ ≤ w.heap.size + 1 + 1; omega) (.slice (some ⟨g, 0, none⟩) xs.length xs.length)).setCell (p := ⟨w.heap.size + 1, 0, none⟩) (by show _ ≤ w.heap.size + 1; omega) (.int .i64 p)).setCell (p := ⟨w.heap.size + 1, 1, none⟩) (by show _ ≤ w.heap.size + 1; omega) (.int .i64 q)).setCell (p := ⟨w.heap.size + 1, 2, none⟩) (by show _ ≤ w.heap.size + 1; omega) (.slice (some ⟨g, 0, none⟩) xs.length xs.length)
  clear ho ho1 hb hb0
  exact bodyPost_ret (v := .agg #[.int .i64 p, .int .i64 q, .slice (some ⟨g, 0, none⟩) xs.length xs.length]) (by simp [results, Try.results36, go_sem, hc]) rfl ⟨g, rfl, ho2, hb1⟩
/-- Returns yes, and turns nothing that there was. -/
def Yes (w : World) (e : Ending) (w' : World) : Prop := e = .returned (.bool true) ∧ Below w.heap.size w w'
set_option maxHeartbeats 1000000 in
theorem eqPic_any (v u : Value) (p q : Int) (xs ys : List Nat) (w : World) (h1 : Rd w w.heap.size v (fl xs)) (h2 : Rd w w.heap.size u (fl ys)) (hxy : Worth xs ys) (hm : xs.length ≤ 1048576) :
    Calls Try.prog 38 #[.agg #[.int .i64 p, .int .i64 q, v], .agg #[.int .i64 p, .int .i64 q, u]] w (Yes w) := by
  have HE := Lib.hid (fun (w' : World) (hb : Below w.heap.size w w') => eqF_any v u xs ys w' w.heap.size (h1.below hb) (h2.below hb) hxy hm)
  obtain ⟨A, c, hv, q1, q2, q3⟩ := id h1
  obtain ⟨A', c', hv', q4, q5, q6⟩ := id h2
  clear q1 q2 q3 q4 q5 q6
  rw [fl_len] at hv hv'
  subst hv hv'
  go_enter Try.func38, Try.ntmps38
  go_wp2_with fail
  refine (HE.out _ (((Below.refl _ _).alloc (Nat.le_refl _) _).alloc (by simp) _)).mono ?_
  rintro e w1 ⟨rfl, n, rfl⟩
  go_wp2_with fail
  go_ret
  exact ⟨rfl, below_drawn (((Below.refl _ _).alloc (Nat.le_refl _) _).alloc (by simp) _) _⟩
theorem szF_any (v : Value) (xs : List Nat) (l : Int) (w : World) (B : Nat) (h : Rd w B v (fl xs)) (h0 : 0 ≤ l) (h1 : l ≤ 1048576) (hm : xs.length ≤ 9223372036854775807) :
    Calls Try.prog 56 #[v, .int .i64 l] w fun e w' => e = .returned (.int .i64 (if l < xs.length then -1 else l - xs.length)) ∧ w = w' := by
  obtain ⟨A, c, hv, hc1, hc2, hcell⟩ := h
  rw [fl_len] at hv
  subst hv
  clear hcell hc1 hc2
  by_cases hl : l < xs.length
  · rw [if_pos hl]
    go_enter Try.func56, Try.ntmps56
    go_wp2_with fail
    go_ret
    exact ⟨rfl, rfl⟩
  · rw [if_neg hl]
    have hl' : (xs.length : Int) ≤ l := by omega
    clear hl
    go_enter Try.func56, Try.ntmps56
    go_wp2_with fail
    go_ret
    exact ⟨rfl, rfl⟩
set_option maxHeartbeats 400000 in
theorem szPic_any (v : Value) (p q : Int) (xs : List Nat) (l : Int) (w : World) (h : Rd w w.heap.size v (fl xs)) (h0 : 0 ≤ l) (h1 : l ≤ 1048576) (hm : xs.length ≤ 9223372036854775807) :
    Calls Try.prog 34 #[.agg #[.int .i64 p, .int .i64 q, v], .int .i64 l] w fun e w' => e = .returned (.int .i64 (if l < xs.length then -1 else l - xs.length)) ∧ Below w.heap.size w w' := by
  obtain ⟨A, c, hv, q1, q2, q3⟩ := id h
  clear q1 q2 q3
  rw [fl_len] at hv
  subst hv
  have HZ := Lib.hid (fun (w' : World) (hb : Below w.heap.size w w') => szF_any (.slice A xs.length c) xs l w' w.heap.size (h.below hb) h0 h1 hm)
  by_cases hl : l < xs.length
  · rw [if_pos hl] at HZ ⊢
    go_enter Try.func34, Try.ntmps34
    go_wp2_with fail
    refine (HZ.out _ ((Below.refl _ _).alloc (Nat.le_refl _) _)).mono ?_
    rintro e w1 ⟨rfl, rfl⟩
    go_wp2_with fail
    go_ret
    exact ⟨rfl, (Below.refl _ _).alloc (Nat.le_refl _) _⟩
  · rw [if_neg hl] at HZ ⊢
    have hl' : (xs.length : Int) ≤ l := by omega
    clear hl
    go_enter Try.func34, Try.ntmps34
    go_wp2_with fail
    refine (HZ.out _ ((Below.refl _ _).alloc (Nat.le_refl _) _)).mono ?_
    rintro e w1 ⟨rfl, rfl⟩
    go_wp2_with fail
    go_ret
    exact ⟨rfl, (Below.refl _ _).alloc (Nat.le_refl _) _⟩
def Mark2 (v : Value) (k n : Int) (w : World) (e : Ending) (w' : World) : Prop := e = .returned (.int .i64 (k + n)) ∧ ∃ w0, Below w.heap.size w w0 ∧ w' = over w0 v (mkF k)
set_option maxHeartbeats 400000 in
theorem markPic_any (v : Value) (p q : Int) (xs : List Nat) (k0 : Int) (w : World) (lo : Nat) (h : Own w lo v (fl xs)) (hm : xs.length ≤ 1048576) (hk0 : 0 ≤ k0) (hk1 : k0 ≤ 1000000000) :
    Calls Try.prog 39 #[.agg #[.int .i64 p, .int .i64 q, v], .int .i64 k0] w (Mark2 v k0 xs.length w) := by
  obtain ⟨A, c, hv, q1, q2, q3⟩ := id h
  clear q1 q2 q3
  rw [fl_len] at hv
  subst hv
  have hb : Below w.heap.size w (w.alloc (.cells #[.int .i64 p, .int .i64 q, .slice A xs.length c] 50)) := (Below.refl _ _).alloc (Nat.le_refl _) _
  have HM := Lib.hid (markF_any _ xs k0 _ lo (h.below hb) hm hk0 hk1)
  go_enter Try.func39, Try.ntmps39
  go_wp2_with fail
  refine HM.out.mono ?_
  rintro e w1 ⟨rfl, hw⟩
  go_wp2_with fail
  go_ret
  exact ⟨rfl, _, hb, rfl⟩
set_option maxHeartbeats 400000 in
theorem heldPic_any (v : Value) (p q : Int) (n : Nat) (k0 : Int) (w : World) (h : Rd w w.heap.size v ((List.range n).map (mkF k0))) (hm : n ≤ 1048576) (hk0 : 0 ≤ k0) (hk1 : k0 ≤ 1000000000) :
    Calls Try.prog 40 #[.agg #[.int .i64 p, .int .i64 q, v], .int .i64 k0] w fun e w' => e = .returned (.int .i64 (k0 + n)) ∧ Below w.heap.size w w' := by
  obtain ⟨A, c, hv, q1, q2, q3⟩ := id h
  clear q1 q2 q3
  rw [show ((List.range n).map (mkF k0)).length = n by simp] at hv
  subst hv
  have hb : Below w.heap.size w (w.alloc (.cells #[.int .i64 p, .int .i64 q, .slice A n c] 50)) := (Below.refl _ _).alloc (Nat.le_refl _) _
  have HM := Lib.hid (heldF_any _ n k0 _ _ (h.step hb) hm hk0 hk1)
  go_enter Try.func40, Try.ntmps40
  go_wp2_with fail
  refine HM.out.mono ?_
  rintro e w1 ⟨rfl, rfl⟩
  go_wp2_with fail
  go_ret
  exact ⟨rfl, hb⟩

theorem array3 {α : Type} {cs : Array α} (h : cs.size = 3) : ∃ c0 c1 c2, cs = #[c0, c1, c2] := by
  obtain ⟨l⟩ := cs
  match l, h with
  | [c0, c1, c2], _ => exact ⟨c0, c1, c2, rfl⟩
section
open Go.WideShapes Go.ChangeShapes
variable {H : Type} {enc : TypeId × Value → H} {P : Program} {w : World} {spare : Nat → Bool}
theorem open_i64C {t : TypeId} {fuel : Nat} {v : Value} {y : DataW H × List MemPlace} (he : P.underlying t = some (.int .i64)) (htr : DataW.trod enc P w 0 spare true fuel t [v] = some y) : ∃ x, v = .int .i64 x ∧ (Lit.int .i64 x).wf = true := by
  cases fuel with
  | zero => simp [DataW.trod] at htr
  | succ n =>
    unfold DataW.trod at htr
    rw [he] at htr
    cases v with
    | int k x =>
      by_cases hw : (Lit.int .i64 x).wf = true
      · by_cases hk : k = .i64
        · subst hk; exact ⟨x, rfl, hw⟩
        · simp [hk] at htr
      · by_cases hk : k = .i64
        · subst hk; simp [hw] at htr
        · simp [hk] at htr
    | _ => simp at htr
theorem open_pic {t e : TypeId} {f0 f1 f2 : Field} {r : Reach} {b0 : Nat} {v : Value} {d : DataW H} {ps : List MemPlace} (hs : P.underlying t = some (.struct #[f0, f1, f2])) (hone : Go.Deep.oneCellFields P #[f0, f1, f2] = true) (hC : P.cellsOf t = 3)
    (h0 : P.underlying f0.type = some (.int .i64)) (h1 : P.underlying f1.type = some (.int .i64)) (ht : P.underlying f2.type = some (.slice e)) (he : P.underlying e = some (.float .f32)) (hc : P.cellsOf e = 1)
    (hval : Value.okWide P w r b0 t v) (hd : DataW.Trod enc P w 0 spare true t v d ps) (hlt : ∀ x ∈ ps, x.block < w.heap.size) :
    ∃ (v0 : Value) (p q : Int) (xs : List Nat), v = .agg #[.int .i64 p, .int .i64 q, v0] ∧ (Lit.int .i64 p).wf = true ∧ (Lit.int .i64 q).wf = true ∧ Rd w w.heap.size v0 (xs.map (.float .f32)) ∧ ∀ x ∈ xs, x < 2 ^ 32 := by
  obtain ⟨cs, rfl, hsz⟩ := okWide_struct hs hval
  obtain ⟨c0, c1, c2, rfl⟩ := array3 (hsz.trans hC)
  obtain ⟨fuel, hf⟩ := hd
  obtain ⟨ys, n, _, hx, hl, hlen, hf⟩ := DataW.trod_struct hs hf
  obtain ⟨o0, k0⟩ := Go.Deep.hone_of hone 0 f0 rfl
  obtain ⟨o1, k1⟩ := Go.Deep.hone_of hone 1 f1 rfl
  obtain ⟨o2, k2⟩ := Go.Deep.hone_of hone 2 f2 rfl
  simp only [Prod.mk.injEq] at hx
  have q0 := hf 0 f0 rfl
  have q1 := hf 1 f1 rfl
  have q2 := hf 2 f2 rfl
  have hl0 : 0 < ys.length := by rw [hlen]; simp
  have hl1 : 1 < ys.length := by rw [hlen]; simp
  have hl2 : 2 < ys.length := by rw [hlen]; simp
  rw [List.getElem?_eq_getElem hl0] at q0
  rw [List.getElem?_eq_getElem hl1] at q1
  rw [List.getElem?_eq_getElem hl2] at q2
  obtain ⟨p, rfl, hp⟩ := open_i64C h0 (by simpa [Value.cells, o0, k0] using q0)
  obtain ⟨q, rfl, hq⟩ := open_i64C h1 (by simpa [Value.cells, o1, k1] using q1)
  obtain ⟨xs, g, hxs⟩ := open_floatsC ht he hc (by simpa [Value.cells, o2, k2] using q2) (fun x hxm => hlt x (by rw [hx.2]; exact List.mem_flatMap.2 ⟨_, List.getElem_mem hl2, hxm⟩))
  exact ⟨c2, p, q, xs, rfl, hp, hq, g, hxs⟩
end
end Go.Proofs.Ytfbdmhkmkmbipaa
