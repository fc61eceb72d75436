/-
  Regions whose order is open and whose operations may draw (sums and products of floats that may be no numbers): one walk in one order serves all orders (no program in it).
-/
import Derived.StillTail
import Derived.BigQuiet
import Derived.Test.YtfbdmhkmkmbipaaFloMore
namespace Go.Proofs.Ytfbdmhkmkmbipaa.Sf
open Go.RowKit Fl
set_option linter.unusedVariables false

section
variable {P : Program} {ops : Array Oper} {md : Region.Mode} {C : World → Prop} {Q : Exit → Act → World → Prop}

/-- What an operation must come to: a value in a world of the class, or a call that hands back V. -/
def okp (P : Program) (C : World → Prop) (V : Value) : Result Next → Prop
  | .ok (.value _) w' => C w'
  | .ok .skip w' => C w'
  | .ok (.enter f args) w' => Calls P f args w' (fun e w'' => e = .returned V ∧ C w'')
  | _ => False
/-- The value that it leaves. -/
def outV (V : Value) : Result Next → Value
  | .ok (.value u) _ => u
  | .ok (.enter _ _) _ => V
  | _ => undef
def sft (P : Program) (C : World → Prop) (V : Value) (o : Oper) (a : Act) (K : Act → Prop) : Prop :=
  ∀ w, C w → okp P C V ((execOp a.eval o).run P w) ∧ K (a.put o.dst (outV V ((execOp a.eval o).run P w)))
/-- One value in all worlds. -/
def dft (P : Program) (C : World → Prop) (V : Value) (o : Oper) (a : Act) (K : Act → Prop) : Prop :=
  ∃ v, (∀ w, C w → okp P C V ((execOp a.eval o).run P w) ∧ outV V ((execOp a.eval o).run P w) = v) ∧ K (a.put o.dst v)
/-- A call that hands back what it will. -/
def cft (P : Program) (C : World → Prop) (o : Oper) (a : Act) (K : Act → Prop) : Prop :=
  ∀ w, C w → ∃ f args w', (execOp a.eval o).run P w = .ok (.enter f args) w' ∧ Calls P f args w' (fun e w'' => ∃ u, e = .returned u ∧ C w'' ∧ K (a.put o.dst u))
/-- The kinds: 0: floats; 2: calls with results of their own; all else: one value. -/
def xft (P : Program) (C : World → Prop) (k : Nat) (V : Value) (o : Oper) (a : Act) (K : Act → Prop) : Prop :=
  match k with
  | 0 => sft P C V o a K
  | 2 => cft P C o a K
  | _ => dft P C V o a K
def fits (ki kj : Nat) : Bool := (ki != 0 && ki != 2) || (kj != 0 && kj != 2) || (ki == 0 && kj == 0)
theorem calls_ex {f : FuncId} {args : Array Value} {w : World} {R : Ending → World → Prop} (h : Calls P f args w R) : ∃ e w', R e w' := by
  obtain ⟨e, w', fr, hr, _⟩ := h []
  exact ⟨e, w', hr⟩
theorem xft_ex {k : Nat} {V : Value} {o : Oper} {a : Act} {K : Act → Prop} {w : World} (hw : C w) (h : xft P C k V o a K) : ∃ u, K (a.put o.dst u) := by
  unfold xft at h
  split at h
  · exact ⟨_, (h w hw).2⟩
  · obtain ⟨f, args, w', _, hc⟩ := h w hw
    obtain ⟨e, w'', u, _, _, hK⟩ := calls_ex hc
    exact ⟨u, hK⟩
  · obtain ⟨v, _, hK⟩ := h; exact ⟨v, hK⟩
theorem xft_shift {k : Nat} {V : Value} {o : Oper} {a b : Act} {K K' : Act → Prop} (he : execOp a.eval o = execOp b.eval o) (h : ∀ u, K (a.put o.dst u) → K' (b.put o.dst u)) (hh : xft P C k V o a K) : xft P C k V o b K' := by
  unfold xft at *
  split at hh
  · intro w hw; have := hh w hw; rw [he] at this; exact ⟨this.1, h _ this.2⟩
  · intro w hw
    obtain ⟨f, args, w', hr, hc⟩ := hh w hw
    rw [he] at hr
    exact ⟨f, args, w', hr, hc.mono fun e w'' ⟨u, e1, e2, e3⟩ => ⟨u, e1, e2, h _ e3⟩⟩
  · obtain ⟨v, hv, hK⟩ := hh
    rw [he] at hv
    exact ⟨v, hv, h _ hK⟩
theorem xft_mono {k : Nat} {V : Value} {o : Oper} {a : Act} {K K' : Act → Prop} (h : ∀ a, K a → K' a) (hh : xft P C k V o a K) : xft P C k V o a K' := xft_shift rfl (fun _ => h _) hh
theorem xft_det {k : Nat} {V : Value} {o : Oper} {a : Act} {K : Act → Prop} (hk : (k != 0 && k != 2) = true) : xft P C k V o a K = dft P C V o a K := by
  unfold xft
  split
  · simp at hk
  · simp at hk
  · rfl
def fOp (P : Program) (ops : Array Oper) (C : World → Prop) (kd : Nat → Nat) (vals : Nat → Value) (i : Nat) (K : Act → Prop) (a : Act) : Prop :=
  match ops[i]? with
  | none => K a
  | some o => if Region.wanted o (yielded ops a.tmps) then xft P C (kd i) (vals i) o a K else K (a.put o.dst undef)

theorem fOp_mono {kd : Nat → Nat} {vals : Nat → Value} {i : Nat} {a : Act} {K K' : Act → Prop} (h : ∀ a, K a → K' a) (hh : fOp P ops C kd vals i K a) : fOp P ops C kd vals i K' a := by
  unfold fOp at *
  split
  · exact h _ (by simpa [*] using hh)
  · rename_i o ho
    simp only [ho] at hh
    split
    · rename_i hw; simp only [hw, if_true] at hh; exact xft_mono h hh
    · rename_i hw; simp only [hw] at hh; exact h _ hh
theorem fOp_ex {kd : Nat → Nat} {vals : Nat → Value} {i : Nat} {a : Act} {K : Act → Prop} {w : World} (hw : C w) (hh : fOp P ops C kd vals i K a) : ∃ a', K a' := by
  unfold fOp at hh
  split at hh
  · exact ⟨_, hh⟩
  · split at hh
    · obtain ⟨u, h⟩ := xft_ex hw hh; exact ⟨_, h⟩
    · exact ⟨_, hh⟩
theorem wp_of_xft {k : Nat} {V : Value} {o : Oper} {a : Act} {K : Act → Prop} {K' : Act → World → Prop} {w : World} (hw : C w) (h : ∀ a w', C w' → K a → K' a w') (hh : xft P C k V o a K) : o.wp P a w K' Q := by
  have key : ∀ (h1 : okp P C V ((execOp a.eval o).run P w)) (h2 : K (a.put o.dst (outV V ((execOp a.eval o).run P w)))), o.wp P a w K' Q := by
    intro h1 h2
    unfold Oper.wp
    generalize (execOp a.eval o).run P w = r at *
    cases r with
    | ok n w' =>
      cases n <;> simp only [okp] at h1 <;> simp only [Oper.upon]
      case value u => exact h _ _ h1 h2
      case skip => exact h _ _ h1 h2
      case enter f args => exact h1.mono fun e w'' ⟨he, hw''⟩ => by subst he; exact h _ _ hw'' h2
    | halt x w' => simp only [okp] at h1
  unfold xft at hh
  split at hh
  · exact key (hh w hw).1 (hh w hw).2
  · obtain ⟨f, args, w', hr, hc⟩ := hh w hw
    unfold Oper.wp
    rw [hr]
    simp only [Oper.upon]
    exact hc.mono fun e w'' ⟨u, he, hw'', hK⟩ => by subst he; exact h _ _ hw'' hK
  · obtain ⟨v, hv, hK⟩ := hh
    exact key (hv w hw).1 (by rw [(hv w hw).2]; exact hK)
theorem wpOp_of_fOp {kd : Nat → Nat} {vals : Nat → Value} {i : Nat} {a : Act} {K : Act → Prop} {K' : Act → World → Prop} {w : World} (hC : C w) (h : ∀ a w', C w' → K a → K' a w') (hh : fOp P ops C kd vals i K a) : wpOp P ops Q i K' a w := by
  unfold fOp at hh
  unfold wpOp
  split
  · rename_i ho; simp only [ho] at hh; exact h _ _ hC hh
  · rename_i o ho
    simp only [ho] at hh
    split
    · rename_i hw; simp only [hw, if_true] at hh; exact .inl (wp_of_xft hC h hh)
    · rename_i hw; simp only [hw] at hh; exact h _ _ hC hh
theorem xft_swap {ki kj : Nat} {Vi Vj : Value} {oi oj : Oper} {K : Act → Prop} {a : Act} {w0 : World} (hw0 : C w0) (hf : fits ki kj = true)
    (h2 : ∀ d, oi.dst = some d → oj.dst ≠ some d) (ei : ∀ u, execOp (a.put oj.dst u).eval oi = execOp a.eval oi) (ej : ∀ u, execOp (a.put oi.dst u).eval oj = execOp a.eval oj)
    (h : xft P C ki Vi oi a (fun a1 => xft P C kj Vj oj a1 K)) : xft P C kj Vj oj a (fun a2 => xft P C ki Vi oi a2 K) := by
  unfold fits at hf
  rw [Bool.or_eq_true, Bool.or_eq_true] at hf
  rcases hf with (hi | hj) | h00
  · rw [xft_det hi] at h
    obtain ⟨v, hv, hK⟩ := h
    refine xft_shift (ej v) (fun u hu => ?_) hK
    rw [xft_det hi]
    exact ⟨v, by rw [ei u]; exact hv, by rw [← Act.put_comm a _ _ h2]; exact hu⟩
  · obtain ⟨u0, hu0⟩ := xft_ex hw0 h
    rw [xft_det hj] at hu0
    obtain ⟨v, hv, _⟩ := hu0
    rw [ej u0] at hv
    rw [xft_det hj]
    refine ⟨v, hv, xft_shift (ei v).symm (fun u hu => ?_) h⟩
    rw [xft_det hj] at hu
    obtain ⟨v', hv', hK⟩ := hu
    rw [ej u] at hv'
    have : v' = v := by rw [← (hv' w0 hw0).2, (hv w0 hw0).2]
    rw [this] at hK
    rw [← Act.put_comm a _ _ h2]; exact hK
  · rw [Bool.and_eq_true, beq_iff_eq, beq_iff_eq] at h00
    obtain ⟨rfl, rfl⟩ := h00
    have h : sft P C Vi oi a (fun a1 => sft P C Vj oj a1 K) := h
    show sft P C Vj oj a (fun a2 => sft P C Vi oi a2 K)
    intro w hw
    have g0 := (h w0 hw0).2 w hw
    rw [ej] at g0
    refine ⟨g0.1, fun w2 hw2 => ?_⟩
    rw [ei]
    refine ⟨(h w2 hw2).1, ?_⟩
    have g2 := ((h w2 hw2).2 w hw).2
    rw [ej] at g2
    rw [← Act.put_comm a _ _ h2]
    exact g2
/-- Two operations that are apart may change places. -/
theorem fOp_swap {kd : Nat → Nat} {vals : Nat → Value} {i j : Nat} {oi oj : Oper} {K : Act → Prop} {a : Act} {w0 : World} (hw0 : C w0) (hi : ops[i]? = some oi) (hj : ops[j]? = some oj) (hap : oi.apart ops oj = true) (hf : fits (kd i) (kd j) = true)
    (hsi : ∀ cs b, oi.op ≠ .select cs b) (hsj : ∀ cs b, oj.op ≠ .select cs b) (h : fOp P ops C kd vals i (fun a1 => fOp P ops C kd vals j K a1) a) : fOp P ops C kd vals j (fun a2 => fOp P ops C kd vals i K a2) a := by
  obtain ⟨h1, h2, h3⟩ := Oper.apart_spec hap
  have ei : ∀ u, execOp (a.put oj.dst u).eval oi = execOp a.eval oi := fun u => execOp_put oi hsi a oj.dst u h3
  have ej : ∀ u, execOp (a.put oi.dst u).eval oj = execOp a.eval oj := fun u => execOp_put oj hsj a oi.dst u h1
  have wi : ∀ u, Region.wanted oi (yielded ops (a.put oj.dst u).tmps) = Region.wanted oi (yielded ops a.tmps) := fun u => wanted_put oi a oj.dst u h3
  have wj : ∀ u, Region.wanted oj (yielded ops (a.put oi.dst u).tmps) = Region.wanted oj (yielded ops a.tmps) := fun u => wanted_put oj a oi.dst u h1
  unfold fOp at h ⊢
  simp only [hi, hj] at h ⊢
  by_cases gj : Region.wanted oj (yielded ops a.tmps) = true <;> by_cases gi : Region.wanted oi (yielded ops a.tmps) = true
  · rw [if_pos gj]
    rw [if_pos gi] at h
    have h' : xft P C (kd i) (vals i) oi a (fun a1 => xft P C (kd j) (vals j) oj a1 K) := xft_shift rfl (fun u hu => by rwa [wj, if_pos gj] at hu) h
    exact xft_shift rfl (fun u hu => by rwa [wi, if_pos gi]) (xft_swap hw0 hf h2 ei ej h')
  · rw [if_pos gj]
    rw [if_neg gi, wj, if_pos gj] at h
    exact xft_shift (ej _) (fun u hu => by rw [wi, if_neg gi, ← Act.put_comm a _ _ h2]; exact hu) h
  · rw [if_neg gj, wi, if_pos gi]
    rw [if_pos gi] at h
    exact xft_shift (ei _).symm (fun u hu => by rw [wj, if_neg gj] at hu; rw [← Act.put_comm a _ _ h2]; exact hu) h
  · rw [if_neg gj, wi, if_neg gi]
    rw [if_neg gi, wj, if_neg gj] at h
    rw [← Act.put_comm a _ _ h2]; exact h

/-- Whatever order is picked, outside the tail T; L is asked of where it ends. -/
def wpAnyF (P : Program) (md : Region.Mode) (ops : Array Oper) (C : World → Prop) (kd : Nat → Nat) (vals : Nat → Value) (T : List Nat) (L : Array Bool → Act → Prop) : Nat → Array Bool → Act → Prop
  | 0, listed, a => L listed a
  | f + 1, listed, a => Region.ready md ops listed ≠ [] ∧ ∀ i ∈ Region.ready md ops listed, i ∉ T ∧ fOp P ops C kd vals i (wpAnyF P md ops C kd vals T L f (listed.setIfInBounds i true)) a
theorem wpAny_of_F {kd : Nat → Nat} {vals : Nat → Value} {T : List Nat} {g : Nat} {L : Array Bool → Act → Prop} (hL : ∀ listed a w, C w → L listed a → wpAny P md ops Q g listed a w) :
    ∀ (f : Nat) (listed : Array Bool) (a : Act) (w : World), C w → wpAnyF P md ops C kd vals T L f listed a → wpAny P md ops Q (f + g) listed a w
  | 0, listed, a, w, hw, h => by rw [Nat.zero_add]; exact hL _ _ _ hw h
  | f + 1, listed, a, w, hw, h => by
    rw [show f + 1 + g = (f + g) + 1 by omega]
    exact ⟨fun h0 => absurd h0 h.1, fun i hi => wpOp_of_fOp hw (fun a' w' hw' h' => wpAny_of_F hL f _ a' w' hw' h') (h.2 i hi).2⟩

/-- The tail: operations that come one behind the other, and behind all others. -/
def chT (md : Region.Mode) (ops : Array Oper) : List Nat → Bool
  | [] => true
  | [_] => true
  | s :: t :: r => Region.waitsFor md ops t s && chT md ops (t :: r)
def sinkT (md : Region.Mode) (ops : Array Oper) (T : List Nat) (l0 : Array Bool) : Bool :=
  match T with
  | [] => true
  | t0 :: _ => (List.range ops.size).all fun i => l0.getD i true || T.contains i || Region.waitsFor md ops t0 i || (List.range ops.size).any fun j => decide (i < j) && !T.contains j && Region.waitsFor md ops j i
structure Inv (md : Region.Mode) (ops : Array Oper) (T : List Nat) (l0 listed : Array Bool) : Prop where
  size : listed.size = ops.size
  closed : ∀ j oj, ops[j]? = some oj → listed.getD j false = true → ∀ e ∈ oj.after, Region.binds md e = true → listed.getD e.on false = true
  tail : ∀ t ∈ T, listed.getD t true = false
  sub : ∀ i, listed.getD i true = false → l0.getD i true = false
theorem Inv.set {i : Nat} {T : List Nat} {l0 listed : Array Bool} (inv : Inv md ops T l0 listed) (hi : i ∈ Region.ready md ops listed) (hin : i ∉ T) : Inv md ops T l0 (listed.setIfInBounds i true) := by
  obtain ⟨_, oi, hoi, hall⟩ := mem_ready.1 hi
  refine ⟨by simp [inv.size], fun j oj hj hl e he hb => ?_, fun t ht => by rw [getD_set_ne true (by rintro rfl; exact hin ht)]; exact inv.tail t ht, fun j hj => ?_⟩
  · by_cases hij : i = j
    · subst hij
      have : oj = oi := Option.some.inj (hj.symm.trans hoi)
      subst this
      exact getD_set_true (hall e he hb)
    · rw [getD_set_ne false hij] at hl
      exact getD_set_true (inv.closed j oj hj hl e he hb)
  · by_cases hij : i = j
    · subst hij
      rcases Nat.lt_or_ge i listed.size with h' | h'
      · simp [h'] at hj
      · simp [h'] at hj
    · rw [getD_set_ne true hij] at hj; exact inv.sub j hj
theorem ch_pred : ∀ (T : List Nat) (s t : Nat), chT md ops (s :: T) = true → t ∈ T → ∃ q ∈ s :: T, Region.waitsFor md ops t q = true
  | [], _, _, _, ht => by cases ht
  | u :: r, s, t, h, ht => by
    simp only [chT, Bool.and_eq_true] at h
    rcases List.mem_cons.1 ht with rfl | ht
    · exact ⟨s, by simp, h.1⟩
    · obtain ⟨q, hq, hw⟩ := ch_pred r u t h.2 ht
      exact ⟨q, List.mem_cons_of_mem _ hq, hw⟩
theorem waits {T : List Nat} {l0 listed : Array Bool} (hc : chT md ops T = true) (hs : sinkT md ops T l0 = true) (inv : Inv md ops T l0 listed) :
    ∀ (d i : Nat), ops.size - i = d → i < ops.size → i ∉ T → listed.getD i true = false → ∀ t ∈ T, t ∉ Region.ready md ops listed := by
  intro d
  induction d using Nat.strongRecOn with
  | _ d ih =>
    intro i hd hi hiT hun t htT hr
    obtain ⟨htun, ot, hot, hall⟩ := mem_ready.1 hr
    rcases T with _ | ⟨t0, T'⟩
    · cases htT
    by_cases ht0 : t = t0
    · subst ht0
      have h1 := List.all_eq_true.1 hs i (List.mem_range.2 hi)
      rw [inv.sub i hun, Bool.false_or, Bool.or_eq_true, Bool.or_eq_true] at h1
      rcases h1 with (h1 | h1) | h1
      · exact hiT (by simpa using h1)
      · obtain ⟨o', ho', e, he, hb, hon⟩ := Region.waitsFor_spec h1
        have : o' = ot := Option.some.inj (ho'.symm.trans hot)
        subst this
        have h2 := hall e he hb
        rw [hon, getD_both hun] at h2
        cases h2
      · obtain ⟨j, hj, hj2⟩ := List.any_eq_true.1 h1
        simp only [Bool.and_eq_true, decide_eq_true_eq, Bool.not_eq_true'] at hj2
        obtain ⟨oj, hoj, e, he, hb, hon⟩ := Region.waitsFor_spec hj2.2
        have hjn := List.mem_range.1 hj
        cases hl : listed.getD j false with
        | true =>
          have h2 := inv.closed j oj hoj hl e he hb
          rw [hon, getD_both hun] at h2
          cases h2
        | false =>
          have hjs : j < listed.size := by rw [inv.size]; exact (Array.getElem?_eq_some_iff.1 hoj).1
          exact ih (ops.size - j) (by omega) j rfl hjn (fun hh => by have := hj2.1.2; rw [List.contains_iff_mem.2 hh] at this; cases this) (getD_in hjs hl) t (by simp) hr
    · have htT' : t ∈ T' := by
        rcases List.mem_cons.1 htT with h | h
        · exact absurd h ht0
        · exact h
      obtain ⟨q, hq, hw⟩ := ch_pred T' t0 t hc htT'
      obtain ⟨o', ho', e, he, hb, hon⟩ := Region.waitsFor_spec hw
      have : o' = ot := Option.some.inj (ho'.symm.trans hot)
      subst this
      have h2 := hall e he hb
      rw [hon, getD_both (inv.tail q hq)] at h2
      cases h2
/-- What may come up beside operation i is of a kind that fits. -/
def kinB (md : Region.Mode) (ops : Array Oper) (kd : Nat → Nat) (T : List Nat) (listed : Array Bool) (i : Nat) : Bool :=
  (List.range ops.size).all fun j => listed.getD j true || j == i || T.contains j || Region.waitsFor md ops j i || fits (kd i) (kd j)
theorem wpAnyF_first {kd : Nat → Nat} {vals : Nat → Value} {i : Nat} {oi : Oper} {T : List Nat} {l0 : Array Bool} {L : Array Bool → Act → Prop} {w0 : World} (hw0 : C w0) (hi : ops[i]? = some oi) (hsel : ∀ (j : Nat) (o : Oper) cs b, ops[j]? = some o → o.op ≠ .select cs b)
    (hc : chT md ops T = true) (hs : sinkT md ops T l0 = true) (hin : i ∉ T) (hdone : ∀ listed a, L listed a → ∀ j ∈ Region.ready md ops listed, j ∈ T) :
    ∀ (f : Nat) (listed : Array Bool) (a : Act), Inv md ops T l0 listed →
      (∀ j oj, ops[j]? = some oj → j ≠ i → listed.getD j true = false → (∀ e ∈ oj.after, Region.binds md e = true → e.on ≠ i) → oi.apart ops oj = true) →
      (∀ j oj, ops[j]? = some oj → j ≠ i → j ∉ T → listed.getD j true = false → (∀ e ∈ oj.after, Region.binds md e = true → e.on ≠ i) → fits (kd i) (kd j) = true) →
      i ∈ Region.ready md ops listed → fOp P ops C kd vals i (wpAnyF P md ops C kd vals T L f (listed.setIfInBounds i true)) a → wpAnyF P md ops C kd vals T L (f + 1) listed a := by
  intro f
  induction f with
  | zero =>
    intro listed a inv _ _ hr H
    have hun := (mem_ready.1 hr).1
    have hil : i < ops.size := (Array.getElem?_eq_some_iff.1 hi).1
    refine ⟨fun h => (by rw [h] at hr; cases hr), fun j hj => ?_⟩
    have hjn : j ∉ T := fun hjT => waits hc hs inv _ i rfl hil hin hun j hjT hj
    refine ⟨hjn, ?_⟩
    by_cases hji : j = i
    · subst hji; exact H
    · obtain ⟨a', ha'⟩ := fOp_ex hw0 H
      exact absurd (hdone _ _ ha' j (ready_mono hj hji)) hjn
  | succ f ih =>
    intro listed a inv hfree hkin hr H
    have hun := (mem_ready.1 hr).1
    have hil : i < ops.size := (Array.getElem?_eq_some_iff.1 hi).1
    refine ⟨fun h => (by rw [h] at hr; cases hr), fun j hj => ?_⟩
    have hjn : j ∉ T := fun hjT => waits hc hs inv _ i rfl hil hin hun j hjT hj
    refine ⟨hjn, ?_⟩
    by_cases hji : j = i
    · subst hji; exact H
    · obtain ⟨hjun, oj, hoj, hall⟩ := mem_ready.1 hj
      have hnot : ∀ e ∈ oj.after, Region.binds md e = true → e.on ≠ i := fun e he hb heq => by
        have h1 := hall e he hb
        rw [heq, getD_both hun] at h1
        cases h1
      have h1 := fOp_mono (K' := fun a1 => fOp P ops C kd vals j (wpAnyF P md ops C kd vals T L f ((listed.setIfInBounds i true).setIfInBounds j true)) a1) (fun a1 h => (h.2 j (ready_mono hj hji)).2) H
      have h2 := fOp_swap hw0 hi hoj (hfree j oj hoj hji hjun hnot) (hkin j oj hoj hji hjn hjun hnot) (fun cs b => hsel i oi cs b hi) (fun cs b => hsel j oj cs b hoj) h1
      have keep : ∀ k, (listed.setIfInBounds j true).getD k true = false → listed.getD k true = false := fun k hun => by
        by_cases hjk : j = k
        · subst hjk; exact hjun
        · rw [getD_set_ne true hjk] at hun; exact hun
      refine fOp_mono (fun a2 h3 => ih (listed.setIfInBounds j true) a2 (inv.set hj hjn) (fun k ok hk hki hun hno => hfree k ok hk hki (keep k hun) hno) (fun k ok hk hki hkT hun hno => hkin k ok hk hki hkT (keep k hun) hno) (ready_mono hr (Ne.symm hji)) ?_) h2
      rw [Array.setIfInBounds_comm _ _ hji]
      exact h3

/-- The order of the tail. -/
def seqL (md : Region.Mode) (ops : Array Oper) : List Nat → Array Bool → Bool
  | [], listed => (Region.ready md ops listed).isEmpty
  | k :: r, listed => decide (Region.ready md ops listed = [k]) && seqL md ops r (listed.setIfInBounds k true)
theorem seqL_ready {T : List Nat} {listed : Array Bool} (h : seqL md ops T listed = true) : ∀ j ∈ Region.ready md ops listed, j ∈ T := by
  cases T with
  | nil => intro j hj; simp only [seqL, List.isEmpty_iff] at h; rw [h] at hj; cases hj
  | cons k r =>
    intro j hj
    simp only [seqL, Bool.and_eq_true, decide_eq_true_eq] at h
    rw [h.1] at hj
    have : j = k := by simpa using hj
    rw [this]; simp
theorem wpAny_of_seqL : ∀ (T : List Nat) (l : List Oper) (listed : Array Bool) (a : Act) (w : World), T.map (ops[·]?) = l.map some →
    seqL md ops T listed = true → wpList P ops Q l a w → wpAny P md ops Q T.length listed a w
  | [], [], listed, a, w, _, hB, h => ⟨by simpa [seqL] using hB, h⟩
  | [], _ :: _, _, _, _, hm, _, _ => by simp at hm
  | k :: T, [], _, _, _, hm, _, _ => by simp at hm
  | k :: T, o :: l, listed, a, w, hm, hB, h => by
    simp only [List.map_cons, List.cons.injEq] at hm
    simp only [seqL, Bool.and_eq_true, decide_eq_true_eq] at hB
    refine ⟨fun h1 => (by rw [hB.1] at h1; cases h1), fun i hi => ?_⟩
    rw [hB.1] at hi
    have hik : i = k := by simpa using hi
    subst hik
    have hw : wpOp P ops Q i (wpList P ops Q l) a w := by unfold wpOp; simp only [hm.1]; exact h
    exact wpOp_mono (fun a' w' h' => wpAny_of_seqL T l _ a' w' hm.2 hB.2 h') hw

/-- The order that is walked. -/
def ordB (md : Region.Mode) (ops : Array Oper) (kd : Nat → Nat) (T : List Nat) : List Nat → Array Bool → Bool
  | [], listed => seqL md ops T listed
  | i :: r, listed => !T.contains i && (Region.ready md ops listed).contains i && Region.free md ops listed i && kinB md ops kd T listed i && ordB md ops kd T r (listed.setIfInBounds i true)
def wpF (P : Program) (ops : Array Oper) (C : World → Prop) (kd : Nat → Nat) (vals : Nat → Value) (Q : Act → Prop) : List Nat → Act → Prop
  | [], a => Q a
  | i :: r, a => fOp P ops C kd vals i (wpF P ops C kd vals Q r) a
theorem kinB_spec {kd : Nat → Nat} {T : List Nat} {listed : Array Bool} {i : Nat} (h : kinB md ops kd T listed i = true) (j : Nat) (oj : Oper) (hj : ops[j]? = some oj) (hne : j ≠ i) (hjT : j ∉ T) (hun : listed.getD j true = false)
    (hno : ∀ e ∈ oj.after, Region.binds md e = true → e.on ≠ i) : fits (kd i) (kd j) = true := by
  have h1 := List.all_eq_true.1 h j (List.mem_range.2 (Array.getElem?_eq_some_iff.1 hj).1)
  rw [hun, Bool.false_or, Bool.or_eq_true, Bool.or_eq_true, Bool.or_eq_true] at h1
  rcases h1 with ((h1 | h1) | h1) | h1
  · exact absurd (by simpa using h1) hne
  · exact absurd (by simpa using h1) hjT
  · obtain ⟨o', ho', e, he, hb, hon⟩ := Region.waitsFor_spec h1
    have : o' = oj := Option.some.inj (ho'.symm.trans hj)
    subst this
    exact absurd hon (hno e he hb)
  · exact h1
theorem wpAnyF_ord {kd : Nat → Nat} {vals : Nat → Value} {T : List Nat} {l0 : Array Bool} {Lq : Act → Prop} {w0 : World} (hw0 : C w0) (hsel : Region.noSelect ops = true) (hc : chT md ops T = true) (hs : sinkT md ops T l0 = true) :
    ∀ (r : List Nat) (listed : Array Bool) (a : Act), Inv md ops T l0 listed → ordB md ops kd T r listed = true → wpF P ops C kd vals Lq r a →
    wpAnyF P md ops C kd vals T (fun listed' a' => seqL md ops T listed' = true ∧ Lq a') r.length listed a
  | [], listed, a, _, hB, h => ⟨hB, h⟩
  | i :: r, listed, a, inv, hB, h => by
    simp only [ordB, Bool.and_eq_true, Bool.not_eq_true'] at hB
    obtain ⟨⟨⟨⟨hin, hr⟩, hf⟩, hk⟩, hB'⟩ := hB
    have hr' : i ∈ Region.ready md ops listed := by simpa using hr
    have hin' : i ∉ T := fun hh => by rw [List.contains_iff_mem.2 hh] at hin; cases hin
    obtain ⟨_, oi, hoi, _⟩ := mem_ready.1 hr'
    exact wpAnyF_first hw0 hoi (Region.noSelect_spec hsel) hc hs hin' (fun listed' a' hL => seqL_ready hL.1) r.length listed a inv (Region.free_spec hoi hf) (kinB_spec hk) hr'
      (fOp_mono (fun a' h' => wpAnyF_ord hw0 hsel hc hs r _ a' (inv.set hr' hin') hB' h') h)

def closedB (md : Region.Mode) (ops : Array Oper) (listed : Array Bool) : Bool :=
  (List.range ops.size).all fun j => !listed.getD j false || match ops[j]? with
    | some oj => oj.after.all fun e => !Region.binds md e || listed.getD e.on false
    | none => true
def softB (md : Region.Mode) (ops : Array Oper) (kd : Nat → Nat) (T : List Nat) (r : List Nat) (listed : Array Bool) : Bool :=
  Region.noSelect ops && decide (listed.size = ops.size) && closedB md ops listed && (T.all fun t => !listed.getD t true) && chT md ops T && sinkT md ops T listed && ordB md ops kd T r listed
theorem wpAny_soft {l l2 : List Oper} {fuel : Nat} {kd : Nat → Nat} {T r : List Nat} {listed : Array Bool} {a : Act} {w : World} {vals : Nat → Value} (hB : softB md l.toArray kd T r listed = true) (hT2 : T.map (l.toArray[·]?) = l2.map some) (hf : fuel = r.length + T.length) (hC : C w)
    (h : wpF P l.toArray C kd vals (fun a' => ∀ w', C w' → wpList P l.toArray Q l2 a' w') r a) : wpAny P md l.toArray Q fuel listed a w := by
  simp only [softB, Bool.and_eq_true, decide_eq_true_eq] at hB
  obtain ⟨⟨⟨⟨⟨⟨hsel, hsz⟩, hcl⟩, htl⟩, hch⟩, hsink⟩, hord⟩ := hB
  have inv : Inv md l.toArray T listed listed := by
    refine ⟨hsz, fun j oj hj hl e he hb => ?_, fun t ht => by have := List.all_eq_true.1 htl t ht; rwa [Bool.not_eq_true'] at this, fun _ h => h⟩
    have h1 := List.all_eq_true.1 hcl j (List.mem_range.2 (Array.getElem?_eq_some_iff.1 hj).1)
    rw [hl, Bool.not_true, Bool.false_or, hj] at h1
    have h2 := Array.all_eq_true'.1 h1 e he
    simpa [hb] using h2
  have H := wpAnyF_ord hC hsel hch hsink r listed a inv hord h
  have := wpAny_of_F (Q := Q) (g := T.length) (fun listed' a' w' hw' hL => wpAny_of_seqL T l2 listed' a' w' hT2 hL.1 (hL.2 w' hw')) _ _ _ _ hC H
  rw [hf]
  exact this
/-- The operations in the order of the text, those that are marked passed over. -/
def wpLx (P : Program) (ops : Array Oper) (C : World → Prop) (kd : Nat → Nat) (vals : Nat → Value) (Q : Act → Prop) : Nat → List Oper → List Bool → Act → Prop
  | _, [], _, a => Q a
  | k, _ :: l, true :: fs, a => wpLx P ops C kd vals Q (k + 1) l fs a
  | k, o :: l, false :: fs, a => if Region.wanted o (yielded ops a.tmps) then xft P C (kd k) (vals k) o a (wpLx P ops C kd vals Q (k + 1) l fs) else wpLx P ops C kd vals Q (k + 1) l fs (a.put o.dst undef)
  | k, o :: l, [], a => if Region.wanted o (yielded ops a.tmps) then xft P C (kd k) (vals k) o a (wpLx P ops C kd vals Q (k + 1) l []) else wpLx P ops C kd vals Q (k + 1) l [] (a.put o.dst undef)
def idx : Nat → List Oper → List Bool → List Nat
  | _, [], _ => []
  | k, _ :: l, true :: fs => idx (k + 1) l fs
  | k, _ :: l, false :: fs => k :: idx (k + 1) l fs
  | k, _ :: l, [] => k :: idx (k + 1) l []
theorem wpF_of_lx {kd : Nat → Nat} {vals : Nat → Value} {Lq : Act → Prop} : ∀ (l : List Oper) (k : Nat) (fs : List Bool) (a : Act), (∀ j, j < l.length → l[j]? = ops[k + j]?) → wpLx P ops C kd vals Lq k l fs a → wpF P ops C kd vals Lq (idx k l fs) a
  | [], _, _, _, _, h => by simpa [wpLx, idx, wpF] using h
  | o :: l, k, fs, a, hl, h => by
    have h0 : ops[k]? = some o := by simpa using (hl 0 (by simp)).symm
    have hl' : ∀ j, j < l.length → l[j]? = ops[k + 1 + j]? := fun j hj => by
      have := hl (j + 1) (by simp; omega)
      simpa [Nat.add_assoc, Nat.add_comm 1 j] using this
    rcases fs with _ | ⟨f, fs⟩
    · simp only [wpLx] at h
      simp only [idx, wpF, fOp, h0]
      split
      · rename_i hw; simp only [hw, if_true] at h; exact xft_mono (fun a' h' => wpF_of_lx l _ _ a' hl' h') h
      · rename_i hw; simp only [hw] at h; exact wpF_of_lx l _ _ _ hl' h
    · cases f
      · simp only [wpLx] at h
        simp only [idx, wpF, fOp, h0]
        split
        · rename_i hw; simp only [hw, if_true] at h; exact xft_mono (fun a' h' => wpF_of_lx l _ _ a' hl' h') h
        · rename_i hw; simp only [hw] at h; exact wpF_of_lx l _ _ _ hl' h
      · simp only [wpLx] at h
        simp only [idx]
        exact wpF_of_lx l _ _ _ hl' h
/-- The tail's operations: those that are not marked. -/
def tl : List Oper → List Bool → List Oper
  | [], _ => []
  | _ :: l, true :: fs => tl l fs
  | o :: l, false :: fs => o :: tl l fs
  | o :: l, [] => o :: tl l []
theorem idx_tl : ∀ (l : List Oper) (k : Nat) (fs : List Bool), (∀ j, j < l.length → l[j]? = ops[k + j]?) → (idx k l fs).map (ops[·]?) = (tl l fs).map some
  | [], _, _, _ => by simp [idx, tl]
  | o :: l, k, fs, hl => by
    have h0 : ops[k]? = some o := by simpa using (hl 0 (by simp)).symm
    have hl' : ∀ j, j < l.length → l[j]? = ops[k + 1 + j]? := fun j hj => by
      have := hl (j + 1) (by simp; omega)
      simpa [Nat.add_assoc, Nat.add_comm 1 j] using this
    rcases fs with _ | ⟨f, fs⟩
    · simp only [idx, tl, List.map_cons, h0, idx_tl l (k + 1) [] hl']
    · cases f
      · simp only [idx, tl, List.map_cons, h0, idx_tl l (k + 1) fs hl']
      · simp only [idx, tl, idx_tl l (k + 1) fs hl']
theorem wpAny_lx {l : List Oper} {fuel : Nat} {fs ft : List Bool} {kd : Nat → Nat} {listed : Array Bool} {a : Act} {w : World} (vals : Nat → Value) (hB : softB md l.toArray kd (idx 0 l ft) (idx 0 l fs) listed = true)
    (hf : fuel = (idx 0 l fs).length + (idx 0 l ft).length) (hC : C w)
    (h : wpLx P l.toArray C kd vals (fun a' => ∀ w', C w' → wpList P l.toArray Q (tl l ft) a' w') 0 l fs a) : wpAny P md l.toArray Q fuel listed a w :=
  wpAny_soft hB (idx_tl _ _ _ (fun j hj => by simp)) hf hC (wpF_of_lx _ _ _ _ (fun j hj => by simp) h)
/-- A region whose order is open: its head (what fs does not mark) in the order of the text, then the tail (what ft does not mark). -/
theorem wp_soft {id : Nat} {l : List Oper} {a : Act} {w : World} (fs ft : List Bool) (kd : Nat → Nat) (vals : Nat → Value) (hm : P.follows .mixedOrders = true) (hB : softB .any l.toArray kd (idx 0 l ft) (idx 0 l fs) (Array.replicate l.toArray.size false) = true)
    (hf : l.toArray.size = (idx 0 l fs).length + (idx 0 l ft).length) (h : wpLx P l.toArray (fun w' => ∃ n, w' = w.drewN n) kd vals (fun a' => ∀ w', (∃ n, w' = w.drewN n) → wpList P l.toArray Q (tl l ft) a' w') 0 l fs a) : (Code.region id l.toArray true).wp P Q a w :=
  wp_region_any hm (wpAny_lx vals hB hf ⟨1, rfl⟩ h)

/-- The same, over a class of worlds that the prover names. -/
theorem wp_softC {id : Nat} {l : List Oper} {a : Act} {w : World} (fs ft : List Bool) (kd : Nat → Nat) (vals : Nat → Value) (hm : P.follows .mixedOrders = true) (hB : softB .any l.toArray kd (idx 0 l ft) (idx 0 l fs) (Array.replicate l.toArray.size false) = true)
    (hf : l.toArray.size = (idx 0 l fs).length + (idx 0 l ft).length) (hC : C (w.drewN 1)) (h : wpLx P l.toArray C kd vals (fun a' => ∀ w', C w' → wpList P l.toArray Q (tl l ft) a' w') 0 l fs a) : (Code.region id l.toArray true).wp P Q a w :=
  wp_region_any hm (wpAny_lx vals hB hf hC h)
/-- k times the same new block. -/
def alK (O : Obj) : Nat → World → World
  | 0, W => W
  | k + 1, W => (alK O k W).alloc O
theorem alK_drewN (O : Obj) : ∀ (k : Nat) (W : World) (m : Nat), (alK O k W).drewN m = alK O k (W.drewN m)
  | 0, _, _ => rfl
  | k + 1, W, m => by
    show ((alK O k W).alloc O).drewN m = (alK O k (W.drewN m)).alloc O
    rw [← alK_drewN O k W m]; rfl
theorem alK_below (O : Obj) (W : World) : ∀ k, Below W.heap.size W (alK O k W)
  | 0 => Below.refl _ _
  | k + 1 => (alK_below O W k).alloc (alK_below O W k).size _
/-- Draws, then k times the same new block. -/
def alW (O : Obj) (W : World) (q : Nat × Nat) : World := alK O q.2 (W.drewN q.1)
theorem alW_closed (O : Obj) (W : World) : ∀ w n, (∃ q, w = alW O W q) → ∃ q, w.drewN n = alW O W q := by
  rintro w n ⟨q, rfl⟩
  exact ⟨(q.1 + n, q.2), by unfold alW; rw [alK_drewN, World.drewN_drewN]⟩
theorem alW_next (O : Obj) (W : World) (q : Nat × Nat) (n : Nat) : ∃ q', ((alW O W q).alloc O).drewN n = alW O W q' :=
  ⟨(q.1 + n, q.2 + 1), by show (alK O (q.2 + 1) (W.drewN q.1)).drewN n = _; rw [alK_drewN, World.drewN_drewN]; rfl⟩
theorem alW_cell (O : Obj) (W : World) {b o : Nat} {v : Value} (h : W.cell? ⟨b, o, none⟩ = some v) (q : Nat × Nat) : (alW O W q).cell? ⟨b, o, none⟩ = some v :=
  ((alK_below O (W.drewN q.1) q.2).cell (p := ⟨b, o, none⟩) (World.block_lt_of_cell? W _ h)).trans h
theorem alW_below (O : Obj) (W : World) (q : Nat × Nat) : Below W.heap.size W (alW O W q) := by
  have h0 : Below W.heap.size W (W.drewN q.1) := by
    have h := Below.refl W.heap.size W
    exact ⟨h.os, h.tape, h.output, h.size, h.block⟩
  exact h0.trans (alK_below O (W.drewN q.1) q.2)

/-! ### The steps -/
variable {kd : Nat → Nat} {vals : Nat → Value} {Lq : Act → Prop} {i k : Nat} {l : List Oper} {fs : List Bool} {a : Act} {o : Oper} {K : Act → Prop} {V : Value}
theorem lx_nil (h : Lq a) : wpLx P ops C kd vals Lq k [] fs a := by simpa [wpLx] using h
theorem lx_over (h : wpLx P ops C kd vals Lq (k + 1) l fs a) : wpLx P ops C kd vals Lq k (o :: l) (true :: fs) a := by simpa only [wpLx] using h
/-- One value. -/
theorem lx_one (hk : (kd k != 0 && kd k != 2) = true) (hw : Region.wanted o (yielded ops a.tmps) = true) (h : ∀ K : Act → Prop, (∀ a, wpLx P ops C kd vals Lq (k + 1) l fs a → K a) → dft P C (vals k) o a K) : wpLx P ops C kd vals Lq k (o :: l) (false :: fs) a := by
  simp only [wpLx, hw, if_true]
  rw [xft_det hk]
  exact h _ fun _ h => h
/-- A float. -/
theorem lx_fl (hk : kd k = 0) (hw : Region.wanted o (yielded ops a.tmps) = true) (h : ∀ K : Act → Prop, (∀ a, wpLx P ops C kd vals Lq (k + 1) l fs a → K a) → sft P C (vals k) o a K) : wpLx P ops C kd vals Lq k (o :: l) (false :: fs) a := by
  simp only [wpLx, hw, if_true, hk]
  exact h _ fun _ h => h
/-- A call. -/
theorem lx_call (hk : kd k = 2) (hw : Region.wanted o (yielded ops a.tmps) = true) (h : ∀ K : Act → Prop, (∀ a, wpLx P ops C kd vals Lq (k + 1) l fs a → K a) → cft P C o a K) : wpLx P ops C kd vals Lq k (o :: l) (false :: fs) a := by
  simp only [wpLx, hw, if_true, hk]
  exact h _ fun _ h => h
theorem lx_skip (hw : Region.wanted o (yielded ops a.tmps) = false) (h : wpLx P ops C kd vals Lq (k + 1) l fs (a.put o.dst undef)) : wpLx P ops C kd vals Lq k (o :: l) (false :: fs) a := by
  simp only [wpLx, hw]
  exact h
/-- Operations that never enter a function. -/
def plain : Op → Bool
  | .move _ | .assign _ | .pick .. | .load .. | .binOp .. | .unOp .. | .convert .. | .indexAddr .. | .fieldAddr .. | .field .. | .index .. | .extract .. | .slice .. => true
  | _ => false
theorem run_v (s : Sem Value) (w : World) (f : FuncId) (args : Array Value) (w' : World) : (do pure (Next.value (← s)) : Sem Next).run P w ≠ .ok (.enter f args) w' := by
  intro h
  simp only [Sem.run_bind] at h
  cases hs : s.run P w with
  | ok v w1 => rw [hs] at h; simp at h
  | halt x w1 => rw [hs] at h; simp at h
theorem plain_no (hp : plain o.op = true) (w : World) (f : FuncId) (args : Array Value) (w' : World) : (execOp a.eval o).run P w ≠ .ok (.enter f args) w' := by
  obtain ⟨dst, op, type, pos, after, guard⟩ := o
  cases op <;> simp only [plain] at hp <;> first | contradiction | skip
  all_goals unfold execOp
  case move x => intro h; simp at h
  case assign x => intro h; simp at h
  case pick c x y =>
    have := run_v (P := P) (do pure (if ← asBool (a.eval c) then a.eval x else a.eval y)) w f args w'
    simpa using this
  all_goals exact run_v (P := P) _ w f args w'
theorem dft_quiet (hp : plain o.op = true) (h : o.quiet P a C K) : dft P C V o a K := by
  obtain ⟨v, h1, h2⟩ := h
  refine ⟨v, fun w hw => ?_, h2⟩
  have h3 := h1 w hw
  have hn := plain_no (P := P) (a := a) hp w
  unfold Oper.quietAt at h3
  generalize (execOp a.eval o).run P w = q at *
  cases q with
  | ok n w' =>
    cases n <;> simp only [Oper.quietUpon] at h3
    case value u => obtain ⟨rfl, rfl⟩ := h3; exact ⟨hw, rfl⟩
    case skip => obtain ⟨rfl, rfl⟩ := h3; exact ⟨hw, rfl⟩
    case enter f args => exact absurd rfl (hn f args w')
  | halt x w' => simp only [Oper.quietUpon] at h3
/-- A pointer that is not nil is what it was. -/
theorem dft_nil {x : Operand} {p : Addr} (ho : o.op = .nilCheck x) (hx : a.eval x = .pointer (some p)) (hk : K (a.put o.dst (.pointer (some p)))) : dft P C V o a K := by
  refine ⟨.pointer (some p), fun w hw => ?_, hk⟩
  have e : (execOp a.eval o).run P w = .ok (.value (.pointer (some p))) w := by
    obtain ⟨dst, op, type, pos, after, guard⟩ := o
    simp only at ho
    subst ho
    unfold execOp
    simp [hx]
  rw [e]
  exact ⟨hw, rfl⟩
/-- A call whose value is known. -/
theorem dft_call (h : ∀ w, C w → o.quietAt P a C w V) (hk : K (a.put o.dst V)) : dft P C V o a K := by
  refine ⟨V, fun w hw => ?_, hk⟩
  have h3 := h w hw
  unfold Oper.quietAt at h3
  generalize (execOp a.eval o).run P w = q at *
  cases q with
  | ok n w' =>
    cases n <;> simp only [Oper.quietUpon] at h3
    case value u => obtain ⟨rfl, rfl⟩ := h3; exact ⟨hw, rfl⟩
    case skip => obtain ⟨rfl, h4⟩ := h3; exact ⟨hw, h4.symm⟩
    case enter f args => obtain ⟨rfl, hc⟩ := h3; exact ⟨hc, rfl⟩
  | halt x w' => simp only [Oper.quietUpon] at h3
/-- A call with a result of its own. -/
theorem cft_of {w0 : World} {R : Value → Prop} {f : FuncId} {args : Array Value} (he : ∀ w, (execOp a.eval o).run P w = .ok (.enter f args) w) (hc : ∀ n, Calls P f args (w0.drewN n) fun e w'' => ∃ u, e = .returned u ∧ R u ∧ ∃ m, w'' = w0.drewN m)
    (h : ∀ u, R u → K (a.put o.dst u)) : cft P (fun w => ∃ n, w = w0.drewN n) o a K := by
  rintro w ⟨n, rfl⟩
  exact ⟨f, args, _, he _, (hc n).mono fun e w'' ⟨u, e1, e2, e3⟩ => ⟨u, e1, e3, h u e2⟩⟩
/-- Operations on floats. -/
theorem sft_ar {op : BinOp} {t u : TypeId} {X Y : Operand} {k : FloatKind} {x y cx cy : Nat} {w0 : World} (ho : o.op = .binOp op t X Y u) (hX : a.eval X = .float k x) (hY : a.eval Y = .float k y) (hop : arOp op = true) (h1 : Is k x cx) (h2 : Is k y cy)
    (h : ∀ r, Is k r (ar op k cx cy) → K (a.put o.dst (.float k r))) : sft P (fun w => ∃ n, w = w0.drewN n) V o a K := by
  rintro w ⟨n0, rfl⟩
  obtain ⟨r, n, hr, his⟩ := run_ar (P := P) op hop t k x y (w0.drewN n0)
  have he : (execOp a.eval o).run P (w0.drewN n0) = .ok (.value (.float k r)) ((w0.drewN n0).drewN n) := by
    unfold execOp
    simp only [ho, hX, hY]
    have hg : eqGuard op t X Y (.float k x) (.float k y) = pure () := by
      unfold eqGuard; cases op <;> simp
    simp [hg, hr]
  rw [he]
  rw [ar_is h1 h2] at his
  exact ⟨⟨_, World.drewN_drewN ..⟩, h r his⟩
theorem sft_arC {op : BinOp} {t u : TypeId} {X Y : Operand} {k : FloatKind} {x y cx cy : Nat} (hcl : ∀ w n, C w → C (w.drewN n)) (ho : o.op = .binOp op t X Y u) (hX : a.eval X = .float k x) (hY : a.eval Y = .float k y) (hop : arOp op = true) (h1 : Is k x cx) (h2 : Is k y cy)
    (h : ∀ r, Is k r (ar op k cx cy) → K (a.put o.dst (.float k r))) : sft P C V o a K := by
  intro w hw
  obtain ⟨r, n, hr, his⟩ := run_ar (P := P) op hop t k x y w
  have he : (execOp a.eval o).run P w = .ok (.value (.float k r)) (w.drewN n) := by
    unfold execOp
    simp only [ho, hX, hY]
    have hg : eqGuard op t X Y (.float k x) (.float k y) = pure () := by
      unfold eqGuard; cases op <;> simp
    simp [hg, hr]
  rw [he]
  rw [ar_is h1 h2] at his
  exact ⟨hcl _ _ hw, h r his⟩
theorem sft_wide {src dst : TypeId} {X : Operand} {x : Nat} {w0 : World} (ho : o.op = .convert src dst X) (hX : a.eval X = .float .f32 x) (hs : (P.underlying src).isSome = true) (hd : P.underlying dst = some (.float .f64))
    (h : ∀ r, Is .f64 r (wi x) → K (a.put o.dst (.float .f64 r))) : sft P (fun w => ∃ n, w = w0.drewN n) V o a K := by
  rintro w ⟨n0, rfl⟩
  obtain ⟨r, n, hr, his⟩ := run_wide src dst hs hd x (w0.drewN n0)
  have he : (execOp a.eval o).run P (w0.drewN n0) = .ok (.value (.float .f64 r)) ((w0.drewN n0).drewN n) := by
    unfold execOp
    simp [ho, hX, hr]
  rw [he]
  exact ⟨⟨_, World.drewN_drewN ..⟩, h r his⟩
theorem sft_narrow {src dst : TypeId} {X : Operand} {x : Nat} {w0 : World} (ho : o.op = .convert src dst X) (hX : a.eval X = .float .f64 x) (hs : (P.underlying src).isSome = true) (hd : P.underlying dst = some (.float .f32)) (hx : naOk x = true)
    (h : ∀ r, Is .f32 r (na x) → K (a.put o.dst (.float .f32 r))) : sft P (fun w => ∃ n, w = w0.drewN n) V o a K := by
  rintro w ⟨n0, rfl⟩
  obtain ⟨r, n, hr, his⟩ := run_narrow src dst hs hd x hx (w0.drewN n0)
  have he : (execOp a.eval o).run P (w0.drewN n0) = .ok (.value (.float .f32 r)) ((w0.drewN n0).drewN n) := by
    unfold execOp
    simp [ho, hX, hr]
  rw [he]
  exact ⟨⟨_, World.drewN_drewN ..⟩, h r his⟩
end
end Go.Proofs.Ytfbdmhkmkmbipaa.Sf
