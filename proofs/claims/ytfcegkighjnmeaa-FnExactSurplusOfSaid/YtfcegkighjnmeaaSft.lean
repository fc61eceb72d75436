/-
  Regions whose order is open and whose operations may draw (sums and products of floats that may be no numbers): one walk in one order serves all orders (no program in it).
-/
import Derived.StillTail
import Derived.BigQuiet
import Derived.Test.YtfcegkighjnmeaaFloMore
namespace Go.Proofs.Ytfcegkighjnmeaa.Sf
open Go.RowKit Fl
set_option linter.unusedVariables false

section
variable {P : Program} {ops : Array Oper} {md : Region.Mode} {C : World → Prop} {Q : Exit → Act → World → Prop}

/-- What an operation must come to: a value in a world of the class, or a call that hands back V. -/
def okp (P : Program) (C : World → Prop) (V : Value) : Result Next → Prop
  | .ok (.value _) w' => C w'
  | .ok .skip w' => C w'
  | .ok (.enter f args) w' => Calls P f args w' (fun e w'' => e = .returned V ∧ C w'')
  | _ => False
/-- The value that it leaves. -/
def outV (V : Value) : Result Next → Value
  | .ok (.value u) _ => u
  | .ok (.enter _ _) _ => V
  | _ => undef
def sft (P : Program) (C : World → Prop) (V : Value) (o : Oper) (a : Act) (K : Act → Prop) : Prop :=
  ∀ w, C w → okp P C V ((execOp a.eval o).run P w) ∧ K (a.put o.dst (outV V ((execOp a.eval o).run P w)))
def fOp (P : Program) (ops : Array Oper) (C : World → Prop) (vals : Nat → Value) (i : Nat) (K : Act → Prop) (a : Act) : Prop :=
  match ops[i]? with
  | none => K a
  | some o => if Region.wanted o (yielded ops a.tmps) then sft P C (vals i) o a K else K (a.put o.dst undef)

theorem sft_mono {V : Value} {o : Oper} {a : Act} {K K' : Act → Prop} (h : ∀ a, K a → K' a) (hh : sft P C V o a K) : sft P C V o a K' := fun w hw => ⟨(hh w hw).1, h _ (hh w hw).2⟩
theorem fOp_mono {vals : Nat → Value} {i : Nat} {a : Act} {K K' : Act → Prop} (h : ∀ a, K a → K' a) (hh : fOp P ops C vals i K a) : fOp P ops C vals i K' a := by
  unfold fOp at *
  split
  · exact h _ (by simpa [*] using hh)
  · rename_i o ho
    simp only [ho] at hh
    split
    · rename_i hw; simp only [hw, if_true] at hh; exact sft_mono h hh
    · rename_i hw; simp only [hw] at hh; exact h _ hh
theorem fOp_ex {vals : Nat → Value} {i : Nat} {a : Act} {K : Act → Prop} {w : World} (hw : C w) (hh : fOp P ops C vals i K a) : ∃ a', K a' := by
  unfold fOp at hh
  split at hh
  · exact ⟨_, hh⟩
  · split at hh
    · exact ⟨_, (hh w hw).2⟩
    · exact ⟨_, hh⟩
theorem wp_of_sft {V : Value} {o : Oper} {a : Act} {K : Act → Prop} {K' : Act → World → Prop} {w : World} (hw : C w) (h : ∀ a w', C w' → K a → K' a w') (hh : sft P C V o a K) : o.wp P a w K' Q := by
  obtain ⟨h1, h2⟩ := hh w hw
  unfold Oper.wp
  generalize (execOp a.eval o).run P w = r at *
  cases r with
  | ok n w' =>
    cases n <;> simp only [okp] at h1 <;> simp only [Oper.upon]
    case value u => exact h _ _ h1 h2
    case skip => exact h _ _ h1 h2
    case enter f args => exact h1.mono fun e w'' ⟨he, hw''⟩ => by subst he; exact h _ _ hw'' h2
  | halt x w' => simp only [okp] at h1
theorem wpOp_of_fOp {vals : Nat → Value} {i : Nat} {a : Act} {K : Act → Prop} {K' : Act → World → Prop} {w : World} (hC : C w) (h : ∀ a w', C w' → K a → K' a w') (hh : fOp P ops C vals i K a) : wpOp P ops Q i K' a w := by
  unfold fOp at hh
  unfold wpOp
  split
  · rename_i ho; simp only [ho] at hh; exact h _ _ hC hh
  · rename_i o ho
    simp only [ho] at hh
    split
    · rename_i hw; simp only [hw, if_true] at hh; exact .inl (wp_of_sft hC h hh)
    · rename_i hw; simp only [hw] at hh; exact h _ _ hC hh

/-- Two operations that are apart may change places. -/
theorem fOp_swap {vals : Nat → Value} {i j : Nat} {oi oj : Oper} {K : Act → Prop} {a : Act} {w0 : World} (hw0 : C w0) (hi : ops[i]? = some oi) (hj : ops[j]? = some oj) (hap : oi.apart ops oj = true)
    (hsi : ∀ cs b, oi.op ≠ .select cs b) (hsj : ∀ cs b, oj.op ≠ .select cs b) (h : fOp P ops C vals i (fun a1 => fOp P ops C vals j K a1) a) : fOp P ops C vals j (fun a2 => fOp P ops C vals i K a2) a := by
  obtain ⟨h1, h2, h3⟩ := Oper.apart_spec hap
  unfold fOp at h ⊢
  simp only [hi, hj] at h ⊢
  by_cases wj : Region.wanted oj (yielded ops a.tmps) = true
  · rw [if_pos wj]
    by_cases wi : Region.wanted oi (yielded ops a.tmps) = true
    · rw [if_pos wi] at h
      intro w hw
      have g : ∀ w2, C w2 → sft P C (vals j) oj (a.put oi.dst (outV (vals i) ((execOp a.eval oi).run P w2))) K := fun w2 hw2 => by
        have := (h w2 hw2).2
        dsimp only at this
        rwa [wanted_put oj a oi.dst _ h1, if_pos wj] at this
      have g0 := g w0 hw0 w hw
      rw [execOp_put oj hsj a oi.dst _ h1] at g0
      refine ⟨g0.1, ?_⟩
      dsimp only
      rw [wanted_put oi a oj.dst _ h3, if_pos wi]
      intro w2 hw2
      rw [execOp_put oi hsi a oj.dst _ h3]
      refine ⟨(h w2 hw2).1, ?_⟩
      have g2 := (g w2 hw2 w hw).2
      rw [execOp_put oj hsj a oi.dst _ h1] at g2
      rw [← Act.put_comm a _ _ h2]
      exact g2
    · rw [if_neg wi] at h
      intro w hw
      rw [wanted_put oj a oi.dst _ h1, if_pos wj] at h
      have g := h w hw
      rw [execOp_put oj hsj a oi.dst _ h1] at g
      refine ⟨g.1, ?_⟩
      dsimp only
      rw [wanted_put oi a oj.dst _ h3, if_neg wi, ← Act.put_comm a _ _ h2]
      exact g.2
  · rw [if_neg wj]
    rw [wanted_put oi a oj.dst _ h3]
    by_cases wi : Region.wanted oi (yielded ops a.tmps) = true
    · rw [if_pos wi] at h ⊢
      intro w2 hw2
      rw [execOp_put oi hsi a oj.dst _ h3]
      refine ⟨(h w2 hw2).1, ?_⟩
      have := (h w2 hw2).2
      dsimp only at this
      rw [wanted_put oj a oi.dst _ h1, if_neg wj] at this
      rw [← Act.put_comm a _ _ h2]
      exact this
    · rw [if_neg wi] at h ⊢
      rw [wanted_put oj a oi.dst _ h1, if_neg wj] at h
      rw [← Act.put_comm a _ _ h2]
      exact h

/-- Whatever order is picked, up to operation n; L is asked of where it ends. -/
def wpAnyF (P : Program) (md : Region.Mode) (ops : Array Oper) (C : World → Prop) (vals : Nat → Value) (n : Nat) (L : Array Bool → Act → Prop) : Nat → Array Bool → Act → Prop
  | 0, listed, a => L listed a
  | f + 1, listed, a => Region.ready md ops listed ≠ [] ∧ ∀ i ∈ Region.ready md ops listed, i < n ∧ fOp P ops C vals i (wpAnyF P md ops C vals n L f (listed.setIfInBounds i true)) a
theorem wpAny_of_F {vals : Nat → Value} {n g : Nat} {L : Array Bool → Act → Prop} (hL : ∀ listed a w, C w → L listed a → wpAny P md ops Q g listed a w) :
    ∀ (f : Nat) (listed : Array Bool) (a : Act) (w : World), C w → wpAnyF P md ops C vals n L f listed a → wpAny P md ops Q (f + g) listed a w
  | 0, listed, a, w, hw, h => by rw [Nat.zero_add]; exact hL _ _ _ hw h
  | f + 1, listed, a, w, hw, h => by
    rw [show f + 1 + g = (f + g) + 1 by omega]
    exact ⟨fun h0 => absurd h0 h.1, fun i hi => wpOp_of_fOp hw (fun a' w' hw' h' => wpAny_of_F hL f _ a' w' hw' h') (h.2 i hi).2⟩

/-- The tail: operations that come one behind the other, and behind all others. -/
def chT (md : Region.Mode) (ops : Array Oper) : List Nat → Bool
  | [] => true
  | [_] => true
  | s :: t :: r => Region.waitsFor md ops t s && chT md ops (t :: r)
def sinkT (md : Region.Mode) (ops : Array Oper) (n : Nat) (T : List Nat) (l0 : Array Bool) : Bool :=
  match T with
  | [] => true
  | t0 :: _ => (List.range n).all fun i => l0.getD i true || Region.waitsFor md ops t0 i || (List.range n).any fun j => decide (i < j) && Region.waitsFor md ops j i
structure Inv (md : Region.Mode) (ops : Array Oper) (n : Nat) (T : List Nat) (l0 listed : Array Bool) : Prop where
  size : listed.size = ops.size
  closed : ∀ j oj, ops[j]? = some oj → listed.getD j false = true → ∀ e ∈ oj.after, Region.binds md e = true → listed.getD e.on false = true
  tail : ∀ t ∈ T, n ≤ t ∧ listed.getD t true = false
  rest : ∀ t, n ≤ t → t ∉ T → listed.getD t true = true
  sub : ∀ i, listed.getD i true = false → l0.getD i true = false
theorem Inv.set {n i : Nat} {T : List Nat} {l0 listed : Array Bool} (inv : Inv md ops n T l0 listed) (hi : i ∈ Region.ready md ops listed) (hin : i < n) : Inv md ops n T l0 (listed.setIfInBounds i true) := by
  obtain ⟨_, oi, hoi, hall⟩ := mem_ready.1 hi
  refine ⟨by simp [inv.size], fun j oj hj hl e he hb => ?_, fun t ht => ⟨(inv.tail t ht).1, by rw [getD_set_ne true (by have := (inv.tail t ht).1; omega)]; exact (inv.tail t ht).2⟩, fun t ht htT => by rw [getD_set_ne true (by omega)]; exact inv.rest t ht htT, fun j hj => ?_⟩
  · by_cases hij : i = j
    · subst hij
      have : oj = oi := Option.some.inj (hj.symm.trans hoi)
      subst this
      exact getD_set_true (hall e he hb)
    · rw [getD_set_ne false hij] at hl
      exact getD_set_true (inv.closed j oj hj hl e he hb)
  · by_cases hij : i = j
    · subst hij
      rcases Nat.lt_or_ge i listed.size with h' | h'
      · simp [h'] at hj
      · simp [h'] at hj
    · rw [getD_set_ne true hij] at hj; exact inv.sub j hj
theorem ch_pred : ∀ (T : List Nat) (s t : Nat), chT md ops (s :: T) = true → t ∈ T → ∃ q ∈ s :: T, Region.waitsFor md ops t q = true
  | [], _, _, _, ht => by cases ht
  | u :: r, s, t, h, ht => by
    simp only [chT, Bool.and_eq_true] at h
    rcases List.mem_cons.1 ht with rfl | ht
    · exact ⟨s, by simp, h.1⟩
    · obtain ⟨q, hq, hw⟩ := ch_pred r u t h.2 ht
      exact ⟨q, List.mem_cons_of_mem _ hq, hw⟩
theorem waits {n : Nat} {T : List Nat} {l0 listed : Array Bool} (hc : chT md ops T = true) (hs : sinkT md ops n T l0 = true) (inv : Inv md ops n T l0 listed) :
    ∀ (d i : Nat), n - i = d → i < n → listed.getD i true = false → ∀ t, n ≤ t → t ∉ Region.ready md ops listed := by
  intro d
  induction d using Nat.strongRecOn with
  | _ d ih =>
    intro i hd hi hun t ht hr
    obtain ⟨htun, ot, hot, hall⟩ := mem_ready.1 hr
    by_cases htT : t ∈ T
    · rcases T with _ | ⟨t0, T'⟩
      · cases htT
      by_cases ht0 : t = t0
      · subst ht0
        have h1 := List.all_eq_true.1 hs i (List.mem_range.2 hi)
        rw [inv.sub i hun, Bool.false_or, Bool.or_eq_true] at h1
        rcases h1 with h1 | h1
        · obtain ⟨o', ho', e, he, hb, hon⟩ := Region.waitsFor_spec h1
          have : o' = ot := Option.some.inj (ho'.symm.trans hot)
          subst this
          have h2 := hall e he hb
          rw [hon, getD_both hun] at h2
          cases h2
        · obtain ⟨j, hj, hj2⟩ := List.any_eq_true.1 h1
          simp only [Bool.and_eq_true, decide_eq_true_eq] at hj2
          obtain ⟨oj, hoj, e, he, hb, hon⟩ := Region.waitsFor_spec hj2.2
          have hjn := List.mem_range.1 hj
          cases hl : listed.getD j false with
          | true =>
            have h2 := inv.closed j oj hoj hl e he hb
            rw [hon, getD_both hun] at h2
            cases h2
          | false =>
            have hjs : j < listed.size := by rw [inv.size]; exact (Array.getElem?_eq_some_iff.1 hoj).1
            exact ih (n - j) (by omega) j rfl hjn (getD_in hjs hl) t ht hr
      · have htT' : t ∈ T' := by
          rcases List.mem_cons.1 htT with h | h
          · exact absurd h ht0
          · exact h
        obtain ⟨q, hq, hw⟩ := ch_pred T' t0 t hc htT'
        obtain ⟨o', ho', e, he, hb, hon⟩ := Region.waitsFor_spec hw
        have : o' = ot := Option.some.inj (ho'.symm.trans hot)
        subst this
        have h2 := hall e he hb
        rw [hon, getD_both (inv.tail q hq).2] at h2
        cases h2
    · rw [inv.rest t ht htT] at htun; cases htun
theorem wpAnyF_first {vals : Nat → Value} {n i : Nat} {oi : Oper} {T : List Nat} {l0 : Array Bool} {L : Array Bool → Act → Prop} {w0 : World} (hw0 : C w0) (hi : ops[i]? = some oi) (hsel : ∀ (j : Nat) (o : Oper) cs b, ops[j]? = some o → o.op ≠ .select cs b)
    (hc : chT md ops T = true) (hs : sinkT md ops n T l0 = true) (hin : i < n) (hdone : ∀ listed a, L listed a → ∀ j ∈ Region.ready md ops listed, n ≤ j) :
    ∀ (f : Nat) (listed : Array Bool) (a : Act), Inv md ops n T l0 listed →
      (∀ j oj, ops[j]? = some oj → j ≠ i → listed.getD j true = false → (∀ e ∈ oj.after, Region.binds md e = true → e.on ≠ i) → oi.apart ops oj = true) →
      i ∈ Region.ready md ops listed → fOp P ops C vals i (wpAnyF P md ops C vals n L f (listed.setIfInBounds i true)) a → wpAnyF P md ops C vals n L (f + 1) listed a := by
  intro f
  induction f with
  | zero =>
    intro listed a inv _ hr H
    have hun := (mem_ready.1 hr).1
    refine ⟨fun h => (by rw [h] at hr; cases hr), fun j hj => ?_⟩
    have hjn : j < n := by
      rcases Nat.lt_or_ge j n with h | h
      · exact h
      · exact absurd hj (waits hc hs inv _ i rfl hin hun j h)
    refine ⟨hjn, ?_⟩
    by_cases hji : j = i
    · subst hji; exact H
    · obtain ⟨a', ha'⟩ := fOp_ex hw0 H
      have := hdone _ _ ha' j (ready_mono hj hji)
      omega
  | succ f ih =>
    intro listed a inv hfree hr H
    have hun := (mem_ready.1 hr).1
    refine ⟨fun h => (by rw [h] at hr; cases hr), fun j hj => ?_⟩
    have hjn : j < n := by
      rcases Nat.lt_or_ge j n with h | h
      · exact h
      · exact absurd hj (waits hc hs inv _ i rfl hin hun j h)
    refine ⟨hjn, ?_⟩
    by_cases hji : j = i
    · subst hji; exact H
    · obtain ⟨hjun, oj, hoj, hall⟩ := mem_ready.1 hj
      have hnot : ∀ e ∈ oj.after, Region.binds md e = true → e.on ≠ i := fun e he hb heq => by
        have h1 := hall e he hb
        rw [heq, getD_both hun] at h1
        cases h1
      have h1 := fOp_mono (K' := fun a1 => fOp P ops C vals j (wpAnyF P md ops C vals n L f ((listed.setIfInBounds i true).setIfInBounds j true)) a1) (fun a1 h => (h.2 j (ready_mono hj hji)).2) H
      have h2 := fOp_swap hw0 hi hoj (hfree j oj hoj hji hjun hnot) (fun cs b => hsel i oi cs b hi) (fun cs b => hsel j oj cs b hoj) h1
      have hfree' : ∀ k ok, ops[k]? = some ok → k ≠ i → (listed.setIfInBounds j true).getD k true = false →
          (∀ e ∈ ok.after, Region.binds md e = true → e.on ≠ i) → oi.apart ops ok = true := fun k ok hk hki hun hno => by
        refine hfree k ok hk hki ?_ hno
        by_cases hjk : j = k
        · subst hjk; exact hjun
        · rw [getD_set_ne true hjk] at hun; exact hun
      refine fOp_mono (fun a2 h3 => ih (listed.setIfInBounds j true) a2 (inv.set hj hjn) hfree' (ready_mono hr (Ne.symm hji)) ?_) h2
      rw [Array.setIfInBounds_comm _ _ hji]
      exact h3

/-- The order of the tail. -/
def seqL (md : Region.Mode) (ops : Array Oper) : List Nat → Array Bool → Bool
  | [], listed => (Region.ready md ops listed).isEmpty
  | k :: r, listed => decide (Region.ready md ops listed = [k]) && seqL md ops r (listed.setIfInBounds k true)
theorem seqL_ready {n : Nat} {T : List Nat} {listed : Array Bool} (hT : ∀ t ∈ T, n ≤ t) (h : seqL md ops T listed = true) : ∀ j ∈ Region.ready md ops listed, n ≤ j := by
  cases T with
  | nil => intro j hj; simp only [seqL, List.isEmpty_iff] at h; rw [h] at hj; cases hj
  | cons k r =>
    intro j hj
    simp only [seqL, Bool.and_eq_true, decide_eq_true_eq] at h
    rw [h.1] at hj
    have : j = k := by simpa using hj
    rw [this]; exact hT k (by simp)
theorem wpAny_of_seqL : ∀ (T : List Nat) (l : List Oper) (listed : Array Bool) (a : Act) (w : World), T.map (ops[·]?) = l.map some →
    seqL md ops T listed = true → wpList P ops Q l a w → wpAny P md ops Q T.length listed a w
  | [], [], listed, a, w, _, hB, h => ⟨by simpa [seqL] using hB, h⟩
  | [], _ :: _, _, _, _, hm, _, _ => by simp at hm
  | k :: T, [], _, _, _, hm, _, _ => by simp at hm
  | k :: T, o :: l, listed, a, w, hm, hB, h => by
    simp only [List.map_cons, List.cons.injEq] at hm
    simp only [seqL, Bool.and_eq_true, decide_eq_true_eq] at hB
    refine ⟨fun h1 => (by rw [hB.1] at h1; cases h1), fun i hi => ?_⟩
    rw [hB.1] at hi
    have hik : i = k := by simpa using hi
    subst hik
    have hw : wpOp P ops Q i (wpList P ops Q l) a w := by unfold wpOp; simp only [hm.1]; exact h
    exact wpOp_mono (fun a' w' h' => wpAny_of_seqL T l _ a' w' hm.2 hB.2 h') hw

/-- The order that is walked. -/
def ordB (md : Region.Mode) (ops : Array Oper) (n : Nat) (T : List Nat) : List Nat → Array Bool → Bool
  | [], listed => seqL md ops T listed
  | i :: r, listed => decide (i < n) && (Region.ready md ops listed).contains i && Region.free md ops listed i && ordB md ops n T r (listed.setIfInBounds i true)
def wpF (P : Program) (ops : Array Oper) (C : World → Prop) (vals : Nat → Value) (Q : Act → Prop) : List Nat → Act → Prop
  | [], a => Q a
  | i :: r, a => fOp P ops C vals i (wpF P ops C vals Q r) a
theorem wpAnyF_ord {vals : Nat → Value} {n : Nat} {T : List Nat} {l0 : Array Bool} {Lq : Act → Prop} {w0 : World} (hw0 : C w0) (hsel : Region.noSelect ops = true) (hc : chT md ops T = true) (hs : sinkT md ops n T l0 = true) (hT : ∀ t ∈ T, n ≤ t) :
    ∀ (r : List Nat) (listed : Array Bool) (a : Act), Inv md ops n T l0 listed → ordB md ops n T r listed = true → wpF P ops C vals Lq r a →
    wpAnyF P md ops C vals n (fun listed' a' => seqL md ops T listed' = true ∧ Lq a') r.length listed a
  | [], listed, a, _, hB, h => ⟨hB, h⟩
  | i :: r, listed, a, inv, hB, h => by
    simp only [ordB, Bool.and_eq_true, decide_eq_true_eq] at hB
    obtain ⟨⟨⟨hin, hr⟩, hf⟩, hB'⟩ := hB
    have hr' : i ∈ Region.ready md ops listed := by simpa using hr
    obtain ⟨_, oi, hoi, _⟩ := mem_ready.1 hr'
    exact wpAnyF_first hw0 hoi (Region.noSelect_spec hsel) hc hs hin (fun listed' a' hL => seqL_ready hT hL.1) r.length listed a inv (Region.free_spec hoi hf) hr'
      (fOp_mono (fun a' h' => wpAnyF_ord hw0 hsel hc hs hT r _ a' (inv.set hr' hin) hB' h') h)

def closedB (md : Region.Mode) (ops : Array Oper) (listed : Array Bool) : Bool :=
  (List.range ops.size).all fun j => !listed.getD j false || match ops[j]? with
    | some oj => oj.after.all fun e => !Region.binds md e || listed.getD e.on false
    | none => true
def softB (md : Region.Mode) (ops : Array Oper) (n : Nat) (T : List Nat) (r : List Nat) (listed : Array Bool) : Bool :=
  Region.noSelect ops && decide (listed.size = ops.size) && closedB md ops listed && (T.all fun t => decide (n ≤ t) && !listed.getD t true) && ((List.range ops.size).all fun t => decide (t < n) || T.contains t || listed.getD t true) && chT md ops T && sinkT md ops n T listed && ordB md ops n T r listed
theorem wpAny_soft {l l2 : List Oper} {n fuel : Nat} {T r : List Nat} {listed : Array Bool} {a : Act} {w : World} {vals : Nat → Value} (hB : softB md l.toArray n T r listed = true) (hT2 : T.map (l.toArray[·]?) = l2.map some) (hf : fuel = r.length + T.length) (hC : C w)
    (h : wpF P l.toArray C vals (fun a' => ∀ w', C w' → wpList P l.toArray Q l2 a' w') r a) : wpAny P md l.toArray Q fuel listed a w := by
  simp only [softB, Bool.and_eq_true, decide_eq_true_eq] at hB
  obtain ⟨⟨⟨⟨⟨⟨⟨hsel, hsz⟩, hcl⟩, htl⟩, hrest⟩, hch⟩, hsink⟩, hord⟩ := hB
  have hT : ∀ t ∈ T, n ≤ t ∧ listed.getD t true = false := fun t ht => by
    have := List.all_eq_true.1 htl t ht
    rw [Bool.and_eq_true, decide_eq_true_eq, Bool.not_eq_true'] at this
    exact this
  have inv : Inv md l.toArray n T listed listed := by
    refine ⟨hsz, fun j oj hj hl e he hb => ?_, hT, fun t ht htT => ?_, fun _ h => h⟩
    · have h1 := List.all_eq_true.1 hcl j (List.mem_range.2 (Array.getElem?_eq_some_iff.1 hj).1)
      rw [hl, Bool.not_true, Bool.false_or, hj] at h1
      have h2 := Array.all_eq_true'.1 h1 e he
      simpa [hb] using h2
    · rcases Nat.lt_or_ge t l.toArray.size with hlt | hge
      · have h1 := List.all_eq_true.1 hrest t (List.mem_range.2 hlt)
        rw [Bool.or_eq_true, Bool.or_eq_true, decide_eq_true_eq] at h1
        rcases h1 with (h1 | h1) | h1
        · omega
        · exact absurd (by simpa using h1) htT
        · exact h1
      · have : listed.size ≤ t := by rw [hsz]; exact hge
        simp [this]
  have H := wpAnyF_ord hC hsel hch hsink (fun t ht => (hT t ht).1) r listed a inv hord h
  have := wpAny_of_F (Q := Q) (g := T.length) (fun listed' a' w' hw' hL => wpAny_of_seqL T l2 listed' a' w' hT2 hL.1 (hL.2 w' hw')) _ _ _ _ hC H
  rw [hf]
  exact this
/-- The operations in the order of the text, those that are marked passed over (they have been taken already). -/
def wpLx (P : Program) (ops : Array Oper) (C : World → Prop) (vals : Nat → Value) (Q : Act → Prop) : Nat → List Oper → List Bool → Act → Prop
  | _, [], _, a => Q a
  | k, _ :: l, true :: fs, a => wpLx P ops C vals Q (k + 1) l fs a
  | k, o :: l, false :: fs, a => if Region.wanted o (yielded ops a.tmps) then sft P C (vals k) o a (wpLx P ops C vals Q (k + 1) l fs) else wpLx P ops C vals Q (k + 1) l fs (a.put o.dst undef)
  | k, o :: l, [], a => if Region.wanted o (yielded ops a.tmps) then sft P C (vals k) o a (wpLx P ops C vals Q (k + 1) l []) else wpLx P ops C vals Q (k + 1) l [] (a.put o.dst undef)
def idx : Nat → List Oper → List Bool → List Nat
  | _, [], _ => []
  | k, _ :: l, true :: fs => idx (k + 1) l fs
  | k, _ :: l, false :: fs => k :: idx (k + 1) l fs
  | k, _ :: l, [] => k :: idx (k + 1) l []
theorem wpF_of_lx {vals : Nat → Value} {Lq : Act → Prop} : ∀ (l : List Oper) (k : Nat) (fs : List Bool) (a : Act), (∀ j, j < l.length → l[j]? = ops[k + j]?) → wpLx P ops C vals Lq k l fs a → wpF P ops C vals Lq (idx k l fs) a
  | [], _, _, _, _, h => by simpa [wpLx, idx, wpF] using h
  | o :: l, k, fs, a, hl, h => by
    have h0 : ops[k]? = some o := by simpa using (hl 0 (by simp)).symm
    have hl' : ∀ j, j < l.length → l[j]? = ops[k + 1 + j]? := fun j hj => by
      have := hl (j + 1) (by simp; omega)
      simpa [Nat.add_assoc, Nat.add_comm 1 j] using this
    rcases fs with _ | ⟨f, fs⟩
    · simp only [wpLx] at h
      simp only [idx, wpF, fOp, h0]
      split
      · rename_i hw; simp only [hw, if_true] at h; exact sft_mono (fun a' h' => wpF_of_lx l _ _ a' hl' h') h
      · rename_i hw; simp only [hw] at h; exact wpF_of_lx l _ _ _ hl' h
    · cases f
      · simp only [wpLx] at h
        simp only [idx, wpF, fOp, h0]
        split
        · rename_i hw; simp only [hw, if_true] at h; exact sft_mono (fun a' h' => wpF_of_lx l _ _ a' hl' h') h
        · rename_i hw; simp only [hw] at h; exact wpF_of_lx l _ _ _ hl' h
      · simp only [wpLx] at h
        simp only [idx]
        exact wpF_of_lx l _ _ _ hl' h
/-- The tail's operations: those that are not marked. -/
def tl : List Oper → List Bool → List Oper
  | [], _ => []
  | _ :: l, true :: fs => tl l fs
  | o :: l, false :: fs => o :: tl l fs
  | o :: l, [] => o :: tl l []
theorem idx_tl : ∀ (l : List Oper) (k : Nat) (fs : List Bool), (∀ j, j < l.length → l[j]? = ops[k + j]?) → (idx k l fs).map (ops[·]?) = (tl l fs).map some
  | [], _, _, _ => by simp [idx, tl]
  | o :: l, k, fs, hl => by
    have h0 : ops[k]? = some o := by simpa using (hl 0 (by simp)).symm
    have hl' : ∀ j, j < l.length → l[j]? = ops[k + 1 + j]? := fun j hj => by
      have := hl (j + 1) (by simp; omega)
      simpa [Nat.add_assoc, Nat.add_comm 1 j] using this
    rcases fs with _ | ⟨f, fs⟩
    · simp only [idx, tl, List.map_cons, h0, idx_tl l (k + 1) [] hl']
    · cases f
      · simp only [idx, tl, List.map_cons, h0, idx_tl l (k + 1) fs hl']
      · simp only [idx, tl, idx_tl l (k + 1) fs hl']
theorem wpAny_lx {l : List Oper} {n fuel : Nat} {fs : List Bool} {listed : Array Bool} {a : Act} {w : World} (ft : List Bool) (vals : Nat → Value) (hB : softB md l.toArray n (idx n (l.drop n) ft) (idx 0 (l.take n) fs) listed = true)
    (hf : fuel = (idx 0 (l.take n) fs).length + (idx n (l.drop n) ft).length) (hC : C w)
    (h : wpLx P l.toArray C vals (fun a' => ∀ w', C w' → wpList P l.toArray Q (tl (l.drop n) ft) a' w') 0 (l.take n) fs a) : wpAny P md l.toArray Q fuel listed a w :=
  wpAny_soft hB (idx_tl _ _ _ (fun j hj => by simp [List.getElem?_drop])) hf hC (wpF_of_lx _ _ _ _ (fun j hj => by rw [List.length_take] at hj; simp [List.getElem?_take]; omega) h)
/-- A region whose order is open, walked in the order of the text up to operation n, then the tail. -/
theorem wp_soft {id n : Nat} {l : List Oper} {a : Act} {w : World} (vals : Nat → Value) (hm : P.follows .mixedOrders = true) (hB : softB .any l.toArray n (idx n (l.drop n) []) (idx 0 (l.take n) []) (Array.replicate l.toArray.size false) = true)
    (hf : l.toArray.size = (idx 0 (l.take n) []).length + (idx n (l.drop n) []).length) (h : wpLx P l.toArray (fun w' => ∃ n, w' = w.drewN n) vals (fun a' => ∀ w', (∃ n, w' = w.drewN n) → wpList P l.toArray Q (tl (l.drop n) []) a' w') 0 (l.take n) [] a) : (Code.region id l.toArray true).wp P Q a w :=
  wp_region_any hm (wpAny_lx [] vals hB hf ⟨1, rfl⟩ h)

/-! ### The steps -/
variable {vals : Nat → Value} {Lq : Act → Prop} {i k : Nat} {l : List Oper} {fs : List Bool} {a : Act} {o : Oper} {K : Act → Prop} {V : Value}
theorem lx_nil (h : Lq a) : wpLx P ops C vals Lq k [] fs a := by simpa [wpLx] using h
theorem lx_over (h : wpLx P ops C vals Lq (k + 1) l fs a) : wpLx P ops C vals Lq k (o :: l) (true :: fs) a := by simpa only [wpLx] using h
theorem lx_want (hw : Region.wanted o (yielded ops a.tmps) = true) (h : ∀ K : Act → Prop, (∀ a, wpLx P ops C vals Lq (k + 1) l fs a → K a) → sft P C (vals k) o a K) : wpLx P ops C vals Lq k (o :: l) (false :: fs) a := by
  simp only [wpLx, hw, if_true]
  exact h _ fun _ h => h
theorem lx_wantE (hw : Region.wanted o (yielded ops a.tmps) = true) (h : ∀ K : Act → Prop, (∀ a, wpLx P ops C vals Lq (k + 1) l [] a → K a) → sft P C (vals k) o a K) : wpLx P ops C vals Lq k (o :: l) [] a := by
  simp only [wpLx, hw, if_true]
  exact h _ fun _ h => h
theorem lx_skip (hw : Region.wanted o (yielded ops a.tmps) = false) (h : wpLx P ops C vals Lq (k + 1) l fs (a.put o.dst undef)) : wpLx P ops C vals Lq k (o :: l) (false :: fs) a := by
  simp only [wpLx, hw]
  exact h
theorem lx_skipE (hw : Region.wanted o (yielded ops a.tmps) = false) (h : wpLx P ops C vals Lq (k + 1) l [] (a.put o.dst undef)) : wpLx P ops C vals Lq k (o :: l) [] a := by
  simp only [wpLx, hw]
  exact h
theorem sft_move (x : Operand) (h : o.op = .move x) (hk : K (a.put o.dst (a.eval x))) : sft P C V o a K := fun w hw => by
  rw [BigFrame.run_move x h]; exact ⟨hw, hk⟩
theorem sft_assign (x : Operand) (h : o.op = .assign x) (hk : K (a.put o.dst (a.eval x))) : sft P C V o a K := fun w hw => by
  rw [BigFrame.run_assign x h]; exact ⟨hw, hk⟩
/-- Operations that never enter a function. -/
def plain : Op → Bool
  | .move _ | .assign _ | .pick .. | .load .. | .binOp .. | .unOp .. | .convert .. | .indexAddr .. | .fieldAddr .. | .field .. | .index .. | .extract .. | .slice .. => true
  | _ => false
theorem run_v (s : Sem Value) (w : World) (f : FuncId) (args : Array Value) (w' : World) : (do pure (Next.value (← s)) : Sem Next).run P w ≠ .ok (.enter f args) w' := by
  intro h
  simp only [Sem.run_bind] at h
  cases hs : s.run P w with
  | ok v w1 => rw [hs] at h; simp at h
  | halt x w1 => rw [hs] at h; simp at h
theorem plain_no (hp : plain o.op = true) (w : World) (f : FuncId) (args : Array Value) (w' : World) : (execOp a.eval o).run P w ≠ .ok (.enter f args) w' := by
  obtain ⟨dst, op, type, pos, after, guard⟩ := o
  cases op <;> simp only [plain] at hp <;> first | contradiction | skip
  all_goals unfold execOp
  case move x => intro h; simp at h
  case assign x => intro h; simp at h
  case pick c x y =>
    have := run_v (P := P) (do pure (if ← asBool (a.eval c) then a.eval x else a.eval y)) w f args w'
    simpa using this
  all_goals exact run_v (P := P) _ w f args w'
theorem sft_quiet (hp : plain o.op = true) (h : o.quiet P a C K) : sft P C V o a K := by
  obtain ⟨v, h1, h2⟩ := h
  intro w hw
  have h3 := h1 w hw
  have hn := plain_no (P := P) (a := a) hp w
  unfold Oper.quietAt at h3
  generalize (execOp a.eval o).run P w = q at *
  cases q with
  | ok n w' =>
    cases n <;> simp only [Oper.quietUpon] at h3
    case value u => obtain ⟨rfl, rfl⟩ := h3; exact ⟨hw, h2⟩
    case skip => obtain ⟨rfl, rfl⟩ := h3; exact ⟨hw, h2⟩
    case enter f args => exact absurd rfl (hn f args w')
  | halt x w' => simp only [Oper.quietUpon] at h3
/-- A call whose value is known. -/
theorem sft_call (h : ∀ w, C w → o.quietAt P a C w V) (hk : K (a.put o.dst V)) : sft P C V o a K := by
  intro w hw
  have h3 := h w hw
  unfold Oper.quietAt at h3
  generalize (execOp a.eval o).run P w = q at *
  cases q with
  | ok n w' =>
    cases n <;> simp only [Oper.quietUpon] at h3
    case value u => obtain ⟨rfl, rfl⟩ := h3; exact ⟨hw, hk⟩
    case skip => obtain ⟨rfl, rfl⟩ := h3; exact ⟨hw, hk⟩
    case enter f args => obtain ⟨rfl, hc⟩ := h3; exact ⟨hc, hk⟩
  | halt x w' => simp only [Oper.quietUpon] at h3
/-- Operations on floats. -/
theorem sft_ar {op : BinOp} {t u : TypeId} {X Y : Operand} {k : FloatKind} {x y cx cy : Nat} {w0 : World} (ho : o.op = .binOp op t X Y u) (hX : a.eval X = .float k x) (hY : a.eval Y = .float k y) (hop : arOp op = true) (h1 : Is k x cx) (h2 : Is k y cy)
    (h : ∀ r, Is k r (ar op k cx cy) → K (a.put o.dst (.float k r))) : sft P (fun w => ∃ n, w = w0.drewN n) V o a K := by
  rintro w ⟨n0, rfl⟩
  obtain ⟨r, n, hr, his⟩ := run_ar (P := P) op hop t k x y (w0.drewN n0)
  have he : (execOp a.eval o).run P (w0.drewN n0) = .ok (.value (.float k r)) ((w0.drewN n0).drewN n) := by
    unfold execOp
    simp only [ho, hX, hY]
    have hg : eqGuard op t X Y (.float k x) (.float k y) = pure () := by
      unfold eqGuard; cases op <;> simp
    simp [hg, hr]
  rw [he]
  rw [ar_is h1 h2] at his
  exact ⟨⟨_, World.drewN_drewN ..⟩, h r his⟩
theorem sft_wide {src dst : TypeId} {X : Operand} {x : Nat} {w0 : World} (ho : o.op = .convert src dst X) (hX : a.eval X = .float .f32 x) (hs : (P.underlying src).isSome = true) (hd : P.underlying dst = some (.float .f64))
    (h : ∀ r, Is .f64 r (wi x) → K (a.put o.dst (.float .f64 r))) : sft P (fun w => ∃ n, w = w0.drewN n) V o a K := by
  rintro w ⟨n0, rfl⟩
  obtain ⟨r, n, hr, his⟩ := run_wide src dst hs hd x (w0.drewN n0)
  have he : (execOp a.eval o).run P (w0.drewN n0) = .ok (.value (.float .f64 r)) ((w0.drewN n0).drewN n) := by
    unfold execOp
    simp [ho, hX, hr]
  rw [he]
  exact ⟨⟨_, World.drewN_drewN ..⟩, h r his⟩
theorem sft_narrow {src dst : TypeId} {X : Operand} {x : Nat} {w0 : World} (ho : o.op = .convert src dst X) (hX : a.eval X = .float .f64 x) (hs : (P.underlying src).isSome = true) (hd : P.underlying dst = some (.float .f32)) (hx : naOk x = true)
    (h : ∀ r, Is .f32 r (na x) → K (a.put o.dst (.float .f32 r))) : sft P (fun w => ∃ n, w = w0.drewN n) V o a K := by
  rintro w ⟨n0, rfl⟩
  obtain ⟨r, n, hr, his⟩ := run_narrow src dst hs hd x hx (w0.drewN n0)
  have he : (execOp a.eval o).run P (w0.drewN n0) = .ok (.value (.float .f32 r)) ((w0.drewN n0).drewN n) := by
    unfold execOp
    simp [ho, hX, hr]
  rw [he]
  exact ⟨⟨_, World.drewN_drewN ..⟩, h r his⟩
/-- What yields in whatever world may be taken ahead of all else. -/
theorem wpAny_pure {fuel : Nat} {listed : Array Bool} {w : World} {v : Value} (hi : l.toArray[i]? = some o) (hg : o.guard = none) (hs : Region.noSelect l.toArray = true) (hf : Region.free md l.toArray listed i = true)
    (hr : (Region.ready md l.toArray listed).contains i = true) (hQ' : ∀ c a v w, Q (.panic c) (a.put o.dst v) w → Q (.panic c) a w) (hy : ∀ w, (execOp a.eval o).run P w = .ok (.value v) w)
    (h : wpAny P md l.toArray Q fuel (listed.setIfInBounds i true) (a.put o.dst v) w) : wpAny P md l.toArray Q (fuel + 1) listed a w :=
  wpAny_take hi hs hf hr (fun c a w => hQ' c a _ w) (.inl ⟨by unfold Region.wanted; rw [hg], hy⟩) h
/-- A copy may be taken ahead of all else. -/
theorem wpAny_move {fuel : Nat} {listed : Array Bool} {w : World} (x : Operand) (hi : l.toArray[i]? = some o) (ho : o.op = .move x) (hg : o.guard = none) (hs : Region.noSelect l.toArray = true) (hf : Region.free md l.toArray listed i = true)
    (hr : (Region.ready md l.toArray listed).contains i = true) (hQ : ∀ c a w, Q (.panic c) (a.put o.dst (a.eval x)) w → Q (.panic c) a w)
    (hQ' : ∀ c a v w, Q (.panic c) (a.put o.dst v) w → Q (.panic c) a w)
    (h : wpAny P md l.toArray Q fuel (listed.setIfInBounds i true) (a.put o.dst (a.eval x)) w) : wpAny P md l.toArray Q (fuel + 1) listed a w :=
  wpAny_take hi hs hf hr (fun c a w => hQ' c a _ w) (.inl ⟨by unfold Region.wanted; rw [hg], fun w => BigFrame.run_move x ho w⟩) h
end
end Go.Proofs.Ytfcegkighjnmeaa.Sf
