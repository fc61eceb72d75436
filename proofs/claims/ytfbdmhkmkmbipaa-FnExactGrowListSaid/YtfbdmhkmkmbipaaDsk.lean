/-
  Lemmas for loops over the library's iterator, and one weight's closure in them.
-/
import Derived.Test.YtfbdmhkmkmbipaaLoh
import Derived.Test.YtfbdmhkmkmbipaaBkw
import Derived.Test.YtfbdmhkmkmbipaaStkE
import Derived.Test.YtfbdmhkmkmbipaaLsk
import Derived.RangeFuncWrites
import Derived.Deep.RegionHeld3
import Derived.OrdersIn
import Derived.Test.YtfbdmhkmkmbipaaSft
import Derived.BigQuiet
namespace Go.Proofs.Ytfbdmhkmkmbipaa
open Go.RowKit Fl Go.Shelf
set_option linter.unusedVariables false
set_option maxRecDepth 100000
theorem own_kept {W W' : World} {lo : Nat} {v : Value} {ys : List Value} {row : Option Nat} (h : Own W lo v ys) (hg : W.grownBy W' row) (hr : ∀ r, row = some r → ∃ o : Obj, W.heap[r]? = some o ∧ o.isCells = false) : Own W' lo v ys := by
  obtain ⟨A, c, hv, h1, h2, h3⟩ := h
  refine ⟨A, c, hv, h1, h2, fun hp => ?_⟩
  obtain ⟨b, off, e, hlo, hb, hc, hf⟩ := h3 hp
  refine ⟨b, off, e, hlo, Nat.lt_of_lt_of_le hb hg.size, fun i x hx => cell_kept (hc i x hx) hg hr, fun i hi => ?_⟩
  have := hc i _ (List.getElem?_eq_getElem hi)
  exact (frozen_kept this hg hr).trans (hf i hi)
theorem lt_of_cell {w : World} {b k : Nat} {v : Value} (h : w.cell? ⟨b, k, none⟩ = some v) : b < w.heap.size := by
  obtain ⟨o, ho, _⟩ := cells_of_cell h
  exact (Array.getElem?_eq_some_iff.1 ho).1
def dgP (ws : List Nat) (p : List Nat × List Nat) (pre : List (Ixn ws.length)) : List Nat × List Nat := pre.foldl (fun q x => dgS ws q x.1) p
theorem dgP_snoc (ws : List Nat) (p : List Nat × List Nat) (pre : List (Ixn ws.length)) (x : Ixn ws.length) : dgP ws p (pre ++ [x]) = dgS ws (dgP ws p pre) x.1 := by simp [dgP]
theorem dgP_even (ws : List Nat) (p : List Nat × List Nat) (pre : List (Ixn ws.length)) (x : Ixn ws.length) (h : x.1 % 2 = 0) : dgP ws p (pre ++ [x]) = ((dgP ws p pre).1, upO (ngF (ws.getD x.1 0)) (dgP ws p pre).1 (dgP ws p pre).2) := by rw [dgP_snoc, dgS_even _ _ _ h]
theorem dgP_odd (ws : List Nat) (p : List Nat × List Nat) (pre : List (Ixn ws.length)) (x : Ixn ws.length) (h : x.1 % 2 = 1) : dgP ws p (pre ++ [x]) = (upE (ngF (ws.getD x.1 0)) (dgP ws p pre).2 (dgP ws p pre).1, (dgP ws p pre).2) := by rw [dgP_snoc, dgS_odd _ _ _ h]
theorem dgP_len (ws : List Nat) (p : List Nat × List Nat) (pre : List (Ixn ws.length)) : (dgP ws p pre).1.length = p.1.length ∧ (dgP ws p pre).2.length = p.2.length := by
  unfold dgP
  induction pre generalizing p with
  | nil => exact ⟨rfl, rfl⟩
  | cons x t ih =>
    have h := ih (dgS ws p x.1)
    have g := dgS_len ws p x.1
    exact ⟨h.1.trans g.1, h.2.trans g.2⟩
theorem dgP_upB_k (ws : List Nat) (p : List Nat × List Nat) (h0 : 0 < ws.length) : ∀ k, dgP ws p (upB h0 k) = dgK ws p k
  | 0 => rfl
  | k + 1 => by rw [upB_succ, dgP_snoc, dgP_upB_k ws p h0 k]; rfl
theorem dgP_upB (ws : List Nat) (p : List Nat × List Nat) (h0 : 0 < ws.length) : dgP ws p (upB h0 ws.length) = dgK ws p ws.length := dgP_upB_k ws p h0 _
theorem kpw_t {n₀ Bs : Nat} {A B C : World} (h : KpW n₀ Bs A B) (k : KpW n₀ Bs B C) : KpW n₀ Bs A C := ⟨h.1.trans k.1, k.2.trans h.2⟩
theorem kpw_b {n₀ Bs : Nat} {w : World} (hn : n₀ ≤ w.heap.size) (hB : Bs < w.heap.size) (W : World) (l : Nat) (o o' : Obj) (hl : w.heap.size ≤ l) (h : W.heap[l]? = some o) (hc : o.isCells = false) (hk : o.isWalk = false) : KpW n₀ Bs W (W.putObj l o') :=
  ⟨belowK_b hn W l o o' hl h hc hk, (belowK_b (w := w) (Nat.le_refl _) W l o o' hl h hc hk).cell (p := ⟨Bs, 0, none⟩) hB⟩
def DiR (w1 w7 : World) (ws tE tO : List Nat) (v u : Value) (gE gO : Nat) (pre : List (Ixn ws.length)) (W : World) : Prop :=
  ∃ cE cO : List Nat, Own W w1.heap.size v (fl cE) ∧ IsL cE (dgP ws (tE, tO) pre).1 ∧ Own W w1.heap.size u (fl cO) ∧ IsL cO (dgP ws (tE, tO) pre).2 ∧ W.cell? ⟨gE, 0, none⟩ = some v ∧ W.cell? ⟨gO, 0, none⟩ = some u ∧ Below w1.heap.size w1 W ∧ w7.heap.size ≤ W.heap.size
theorem diR_own {w1 w7 : World} {ws tE tO : List Nat} {v u : Value} {gE gO : Nat} (h : w1.heap.size ≤ w7.heap.size) : OwnFrom w7.heap.size (DiR w1 w7 ws tE tO v u gE gO) := fun s W W' row hs hg hr => by
  obtain ⟨cE, cO, h1, h2, h3, h4, h5, h6, h7, h8⟩ := hs
  have hr' : ∀ r, row = some r → ∃ o : Obj, W.heap[r]? = some o ∧ o.isCells = false := fun r e => (hr r e).2
  exact ⟨cE, cO, own_kept h1 hg hr', h2, own_kept h3 hg hr', h4, cell_kept h5 hg hr', cell_kept h6 hg hr', h7.grown hg (Nat.le_trans h h8) (fun k e => Nat.le_trans h (hr k e).1), Nat.le_trans h8 hg.size⟩
theorem rf_own {α : Type} {P : Program} {n : Nat} {g : Operand} {ps : Array Tmp} {assign body : Code} {Q : Exit → Act → World → Prop} {a : Act} {w : World}
    (h1 : 1 ≤ n) {gf : Nat} {lb : Array Value} (hg : a.eval g = .func (.func gf) #[] lb) (eg : ∀ args w, (callFunc gf args).run P w = .ok (.enter gf args) w)
    {encs : α → Array Value} {Kp : World → World → Prop} {S Sp : List α → Prop} {N : Nat} {w0 : World} (hseq : SeqStopsK Fence.wide (n - 1) P gf lb encs Kp S Sp N w0)
    (hKt : ∀ {A B C : World}, Kp A B → Kp B C → Kp A C) (hKb : ∀ (W : World) (l : Nat) (o o' : Obj), w.heap.size ≤ l → W.heap[l]? = some o → o.isCells = false → o.isWalk = false → Kp W (W.putObj l o')) (hb0 : Below w0.heap.size w0 w) (hps : ∀ x, (encs x).size = ps.size)
    (I : List α → World → Prop) (hI : OwnFrom w.heap.size I) (h0 : I [] w)
    (h : ∃ a₁ : α → Act, (∀ (l : Nat) (x : α) (W : World) (K : Act → World → Prop), K (a₁ x) W →
      assign.wpIn (Fence.wide.inRound l) (n - 1 - 1) P (Exit.then K (fun _ _ _ => False)) { tmps := (ps.zip (encs x)).foldl (fun t (p, v) => t.setIfInBounds p v) a.tmps, defers := [] } W) ∧
      (∀ (l : Nat) (pre : List α) (x : α) (W : World), I pre W → pre.length < N → body.wpIn (Fence.wide.inRound l) (n - 1 - 1) P (ownPostG w.heap.size Kp I (fun _ _ _ => False) (pre ++ [x]) W) (a₁ x) W) ∧
      (∀ (D : Nat) (xs : List α) (W : World), w.heap.size ≤ D → S xs → I xs W → W.heap[D]? = some (.deferred (some [])) → Q .normal { a with defers := { target := .collected D, args := #[] } :: a.defers } W)) :
    (Code.rangeFunc g ps assign body).wp P Q a w := by
  obtain ⟨a₁, ha, hb, hd⟩ := h
  exact wpIn_wide.1 (wpIn_rangeFunc_ownG rfl h1 hg trivial eg hseq hKt hKb hb0 hps I (fun _ _ _ => False) hI (fun _ _ _ _ _ hs _ _ => hs) h0 a₁ ha hb hd (fun _ _ _ _ _ _ h _ => h.elim))
theorem operIn_of {P : Program} {l n : Nat} {o : Oper} {a : Act} {w : World} {K K' : Act → World → Prop} {Q : Exit → Act → World → Prop} (hd : ∀ c, o.op ≠ .defer c) (hK : ∀ a w, K a w → K' a w) (h : o.wp P a w K Q) : o.wpIn (Fence.wide.inRound l) n P a w K' Q := by
  unfold Oper.wp at h
  unfold Oper.wpIn
  rw [Oper.semAt_eq _ _ _ hd]
  refine ⟨fun _ _ => trivial, ?_⟩
  generalize (execOp a.eval o).run P w = r at *
  cases r with
  | ok x w' =>
    cases x <;> simp only [Oper.upon, Oper.uponIn] at h ⊢ <;>
      first
        | exact hK _ _ h
        | exact ⟨fun e => (by cases e), CallsIn.inRound l (callsIn_wide.2 (h.mono (fun e w'' he => by cases e <;> first | exact hK _ _ he | exact he)))⟩
        | exact ⟨fun e => (by cases e), fun c cs _ => let ⟨v, w1, r, s⟩ := h c cs; ⟨v, w1, hK _ _ r, stepsIn_wide.2 s⟩⟩
        | exact h.elim
  | halt x w' => cases x <;> simp only [Oper.upon, Oper.uponIn] at h ⊢ <;> exact h
theorem wpOpIn_of {P : Program} {l n i : Nat} {ops : Array Oper} {a : Act} {w : World} {K K' : Act → World → Prop} {Q : Exit → Act → World → Prop} (hd : ∀ (j : Nat) (o : Oper), ops[j]? = some o → ∀ c, o.op ≠ .defer c) (hL : ¬ LetsOut Q) (hK : ∀ a w, K a w → K' a w)
    (h : wpOp P ops Q i K a w) : wpOpIn (Fence.wide.inRound l) n P ops Q i K' a w := by
  unfold wpOp at h
  unfold wpOpIn
  cases ho : ops[i]? with
  | none => simp only [ho] at h ⊢; exact hK _ _ h
  | some o =>
    simp only [ho] at h ⊢
    split
    · rename_i hw
      simp only [hw, if_true] at h
      rcases h with h | ⟨_, h⟩
      · exact operIn_of (hd _ _ ho) hK h
      · exact (hL h).elim
    · rename_i hw
      simp only [hw] at h
      exact ⟨fun _ _ => trivial, hK _ _ h⟩
theorem wpAnyIn_of {P : Program} {l n : Nat} {md : Region.Mode} {ops : Array Oper} {Q : Exit → Act → World → Prop} (hd : ∀ (j : Nat) (o : Oper), ops[j]? = some o → ∀ c, o.op ≠ .defer c) (hL : ¬ LetsOut Q) :
    ∀ (fuel : Nat) (listed : Array Bool) (a : Act) (w : World), wpAny P md ops Q fuel listed a w → wpAnyIn (Fence.wide.inRound l) n P md ops Q fuel listed a w
  | 0, _, _, _, h => h
  | f + 1, listed, _, _, h => ⟨h.1, fun i hi => wpOpIn_of hd hL (fun a w => wpAnyIn_of hd hL f _ a w) (h.2 i hi)⟩
/-- A region that draws its order, in a round, where some cells hold. -/
theorem wpIn_held {P : Program} {l n : Nat} {S : World → Prop} {id : Nat} {ops : Array Oper} {Q : Exit → Act → World → Prop} {a : Act} {w : World} (hm : P.follows .mixedOrders = true) (hd : ∀ o ∈ ops, ∀ c, o.op ≠ .defer c) (hL : ¬ LetsOut Q) (hS : S w.drew)
    (h : S w.drew → wpAnyH P .any ops Q S ops.size (Array.replicate ops.size false) a w.drew) : (Code.region id ops true).wpIn (Fence.wide.inRound l) n P Q a w :=
  wpIn_region_any hm (wpAnyIn_of (fun j o hj => hd o (Array.mem_of_getElem? hj)) hL _ _ _ _ (wpAny_of_held _ _ _ _ (h hS)))
theorem stkO_run (k wt : Nat) (vl vh : Value) (cE tE cO tO : List Nat) (w : World) (lo : Nat) (he : k % 2 = 0) (hlo : lo ≤ w.heap.size) (hw : Is .f32 wt wt) (ho : Own w lo vh (fl cO)) (hr : Own w lo vl (fl cE)) (hap : Apart vh vl) (hx : IsL cE tE) (ht : IsL cO tO) (hl : cO.length ≤ cE.length) (hm : cE.length ≤ 128) :
    Calls Try.prog 141 #[vl, vh, .pointer (some ⟨w.heap.size, 0, none⟩)] (w.alloc (.cells #[.float .f32 wt] 23)) (RetStk lo vh vl cE (upO wt tE tO) (w.alloc (.cells #[.float .f32 wt] 23))) := by
  have hb : Below w.heap.size w (w.alloc (.cells #[.float .f32 wt] 23)) := (Below.refl _ _).alloc (Nat.le_refl _) _
  refine stk1_any w.heap.size wt wt vl vh cE tE cO tO _ lo ((cell_of_row _ _ _ _ _ _ (heap_alloc_new w _)).trans rfl) hw ?_ (ho.below hb) (hr.below hb) hap hx ht hl hm
  intro a n c e hn
  subst e
  obtain ⟨A, c', hv, _, _, h3⟩ := ho
  injection hv with e1 e2 e3
  obtain ⟨b, off, hA, _, hbw, _⟩ := h3 (by omega)
  rw [hA] at e1
  injection e1 with e1
  subst e1
  exact fun h => by simp only at h; omega
theorem stkE_run (k wt : Nat) (vl vh : Value) (cE tE cO tO : List Nat) (w : World) (lo : Nat) (he : k % 2 = 1) (hlo : lo ≤ w.heap.size) (hw : Is .f32 wt wt) (ho : Own w lo vl (fl cE)) (hr : Own w lo vh (fl cO)) (hap : Apart vl vh) (hx : IsL cO tO) (ht : IsL cE tE) (hl : cE.length ≤ cO.length + 1) (hp : 0 < cO.length) (hm : cO.length ≤ 128) :
    Calls Try.prog 143 #[vl, vh, .pointer (some ⟨w.heap.size, 0, none⟩)] (w.alloc (.cells #[.float .f32 wt] 23)) (RetStk lo vl vh cO (upE wt tO tE) (w.alloc (.cells #[.float .f32 wt] 23))) := by
  have hb : Below w.heap.size w (w.alloc (.cells #[.float .f32 wt] 23)) := (Below.refl _ _).alloc (Nat.le_refl _) _
  refine stk2_any w.heap.size wt wt vl vh cO tO cE tE _ lo ((cell_of_row _ _ _ _ _ _ (heap_alloc_new w _)).trans rfl) hw ?_ (ho.below hb) (hr.below hb) hap hx ht hl hp hm
  intro a n c e hn
  subst e
  obtain ⟨A, c', hv, _, _, h3⟩ := ho
  injection hv with e1 e2 e3
  obtain ⟨b, off, hA, _, hbw, _⟩ := h3 (by omega)
  rw [hA] at e1
  injection e1 with e1
  subst e1
  exact fun h => by simp only at h; omega
def DgR (wB w : World) (lo : Nat) (v u : Value) (xs t : List Nat) (f : Nat → Nat) (i : Value) (wr : World) : Prop :=
  ∃ (k : Nat) (cur : List Nat), k ≤ t.length ∧ i = .int .i64 k ∧ Own wr lo v (fl cur) ∧ IsL cur (prN t f k) ∧ Own wr lo u (fl xs) ∧ Below lo w wr ∧ KpC v wB wr
theorem ne_blk {b o n c g : Nat} (h : b ≠ g) : ∀ (a : Addr) (n' c' : Nat), Value.slice (some ⟨b, o, none⟩) n c = .slice (some a) n' c' → 0 < n' → a.block ≠ g := by
  intro a n' c' e _
  injection e with e1
  injection e1 with e1
  subst e1
  exact h
theorem apart_blk {b o n c b' o' n' c' : Nat} (h : b ≠ b') : Apart (.slice (some ⟨b, o, none⟩) n c) (.slice (some ⟨b', o', none⟩) n' c') := by
  intro a m d a' m' d' e1 e2
  injection e1 with e1
  injection e2 with e2
  injection e1 with e1
  injection e2 with e2
  subst e1 e2
  exact .inr (.inr (.inl h))
theorem kpc_put {b off n c k N r : Nat} {wB wr : World} (h : KpC (.slice (some ⟨b, off, none⟩) n c) wB wr) (hk : k < n) : KpC (.slice (some ⟨b, off, none⟩) n c) wB ((wr.drewN N).setCell ⟨b, off + k, none⟩ (.float .f32 r)) := fun q hq => by
  rw [World.cell?_setCell_other _ _ _ _ (fun e => hq _ _ _ rfl (by omega) (by simp only [Addr.mk.injEq] at e; exact e.1))]; exact h q hq
end Go.Proofs.Ytfbdmhkmkmbipaa
