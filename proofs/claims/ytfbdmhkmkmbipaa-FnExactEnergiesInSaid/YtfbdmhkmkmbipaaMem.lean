/-
  Lists of the call's own, and what becomes of memory when they are written over (no program in it).
-/
import Derived.Test.YtfbdmhkmkmbipaaRd
import Derived.ChangeSlices
namespace Go.Proofs.Ytfbdmhkmkmbipaa
open Go.RowKit Go.WideShapes Go.ChangeShapes

def il (xs : List Int) : List Value := xs.map (.int .i64)
theorem il_len (xs : List Int) : (il xs).length = xs.length := by simp [il]
theorem il_get (xs : List Int) (k : Nat) (h : k < xs.length) : (il xs)[k]? = some (.int .i64 xs[k]) := by simp [il, h]
theorem il_set (xs : List Int) (k : Nat) (x : Int) : (il xs).set k (.int .i64 x) = il (xs.set k x) := by simp [il, List.map_set]

/-- The slice value v reads as xs, lies from block lo on, and may be written. -/
def Own (w : World) (lo : Nat) (v : Value) (xs : List Value) : Prop :=
  ∃ A c, v = .slice A xs.length c ∧ xs.length ≤ c ∧ c ≤ maxLen ∧ (0 < xs.length → ∃ b off, A = some ⟨b, off, none⟩ ∧ lo ≤ b ∧ b < w.heap.size ∧
    (∀ (i : Nat) (x : Value), xs[i]? = some x → w.cell? ⟨b, off + i, none⟩ = some x) ∧ ∀ i, i < xs.length → w.frozen? ⟨b, off + i, none⟩ = false)
theorem Own.rd {w : World} {lo : Nat} {v : Value} {xs : List Value} (h : Own w lo v xs) : Rd w w.heap.size v xs := by
  obtain ⟨A, c, hv, h1, h2, h3⟩ := h
  refine ⟨A, c, hv, h1, h2, fun hp => ?_⟩
  obtain ⟨b, off, hA, _, hb, hc, _⟩ := h3 hp
  exact ⟨b, off, hA, hb, hc⟩
theorem Own.below {w w' : World} {lo : Nat} {v : Value} {xs : List Value} (h : Own w lo v xs) (hb : Below w.heap.size w w') : Own w' lo v xs := by
  obtain ⟨A, c, hv, h1, h2, h3⟩ := h
  refine ⟨A, c, hv, h1, h2, fun hp => ?_⟩
  obtain ⟨b, off, hA, hlo, hlt, hc, hf⟩ := h3 hp
  exact ⟨b, off, hA, hlo, by have := hb.size; omega, fun i x hx => (hb.cell (p := ⟨b, off + i, none⟩) hlt).trans (hc i x hx), fun i hi => (hb.frozen (p := ⟨b, off + i, none⟩) hlt).trans (hf i hi)⟩
theorem Own.less {w : World} {lo lo' : Nat} {v : Value} {xs : List Value} (h : Own w lo v xs) (hl : lo' ≤ lo) : Own w lo' v xs := by
  obtain ⟨A, c, hv, h1, h2, h3⟩ := h
  refine ⟨A, c, hv, h1, h2, fun hp => ?_⟩
  obtain ⟨b, off, hA, hlo, r⟩ := h3 hp
  exact ⟨b, off, hA, by omega, r⟩
theorem Own.drewN {w : World} {lo : Nat} {v : Value} {xs : List Value} (h : Own w lo v xs) (n : Nat) : Own (w.drewN n) lo v xs := h
theorem Rd.step {w w' : World} {v : Value} {xs : List Value} (h : Rd w w.heap.size v xs) (hb : Below w.heap.size w w') : Rd w' w'.heap.size v xs := (h.below hb).more hb.size
/-- What the laws on append and make leave. -/
theorem Own.row {w : World} {base : Nat} {e : TypeId} {v : Value} {n : Nat} {xs : List Value} (h : w.ownsRow base e 1 v n xs) : Own w base v xs := by
  have hn : xs.length = n := by have := h.1; omega
  subst hn
  rcases id h.2 with ⟨rfl, h0⟩ | ⟨g, cap, cur, rfl, hb, hg, hnc, hcm, _, _⟩
  · exact ⟨none, 0, by rw [h0], by omega, Nat.zero_le _, fun hp => by omega⟩
  · exact ⟨_, cap, rfl, hnc, hcm, fun hp => ⟨g, 0, rfl, hb, (Array.getElem?_eq_some_iff.1 hg).1, fun i x hx => by
      have hi := (List.getElem?_eq_some_iff.1 hx).1
      rw [Nat.zero_add, h.cellAt i (by omega)]; exact hx, fun i hi => by rw [Nat.zero_add]; exact h.frozenAt i⟩⟩

/-- n cells written over, one after another. -/
def putK (w : World) (b off : Nat) (f : Nat → Value) : Nat → World
  | 0 => w
  | k + 1 => (putK w b off f k).setCell ⟨b, off + k, none⟩ (f k)
theorem putK_size (w : World) (b off : Nat) (f : Nat → Value) (n : Nat) : (putK w b off f n).heap.size = w.heap.size := by
  induction n with
  | zero => rfl
  | succ k ih => simp [putK, World.setCell, ← ih]
theorem putK_cell_out (w : World) (b off : Nat) (f : Nat → Value) (n b' o : Nat) (h : b' ≠ b ∨ o < off ∨ off + n ≤ o) : (putK w b off f n).cell? ⟨b', o, none⟩ = w.cell? ⟨b', o, none⟩ := by
  induction n with
  | zero => rfl
  | succ k ih =>
    show ((putK w b off f k).setCell ⟨b, off + k, none⟩ (f k)).cell? _ = _
    rw [World.cell?_setCell_other _ _ _ _ (fun e => by simp only [Addr.mk.injEq] at e; omega)]
    exact ih (by omega)
theorem putK_frozen (w : World) (b off : Nat) (f : Nat → Value) (n : Nat) (a : Addr) : (putK w b off f n).frozen? a = w.frozen? a := by
  induction n with
  | zero => rfl
  | succ k ih => simp [putK, ih]
theorem putK_cell_in (w : World) (b off : Nat) (f : Nat → Value) (n : Nat) (h : ∀ i, i < n → (w.cell? ⟨b, off + i, none⟩).isSome = true) (i : Nat) (hi : i < n) : (putK w b off f n).cell? ⟨b, off + i, none⟩ = some (f i) := by
  induction n with
  | zero => omega
  | succ k ih =>
    show ((putK w b off f k).setCell ⟨b, off + k, none⟩ (f k)).cell? _ = _
    by_cases hk : i = k
    · subst hk
      obtain ⟨u, hu⟩ := Option.isSome_iff_exists.1 (h i hi)
      exact World.cell?_setCell_same _ _ _ (u := u) (by rw [putK_cell_out _ _ _ _ _ _ _ (.inr (.inr (Nat.le_refl _)))]; exact hu)
    · rw [World.cell?_setCell_other _ _ _ _ (fun e => by simp only [Addr.mk.injEq] at e; omega)]
      exact ih (fun j hj => h j (by omega)) (by omega)
theorem putK_below (w : World) (b off : Nat) (f : Nat → Value) (n B : Nat) (h : B ≤ b) : Below B w (putK w b off f n) := by
  induction n with
  | zero => exact Below.refl _ _
  | succ k ih => exact ih.setCell h _

/-- What is written over in a slice value. -/
def over (w : World) (v : Value) (f : Nat → Value) : World :=
  match v with
  | .slice (some ⟨b, off, _⟩) n _ => putK w b off f n
  | _ => w
theorem over_size (w : World) (v : Value) (f : Nat → Value) : (over w v f).heap.size = w.heap.size := by
  unfold over; split
  · exact putK_size _ _ _ _ _
  · rfl
theorem over_nil (w : World) (A : Option Addr) (c : Nat) (f : Nat → Value) : over w (.slice A 0 c) f = w := by
  cases A <;> rfl
theorem over_below {w : World} {lo : Nat} {v : Value} {xs : List Value} (h : Own w lo v xs) (f : Nat → Value) : Below lo w (over w v f) := by
  obtain ⟨A, c, rfl, h1, h2, h3⟩ := h
  by_cases hp : 0 < xs.length
  · obtain ⟨b, off, rfl, hlo, _⟩ := h3 hp
    exact putK_below _ _ _ _ _ _ hlo
  · obtain hz : xs.length = 0 := by omega
    rw [hz, over_nil]; exact Below.refl _ _
/-- It reads as what was written. -/
theorem over_own {w : World} {lo : Nat} {v : Value} {xs : List Value} (h : Own w lo v xs) (f : Nat → Value) : Own (over w v f) lo v ((List.range xs.length).map f) := by
  obtain ⟨A, c, rfl, h1, h2, h3⟩ := h
  refine ⟨A, c, by simp, by simpa using h1, h2, fun hp => ?_⟩
  have hp' : 0 < xs.length := by simpa using hp
  obtain ⟨b, off, rfl, hlo, hb, hc, hf⟩ := h3 hp'
  have hs : ∀ i, i < xs.length → (w.cell? ⟨b, off + i, none⟩).isSome = true := fun i hi => by rw [hc i _ (List.getElem?_eq_getElem hi)]; rfl
  refine ⟨b, off, rfl, hlo, by rw [over_size]; exact hb, fun i x hx => ?_, fun i hi => ?_⟩
  · have hi : i < xs.length := by have := (List.getElem?_eq_some_iff.1 hx).1; simpa using this
    have hxe : x = f i := by simp [List.getElem?_map, List.getElem?_range hi] at hx; exact hx.symm
    rw [hxe]
    exact putK_cell_in w b off f _ hs i hi
  · have hi' : i < xs.length := by simpa using hi
    show (putK w b off f xs.length).frozen? _ = _
    rw [putK_frozen]; exact hf i hi'
/-- No cell of v is one of u. -/
def Apart (v u : Value) : Prop :=
  ∀ a n c b m d, v = .slice (some a) n c → u = .slice (some b) m d → n = 0 ∨ m = 0 ∨ a.block ≠ b.block ∨ a.off + n ≤ b.off ∨ b.off + m ≤ a.off
theorem Apart.symm {v u : Value} (h : Apart v u) : Apart u v := by
  intro a n c b m d e1 e2
  have := h b m d a n c e2 e1
  omega
theorem over_rd {w : World} {lo B : Nat} {v u : Value} {ys xs : List Value} (h : Own w lo v xs) (hu : Rd w B u ys) (ha : Apart v u) (f : Nat → Value) : Rd (over w v f) B u ys := by
  obtain ⟨A, c, rfl, h1, h2, h3⟩ := h
  obtain ⟨A', c', rfl, h1', h2', h3'⟩ := hu
  refine ⟨A', c', rfl, h1', h2', fun hp' => ?_⟩
  obtain ⟨b', off', rfl, hb', hc'⟩ := h3' hp'
  refine ⟨b', off', rfl, hb', fun i x hx => ?_⟩
  by_cases hp : 0 < xs.length
  · obtain ⟨b, off, rfl, hlo, _⟩ := h3 hp
    have hi := (List.getElem?_eq_some_iff.1 hx).1
    have ha' : xs.length = 0 ∨ ys.length = 0 ∨ b ≠ b' ∨ off + xs.length ≤ off' ∨ off' + ys.length ≤ off := ha _ _ _ _ _ _ rfl rfl
    show (putK w b off f xs.length).cell? _ = _
    rw [putK_cell_out _ _ _ _ _ _ _ (by omega)]
    exact hc' i x hx
  · obtain hz : xs.length = 0 := by omega
    rw [hz, over_nil]; exact hc' i x hx
theorem over_ownOther {w : World} {lo lo' : Nat} {v u : Value} {ys xs : List Value} (h : Own w lo v xs) (hu : Own w lo' u ys) (ha : Apart v u) (f : Nat → Value) : Own (over w v f) lo' u ys := by
  have hr := over_rd h hu.rd ha f
  obtain ⟨A', c', rfl, h1', h2', h3'⟩ := hu
  refine ⟨A', c', rfl, h1', h2', fun hp' => ?_⟩
  obtain ⟨b', off', rfl, hlo', hb', hc', hf'⟩ := h3' hp'
  obtain ⟨A2, c2, e2, _, _, h4⟩ := hr
  obtain ⟨b2, off2, rfl, _, hc2⟩ := h4 hp'
  simp only [Value.slice.injEq, Option.some.injEq, Addr.mk.injEq, and_true] at e2
  obtain ⟨⟨rfl, rfl⟩, _, rfl⟩ := e2
  refine ⟨b', off', rfl, hlo', by rw [over_size]; exact hb', hc2, fun i hi => ?_⟩
  unfold over
  split
  · rw [putK_frozen]; exact hf' i hi
  · exact hf' i hi
/-- Lists of different makings lie apart. -/
theorem apart_of {w w' : World} {lo B : Nat} {v u : Value} {xs ys : List Value} (h : Own w lo v xs) (hu : Rd w' B u ys) (hB : B ≤ lo) : Apart v u := by
  obtain ⟨A, c, rfl, h1, h2, h3⟩ := h
  obtain ⟨A', c', rfl, h1', h2', h3'⟩ := hu
  intro a n cc b m d e1 e2
  simp only [Value.slice.injEq] at e1 e2
  obtain ⟨rfl, rfl, _⟩ := e1
  obtain ⟨rfl, rfl, _⟩ := e2
  by_cases hp : 0 < xs.length
  · by_cases hq : 0 < ys.length
    · obtain ⟨b1, o1, e1, hlo, _⟩ := h3 hp
      obtain ⟨b2, o2, e2, hlt, _⟩ := h3' hq
      simp only [Option.some.injEq] at e1 e2
      subst e1 e2
      simp only []
      omega
    · omega
  · omega

section
variable {H : Type} {enc : TypeId × Value → H} {P : Program} {w : World} {spare : Nat → Bool}
/-- A slice of int64 that came in reads as its numbers. -/
theorem open_i64s {t e : TypeId} {r : Reach} {b0 : Nat} {v : Value} {d : DataW H} {ps : List MemPlace} (ht : P.underlying t = some (.slice e)) (he : P.underlying e = some (.int .i64)) (hc : P.cellsOf e = 1)
    (hval : Value.okWide P w r b0 t v) (hd : DataW.Trod enc P w 0 spare true t v d ps) (hlt : ∀ x ∈ ps, x.block < w.heap.size) :
    ∃ xs : List Int, Rd w w.heap.size v (il xs) ∧ ∀ x ∈ xs, (Lit.int .i64 x).wf = true := by
  obtain ⟨a0, len0, cap0, rfl⟩ := okWide_slice ht hval
  obtain ⟨fuel, hf⟩ := hd
  rcases open_ints ht he hc hf with ⟨h0, _⟩ | ⟨a, len, cap, zs, hcs, _, hl, hm, hzl, hx, hel, hwf⟩
  · simp [Value.cells] at h0
    obtain ⟨rfl, rfl, rfl⟩ := h0
    exact ⟨[], ⟨none, 0, rfl, Nat.le_refl _, Nat.zero_le _, fun h => absurd h (by simp [il])⟩, by simp⟩
  · simp [Value.cells] at hcs
    obtain ⟨rfl, rfl, rfl⟩ := hcs
    have hml : len0 ≤ zs.length := by rw [hzl]; split <;> omega
    have hlen : (zs.take len0).length = len0 := by simp; omega
    refine ⟨zs.take len0, ?_, fun x hx => hwf x (List.mem_of_mem_take hx)⟩
    refine ⟨some a, cap0, by rw [il_len, hlen], by rw [il_len, hlen]; exact hl, hm, fun hp => ?_⟩
    have hpos : 0 < len0 := by rw [il_len, hlen] at hp; exact hp
    obtain ⟨b, off, spot⟩ := a
    have hspot : spot = none := by
      have h0 := hel 0 (by omega)
      simpa [Addr.add] using World.cell?_spot h0
    subst hspot
    refine ⟨b, off, rfl, ?_, fun i x hx => ?_⟩
    · have hin : MemPlace.cell b off ∈ ps := by
        have h2 := congrArg Prod.snd hx
        simp only [] at h2
        rw [h2]
        exact MemPlace.mem_row.2 ⟨0, by omega, by simp⟩
      exact hlt _ hin
    · have hi : i < len0 := by
        have := (List.getElem?_eq_some_iff.1 hx).1
        rw [il_len, hlen] at this; exact this
      rw [← add_plain, hel i (by omega)]
      have hxx : (il (zs.take len0))[i]? = some (.int .i64 (zs.getD i 0)) := by
        simp [il, hi, List.getD, show i < zs.length by omega]
      rw [hxx] at hx
      exact hx
end
end Go.Proofs.Ytfbdmhkmkmbipaa
