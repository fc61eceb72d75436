/-
  Contracts: takes: the law's own copies, comparisons and sizes; valid ones, of both sides.
-/
import Derived.Test.YthkklilfignmpaaDk
import Derived.Test.YthkklilfignmpaaName
import Derived.Test.YthkklilfignmpaaLng
import Derived.Test.YthkklilfignmpaaOpD
namespace Go.Proofs.Ythkklilfignmpaa
open Go.RowKit Fl
set_option linter.unusedVariables false
set_option maxRecDepth 100000

def TkR (w : World) (v : Value) (a : List Nat) : Prop := Rd w w.heap.size v (fl a)
theorem TkR.step {w w' : World} {v : Value} {a : List Nat} (h : TkR w v a) (hb : Below w.heap.size w w') : TkR w' v a := Rd.step h hb
def tkN (nm : ByteArray) (a : List Nat) : Int := (nm.size : Int) + a.length
set_option maxHeartbeats 2000000 in
theorem szT_R (v : Value) (a : List Nat) (nm : ByteArray) (r l : Int) (w : World) (h : TkR w v a) (hl0 : 0 ≤ l) (hl1 : l ≤ 1048576) (hn : nm.size ≤ 9223372036854775807) (hm : a.length ≤ 9223372036854775807) :
    Calls Try.prog 22 #[.agg #[.string nm, .int .i64 r, v], .int .i64 l] w fun e w' => e = .returned (.int .i64 (if l < tkN nm a then -1 else l - tkN nm a)) ∧ Below w.heap.size w w' := by
  have h : Rd w w.heap.size v (fl a) := h
  obtain ⟨w0, hw0⟩ : ∃ w0, w.alloc (.cells #[.string nm, .int .i64 r, v] 45) = w0 := ⟨_, rfl⟩
  have HZ := Lib.hid (fun (W : World) (hb : Below w.heap.size w W) (hl : 0 ≤ l - nm.size) => Sf.szF_any v a (l - nm.size) W w.heap.size (h.below hb) hl (by omega) hm)
  have hb0 : Below w.heap.size w w0 := by rw [← hw0]; exact (Below.refl _ _).alloc (Nat.le_refl _) _
  have hX0 : Bx w0 w.heap.size [.string nm, .int .i64 r, v] := by rw [← hw0]; exact bx_new w [.string nm, .int .i64 r, v] _
  have HB0 := Lib.hid hb0
  have hN : tkN nm a = (nm.size : Int) + a.length := rfl
  have p0 := (hX0.2 0 _ rfl).1
  have p2 := (hX0.2 2 _ rfl).1
  obtain ⟨A, c, hv, _, _, _⟩ := id h
  rw [fl_len] at hv
  subst hv
  clear h hX0 hb0
  by_cases g0 : l < nm.size
  · rw [if_pos (show l < tkN nm a by omega)]
    go_enter Try.func22, Try.ntmps22
    go_wp2_with fail
    go_ret
    exact ⟨rfl, HB0.out⟩
  · have g0' : (nm.size : Int) ≤ l := by omega
    by_cases g1 : l - nm.size < a.length
    · rw [if_pos (show l < tkN nm a by omega)]
      go_enter Try.func22, Try.ntmps22
      go_wp2_with fail
      refine (HZ.out _ HB0.out (by omega)).mono ?_
      rintro e w1 ⟨rfl, rfl⟩
      rw [if_pos (by omega)]
      go_wp2_with fail
      go_ret
      exact ⟨rfl, HB0.out⟩
    · rw [if_neg (show ¬ l < tkN nm a by omega), show l - tkN nm a = l - nm.size - a.length by omega]
      go_enter Try.func22, Try.ntmps22
      go_wp2_with fail
      refine (HZ.out _ HB0.out (by omega)).mono ?_
      rintro e w1 ⟨rfl, rfl⟩
      rw [if_neg (by omega)]
      go_wp2_with fail
      go_ret
      exact ⟨rfl, HB0.out⟩
set_option maxHeartbeats 2000000 in
theorem eqT_R (v u : Value) (a : List Nat) (nm : ByteArray) (r : Int) (w : World) (h : TkR w v a) (k : TkR w u a) (hm : a.length ≤ 1048576) :
    Calls Try.prog 26 #[.agg #[.string nm, .int .i64 r, v], .agg #[.string nm, .int .i64 r, u]] w fun e w' => e = .returned (.bool true) ∧ Below w.heap.size w w' := by
  have h : Rd w w.heap.size v (fl a) := h
  have k : Rd w w.heap.size u (fl a) := k
  obtain ⟨w0, hw0⟩ : ∃ w0, (w.alloc (.cells #[.string nm, .int .i64 r, v] 48)).alloc (.cells #[.string nm, .int .i64 r, u] 48) = w0 := ⟨_, rfl⟩
  have HE := Lib.hid (fun (W : World) (hb : Below w.heap.size w W) => eqF_any v u a a W w.heap.size (h.below hb) (k.below hb) (Worth.refl _) hm)
  have hb0 : Below w.heap.size w w0 := by rw [← hw0]; exact ((Below.refl _ _).alloc (Nat.le_refl _) _).alloc (by simp) _
  have hX0 : Bx w0 w.heap.size [.string nm, .int .i64 r, v] := by rw [← hw0]; exact (bx_new w [.string nm, .int .i64 r, v] _).step ((Below.refl _ _).alloc (Nat.le_refl _) _)
  have hY0 : Bx w0 (w.heap.size + 1) [.string nm, .int .i64 r, u] := by rw [← hw0]; have := bx_new (w.alloc (.cells #[.string nm, .int .i64 r, v] 48)) [.string nm, .int .i64 r, u] 48; simpa using this
  have x0 := (hX0.2 0 _ rfl).1
  have y0 := (hY0.2 0 _ rfl).1
  have x1 := (hX0.2 1 _ rfl).1
  have y1 := (hY0.2 1 _ rfl).1
  have x2 := (hX0.2 2 _ rfl).1
  have y2 := (hY0.2 2 _ rfl).1
  have HB0 := Lib.hid hb0
  obtain ⟨A, c, hv, _, _, _⟩ := id h
  rw [fl_len] at hv
  subst hv
  obtain ⟨E, d, hu, _, _, _⟩ := id k
  rw [fl_len] at hu
  subst hu
  clear h k hX0 hY0 hb0
  go_enter Try.func26, Try.ntmps26
  go_wp2_with fail
  refine (HE.out _ HB0.out).mono ?_
  rintro e w1 ⟨rfl, n1, rfl⟩
  go_wp2_with fail
  go_ret
  exact ⟨rfl, below_drawn HB0.out _⟩
set_option maxHeartbeats 4000000 in
theorem toT_R (v : Value) (a : List Nat) (nm : ByteArray) (r : Int) (w : World) (h : TkR w v a) (hm : a.length ≤ 1048576) :
    Calls Try.prog 24 #[.agg #[.string nm, .int .i64 r, v]] w fun e w' => ∃ u, e = .returned (.agg #[.string nm, .int .i64 r, u]) ∧ TkR w' u a ∧ Below w.heap.size w w' := by
  have h : Rd w w.heap.size v (fl a) := h
  obtain ⟨w0, hw0⟩ : ∃ w0, ((w.alloc (.cells #[.string nm, .int .i64 r, v] 45)).alloc (.cells #[.string ⟨#[]⟩, .int .i64 0, .slice none 0 0] 48)).alloc (.cells #[.string ⟨#[]⟩, .int .i64 0, .slice none 0 0] 48) = w0 := ⟨_, rfl⟩
  have HT := Lib.hid (fun (W : World) (hb : Below w.heap.size w W) => toF_any v a W w.heap.size (h.below hb) hb.size hm)
  have hb0 : Below w.heap.size w w0 := by rw [← hw0]; exact (((Below.refl _ _).alloc (Nat.le_refl _) _).alloc (by simp) _).alloc (by simp; omega) _
  have hk : w0.heap.size = w.heap.size + 1 + 1 + 1 := by rw [← hw0]; simp
  have hX0 : Bx w0 w.heap.size [.string nm, .int .i64 r, v] := by rw [← hw0]; exact ((bx_new w [.string nm, .int .i64 r, v] _).step ((Below.refl _ _).alloc (Nat.le_refl _) _)).step ((Below.refl _ _).alloc (Nat.le_refl _) _)
  have hR0 : Bx w0 (w.heap.size + 1) [.string ⟨#[]⟩, .int .i64 0, .slice none 0 0] := by rw [← hw0]; have := (bx_new (w.alloc (.cells #[.string nm, .int .i64 r, v] 45)) [.string ⟨#[]⟩, .int .i64 0, .slice none 0 0] 48).step ((Below.refl _ _).alloc (Nat.le_refl _) (.cells #[.string ⟨#[]⟩, .int .i64 0, .slice none 0 0] 48)); simpa using this
  have hO0 : Bx w0 (w.heap.size + 1 + 1) [.string ⟨#[]⟩, .int .i64 0, .slice none 0 0] := by rw [← hw0]; have := bx_new ((w.alloc (.cells #[.string nm, .int .i64 r, v] 45)).alloc (.cells #[.string ⟨#[]⟩, .int .i64 0, .slice none 0 0] 48)) [.string ⟨#[]⟩, .int .i64 0, .slice none 0 0] 48; simpa using this
  obtain ⟨w1, hw1⟩ : ∃ W, (w0.setCell ⟨w.heap.size + 1 + 1, 0, none⟩ (.string nm)).setCell ⟨w.heap.size + 1 + 1, 1, none⟩ (.int .i64 r) = W := ⟨_, rfl⟩
  have x0 := (hX0.2 0 _ rfl).1
  have d0 := (hO0.2 0 _ rfl).1
  have e0 := (hO0.2 0 _ rfl).2
  have x1 := (hX0.2 1 _ rfl).1
  have d1 := (hO0.2 1 _ rfl).1
  have e1 := (hO0.2 1 _ rfl).2
  have hb1 : Below w.heap.size w w1 := by rw [← hw1]; exact (hb0.setCell (p := ⟨w.heap.size + 1 + 1, 0, none⟩) (by show _ ≤ w.heap.size + 1 + 1; omega) _).setCell (p := ⟨w.heap.size + 1 + 1, 1, none⟩) (by show _ ≤ w.heap.size + 1 + 1; omega) _
  have hX1 : Bx w1 w.heap.size [.string nm, .int .i64 r, v] := by rw [← hw1]; exact (hX0.other (g' := w.heap.size + 1 + 1) (by omega) 0 _).other (g' := w.heap.size + 1 + 1) (by omega) 1 _
  have hR1 : Bx w1 (w.heap.size + 1) [.string ⟨#[]⟩, .int .i64 0, .slice none 0 0] := by rw [← hw1]; exact (hR0.other (g' := w.heap.size + 1 + 1) (by omega) 0 _).other (g' := w.heap.size + 1 + 1) (by omega) 1 _
  have hO1 : Bx w1 (w.heap.size + 1 + 1) [.string nm, .int .i64 r, .slice none 0 0] := by rw [← hw1]; exact (hO0.set 0 (by simp) (.string nm)).set 1 (by simp) (.int .i64 r)
  have hk1 : w1.heap.size = w.heap.size + 1 + 1 + 1 := by rw [← hw1, ← hk]; simp [World.setCell]
  have x2 := (hX1.2 2 _ rfl).1
  have HR1 := Lib.hid hR1
  have HO1 := Lib.hid hO1
  have HB1 := Lib.hid hb1
  have HK1 := Lib.hid hk1
  obtain ⟨A, c, hv, _, _, _⟩ := id h
  rw [fl_len] at hv
  subst hv
  clear h hX0 hR0 hO0 hb0 hk hX1 hR1 hO1 hb1 hk1
  have hsf : ∀ (a : Addr) (x : Nat) (w : World), (store a (.float .f32 x)).run Try.prog w = stored Try.prog w a (.float .f32 x) .plain := fun a x w => run_store _ w a _ _ rfl
  go_enter Try.func24, Try.ntmps24
  go_wp2_with fail
  refine (HT.out _ HB1.out).mono ?_
  rintro e w2 ⟨g, rfl, ho, hb⟩
  have HB2 := Lib.hid (HB1.out.trans (hb.mono HB1.out.size))
  have HR2 := Lib.hid (HR1.out.step hb)
  have HO2 := Lib.hid (HO1.out.step hb)
  have HN := Lib.hid (show Own w2 (w.heap.size + 1 + 1 + 1) (.slice (some ⟨g, 0, none⟩) a.length a.length) (fl a) from (Own.row ho).less (by have := HK1.out; omega))
  clear hb ho hw1 d0 d1 e0 e1 x0 x1 x2
  have d2 := (HO2.out.2 2 _ rfl).1
  have e2 := (HO2.out.2 2 _ rfl).2
  obtain ⟨w3, hw3⟩ : ∃ W, w2.setCell ⟨w.heap.size + 1 + 1, 2, none⟩ (.slice (some ⟨g, 0, none⟩) a.length a.length) = W := ⟨_, rfl⟩
  have HB3 := Lib.hid (show Below w.heap.size w w3 by rw [← hw3]; exact HB2.out.setCell (p := ⟨w.heap.size + 1 + 1, 2, none⟩) (by show _ ≤ w.heap.size + 1 + 1; omega) _)
  have HO3 := Lib.hid (show Bx w3 (w.heap.size + 1 + 1) [.string nm, .int .i64 r, .slice (some ⟨g, 0, none⟩) a.length a.length] by rw [← hw3]; exact HO2.out.set 2 (by simp) (.slice (some ⟨g, 0, none⟩) a.length a.length))
  have HR3 := Lib.hid (show Bx w3 (w.heap.size + 1) [.string ⟨#[]⟩, .int .i64 0, .slice none 0 0] by rw [← hw3]; exact HR2.out.other (g' := w.heap.size + 1 + 1) (by omega) 2 _)
  have HN3 := Lib.hid (show Own w3 (w.heap.size + 1 + 1 + 1) (.slice (some ⟨g, 0, none⟩) a.length a.length) (fl a) by rw [← hw3]; exact HN.out.setLess (a := ⟨w.heap.size + 1 + 1, 2, none⟩) (by show w.heap.size + 1 + 1 < w.heap.size + 1 + 1 + 1; omega) _)
  have o0 := (HO3.out.2 0 _ rfl).1
  have r0 := (HR3.out.2 0 _ rfl).1
  have f0 := (HR3.out.2 0 _ rfl).2
  have o1 := (HO3.out.2 1 _ rfl).1
  have r1 := (HR3.out.2 1 _ rfl).1
  have f1 := (HR3.out.2 1 _ rfl).2
  have o2 := (HO3.out.2 2 _ rfl).1
  have r2 := (HR3.out.2 2 _ rfl).1
  have f2 := (HR3.out.2 2 _ rfl).2
  obtain ⟨w4, hw4⟩ : ∃ W, (((w3.setCell ⟨w.heap.size + 1, 0, none⟩ (.string nm)).setCell ⟨w.heap.size + 1, 1, none⟩ (.int .i64 r)).setCell ⟨w.heap.size + 1, 2, none⟩ (.slice (some ⟨g, 0, none⟩) a.length a.length)) = W := ⟨_, rfl⟩
  have HB4 := Lib.hid (show Below w.heap.size w w4 by rw [← hw4]; exact (((HB3.out.setCell (p := ⟨w.heap.size + 1, 0, none⟩) (by show _ ≤ w.heap.size + 1; omega) (.string nm)).setCell (p := ⟨w.heap.size + 1, 1, none⟩) (by show _ ≤ w.heap.size + 1; omega) (.int .i64 r)).setCell (p := ⟨w.heap.size + 1, 2, none⟩) (by show _ ≤ w.heap.size + 1; omega) (.slice (some ⟨g, 0, none⟩) a.length a.length)))
  have HR4 := Lib.hid (show Bx w4 (w.heap.size + 1) [.string nm, .int .i64 r, .slice (some ⟨g, 0, none⟩) a.length a.length] by rw [← hw4]; exact (((HR3.out.set 0 (by simp) (.string nm)).set 1 (by simp) (.int .i64 r)).set 2 (by simp) (.slice (some ⟨g, 0, none⟩) a.length a.length)))
  have HN4 := Lib.hid (show Own w4 (w.heap.size + 1 + 1 + 1) (.slice (some ⟨g, 0, none⟩) a.length a.length) (fl a) by rw [← hw4]; exact (((HN3.out.setLess (a := ⟨w.heap.size + 1, 0, none⟩) (by show w.heap.size + 1 < w.heap.size + 1 + 1 + 1; omega) (.string nm)).setLess (a := ⟨w.heap.size + 1, 1, none⟩) (by show w.heap.size + 1 < w.heap.size + 1 + 1 + 1; omega) (.int .i64 r)).setLess (a := ⟨w.heap.size + 1, 2, none⟩) (by show w.heap.size + 1 < w.heap.size + 1 + 1 + 1; omega) (.slice (some ⟨g, 0, none⟩) a.length a.length)))
  go_wp2_with fail
  have s0 := (HR4.out.2 0 _ rfl).1
  have s1 := (HR4.out.2 1 _ rfl).1
  have s2 := (HR4.out.2 2 _ rfl).1
  exact bodyPost_ret (v := .agg #[.string nm, .int .i64 r, .slice (some ⟨g, 0, none⟩) a.length a.length]) (by simp [results, Try.results24, go_sem, s0, s1, s2]) rfl ⟨_, rfl, HN4.out.rd, HB4.out⟩
theorem inT_any (n lo hi : Int) (w : World) : Calls Try.prog 131 #[.int .i64 n, .int .i64 lo, .int .i64 hi] w fun e w' => e = .returned (.bool (decide (lo ≤ n ∧ n ≤ hi))) ∧ w = w' := by
  by_cases h0 : lo ≤ n
  · by_cases h1 : n ≤ hi
    · rw [decide_eq_true ⟨h0, h1⟩]
      go_enter Try.func131, Try.ntmps131
      go_wp2_with fail
      go_ret
      exact ⟨rfl, rfl⟩
    · rw [decide_eq_false (fun h => h1 h.2)]
      go_enter Try.func131, Try.ntmps131
      go_wp2_with fail
      go_ret
      exact ⟨rfl, rfl⟩
  · rw [decide_eq_false (fun h => h0 h.1)]
    go_enter Try.func131, Try.ntmps131
    go_wp2_with fail
    go_ret
    exact ⟨rfl, rfl⟩
set_option maxHeartbeats 400000 in
theorem nm7_any (s : ByteArray) (w : World) (hs : s.size ≤ maxLen) :
    Calls Try.prog 151 #[.string s] w fun e w' => e = .returned (.bool (nmF s)) ∧ w = w' := by
  unfold maxLen at hs
  go_enter Try.func151, Try.ntmps151
  go_wp2
  go_loop [3] (fun i => ∃ k : Nat, k ≤ s.size ∧ i = .int .i64 k ∧ nmAll s k) (fun i => s.size - (intOf i).toNat)
  case atStart => exact ⟨0, Nat.zero_le _, rfl, fun i _ h => by omega⟩
  case round =>
    obtain ⟨k, hk, rfl, ha⟩ := hrel
    by_cases hlt : k < s.size
    · have HA := Lib.hid ha
      clear ha
      cases hn : nm s[k] with
      | true =>
        obtain ⟨h1, h2⟩ := of_decide_eq_true hn
        have HN := Lib.hid hn
        clear hn
        go_wp2
        go_round
        case rel => exact ⟨k + 1, by omega, by go_num, nmAll_succ hlt HA.out HN.out⟩
        case measure => simp [intOf]; omega
      | false =>
        have h12 : (s[k].toNat : Int) < 97 ∨ 122 < (s[k].toNat : Int) := by
          have := of_decide_eq_false hn; omega
        have HN := Lib.hid (nmF_no hlt hn)
        clear hn
        rcases h12 with h1 | h1
        · go_wp2
          go_ret
          rw [HN.out]
          exact ⟨rfl, rfl⟩
        · have h2 : 97 ≤ (s[k].toNat : Int) := by omega
          go_wp2
          go_ret
          rw [HN.out]
          exact ⟨rfl, rfl⟩
    · have hkk : k = s.size := by omega
      subst hkk
      by_cases h1 : 1 ≤ s.size
      · by_cases h2 : s.size ≤ 8
        · have HN := Lib.hid (nmF_yes h1 h2 ha)
          clear ha
          go_wp2
          go_ret
          rw [HN.out]
          have hd : decide ((s.size : Int) ≤ 8) = true := decide_eq_true (by omega)
          first | exact ⟨rfl, rfl⟩ | exact ⟨by rw [← hd]; rfl, rfl⟩
        · have HN := Lib.hid (nmF_short (s := s) (.inr (by omega)))
          have h3 : 8 < s.size := by omega
          clear ha h2
          go_wp2
          go_ret
          rw [HN.out]
          have hd : decide ((s.size : Int) ≤ 8) = false := decide_eq_false (by omega)
          first | exact ⟨rfl, rfl⟩ | exact ⟨by rw [← hd]; rfl, rfl⟩
      · have HN := Lib.hid (nmF_short (s := s) (.inl (by omega)))
        have h3 : s.size < 1 := by omega
        clear ha h1
        go_wp2
        go_ret
        rw [HN.out]
        have hd : decide (1 ≤ (s.size : Int)) = false := decide_eq_false (by omega)
        first | exact ⟨rfl, rfl⟩ | exact ⟨by rw [← hd]; rfl, rfl⟩

def vlB (n : Nat) : Bool := decide (1 ≤ n ∧ n ≤ 128)
theorem vl7_any (A : Option Addr) (n c : Nat) (w : World) (hn : n ≤ 1048576) : Calls Try.prog 152 #[.slice A n c] w fun e w' => e = .returned (.bool (lenLB n)) ∧ w = w' := by
  by_cases h1 : 1 ≤ n
  · by_cases h2 : n ≤ 128
    · have HN := Lib.hid (show lenLB n = true from decide_eq_true ⟨h1, h2⟩)
      have HD := Lib.hid (show decide ((n : Int) ≤ 128) = true from decide_eq_true (by omega))
      go_enter Try.func152, Try.ntmps152
      go_wp2
      go_ret
      rw [HN.out]
      exact ⟨by rw [← HD.out]; rfl, rfl⟩
    · have HN := Lib.hid (show lenLB n = false from decide_eq_false (by omega))
      have HD := Lib.hid (show decide ((n : Int) ≤ 128) = false from decide_eq_false (by omega))
      have h3 : 128 < n := by omega
      clear h2
      go_enter Try.func152, Try.ntmps152
      go_wp2
      go_ret
      rw [HN.out]
      exact ⟨by rw [← HD.out]; rfl, rfl⟩
  · have HN := Lib.hid (show lenLB n = false from decide_eq_false (by omega))
    have h3 : n < 1 := by omega
    clear h1
    go_enter Try.func152, Try.ntmps152
    go_wp2
    go_ret
    rw [HN.out]
    exact ⟨rfl, rfl⟩
def rtB (r : Int) : Bool := decide (1 ≤ r ∧ r ≤ 65535)
def vtB (nm : ByteArray) (r : Int) (a : List Nat) : Bool := nmF nm && rtB r && lenLB a.length
set_option maxHeartbeats 2000000 in
theorem vtS_R (v : Value) (a : List Nat) (nm : ByteArray) (r : Int) (w : World) (h : TkR w v a) (hn : nm.size ≤ maxLen) (hm : a.length ≤ 1048576) :
    Calls Try.prog 23 #[.agg #[.string nm, .int .i64 r, v]] w fun e w' => e = .returned (.bool (vtB nm r a)) ∧ Below w.heap.size w w' := by
  have h : Rd w w.heap.size v (fl a) := h
  obtain ⟨w0, hw0⟩ : ∃ w0, w.alloc (.cells #[.string nm, .int .i64 r, v] 48) = w0 := ⟨_, rfl⟩
  have hb0 : Below w.heap.size w w0 := by rw [← hw0]; exact (Below.refl _ _).alloc (Nat.le_refl _) _
  have hX0 : Bx w0 w.heap.size [.string nm, .int .i64 r, v] := by rw [← hw0]; exact bx_new w [.string nm, .int .i64 r, v] _
  have HC0 := Lib.hid (fun W => nm7_any nm W hn)
  have HC1 := Lib.hid (fun W => inT_any r 1 65535 W)
  obtain ⟨A, c, hv, _, _, _⟩ := id h
  rw [fl_len] at hv
  subst hv
  have HC2 := Lib.hid (fun W => vl7_any A a.length c W hm)
  have HB0 := Lib.hid hb0
  have p0 := (hX0.2 0 _ rfl).1
  have p1 := (hX0.2 1 _ rfl).1
  have p2 := (hX0.2 2 _ rfl).1
  clear hb0 hX0 h
  have HP : Calls Try.prog 90 #[.pointer (some ⟨w.heap.size, 0, none⟩)] w0 fun e w' => e = .returned (.bool (vtB nm r a)) ∧ w0 = w' := by
    cases b0 : nmF nm with
    | false =>
      rw [b0] at HC0
      have HV := Lib.hid (show vtB nm r a = false by unfold vtB; rw [b0]; rfl)
      clear b0
      go_enter Try.func90, Try.ntmps90
      go_wp2_with fail
      refine (HC0.out _).mono ?_
      rintro e w1 ⟨rfl, rfl⟩
      go_wp2_with fail
      go_ret
      rw [HV.out]
      exact ⟨rfl, rfl⟩
    | true =>
      rw [b0] at HC0
      cases b1 : decide (1 ≤ r ∧ r ≤ 65535) with
      | false =>
        rw [b1] at HC1
        have HV := Lib.hid (show vtB nm r a = false by unfold vtB rtB; rw [b0, b1]; rfl)
        clear b0 b1
        go_enter Try.func90, Try.ntmps90
        go_wp2_with fail
        refine (HC0.out _).mono ?_
        rintro e w1 ⟨rfl, rfl⟩
        go_wp2_with fail
        refine (HC1.out _).mono ?_
        rintro e w1 ⟨rfl, rfl⟩
        go_wp2_with fail
        go_ret
        rw [HV.out]
        exact ⟨rfl, rfl⟩
      | true =>
        rw [b1] at HC1
        have HV := Lib.hid (show vtB nm r a = lenLB a.length by unfold vtB rtB; rw [b0, b1]; rfl)
        generalize lenLB a.length = b at *
        clear b0 b1
        go_enter Try.func90, Try.ntmps90
        go_wp2_with fail
        refine (HC0.out _).mono ?_
        rintro e w1 ⟨rfl, rfl⟩
        go_wp2_with fail
        refine (HC1.out _).mono ?_
        rintro e w1 ⟨rfl, rfl⟩
        go_wp2_with fail
        refine (HC2.out _).mono ?_
        rintro e w1 ⟨rfl, rfl⟩
        go_wp2_with fail
        go_ret
        rw [HV.out]
        exact ⟨rfl, rfl⟩
  have HPP := Lib.hid HP
  clear HP
  go_enter Try.func23, Try.ntmps23
  go_wp2_with fail
  refine HPP.out.mono ?_
  rintro e w1 ⟨rfl, rfl⟩
  go_wp2_with fail
  go_ret
  exact ⟨rfl, HB0.out⟩
set_option maxHeartbeats 2000000 in
theorem vtI_R (v : Value) (a : List Nat) (nm : ByteArray) (r : Int) (w : World) (h : TkR w v a) (hn : nm.size ≤ maxLen) (hm : a.length ≤ 1048576) :
    Calls Try.prog 25 #[.agg #[.string nm, .int .i64 r, v]] w fun e w' => e = .returned (.bool (vtB nm r a)) ∧ Below w.heap.size w w' := by
  have h : Rd w w.heap.size v (fl a) := h
  obtain ⟨w0, hw0⟩ : ∃ w0, w.alloc (.cells #[.string nm, .int .i64 r, v] 48) = w0 := ⟨_, rfl⟩
  have hb0 : Below w.heap.size w w0 := by rw [← hw0]; exact (Below.refl _ _).alloc (Nat.le_refl _) _
  have hX0 : Bx w0 w.heap.size [.string nm, .int .i64 r, v] := by rw [← hw0]; exact bx_new w [.string nm, .int .i64 r, v] _
  have HC0 := Lib.hid (fun W => nmI_any nm W hn)
  have HC2 := Lib.hid (fun (W : World) (hb : Below w.heap.size w W) => lenL_any v a W W.heap.size (h.step hb) hm)
  obtain ⟨A, c, hv, _, _, _⟩ := id h
  rw [fl_len] at hv
  subst hv
  have HB0 := Lib.hid hb0
  have HX0 := Lib.hid hX0
  have p0 := (hX0.2 0 _ rfl).1
  clear hb0 hX0 h
  cases b0 : nmF nm with
  | false =>
    rw [b0] at HC0
    have HV := Lib.hid (show vtB nm r a = false by unfold vtB; rw [b0]; rfl)
    clear b0
    go_enter Try.func25, Try.ntmps25
    go_wp2_with fail
    refine (HC0.out _).mono ?_
    rintro e w1 ⟨rfl, hb⟩
    have HB1 := Lib.hid (HB0.out.trans (hb.mono HB0.out.size))
    clear hb
    go_wp2_with fail
    go_ret
    rw [HV.out]
    exact ⟨rfl, HB1.out⟩
  | true =>
    rw [b0] at HC0
    have HV0 := Lib.hid (show vtB nm r a = (rtB r && lenLB a.length) by unfold vtB; rw [b0]; rfl)
    clear b0
    by_cases g1 : 1 ≤ r
    · by_cases g2 : r ≤ 65535
      · have HV := Lib.hid (show vtB nm r a = lenLB a.length by rw [HV0.out, show rtB r = true from decide_eq_true ⟨g1, g2⟩]; rfl)
        generalize lenLB a.length = b at *
        go_enter Try.func25, Try.ntmps25
        go_wp2_with fail
        refine (HC0.out _).mono ?_
        rintro e w1 ⟨rfl, hb⟩
        have HB1 := Lib.hid (HB0.out.trans (hb.mono HB0.out.size))
        have HX1 := Lib.hid (HX0.out.step hb)
        have p1 := (HX1.out.2 1 _ rfl).1
        have p2 := (HX1.out.2 2 _ rfl).1
        clear hb
        go_wp2_with fail
        refine (HC2.out _ HB1.out).mono ?_
        rintro e w2 ⟨rfl, rfl⟩
        go_wp2_with fail
        go_ret
        rw [HV.out]
        exact ⟨rfl, HB1.out⟩
      · have HV := Lib.hid (show vtB nm r a = false by rw [HV0.out, show rtB r = false from decide_eq_false (by omega)]; rfl)
        have g2' : 65535 < r := by omega
        clear g2
        go_enter Try.func25, Try.ntmps25
        go_wp2_with fail
        refine (HC0.out _).mono ?_
        rintro e w1 ⟨rfl, hb⟩
        have HB1 := Lib.hid (HB0.out.trans (hb.mono HB0.out.size))
        have HX1 := Lib.hid (HX0.out.step hb)
        have p1 := (HX1.out.2 1 _ rfl).1
        clear hb
        go_wp2_with fail
        go_ret
        rw [HV.out]
        exact ⟨rfl, HB1.out⟩
    · have HV := Lib.hid (show vtB nm r a = false by rw [HV0.out, show rtB r = false from decide_eq_false (by omega)]; rfl)
      have g1' : r < 1 := by omega
      clear g1
      go_enter Try.func25, Try.ntmps25
      go_wp2_with fail
      refine (HC0.out _).mono ?_
      rintro e w1 ⟨rfl, hb⟩
      have HB1 := Lib.hid (HB0.out.trans (hb.mono HB0.out.size))
      have HX1 := Lib.hid (HX0.out.step hb)
      have p1 := (HX1.out.2 1 _ rfl).1
      clear hb
      go_wp2_with fail
      go_ret
      rw [HV.out]
      exact ⟨rfl, HB1.out⟩
section
open Go.WideShapes Go.ChangeShapes
variable {H : Type} {enc : TypeId × Value → H} {P : Program} {w : World} {spare : Nat → Bool}
theorem open_strC {t : TypeId} {fuel : Nat} {v : Value} {y : DataW H × List MemPlace} (he : P.underlying t = some .string) (htr : DataW.trod enc P w 0 spare true fuel t [v] = some y) : ∃ x, v = .string x ∧ x.size ≤ maxLen := by
  obtain ⟨s, h, hx, hs⟩ := DataW.trod_string he htr
  exact ⟨s, by simpa using h, hs⟩
theorem open_take {t e2 : TypeId} {f0 f1 f2 : Field} {r : Reach} {k0 : Nat} {v : Value} {d : DataW H} {ps : List MemPlace}
    (hs : P.underlying t = some (.struct #[f0, f1, f2])) (hC : P.cellsOf t = 3)
    (g0 : f0.offset = 0 ∧ P.cellsOf f0.type = 1) (g1 : f1.offset = 1 ∧ P.cellsOf f1.type = 1) (g2 : f2.offset = 2 ∧ P.cellsOf f2.type = 1)
    (t0 : P.underlying f0.type = some .string) (t1 : P.underlying f1.type = some (.int .i64)) (t2 : P.underlying f2.type = some (.slice e2)) (t2e : P.underlying e2 = some (.float .f32)) (t2c : P.cellsOf e2 = 1)
    (hval : Value.okWide P w r k0 t v) (hd : DataW.Trod enc P w 0 spare true t v d ps) (hlt : ∀ x ∈ ps, x.block < w.heap.size) :
    ∃ (v0 : Value) (a0 : List Nat) (nm : ByteArray) (r : Int), v = .agg #[.string nm, .int .i64 r, v0] ∧ Rd w w.heap.size v0 (a0.map (.float .f32)) ∧ nm.size ≤ maxLen := by
  obtain ⟨cs, rfl, hsz⟩ := okWide_struct hs hval
  obtain ⟨c0, c1, c2, rfl⟩ := array3 (hsz.trans hC)
  obtain ⟨fuel, hf⟩ := hd
  obtain ⟨n0, z0, q0, m0⟩ := cell_of hs hf 0 f0 rfl
  obtain ⟨n1, z1, q1, m1⟩ := cell_of hs hf 1 f1 rfl
  obtain ⟨n2, z2, q2, m2⟩ := cell_of hs hf 2 f2 rfl
  rw [g0.1, g0.2] at q0
  rw [g1.1, g1.2] at q1
  rw [g2.1, g2.2] at q2
  simp only [Value.cells, List.drop_zero, List.drop_succ_cons, List.take_succ_cons, List.take_zero] at q0 q1 q2
  have hin : ∀ x, x ∈ (d, ps).2 → x.block < w.heap.size := hlt
  obtain ⟨nm, rfl, hn⟩ := open_strC t0 q0
  obtain ⟨k, rfl, _⟩ := open_i64C t1 q1
  obtain ⟨xs, h, _⟩ := open_floatsC t2 t2e t2c q2 (fun x hx => hin x (m2 x hx))
  exact ⟨_, xs, nm, k, rfl, h, hn⟩
end
end Go.Proofs.Ythkklilfignmpaa
