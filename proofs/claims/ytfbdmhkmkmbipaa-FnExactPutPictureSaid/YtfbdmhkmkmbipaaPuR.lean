/-
  A picture's row that is its own, and its box (Clone by the program).
-/
import Derived.Test.YtfbdmhkmkmbipaaPuK
import Derived.Test.YtfbdmhkmkmbipaaDf
import Derived.Test.YtfbdmhkmkmbipaaOwn4
namespace Go.Proofs.Ytfbdmhkmkmbipaa
open Go.RowKit Fl
set_option linter.unusedVariables false
set_option maxRecDepth 100000

theorem cloneR_any (a : Addr) (c : Nat) (xs : List Nat) (w : World) (h : Rd w w.heap.size (.slice (some a) xs.length c) (fl xs)) (hm : xs.length ≤ 1048576) (hn0 : 0 < xs.length) :
    Calls Try.prog 82 #[.slice (some a) xs.length c] w (fun e w' => ∃ b2 cap, e = .returned (.slice (some ⟨b2, 0, none⟩) xs.length cap) ∧ w'.ownsRow w.heap.size 23 1 (.slice (some ⟨b2, 0, none⟩) xs.length cap) xs.length (fl xs) ∧ Below w.heap.size w w') := by
  obtain ⟨i0, hi, hz0, hz1, hz2⟩ := info_parts infoF
  obtain ⟨A, c', hv, hc1, hc2, hcell⟩ := id h
  rw [fl_len] at hv hc1 hcell
  have hcl : ∀ j u, (fl xs)[j]? = some u → (w.alloc (Obj.cells #[] 23)).cell? (a.add j) = some u := by
    intro j u hu
    have hj := (List.getElem?_eq_some_iff.1 hu).1
    rw [fl_len] at hj
    obtain ⟨b, off, e, hb, hcc⟩ := hcell (by omega)
    simp only [Value.slice.injEq] at hv
    obtain ⟨e1, _, _⟩ := hv
    rw [e] at e1
    cases e1
    rw [Go.WideShapes.add_plain]
    exact (((Below.refl _ _).alloc (Nat.le_refl _) _).cell (p := ⟨b, off + j, none⟩) hb).trans (hcc j u hu)
  have hown : (w.alloc (Obj.cells #[] 23)).ownsRow w.heap.size 23 1 (.slice (some ⟨w.heap.size, 0, none⟩) 0 0) 0 (fl []) := World.ownsRow_made w #[] 0 (Nat.le_refl _) (Nat.zero_le _) rfl
  have hb0 : Below w.heap.size w (w.alloc (Obj.cells #[] 23)) := (Below.refl _ _).alloc (Nat.le_refl _) _
  have hnil : ∀ (W : World), (binOp .eql 22 (.slice (some a) xs.length c) (.slice none 0 0)).run Try.prog W = .ok (.bool false) W := fun W => Lib.run_eql_slice_nil W _ _ (some a) _ _ _ _ Try.underlying22
  clear hv hc1 hcell
  go_enter Try.func82, Try.ntmps82
  go_wp2_with (at_builtin; refine wpList_append_own _ rfl _ _ 22 rfl w.heap.size 23 i0 (.float .f32 0) 1 4 Try.underlying22 hi hz0 hz1 hz2 rfl (by decide) _ _ _ rfl hown a xs.length c (fl xs) rfl (by rw [fl_len]; omega) hcl (cellsF xs) (by unfold maxLen; omega) (by omega) (by simp) ?_; intro v' w1 hown' hgrow _)
  go_ret
  have h2 : w1.ownsRow w.heap.size 23 1 v' xs.length (fl xs) := by have h := hown'; rw [Nat.zero_add, show fl [] ++ fl xs = fl xs from rfl] at h; exact h
  rcases h2.2 with ⟨_, hz⟩ | ⟨g, cap, cur, hv2, _⟩
  · omega
  · exact ⟨g, cap, by rw [← hv2]; rfl, by rw [← hv2]; exact h2, hb0.grown hgrow (by simp) (fun j hj => (hown.lt j hj).1)⟩
def ChR (w0 : World) (g b2 cap n : Nat) (p q : Int) (L : List Nat) (W : World) : Prop :=
  Bx W g [.int .i64 p, .int .i64 q, .slice (some ⟨b2, 0, none⟩) n cap] ∧ W.ownsRow w0.heap.size 23 1 (.slice (some ⟨b2, 0, none⟩) n cap) n (fl L) ∧ w0.heap.size ≤ g ∧ w0.heap.size ≤ b2 ∧ b2 ≠ g ∧ b2 < W.heap.size ∧ Below w0.heap.size w0 W
theorem chr_two {w0 w3 : World} {b2 cap n : Nat} {p q : Int} {L : List Nat} (ho : w3.ownsRow w0.heap.size 23 1 (.slice (some ⟨b2, 0, none⟩) n cap) n (fl L)) (hb : Below w0.heap.size w0 w3) :
    ChR w0 w3.heap.size b2 cap n p q L (w3.alloc (.cells #[.int .i64 p, .int .i64 q, .slice (some ⟨b2, 0, none⟩) n cap] 50)) := by
  obtain ⟨h1, h2⟩ := ho.lt b2 rfl
  exact ⟨bx_new w3 [.int .i64 p, .int .i64 q, .slice (some ⟨b2, 0, none⟩) n cap] _, ho.alloc _, hb.size, h1, by omega, by simp; omega, hb.alloc hb.size _⟩
theorem chr_one {w0 w3 : World} {g b2 cap n : Nat} {p q : Int} {L : List Nat} {z0 z1 z2 : Value} (hx : Bx w3 g [z0, z1, z2]) (hg : w0.heap.size ≤ g) (ho : w3.ownsRow (g + 1) 23 1 (.slice (some ⟨b2, 0, none⟩) n cap) n (fl L)) (hb : Below w0.heap.size w0 w3) :
    ChR w0 g b2 cap n p q L (((w3.setCell ⟨g, 0, none⟩ (.int .i64 p)).setCell ⟨g, 1, none⟩ (.int .i64 q)).setCell ⟨g, 2, none⟩ (.slice (some ⟨b2, 0, none⟩) n cap)) := by
  obtain ⟨h1, h2⟩ := ho.lt b2 rfl
  have k0 := hx.set 0 (by simp) (.int .i64 p)
  have k1 := k0.set 1 (by simp) (.int .i64 q)
  have k2 := k1.set 2 (by simp) (.slice (some ⟨b2, 0, none⟩) n cap)
  have hne : (Value.slice (some ⟨b2, 0, none⟩) n cap).ownBlock ≠ some g := by intro e; simp [Value.ownBlock] at e; omega
  refine ⟨k2, row_low (row_setNe (row_setNe (row_setNe ho (a := ⟨g, 0, none⟩) hne _) (a := ⟨g, 1, none⟩) hne _) (a := ⟨g, 2, none⟩) hne _) _ (by omega), hg, by omega, by omega, by simp [World.setCell]; exact h2, ((hb.setCell (p := ⟨g, 0, none⟩) hg _).setCell (p := ⟨g, 1, none⟩) hg _).setCell (p := ⟨g, 2, none⟩) hg _⟩
theorem fl_splice (xs R : List Nat) (o : Nat) : splice (fl xs) o (fl R) = fl (splice xs o R) := by simp [splice, fl]
end Go.Proofs.Ytfbdmhkmkmbipaa
