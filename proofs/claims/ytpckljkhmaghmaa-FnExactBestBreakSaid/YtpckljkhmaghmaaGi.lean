/-
  Contracts: gains, of the program.
-/
import Derived.Test.YtpckljkhmaghmaaBbf
namespace Go.Proofs.Ytpckljkhmaghmaa
open Go.RowKit Fl Ieee
set_option linter.unusedVariables false

set_option maxRecDepth 100000 in
set_option maxHeartbeats 4000000 in
theorem gnI_any (b off c : Nat) (xs : List Nat) (k r m : Nat) (w : World) (h : Rd w w.heap.size (.slice (some ⟨b, off, none⟩) xs.length c) (fl xs)) (h1 : 1 ≤ k) (h2 : k < xs.length) (hm : xs.length ≤ 128) (hr : Is .f32 r m) :
    Calls Try.prog 83 #[.slice (some ⟨b, off, none⟩) xs.length c, .int .i64 (k : Int), .float .f32 r] w (RetCl (gnX xs m k) w) := by
  have hB : Below w.heap.size w (w.alloc (.cells #[.float .f32 r] 22)) := (Below.refl _ _).alloc (Nat.le_refl _) _
  have hcell : (w.alloc (.cells #[.float .f32 r] 22)).cell? ⟨w.heap.size, 0, none⟩ = some (.float .f32 r) := (cell_of_row _ _ _ _ _ _ (heap_alloc_new w _)).trans rfl
  have hz : w.heap.size < (w.alloc (.cells #[.float .f32 r] 22)).heap.size := by simp
  have hmf : ∀ (fn : Fn) (first cap : Array Value) (w : World), (Instr.makeFunc fn first cap).run Try.prog w = .ok (.func fn first cap) w := fun _ _ _ _ => rfl
  have hrd := h.step hB
  obtain ⟨A, c', hv, hc1, hc2, hc3⟩ := id h
  simp only [Value.slice.injEq] at hv
  rw [fl_len] at hv hc1
  have hcc : xs.length ≤ c := by omega
  clear hv hc1 hc2 hc3
  obtain ⟨d, hd⟩ : ∃ d, xs.length - k = d := ⟨_, rfl⟩
  have hp1 := Rd.prefix' hrd k (by omega)
  have hp2 := Rd.suffix' hrd k (by omega)
  rw [← fl_take] at hp1
  rw [← fl_drop, hd] at hp2
  have hl1 : (xs.take k).length ≤ 256 := by rw [List.length_take]; omega
  have hl2 : (xs.drop k).length ≤ 256 := by rw [List.length_drop]; omega
  have HP1 := Lib.hid (fun (w' : World) (h : Rd w' w'.heap.size (.slice (some ⟨b, off, none⟩) k c) (fl (xs.take k))) (hz : w.heap.size < w'.heap.size) (hc : w'.cell? ⟨w.heap.size, 0, none⟩ = some (.float .f32 r)) => prI_any _ (xs.take k) m w.heap.size r w' h hl1 hz hr hc)
  have HP2 := Lib.hid (fun (w' : World) (h : Rd w' w'.heap.size (.slice (some ⟨b, off + k, none⟩) d (c - k)) (fl (xs.drop k))) (hz : w.heap.size < w'.heap.size) (hc : w'.cell? ⟨w.heap.size, 0, none⟩ = some (.float .f32 r)) => prI_any _ (xs.drop k) m w.heap.size r w' h hl2 hz hr hc)
  have RP1 := Lib.hid hp1
  have RP2 := Lib.hid hp2
  have HZ := Lib.hid hz
  have HCL := Lib.hid hcell
  have HG := Lib.hid (show gnX xs m k = ar .add .f32 (prX (xs.take k) m) (prX (xs.drop k) m) from rfl)
  have HB := Lib.hid hB
  have hck : ¬ (c = k) := by omega
  have hkc : k ≤ c := by omega
  have hkn : k ≤ xs.length := by omega
  have hwk : IntKind.i64.wrap (k : Int) = (k : Int) := by rw [IntKind.wrap_i64]; omega
  clear h hrd hp1 hp2 hl1 hl2 hr hcell hz hB
  go_enter Try.func83, Try.ntmps83
  go_wp2_with fail
  generalize w.alloc (.cells #[.float .f32 r] 22) = w1 at *
  go_region_with (first | (go_at_call_of 106 d; refine (HP2.out _ ?_ ?_ ?_).mono ?_; exact RP2.out; exact HZ.out; exact HCL.out; rintro e w' ⟨r2, n2, rfl, h2'⟩; obtain ⟨h2', rfl⟩ := h2') | (go_at_call 106; refine (HP1.out _ ?_ ?_ ?_).mono ?_; exact RP1.out; exact HZ.out; exact HCL.out; rintro e w' ⟨r1, n1, rfl, h1⟩; obtain ⟨h1, rfl⟩ := h1) | (refine up_ar2 (op := .add) rfl h1 h2' ?_; intro r3 n3 h3))
  all_goals
    go_wp2_with fail
    go_ret
    exact ⟨_, rfl, by rw [HG.out]; assumption, below_drawn HB.out _⟩
end Go.Proofs.Ytpckljkhmaghmaa
