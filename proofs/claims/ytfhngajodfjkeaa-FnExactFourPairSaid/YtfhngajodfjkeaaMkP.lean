/-
  Contracts: the two given pairs of both sides.
-/
import Derived.Test.YtfhngajodfjkeaaPai
namespace Go.Proofs.Ytfhngajodfjkeaa
open Go.RowKit Fl
set_option linter.unusedVariables false
def haarW : List Nat := [1060439283, 1060439283]
def fourW : List Nat := [1056392938, 1062610415, 1046840824, 3187966958]
set_option maxHeartbeats 400000 in
theorem hrI_any (w : World) : Calls Try.prog 16 #[] w (MadeP haarW w) := by
  have hsf : ∀ (a : Addr) (x : Nat) (w : World), (store a (.float .f32 x)).run Try.prog w = stored Try.prog w a (.float .f32 x) .plain := fun a x w => run_store _ w a _ _ rfl
  have hb : Below w.heap.size w ((w.alloc (.cells #[.slice (some ⟨w.heap.size + 1, 0, none⟩) 2 2] 24)).alloc (.cells #[.float .f32 1060439283, .float .f32 1060439283] 62)) := ((Below.refl _ _).alloc (Nat.le_refl _) _).alloc (by simp) _
  have ho : Own ((w.alloc (.cells #[.slice (some ⟨w.heap.size + 1, 0, none⟩) 2 2] 24)).alloc (.cells #[.float .f32 1060439283, .float .f32 1060439283] 62)) w.heap.size (.slice (some ⟨w.heap.size + 1, 0, none⟩) 2 2) (fl haarW) := by
    have h := Own.row (World.ownsRow_lit (base := w.heap.size) (e := 62) (size := 1) (w.alloc (.cells #[.slice (some ⟨w.heap.size + 1, 0, none⟩) 2 2] 24)) #[.float .f32 1060439283, .float .f32 1060439283] 2 (by simp) (by simp [maxLen]) rfl)
    simpa [fl, haarW] using h
  go_enter Try.func16, Try.ntmps16
  go_wp2
  exact bodyPost_ret (v := .agg #[.slice (some ⟨w.heap.size + 1, 0, none⟩) 2 2]) (by simp [results, Try.results16, go_sem]) rfl ⟨w.heap.size + 1, rfl, ho, hb⟩
set_option maxHeartbeats 400000 in
theorem hrS_any (w : World) : Calls Try.prog 15 #[] w (MadeP haarW w) := by
  have hsf : ∀ (a : Addr) (x : Nat) (w : World), (store a (.float .f32 x)).run Try.prog w = stored Try.prog w a (.float .f32 x) .plain := fun a x w => run_store _ w a _ _ rfl
  have hb : Below w.heap.size w ((w.alloc (.cells #[.slice (some ⟨w.heap.size + 1, 0, none⟩) 2 2] 24)).alloc (.cells #[.float .f32 1060439283, .float .f32 1060439283] 62)) := ((Below.refl _ _).alloc (Nat.le_refl _) _).alloc (by simp) _
  have ho : Own ((w.alloc (.cells #[.slice (some ⟨w.heap.size + 1, 0, none⟩) 2 2] 24)).alloc (.cells #[.float .f32 1060439283, .float .f32 1060439283] 62)) w.heap.size (.slice (some ⟨w.heap.size + 1, 0, none⟩) 2 2) (fl haarW) := by
    have h := Own.row (World.ownsRow_lit (base := w.heap.size) (e := 62) (size := 1) (w.alloc (.cells #[.slice (some ⟨w.heap.size + 1, 0, none⟩) 2 2] 24)) #[.float .f32 1060439283, .float .f32 1060439283] 2 (by simp) (by simp [maxLen]) rfl)
    simpa [fl, haarW] using h
  go_enter Try.func15, Try.ntmps15
  go_wp2
  exact bodyPost_ret (v := .agg #[.slice (some ⟨w.heap.size + 1, 0, none⟩) 2 2]) (by simp [results, Try.results15, go_sem]) rfl ⟨w.heap.size + 1, rfl, ho, hb⟩
set_option maxHeartbeats 400000 in
theorem frI_any (w : World) : Calls Try.prog 21 #[] w (MadeP fourW w) := by
  have hsf : ∀ (a : Addr) (x : Nat) (w : World), (store a (.float .f32 x)).run Try.prog w = stored Try.prog w a (.float .f32 x) .plain := fun a x w => run_store _ w a _ _ rfl
  have hb : Below w.heap.size w ((w.alloc (.cells #[.slice (some ⟨w.heap.size + 1, 0, none⟩) 4 4] 24)).alloc (.cells #[.float .f32 1056392938, .float .f32 1062610415, .float .f32 1046840824, .float .f32 3187966958] 62)) := ((Below.refl _ _).alloc (Nat.le_refl _) _).alloc (by simp) _
  have ho : Own ((w.alloc (.cells #[.slice (some ⟨w.heap.size + 1, 0, none⟩) 4 4] 24)).alloc (.cells #[.float .f32 1056392938, .float .f32 1062610415, .float .f32 1046840824, .float .f32 3187966958] 62)) w.heap.size (.slice (some ⟨w.heap.size + 1, 0, none⟩) 4 4) (fl fourW) := by
    have h := Own.row (World.ownsRow_lit (base := w.heap.size) (e := 62) (size := 1) (w.alloc (.cells #[.slice (some ⟨w.heap.size + 1, 0, none⟩) 4 4] 24)) #[.float .f32 1056392938, .float .f32 1062610415, .float .f32 1046840824, .float .f32 3187966958] 4 (by simp) (by simp [maxLen]) rfl)
    simpa [fl, fourW] using h
  go_enter Try.func21, Try.ntmps21
  go_wp2
  exact bodyPost_ret (v := .agg #[.slice (some ⟨w.heap.size + 1, 0, none⟩) 4 4]) (by simp [results, Try.results21, go_sem]) rfl ⟨w.heap.size + 1, rfl, ho, hb⟩
set_option maxHeartbeats 400000 in
theorem frS_any (w : World) : Calls Try.prog 20 #[] w (MadeP fourW w) := by
  have hsf : ∀ (a : Addr) (x : Nat) (w : World), (store a (.float .f32 x)).run Try.prog w = stored Try.prog w a (.float .f32 x) .plain := fun a x w => run_store _ w a _ _ rfl
  have hb : Below w.heap.size w ((w.alloc (.cells #[.slice (some ⟨w.heap.size + 1, 0, none⟩) 4 4] 24)).alloc (.cells #[.float .f32 1056392938, .float .f32 1062610415, .float .f32 1046840824, .float .f32 3187966958] 62)) := ((Below.refl _ _).alloc (Nat.le_refl _) _).alloc (by simp) _
  have ho : Own ((w.alloc (.cells #[.slice (some ⟨w.heap.size + 1, 0, none⟩) 4 4] 24)).alloc (.cells #[.float .f32 1056392938, .float .f32 1062610415, .float .f32 1046840824, .float .f32 3187966958] 62)) w.heap.size (.slice (some ⟨w.heap.size + 1, 0, none⟩) 4 4) (fl fourW) := by
    have h := Own.row (World.ownsRow_lit (base := w.heap.size) (e := 62) (size := 1) (w.alloc (.cells #[.slice (some ⟨w.heap.size + 1, 0, none⟩) 4 4] 24)) #[.float .f32 1056392938, .float .f32 1062610415, .float .f32 1046840824, .float .f32 3187966958] 4 (by simp) (by simp [maxLen]) rfl)
    simpa [fl, fourW] using h
  go_enter Try.func20, Try.ntmps20
  go_wp2
  exact bodyPost_ret (v := .agg #[.slice (some ⟨w.heap.size + 1, 0, none⟩) 4 4]) (by simp [results, Try.results20, go_sem]) rfl ⟨w.heap.size + 1, rfl, ho, hb⟩
end Go.Proofs.Ytfhngajodfjkeaa
