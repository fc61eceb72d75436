/-
  Contracts: a list is lifted by a scheme, by the program.
-/
import Derived.Test.YtfbdmhkmkmbipaaLon
import Derived.Test.YtfbdmhkmkmbipaaHalfF
import Derived.Test.YtfbdmhkmkmbipaaStp
import Derived.Test.YtfbdmhkmkmbipaaStpE
import Derived.Test.YtfbdmhkmkmbipaaSft
import Derived.BigQuiet
namespace Go.Proofs.Ytfbdmhkmkmbipaa
open Go.RowKit Fl
set_option linter.unusedVariables false
set_option maxRecDepth 100000

def RetSt (n : Nat) (wt : Nat) (w : World) (e : Ending) (w' : World) : Prop :=
  e = .returned (.func (.func n) #[] #[.pointer (some ⟨w.heap.size, 0, none⟩)]) ∧ w' = w.alloc (.cells #[.float .f32 wt] 23)
theorem stepE_any (k wt : Nat) (w : World) (h : k % 2 = 0) : Calls Try.prog 121 #[.int .i64 (k : Int), .float .f32 wt] w (RetSt 141 wt w) := by
  have hrm : (k : Int).tmod 2 = ((k % 2 : Nat) : Int) := by rw [Int.tmod_eq_emod_of_nonneg (by omega)]; simp
  have hrm2 : (k : Int) % 2 = ((k % 2 : Nat) : Int) := by simp
  rw [h] at hrm hrm2
  go_enter Try.func121, Try.ntmps121
  go_wp2_with fail
  exact bodyPost_ret (v := .func (.func 141) #[] #[.pointer (some ⟨w.heap.size, 0, none⟩)]) (by simp [results, Try.results121, go_sem]) rfl ⟨rfl, rfl⟩
theorem stepO_any (k wt : Nat) (w : World) (h : k % 2 = 1) : Calls Try.prog 121 #[.int .i64 (k : Int), .float .f32 wt] w (RetSt 143 wt w) := by
  have hrm : (k : Int).tmod 2 = ((k % 2 : Nat) : Int) := by rw [Int.tmod_eq_emod_of_nonneg (by omega)]; simp
  have hrm2 : (k : Int) % 2 = ((k % 2 : Nat) : Int) := by simp
  rw [h] at hrm hrm2
  go_enter Try.func121, Try.ntmps121
  go_wp2_with fail
  exact bodyPost_ret (v := .func (.func 143) #[] #[.pointer (some ⟨w.heap.size, 0, none⟩)]) (by simp [results, Try.results121, go_sem]) rfl ⟨rfl, rfl⟩
theorem stp_run (k wt : Nat) (vl vh : Value) (cE tE cO tO : List Nat) (w : World) (lo : Nat) (he : k % 2 = 0) (hlo : lo ≤ w.heap.size) (hw : Is .f32 wt wt) (ho : Own w lo vh (fl cO)) (hr : Own w lo vl (fl cE)) (hap : Apart vh vl) (hx : IsL cE tE) (ht : IsL cO tO) (hl : cO.length ≤ cE.length) (hm : cE.length ≤ 128) :
    Calls Try.prog 141 #[vl, vh, .pointer (some ⟨w.heap.size, 0, none⟩)] (w.alloc (.cells #[.float .f32 wt] 23)) (RetStp lo vh vl cE (upO wt tE tO) (w.alloc (.cells #[.float .f32 wt] 23))) := by
  have hb : Below w.heap.size w (w.alloc (.cells #[.float .f32 wt] 23)) := (Below.refl _ _).alloc (Nat.le_refl _) _
  refine stp1_any w.heap.size wt wt vl vh cE tE cO tO _ lo ((cell_of_row _ _ _ _ _ _ (heap_alloc_new w _)).trans rfl) hw ?_ (ho.below hb) (hr.below hb) hap hx ht hl hm
  intro a n c e hn
  subst e
  obtain ⟨A, c', hv, _, _, h3⟩ := ho
  injection hv with e1 e2 e3
  obtain ⟨b, off, hA, _, hbw, _⟩ := h3 (by omega)
  rw [hA] at e1
  injection e1 with e1
  subst e1
  exact fun h => by simp only at h; omega
theorem stp_runE (k wt : Nat) (vl vh : Value) (cE tE cO tO : List Nat) (w : World) (lo : Nat) (he : k % 2 = 1) (hlo : lo ≤ w.heap.size) (hw : Is .f32 wt wt) (ho : Own w lo vl (fl cE)) (hr : Own w lo vh (fl cO)) (hap : Apart vl vh) (hx : IsL cO tO) (ht : IsL cE tE) (hl : cE.length ≤ cO.length + 1) (hp : 0 < cO.length) (hm : cO.length ≤ 128) :
    Calls Try.prog 143 #[vl, vh, .pointer (some ⟨w.heap.size, 0, none⟩)] (w.alloc (.cells #[.float .f32 wt] 23)) (RetStp lo vl vh cO (upE wt tO tE) (w.alloc (.cells #[.float .f32 wt] 23))) := by
  have hb : Below w.heap.size w (w.alloc (.cells #[.float .f32 wt] 23)) := (Below.refl _ _).alloc (Nat.le_refl _) _
  refine stp2_any w.heap.size wt wt vl vh cO tO cE tE _ lo ((cell_of_row _ _ _ _ _ _ (heap_alloc_new w _)).trans rfl) hw ?_ (ho.below hb) (hr.below hb) hap hx ht hl hp hm
  intro a n c e hn
  subst e
  obtain ⟨A, c', hv, _, _, h3⟩ := ho
  injection hv with e1 e2 e3
  obtain ⟨b, off, hA, _, hbw, _⟩ := h3 (by omega)
  rw [hA] at e1
  injection e1 with e1
  subst e1
  exact fun h => by simp only at h; omega
end Go.Proofs.Ytfbdmhkmkmbipaa
