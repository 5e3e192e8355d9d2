/- Areas: once, the first time: the lock is taken, the function is called, it is marked as done, the lock is let go. -/
import Derived.Test.YtcggghiionlngaaAreB
import Derived.Defers
import Derived.RegionCalls
import Derived.Tactics2
namespace Go.Proofs.Ytcggghiionlngaa.AreC
open Go.ChangeShapes Go.WideShapes Go.ChangeAt Go.RowKit
open Mem GeoM GeoC GeoD AreA AreB
set_option linter.unusedVariables false
set_option maxHeartbeats 1600000

set_option maxRecDepth 100000 in
theorem lock0 (a : Addr) (w : World) (hc : w.cell? a = some (.int .i32 0)) (hz : w.frozen? a = false) :
    Calls Try.prog 56 #[.pointer (some a)] w fun e w' => e = .returned (.tuple #[]) ∧ w' = w.setCell a (.int .i32 1) := by
  have m1 := fun w => run_call_mark0 Try.func63 (by kernel_rfl) (by kernel_rfl) (by kernel_rfl) .disable (by kernel_rfl) w
  have m2 := fun w => run_call_mark0 Try.func65 (by kernel_rfl) (by kernel_rfl) (by kernel_rfl) .enable (by kernel_rfl) w
  have m3 := fun a w => run_call_marked Try.func66 (by kernel_rfl) (by kernel_rfl) (by kernel_rfl) .acquire (by kernel_rfl) a w
  have sw := run_call_cas_hit (P := Try.prog) Try.func64 (by kernel_rfl) (by kernel_rfl) (by kernel_rfl) .i32 (by kernel_rfl) (y := 1) hc hz
  have hc1 : (w.setCell a (.int .i32 1)).cell? a = some (.int .i32 1) := World.cell?_setCell_same w a _ hc
  have uv := run_convert_to_unsafe (P := Try.prog) (src := 103) (dst := 107) Try.underlying103 Try.underlying107 (by kernel_rfl) hc1
  have H59 : Hid (Calls Try.prog 59 #[.pointer (some a)] w fun e w' => e = .returned (.tuple #[]) ∧ w' = w.setCell a (.int .i32 1)) := Lib.hid (by
    go_enter Try.func59, Try.ntmps59
    go_wp2
    first | go_end0 | (simp only [Exit.inBlock, Exit.then]; refine bodyPost_ret (results_none rfl _ _ _) rfl ?_) | refine bodyPost_ret (results_none rfl _ _ _) rfl ?_
    exact ⟨rfl, rfl⟩)
  clear m1 m2 m3 sw hc1 uv hc hz
  go_enter Try.func56, Try.ntmps56
  go_wp2_with fail
  refine H59.out.mono ?_
  rintro e w' ⟨rfl, rfl⟩
  go_wp2
  go_end0
  exact ⟨rfl, rfl⟩

set_option maxRecDepth 100000 in
theorem stored (a : Addr) (x : Value) (u : FrameMode) (w : World) (hc : w.cell? a = some x) (hz : w.frozen? a = false) :
    CallsD Try.prog 58 #[.pointer (some a), .bool true] u w fun e u' w' => u' = u ∧ (e = .returned (.tuple #[]) ∧ w' = w.drew.setCell a (.int .u32 1)) := by
  have c1 : w.drew.cell? a = some x := by go_simp
  have z1 : w.drew.frozen? a = false := by go_simp
  have st := run_call_store (P := Try.prog) Try.func61 (by kernel_rfl) (by kernel_rfl) (by kernel_rfl) (by kernel_rfl) (k := .u32) (y := 1) c1 z1
  go_enter_d Try.func58, Try.ntmps58
  go_wp2
  go_region_calls
  all_goals (go_end0; exact ⟨rfl, rfl⟩)

set_option maxRecDepth 100000 in
theorem unlocked (a : Addr) (u : FrameMode) (w : World) (hc : w.cell? a = some (.int .i32 1)) (hz : w.frozen? a = false) :
    CallsD Try.prog 57 #[.pointer (some a)] u w fun e u' w' => u' = u ∧ (e = .returned (.tuple #[]) ∧ w' = w.setCell a (.int .i32 0)) := by
  have m1 := fun w => run_call_mark0 Try.func63 (by kernel_rfl) (by kernel_rfl) (by kernel_rfl) .disable (by kernel_rfl) w
  have m2 := fun w => run_call_mark0 Try.func65 (by kernel_rfl) (by kernel_rfl) (by kernel_rfl) .enable (by kernel_rfl) w
  have m3 := fun a w => run_call_marked Try.func68 (by kernel_rfl) (by kernel_rfl) (by kernel_rfl) .releaseMerge (by kernel_rfl) a w
  have ad := run_call_add (P := Try.prog) Try.func69 (by kernel_rfl) (by kernel_rfl) (by kernel_rfl) .i32 (by kernel_rfl) (y := -1) (s := 0) hc hz (by simp [go_sem]; rfl)
  have uv := run_convert_to_unsafe (P := Try.prog) (src := 103) (dst := 107) Try.underlying103 Try.underlying107 (by kernel_rfl) hc
  have H60 : Hid (Calls Try.prog 60 #[.pointer (some a)] w fun e w' => e = .returned (.tuple #[]) ∧ w' = w.setCell a (.int .i32 0)) := Lib.hid (by
    go_enter Try.func60, Try.ntmps60
    go_wp2
    go_end0
    exact ⟨rfl, rfl⟩)
  clear m1 m2 m3 ad uv hc hz
  go_enter_d Try.func57, Try.ntmps57
  go_wp2_with fail
  refine H60.out.mono ?_
  rintro e w' ⟨rfl, rfl⟩
  go_wp2
  go_end0
  exact ⟨rfl, rfl⟩

set_option maxRecDepth 100000 in
/-- The slow road, whatever the function does that leaves the two cells. -/
theorem slow (g i : Nat) (t : Addr) (w : World) (h0 : w.cell? ⟨g, i, none⟩ = some (.int .u32 0)) (h1 : w.cell? ⟨g, i + 1, none⟩ = some (.int .i32 0)) (f1 : w.frozen? ⟨g, i + 1, none⟩ = false) (R : World → Prop)
    (HF : Calls Try.prog 39 #[.pointer (some t)] (w.setCell ⟨g, i + 1, none⟩ (.int .i32 1)) fun e w2 => e = .returned (.tuple #[]) ∧ R w2)
    (HR : ∀ w2, R w2 → w2.cell? ⟨g, i, none⟩ = some (.int .u32 0) ∧ w2.cell? ⟨g, i + 1, none⟩ = some (.int .i32 1) ∧ w2.frozen? ⟨g, i, none⟩ = false ∧ w2.frozen? ⟨g, i + 1, none⟩ = false) :
    Calls Try.prog 50 #[.pointer (some ⟨g, i, none⟩), .func (.func 39) #[.pointer (some t)] #[]] w fun e w' => e = .returned (.tuple #[]) ∧ ∃ w2, R w2 ∧ w' = (w2.drew.setCell ⟨g, i, none⟩ (.int .u32 1)).setCell ⟨g, i + 1, none⟩ (.int .i32 0) := by
  have HL := Lib.hid (lock0 ⟨g, i + 1, none⟩ w h1 f1)
  have hl := run_call_load (P := Try.prog) Try.func55 (by kernel_rfl) (by kernel_rfl) (by kernel_rfl) .u32 (by kernel_rfl) (w := w.setCell ⟨g, i + 1, none⟩ (.int .i32 1)) (a := ⟨g, i, none⟩) (x := 0) ((World.cell?_setCell_other _ ⟨g, i + 1, none⟩ ⟨g, i, none⟩ _ (by simp)).trans h0)
  have hnot : ∀ (x : Bool) (w : World), (Op.unary .not (.bool x)).run Try.prog w = .ok (.bool (!x)) w := fun _ _ => rfl
  replace HF := Lib.hid HF
  replace HR := Lib.hid HR
  clear h0 h1 f1
  go_enter_defers Try.func50, Try.ntmps50
  go_wp2_with fail
  refine HL.out.mono ?_
  rintro e w' ⟨rfl, rfl⟩
  go_wp2_with (first
    | (go_at_call 39; refine HF.out.mono ?_; rintro e w2 ⟨rfl, hR⟩; have hR2 := Lib.hid hR; clear hR)
    | (go_at_call 49; go_in))
  obtain ⟨d0, d1, z0, z1⟩ := HR.out w2 hR2.out
  refine leaves_cons (f := 58) (args := #[.pointer (some ⟨g, i, none⟩), .bool true]) (by simp) (by simp [go_sem]) ?_
  refine (stored ⟨g, i, none⟩ _ .returning _ d0 z0).mono ?_
  rintro e u' w3 ⟨rfl, rfl, rfl⟩
  refine leaves_cons (f := 57) (args := #[.pointer (some ⟨g, i + 1, none⟩)]) (by simp [settle]) (by simp [go_sem]) ?_
  refine (unlocked ⟨g, i + 1, none⟩ _ (w2.drew.setCell ⟨g, i, none⟩ (.int .u32 1)) ((World.cell?_setCell_other _ ⟨g, i, none⟩ ⟨g, i + 1, none⟩ _ (by simp)).trans (by rw [World.cell?_drew]; exact d1)) (by simp [z1])).mono ?_
  rintro e u' w4 ⟨rfl, rfl, rfl⟩
  simp [Leaves, settle, results, Try.results50]
  exact ⟨w2, hR2.out, rfl⟩
end Go.Proofs.Ytcggghiionlngaa.AreC
