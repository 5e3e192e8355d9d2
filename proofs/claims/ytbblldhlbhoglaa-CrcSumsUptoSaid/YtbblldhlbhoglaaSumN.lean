/- The maker of sums. -/
import Derived.Test.YtbblldhlbhoglaaSumT
namespace Go.Proofs.Ytbblldhlbhoglaa.SumN
open Go.ChangeShapes Go.WideShapes Go.ChangeAt Go.RowKit
open CrcM CrcA CrcK CrcP SumF SumO SumT
set_option linter.unusedVariables false
set_option maxHeartbeats 1000000

noncomputable def blank : Value := ((Try.prog.info? 55).bind (·.zero)).getD undef
noncomputable def parts : Array Value := match blank with | .agg cs => cs | v => #[v]
theorem zero55 (w : World) : (zeroValue 55).run Try.prog w = .ok (.agg parts) w := by kernel_rfl
theorem flat : parts.toList = [.int .u32 0, .int .i32 0, .int .u32 0] ++ List.replicate 256 (.int .u8 0) ++ List.replicate 256 (.int .u16 0) ++ [.int .i64 0] := by kernel_rfl
theorem flat_size : parts.size = 516 := by
  rw [← Array.length_toList, flat]; simp only [List.length_append, List.length_replicate, List.length_cons, List.length_nil]
theorem flat_at (i : Nat) : parts[i]? = ([.int .u32 0, .int .i32 0, .int .u32 0] ++ List.replicate 256 (.int .u8 0) ++ List.replicate 256 (.int .u16 0) ++ [.int .i64 0] : List Value)[i]? := by
  rw [← flat, Array.getElem?_toList]
theorem flat_last : parts[515]? = some (.int .i64 0) := by
  rw [flat_at, List.getElem?_append_right (by simp only [List.length_append, List.length_replicate, List.length_cons, List.length_nil]; omega)]
  simp only [List.length_append, List.length_replicate, List.length_cons, List.length_nil]
  rfl

theorem new_any (w : World) : Calls Try.prog 9 #[] w fun e w' => e = .returned (.pointer (some ⟨w.heap.size, 0, none⟩)) ∧ Sum w' w.heap.size 0 ∧ Below w.heap.size w w' := by
  have hz := zero55
  go_enter Try.func9, Try.ntmps9
  go_wp2
  go_ret
  exact ⟨rfl, ⟨parts, heap_alloc_new w _, flat_size, flat_last, .inl ⟨by rw [flat_at]; rfl, by rw [flat_at]; rfl⟩⟩, (Below.refl _ _).alloc (Nat.le_refl _) _⟩
end Go.Proofs.Ytbblldhlbhoglaa.SumN
