/- The law on kinds that rise: all of it. -/
import Derived.Test.YtleflegbdnmgeaaGdR1
import Derived.Test.YtleflegbdnmgeaaGdR2
import Derived.Test.YtleflegbdnmgeaaGdR3
namespace Go.Proofs.Ytleflegbdnmgeaa.GdR
open Go.ChangeShapes Go.WideShapes Go.ChangeAt Go.RowKit
open GdT GdA GdB GdC GdD GdE GdK GdO GdR0
set_option linter.unusedVariables false
theorem all (n k : Int) (a : Option Addr) (l : List GdO.Act) (m c : Nat) (w : World) (hn : l.length = m) (hr : RdA w a l) : Calls Try.prog 6 #[.int .i64 n, .slice a m c, .int .i64 k] w fun e w' => e = .returned (.bool true) ∧ Below w.heap.size w w' := by
  by_cases h : 300 < m ∨ n < 1 ∨ 256 < n
  · exact GdR0.early n k a m c w h
  · obtain ⟨N, rfl⟩ := Int.eq_ofNat_of_zero_le (by omega : 0 ≤ n)
    by_cases a1 : k < 0
    · exact GdR1.law N k a l m c w hn hr (by omega) (by omega) (by omega) a1
    · by_cases a2 : (N : Int) ≤ k
      · exact GdR2.law N k a l m c w hn hr (by omega) (by omega) (by omega) a1 a2
      · exact GdR3.law N k a l m c w hn hr (by omega) (by omega) (by omega) a1 a2 (by omega)
end Go.Proofs.Ytleflegbdnmgeaa.GdR
