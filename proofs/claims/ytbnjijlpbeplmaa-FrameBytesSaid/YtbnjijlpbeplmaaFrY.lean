/- Any bytes as a frame: Read and Decode, the program's and the document's. -/
import Derived.Test.YtbnjijlpbeplmaaFrX
import Derived.Test.YtbnjijlpbeplmaaMem
namespace Go.Proofs.Ytbnjijlpbeplmaa.FrY
open Go.ChangeShapes Go.WideShapes Go.ChangeAt Go.RowKit
open CrcM CrcB CrcL CrcQ FrA FrB FrT FrD FrU
set_option linter.unusedVariables false
set_option maxHeartbeats 1000000

theorem readW (a : Option Addr) (l : List B8) (n c : Nat) (w : World) (hn : l.length = n) (hc : n ≤ c) (hr : Rd w a l) :
    Calls Try.prog 39 #[.slice a n c] w fun e w' => e = .returned (.tuple #[.int .i64 (tell 0 l).1, .int .u32 (tell 0 l).2.1, .int .i64 (tell 0 l).2.2]) ∧ Below w.heap.size w w' := by
  have H := Lib.hid (takeAny a l n c 0 w hn hc hr)
  clear hr hn
  generalize tell 0 l = T at *
  go_enter Try.func39, Try.ntmps39
  go_wp2_with fail
  refine H.out.mono ?_
  rintro e w' ⟨rfl, hb⟩
  go_wp2
  go_ret3
  exact ⟨rfl, hb⟩

theorem readR (a : Option Addr) (l : List B8) (n c : Nat) (w : World) (hn : l.length = n) (hc : n ≤ c) (hr : Rd w a l) :
    Calls Try.prog 40 #[.slice a n c] w fun e w' => e = .returned (.tuple #[.int .i64 (tell 0 l).1, .int .u32 (tell 0 l).2.1, .int .i64 (tell 0 l).2.2]) ∧ Below w.heap.size w w' := by
  have H := Lib.hid (FrX.readAny a l n c 0 w hn hc hr)
  clear hr hn
  generalize tell 0 l = T at *
  go_enter Try.func40, Try.ntmps40
  go_wp2_with fail
  refine H.out.mono ?_
  rintro e w' ⟨rfl, hb⟩
  go_wp2
  go_ret3
  exact ⟨rfl, hb⟩

theorem i63 : (Try.prog.info? 63).map (·.size) = some 2 := by kernel_rfl
set_option maxRecDepth 100000 in
theorem decW (a : Option Addr) (l : List B8) (n c : Nat) (w : World) (hn : l.length = n) (hc : n ≤ c) (hr : Rd w a l) (ha : ∀ x, 0 < l.length → a = some x → x.block < w.heap.size) :
    Calls Try.prog 35 #[.slice a n c] w fun e w' => e = .returned (.tuple #[.agg #[.int .i64 (tell 1 l).1, .int .u32 (tell 1 l).2.1], .int .i64 (tell 1 l).2.2]) ∧ Below w.heap.size w w' := by
  obtain ⟨w1, hw1⟩ : ∃ w1, w1 = w.alloc (.cells #[.int .i64 0, .int .u32 0] 63) := ⟨_, rfl⟩
  have c1 : Mem.Blk w1 w.heap.size 63 #[.int .i64 0, .int .u32 0] := by rw [hw1]; exact Mem.Blk.new w 63 _
  have D1 : Below w.heap.size w w1 := by rw [hw1]; exact (Below.refl _ _).alloc (Nat.le_refl _) _
  have H := Lib.hid (takeAny a l n c 1 w1 hn hc (Rd.below hr D1 ha))
  replace c1 := Lib.hid c1
  replace D1 := Lib.hid D1
  clear hr hn ha
  generalize tell 1 l = T at *
  go_enter Try.func35, Try.ntmps35
  go_wp2_with fail
  rw [← hw1]
  replace hw1 := Lib.hid hw1
  refine H.out.mono ?_
  rintro e w' ⟨rfl, hb⟩
  have c2 := Lib.hid (Mem.Blk.below c1.out hb c1.out.lt)
  have D2 := Lib.hid (D1.out.trans (hb.mono D1.out.size))
  clear hb
  go_wp2_with (first | ((with_reducible show wpList _ _ _ (Oper.mk _ (Op.store 63 (.tmp 2) (.tmp 15)) _ _ _ _ :: _) _ _); refine Mem.storeBlk 63 (.tmp 2) (.tmp 15) rfl w.heap.size rfl _ #[.int .i64 T.1, .int .u32 T.2.1] rfl 63 c2.out i63 rfl (by kernel_rfl) w.heap.size w D2.out (Nat.le_refl _) rfl ?_; intro w5 hB5 hb5))
  exact bodyPost_ret (Mem.results_mid2 Try.results35 _ _ w.heap.size #[.int .i64 T.1, .int .u32 T.2.1] _ rfl (Mem.Blk.range hB5) Try.underlying63 rfl i63) rfl ⟨rfl, hb5⟩

theorem i69 : (Try.prog.info? 69).map (·.size) = some 2 := by kernel_rfl
set_option maxRecDepth 100000 in
theorem decR (a : Option Addr) (l : List B8) (n c : Nat) (w : World) (hn : l.length = n) (hc : n ≤ c) (hr : Rd w a l) (ha : ∀ x, 0 < l.length → a = some x → x.block < w.heap.size) :
    Calls Try.prog 36 #[.slice a n c] w fun e w' => e = .returned (.tuple #[.agg #[.int .i64 (tell 1 l).1, .int .u32 (tell 1 l).2.1], .int .i64 (tell 1 l).2.2]) ∧ Below w.heap.size w w' := by
  obtain ⟨w1, hw1⟩ : ∃ w1, w1 = w.alloc (.cells #[.int .i64 0, .int .u32 0] 69) := ⟨_, rfl⟩
  have c1 : Mem.Blk w1 w.heap.size 69 #[.int .i64 0, .int .u32 0] := by rw [hw1]; exact Mem.Blk.new w 69 _
  have D1 : Below w.heap.size w w1 := by rw [hw1]; exact (Below.refl _ _).alloc (Nat.le_refl _) _
  have H := Lib.hid (FrX.readAny a l n c 1 w1 hn hc (Rd.below hr D1 ha))
  replace c1 := Lib.hid c1
  replace D1 := Lib.hid D1
  clear hr hn ha
  generalize tell 1 l = T at *
  go_enter Try.func36, Try.ntmps36
  go_wp2_with fail
  rw [← hw1]
  replace hw1 := Lib.hid hw1
  refine H.out.mono ?_
  rintro e w' ⟨rfl, hb⟩
  have c2 := Lib.hid (Mem.Blk.below c1.out hb c1.out.lt)
  have D2 := Lib.hid (D1.out.trans (hb.mono D1.out.size))
  clear hb
  go_wp2_with (first | ((with_reducible show wpList _ _ _ (Oper.mk _ (Op.store 69 (.tmp 2) (.tmp 15)) _ _ _ _ :: _) _ _); refine Mem.storeBlk 69 (.tmp 2) (.tmp 15) rfl w.heap.size rfl _ #[.int .i64 T.1, .int .u32 T.2.1] rfl 69 c2.out i69 rfl (by kernel_rfl) w.heap.size w D2.out (Nat.le_refl _) rfl ?_; intro w5 hB5 hb5))
  exact bodyPost_ret (Mem.results_mid2 Try.results36 _ _ w.heap.size #[.int .i64 T.1, .int .u32 T.2.1] _ rfl (Mem.Blk.range hB5) Try.underlying69 rfl i69) rfl ⟨rfl, hb5⟩
end Go.Proofs.Ytbnjijlpbeplmaa.FrY
