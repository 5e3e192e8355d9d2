/- Areas: a table in memory. -/
import Derived.Test.YtcggghiionlngaaGeoG
import Derived.Test.YtcggghiionlngaaReg
namespace Go.Proofs.Ytcggghiionlngaa.AreA
open Go.ChangeShapes Go.WideShapes Go.ChangeAt Go.RowKit
open Mem GeoM GeoC GeoD
set_option linter.unusedVariables false
set_option maxHeartbeats 1000000

structure Stt where
  (z0 z1 z2 z3 e : Int)
  (d : Bool)
deriving DecidableEq
def sc (s : Stt) : Array Value := #[.int .i64 s.z0, .int .i64 s.z1, .int .i64 s.z2, .int .i64 s.z3, .int .u8 s.e, .bool s.d]
def sv (s : Stt) : Value := .agg (sc s)
def zeroS : Stt := ⟨0, 0, 0, 0, 0, false⟩
/-- A table of areas: nine numbers, what was set last, what is in force, and nineteen cells more (the once's three, sizes and first places). -/
def Tb (w : World) (g : Nat) (c : Cfg) (l a : Stt) (o : List Value) : Prop := o.length = 19 ∧ Blk w g 78 ((cc c).toList ++ ((sc l).toList ++ ((sc a).toList ++ o))).toArray
section
variable {w w' : World} {g : Nat} {c : Cfg} {l a : Stt} {o : List Value}
theorem Tb.lt (h : Tb w g c l a o) : g < w.heap.size := h.2.lt
theorem Tb.below {B : Nat} (h : Tb w g c l a o) (hb : Below B w w') (hg : g < B) : Tb w' g c l a o := ⟨h.1, h.2.below hb hg⟩
theorem Tb.drew (h : Tb w g c l a o) : Tb w.drew g c l a o := h
theorem Tb.cfg (h : Tb w g c l a o) : w.rangeAt g 0 (cc c).toList := fun j v hv => by
  rw [Nat.zero_add, h.2.cell]
  have hj := (List.getElem?_eq_some_iff.1 hv).1
  rw [List.getElem?_toArray, List.getElem?_append_left hj]; exact hv
theorem Tb.last (h : Tb w g c l a o) : w.rangeAt g 9 (sc l).toList := fun j v hv => by
  rw [h.2.cell]
  have hj := (List.getElem?_eq_some_iff.1 hv).1
  have e9 : (cc c).toList.length = 9 := rfl
  rw [List.getElem?_toArray, List.getElem?_append_right (by omega), e9, show 9 + j - 9 = j by omega, List.getElem?_append_left hj]; exact hv
theorem Tb.act (h : Tb w g c l a o) : w.rangeAt g 15 (sc a).toList := fun j v hv => by
  rw [h.2.cell]
  have hj := (List.getElem?_eq_some_iff.1 hv).1
  have e9 : (cc c).toList.length = 9 := rfl
  have e6 : (sc l).toList.length = 6 := rfl
  rw [List.getElem?_toArray, List.getElem?_append_right (by omega), e9, List.getElem?_append_right (by omega), e6, show 15 + j - 9 - 6 = j by omega, List.getElem?_append_left hj]; exact hv
theorem Tb.lastDone (h : Tb w g c l a o) : w.cell? ⟨g, 14, none⟩ = some (.bool l.d) := h.last 5 _ rfl
theorem Tb.actDone (h : Tb w g c l a o) : w.cell? ⟨g, 20, none⟩ = some (.bool a.d) := h.act 5 _ rfl
end

theorem activeW (g : Nat) (c : Cfg) (l a : Stt) (o : List Value) (w : World) (h : Tb w g c l a o) : Calls Try.prog 26 #[.pointer (some ⟨g, 0, none⟩)] w fun e w' => e = .returned (.bool a.d) ∧ w' = w := by
  have c20 := h.actDone
  clear h
  go_enter Try.func26, Try.ntmps26
  go_wp2
  go_ret
  exact ⟨rfl, rfl⟩

theorem i26 : (Try.prog.info? 26).map (·.size) = some 6 := by kernel_rfl
theorem settingW (g : Nat) (c : Cfg) (l a : Stt) (o : List Value) (w : World) (h : Tb w g c l a o) : Calls Try.prog 25 #[.pointer (some ⟨g, 0, none⟩)] w fun e w' => e = .returned (sv l) ∧ Below w.heap.size w w' := by
  have e1 : Hid (Blk (w.alloc (.cells #[.int .i64 0, .int .i64 0, .int .i64 0, .int .i64 0, .int .u8 0, .bool false] 26)) w.heap.size 26 #[.int .i64 0, .int .i64 0, .int .i64 0, .int .i64 0, .int .u8 0, .bool false]) := Lib.hid (Mem.Blk.new w 26 _)
  have B1 := (Below.refl w.heap.size w).alloc (Nat.le_refl _) (.cells #[.int .i64 0, .int .i64 0, .int .i64 0, .int .i64 0, .int .u8 0, .bool false] 26)
  have r1 := Lib.hid (range_below h.last B1 h.lt)
  replace B1 := Lib.hid B1
  clear h
  go_enter Try.func25, Try.ntmps25
  go_wp2_with (first
    | ((with_reducible show wpList _ _ _ (Oper.mk _ (Op.load 26 (.tmp 5)) _ _ _ _ :: _) _ _); refine Mem.loadMid 26 (.tmp 5) rfl g 9 rfl (sc l) r1.out _ Try.underlying26 rfl i26 rfl ?_)
    | ((with_reducible show wpList _ _ _ (Oper.mk _ (Op.store 26 (.tmp 2) (.tmp 6)) _ _ _ _ :: _) _ _); refine Mem.storeBlk 26 (.tmp 2) (.tmp 6) rfl w.heap.size rfl _ (sc l) rfl 26 e1.out i26 rfl (by simp [sc]; exact ⟨rfl, rfl, rfl, rfl, rfl, rfl⟩) w.heap.size w B1.out (Nat.le_refl _) rfl ?_; intro w2 hB2 hb2))
  refine bodyPost_ret (results_cell_row Try.results25 _ _ w.heap.size 26 _ (0, 0) _ rfl hB2 Try.underlying26 rfl i26) rfl ⟨rfl, hb2⟩
end Go.Proofs.Ytcggghiionlngaa.AreA
