/- Contracts of geom's Decode, the program's and the document's. -/
import Derived.Test.YtbnjijlpbeplmaaGeoP
import Derived.Test.YtbnjijlpbeplmaaGeoRC
namespace Go.Proofs.Ytbnjijlpbeplmaa.GeoQ
open Go.ChangeShapes Go.WideShapes Go.ChangeAt Go.RowKit
open GeoM GeoC GeoD GeoE TokA TokB GeoN GeoP
set_option linter.unusedVariables false
set_option maxHeartbeats 2000000

def num (l : List Y8) (k : Nat) : Int := ((l.getD (4 * k) 0).toNat : Int) + ((l.getD (4 * k + 1) 0).toNat : Int) * 256 + ((l.getD (4 * k + 2) 0).toNat : Int) * 65536 + ((l.getD (4 * k + 3) 0).toNat : Int) * 16777216
def cfgOf (l : List Y8) : Cfg := ⟨num l 0, num l 1, num l 2, num l 3, num l 4, num l 5, num l 6, num l 7, num l 8⟩
def nil9 : Cfg := ⟨0, 0, 0, 0, 0, 0, 0, 0, 0⟩
def arr (f : Nat → Int) (k : Nat) : Array Value := #[.int .i64 (if 0 < k then f 0 else 0), .int .i64 (if 1 < k then f 1 else 0), .int .i64 (if 2 < k then f 2 else 0), .int .i64 (if 3 < k then f 3 else 0), .int .i64 (if 4 < k then f 4 else 0), .int .i64 (if 5 < k then f 5 else 0), .int .i64 (if 6 < k then f 6 else 0), .int .i64 (if 7 < k then f 7 else 0), .int .i64 (if 8 < k then f 8 else 0)]
theorem arr_step (f : Nat → Int) (k : Nat) (h : k < 9) : (arr f k).setIfInBounds k (.int .i64 (f k)) = arr f (k + 1) := by
  obtain rfl | rfl | rfl | rfl | rfl | rfl | rfl | rfl | rfl := nine_of h
  all_goals rfl
theorem arr_size (f : Nat → Int) (k : Nat) : (arr f k).size = 9 := rfl
/-- What bytes say, and the error. -/
def dec (l : List Y8) : Cfg × Int := if l.length = 36 ∧ check (cfgOf l) = true then (cfgOf l, 0) else (nil9, 24)

theorem or1 (a b : Int) (ha : 0 ≤ a ∧ a ≤ 255) (hb : 0 ≤ b ∧ b ≤ 255) : bits .or .u32 a (b * 256) = a + b * 256 := by
  obtain ⟨a, rfl⟩ := Int.eq_ofNat_of_zero_le ha.1
  obtain ⟨b, rfl⟩ := Int.eq_ofNat_of_zero_le hb.1
  rw [show ((b : Int) * 256) = ((b * 256 : Nat) : Int) by omega, u32_or_nat _ _ (by omega) (by omega)]
  have := Nat.shiftLeft_add_eq_or_of_lt (b := a) (i := 8) (by omega) b
  rw [Nat.shiftLeft_eq] at this
  rw [Nat.or_comm, show b * 256 = b * 2 ^ 8 from rfl, ← this]
  omega
theorem or2 (a b : Int) (ha : 0 ≤ a ∧ a ≤ 65535) (hb : 0 ≤ b ∧ b ≤ 255) : bits .or .u32 a (b * 65536) = a + b * 65536 := by
  obtain ⟨a, rfl⟩ := Int.eq_ofNat_of_zero_le ha.1
  obtain ⟨b, rfl⟩ := Int.eq_ofNat_of_zero_le hb.1
  rw [show ((b : Int) * 65536) = ((b * 65536 : Nat) : Int) by omega, u32_or_nat _ _ (by omega) (by omega)]
  have := Nat.shiftLeft_add_eq_or_of_lt (b := a) (i := 16) (by omega) b
  rw [Nat.shiftLeft_eq] at this
  rw [Nat.or_comm, show b * 65536 = b * 2 ^ 16 from rfl, ← this]
  omega
theorem or3 (a b : Int) (ha : 0 ≤ a ∧ a ≤ 16777215) (hb : 0 ≤ b ∧ b ≤ 255) : bits .or .u32 a (b * 16777216) = a + b * 16777216 := by
  obtain ⟨a, rfl⟩ := Int.eq_ofNat_of_zero_le ha.1
  obtain ⟨b, rfl⟩ := Int.eq_ofNat_of_zero_le hb.1
  rw [show ((b : Int) * 16777216) = ((b * 16777216 : Nat) : Int) by omega, u32_or_nat _ _ (by omega) (by omega)]
  have := Nat.shiftLeft_add_eq_or_of_lt (b := a) (i := 24) (by omega) b
  rw [Nat.shiftLeft_eq] at this
  rw [Nat.or_comm, show b * 16777216 = b * 2 ^ 24 from rfl, ← this]
  omega

set_option maxRecDepth 100000 in
theorem decShortW (a : Option Addr) (n c : Nat) (w : World) (hn : n ≠ 36) :
    Calls Try.prog 13 #[.slice a n c] w fun e w' => e = .returned (.tuple #[cv nil9, .int .i64 24]) ∧ Below w.heap.size w w' := by
  have hq : ((n : Int) != 36) = true := by rw [bne_iff_ne]; omega
  go_enter Try.func13, Try.ntmps13
  go_wp2
  refine bodyPost_ret (Mem.results_mid2 Try.results13 _ _ w.heap.size (cc nil9) _ rfl (Mem.Blk.range (Mem.Blk.new w 23 (cc nil9))) Try.underlying23 rfl i23) rfl ⟨rfl, ?_⟩
  exact (Below.refl _ _).alloc (Nat.le_refl _) _
end Go.Proofs.Ytbnjijlpbeplmaa.GeoQ
