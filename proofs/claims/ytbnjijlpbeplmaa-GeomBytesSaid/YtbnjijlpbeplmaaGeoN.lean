/- Geom's bytes: how they are laid. -/
import Derived.Test.YtbnjijlpbeplmaaGeoH
import Derived.Test.YtbnjijlpbeplmaaTokB
namespace Go.Proofs.Ytbnjijlpbeplmaa.GeoN
open Go.ChangeShapes Go.WideShapes Go.ChangeAt Go.RowKit
open GeoM GeoC GeoD TokA TokB
set_option linter.unusedVariables false
set_option maxHeartbeats 2000000
abbrev Y8 := BitVec 8
def bt (n : Int) : Y8 := BitVec.ofNat 8 (n % 256).toNat
theorem bt_int (n : Int) : ((bt n).toNat : Int) = n % 256 := by
  unfold bt; rw [BitVec.toNat_ofNat]; omega
def four (n : Int) : List Y8 := [bt n, bt (n / 256), bt (n / 65536), bt (n / 16777216)]
def nums (c : Cfg) : List Int := [c.blocks, c.pages, c.sector, c.user, c.boot, c.rpa, c.group, c.cache, c.spare]
def encTo (c : Cfg) (k : Nat) : List Y8 := ((nums c).take k).flatMap four
theorem nine_of {k : Nat} (h : k < 9) : k = 0 ∨ k = 1 ∨ k = 2 ∨ k = 3 ∨ k = 4 ∨ k = 5 ∨ k = 6 ∨ k = 7 ∨ k = 8 := by omega
theorem encTo_length (c : Cfg) (k : Nat) (h : k ≤ 9) : (encTo c k).length = 4 * k := by
  obtain rfl | rfl | rfl | rfl | rfl | rfl | rfl | rfl | rfl | rfl : k = 0 ∨ k = 1 ∨ k = 2 ∨ k = 3 ∨ k = 4 ∨ k = 5 ∨ k = 6 ∨ k = 7 ∨ k = 8 ∨ k = 9 := by omega
  all_goals rfl
theorem encTo_step (c : Cfg) (k : Nat) (h : k < 9) : encTo c k ++ four ((nums c).getD k 0) = encTo c (k + 1) := by
  obtain rfl | rfl | rfl | rfl | rfl | rfl | rfl | rfl | rfl := nine_of h
  all_goals rfl
theorem ix108 (c : Cfg) (k : Nat) (h : k < 9) (w : World) : (Instr.index 108 (.agg (cc c)) (.int .i64 (k : Int))).run Try.prog w = .ok (.int .i64 ((nums c).getD k 0)) w := by
  obtain rfl | rfl | rfl | rfl | rfl | rfl | rfl | rfl | rfl := nine_of h
  all_goals kernel_rfl
theorem cell9 (c : Cfg) (k : Nat) (h : k < 9) : (cc c)[k]? = some (.int .i64 ((nums c).getD k 0)) := by
  obtain rfl | rfl | rfl | rfl | rfl | rfl | rfl | rfl | rfl := nine_of h
  all_goals rfl
theorem rd4 (w : World) (x y z u : Y8) (n0 n1 n2 n3 : Int) (g : Nat) (hg : g = w.heap.size) (h0 : n0 = (x.toNat : Int)) (h1 : n1 = (y.toNat : Int)) (h2 : n2 = (z.toNat : Int)) (h3 : n3 = (u.toNat : Int)) :
    Rd (w.alloc (.cells #[.int .u8 n0, .int .u8 n1, .int .u8 n2, .int .u8 n3] 5)) (some ⟨g, 0, none⟩) [x, y, z, u] := by
  subst h0 h1 h2 h3 hg
  refine Rd.of_whole (Whole.made w _) (by simp [maxLen]) fun i hi => ?_
  have hi5 : i < 4 := hi
  match i, hi5 with
  | 0, _ => rfl
  | 1, _ => rfl
  | 2, _ => rfl
  | 3, _ => rfl
theorem own_below {w w' : World} {base : Nat} {v : Value} {xs : List Y8} (h : Own w base v xs) (hb : Below w.heap.size w w') : Own w' base v xs :=
  World.ownsRow.kept (row := none) h ⟨hb.os, hb.tape, hb.output, hb.size, fun k hk _ => hb.block k hk⟩ (by cases v.ownBlock <;> simp)
theorem own_lt {w : World} {base n c : Nat} {a : Option Addr} {xs : List Y8} (h : Own w base (.slice a n c) xs) : ∀ y, a = some y → y.block < w.heap.size := fun y e => by
  subst e
  exact (World.ownsRow.lt h y.block rfl).2
theorem run_36 (w : World) : (Instr.makeSlice 24 (.int .i64 0) (.int .i64 36)).run Try.prog w = .ok (.slice (some ⟨w.heap.size, 0, none⟩) 0 36) (w.alloc (.cells (madeCells #[.int .u8 0] 36) 5)) := run_room 33 (by omega) w

theorem numbersW (c : Cfg) (w : World) : Calls Try.prog 65 #[cv c] w fun e w' => e = .returned (.agg (cc c)) ∧ Below w.heap.size w w' := by
  obtain ⟨b, p, s, u, o, r, g, k, x⟩ := c
  show Calls Try.prog 65 #[.agg #[.int .i64 b, .int .i64 p, .int .i64 s, .int .i64 u, .int .i64 o, .int .i64 r, .int .i64 g, .int .i64 k, .int .i64 x]] w _
  go_enter Try.func65, Try.ntmps65
  go_wp2
  go_returns
  exact ⟨rfl, ((Below.refl _ _).alloc (Nat.le_refl _) _).alloc (by simp) _⟩
theorem numbersR (c : Cfg) (w : World) : Calls Try.prog 67 #[cv c] w fun e w' => e = .returned (.slice (some ⟨w.heap.size + 1, 0, none⟩) 9 9) ∧ Mem.Blk w' (w.heap.size + 1) 3 (cc c) ∧ Below w.heap.size w w' := by
  obtain ⟨b, p, s, u, o, r, g, k, x⟩ := c
  show Calls Try.prog 67 #[.agg #[.int .i64 b, .int .i64 p, .int .i64 s, .int .i64 u, .int .i64 o, .int .i64 r, .int .i64 g, .int .i64 k, .int .i64 x]] w _
  go_enter Try.func67, Try.ntmps67
  go_wp2
  go_ret
  refine ⟨by simp, ?_, ((Below.refl _ _).alloc (Nat.le_refl _) _).alloc (by simp) _⟩
  have h := Mem.Blk.new (w.alloc (.cells #[.int .i64 b, .int .i64 p, .int .i64 s, .int .i64 u, .int .i64 o, .int .i64 r, .int .i64 g, .int .i64 k, .int .i64 x] 23)) 3 #[.int .i64 b, .int .i64 p, .int .i64 s, .int .i64 u, .int .i64 o, .int .i64 r, .int .i64 g, .int .i64 k, .int .i64 x]
  simp only [World.size_alloc] at h
  exact h
end Go.Proofs.Ytbnjijlpbeplmaa.GeoN
