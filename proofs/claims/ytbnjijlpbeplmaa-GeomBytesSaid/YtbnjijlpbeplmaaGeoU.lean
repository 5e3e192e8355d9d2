/- Geom's bytes: both Decodes said; what was laid is read. -/
import Derived.Test.YtbnjijlpbeplmaaGeoT
import Derived.Test.YtbnjijlpbeplmaaReg
namespace Go.Proofs.Ytbnjijlpbeplmaa.GeoU
open Go.ChangeShapes Go.WideShapes Go.ChangeAt Go.RowKit
open GeoM GeoC GeoD GeoE GeoR TokA TokB GeoN GeoP GeoQ GeoS
set_option linter.unusedVariables false
set_option maxHeartbeats 2000000
set_option maxRecDepth 100000 in
theorem decShortR (a : Option Addr) (n c : Nat) (w : World) (hn : n ≠ 36) :
    Calls Try.prog 14 #[.slice a n c] w fun e w' => e = .returned (.tuple #[cv nil9, .int .i64 24]) ∧ Below w.heap.size w w' := by
  have hq : ((n : Int) != 36) = true := by rw [bne_iff_ne]; omega
  go_enter Try.func14, Try.ntmps14
  go_wp2
  refine bodyPost_ret (Mem.results_mid2 Try.results14 _ _ w.heap.size (cc nil9) _ rfl (Mem.Blk.range (Mem.Blk.new w 23 (cc nil9))) Try.underlying23 rfl i23) rfl ⟨rfl, ?_⟩
  exact (Below.refl _ _).alloc (Nat.le_refl _) _
theorem dec_eq (l : List Y8) (h : l.length = 36) : (Ending.returned (.tuple #[if errOf (cfgOf l) = 0 then .agg #[.int .i64 (num l 0), .int .i64 (num l 1), .int .i64 (num l 2), .int .i64 (num l 3), .int .i64 (num l 4), .int .i64 (num l 5), .int .i64 (num l 6), .int .i64 (num l 7), .int .i64 (num l 8)] else cv nil9, .int .i64 (if errOf (cfgOf l) = 0 then 0 else 24)]) : Ending) = .returned (.tuple #[cv (dec l).1, .int .i64 (dec l).2]) := by
  unfold dec errOf
  by_cases hk : check (cfgOf l) = true
  · rw [if_pos hk, if_pos rfl, if_pos rfl, if_pos ⟨h, hk⟩]; rfl
  · rw [if_neg hk, if_neg (by decide), if_neg (by decide), if_neg (fun h => hk h.2)]
theorem errOf_or (c : Cfg) : errOf c = 0 ∨ errOf c = 1 := by unfold errOf; split <;> simp
theorem decW (a : Option Addr) (l : List Y8) (n c : Nat) (w : World) (hn : l.length = n) (hr : Rd w a l) (ha : ∀ x, 0 < l.length → a = some x → x.block < w.heap.size) :
    Calls Try.prog 13 #[.slice a n c] w fun e w' => e = .returned (.tuple #[cv (dec l).1, .int .i64 (dec l).2]) ∧ Below w.heap.size w w' := by
  by_cases h : n = 36
  · subst h
    rcases hr.cells with rfl | ⟨b, off, rfl, hc⟩
    · simp at hn
    · rw [← dec_eq l hn]
      exact decFullW b off c l (num l) (errOf (cfgOf l)) w (errOf_or _) (fun _ _ => rfl) (ha ⟨b, off, none⟩ (by omega) rfl) (fun i hi => hc i (by omega)) (fun w => checkW (cfgOf l) w)
  · have e : dec l = (nil9, 24) := if_neg (fun hh => h (hn.symm.trans hh.1))
    rw [e]
    exact decShortW a n c w h
theorem decR (a : Option Addr) (l : List Y8) (n c : Nat) (w : World) (hn : l.length = n) (hr : Rd w a l) (ha : ∀ x, 0 < l.length → a = some x → x.block < w.heap.size) :
    Calls Try.prog 14 #[.slice a n c] w fun e w' => e = .returned (.tuple #[cv (dec l).1, .int .i64 (dec l).2]) ∧ Below w.heap.size w w' := by
  by_cases h : n = 36
  · subst h
    rcases hr.cells with rfl | ⟨b, off, rfl, hc⟩
    · simp at hn
    · rw [← dec_eq l hn]
      exact decFullR b off c l (num l) (errOf (cfgOf l)) w (errOf_or _) (fun _ _ => rfl) (ha ⟨b, off, none⟩ (by omega) rfl) (fun i hi => hc i (by omega)) (fun w => checkRW (cfgOf l) w)
  · have e : dec l = (nil9, 24) := if_neg (fun hh => h (hn.symm.trans hh.1))
    rw [e]
    exact decShortR a n c w h
theorem four_num (n : Int) (h0 : 0 ≤ n) (h1 : n < 4294967296) : ((bt n).toNat : Int) + ((bt (n / 256)).toNat : Int) * 256 + ((bt (n / 65536)).toNat : Int) * 65536 + ((bt (n / 16777216)).toNat : Int) * 16777216 = n := by
  rw [bt_int, bt_int, bt_int, bt_int]; omega
theorem dec_enc (c : Cfg) (h : check c = true) : dec (encTo c 9) = (c, 0) := by
  have hp := (check_plain h).1
  obtain ⟨b, p, s, u, o, r, g, k, x⟩ := c
  unfold Plain at hp
  simp only at hp
  have e : cfgOf (encTo ⟨b, p, s, u, o, r, g, k, x⟩ 9) = ⟨b, p, s, u, o, r, g, k, x⟩ := by
    unfold cfgOf num
    have e0 := four_num b (by omega) (by omega)
    have e1 := four_num p (by omega) (by omega)
    have e2 := four_num s (by omega) (by omega)
    have e3 := four_num u (by omega) (by omega)
    have e4 := four_num o (by omega) (by omega)
    have e5 := four_num r (by omega) (by omega)
    have e6 := four_num g (by omega) (by omega)
    have e7 := four_num k (by omega) (by omega)
    have e8 := four_num x (by omega) (by omega)
    simp only [Cfg.mk.injEq]
    exact ⟨e0, e1, e2, e3, e4, e5, e6, e7, e8⟩
  unfold dec
  rw [e, if_pos ⟨encTo_length _ 9 (by omega), h⟩]
theorem eql23 (a b : Cfg) (w : World) : (binOp .eql 23 (.agg (cc a)) (.agg (cc b))).run Try.prog w = .ok (.bool (decide (a = b))) w := by
  obtain ⟨b1, p1, s1, u1, o1, r1, g1, k1, x1⟩ := a
  obtain ⟨b2, p2, s2, u2, o2, r2, g2, k2, x2⟩ := b
  simp only [cc, run_eql_struct]
  rw [run_equalIn_struct w 9999 23 _ _ (by kernel_rfl) (by kernel_rfl)]
  simp [Program.fieldsOf, Try.underlying23, Op.eqFields, go_sem]
  (repeat' split) <;> simp_all
end Go.Proofs.Ytbnjijlpbeplmaa.GeoU
