/- The document's digests: long numbers. -/
import Derived.Test.YtlfohiejlajmaaaDoorShU
import Derived.Test.YtlfohiejlajmaaaDoorRfM
namespace Go.Proofs.YtlfohiejlajmaaaDoor.RfC
open Go.ChangeShapes Go.WideShapes Go.ChangeAt Go.RowKit
open ShM RfM Mem
set_option linter.unusedVariables false
set_option maxHeartbeats 2000000

def vu (xs : List Nat) : List Value := xs.map fun (n : Nat) => Value.int .u64 (n : Int)
theorem vu_len (xs : List Nat) : (vu xs).length = xs.length := by simp [vu]
theorem vu_at (xs : List Nat) (i : Nat) (h : i < xs.length) : (vu xs)[i]? = some (.int .u64 ((xs.getD i 0 : Nat) : Int)) := by
  simp [vu, h]
theorem vu_set (xs : List Nat) (i y : Nat) : (vu xs).set i (.int .u64 (y : Int)) = vu (xs.set i y) := by simp [vu, List.map_set]
/-- A row of numbers, a block of its own. -/
def Bu (w : World) (g : Nat) (xs : List Nat) : Prop := Mem.Blk w g 55 (vu xs).toArray
theorem Bu.cell {w : World} {g : Nat} {xs : List Nat} (h : Bu w g xs) (i : Nat) (hi : i < xs.length) : w.cell? ⟨g, i, none⟩ = some (.int .u64 ((xs.getD i 0 : Nat) : Int)) := by
  rw [Mem.Blk.cell h i, List.getElem?_toArray, vu_at xs i hi]
theorem Bu.put {w : World} {g : Nat} {xs : List Nat} (h : Bu w g xs) (i y : Nat) : Bu (w.setCell ⟨g, i, none⟩ (.int .u64 (y : Int))) g (xs.set i y) := by
  have := Mem.Blk.put h i (.int .u64 (y : Int))
  rw [List.setIfInBounds_toArray, vu_set] at this
  exact this
theorem and32 (v : Nat) (h : v < 18446744073709551616) : bits .and .u64 (v : Int) 4294967295 = ((v % 4294967296 : Nat) : Int) := by
  have h2 : (4294967295 : Int) = ((4294967295 : Nat) : Int) := rfl
  rw [h2, u64_and_nat _ _ h (by omega)]
  congr 1
  exact Nat.and_two_pow_sub_one_eq_mod v 32
theorem i49 : ∃ i, Tryd.prog.info? 55 = some i ∧ i.zero = some (.int .u64 0) ∧ i.size = 1 ∧ i.bytes = 8 := by
  have h : (Tryd.prog.info? 55).map (fun i => (i.zero, i.size, i.bytes)) = some (some (.int .u64 0), 1, 8) := by kernel_rfl
  obtain ⟨i, h1, h2, h3, h4⟩ := info_parts h
  exact ⟨i, h1, h2, h3, h4⟩
theorem run_full (m : Nat) (hm : m ≤ 1000000) (w : World) : (Instr.makeSlice 49 (.int .i64 (m : Int)) (.int .i64 (m : Int))).run Tryd.prog w = .ok (.slice (some ⟨w.heap.size, 0, none⟩) m m) (w.alloc (.cells (madeCells #[.int .u64 0] m) 55)) := by
  obtain ⟨i, hi, hz, hs, hb⟩ := i49
  have h := run_make (P := Tryd.prog) w 49 55 i (.int .u64 0) Tryd.underlying49 hi hz .i64 .i64 (m : Int) (m : Int) (by omega) (by omega) (by rw [hb]; omega) (by omega)
  have e : ((m : Int)).toNat = m := by omega
  rw [e] at h
  simpa [hs, Value.cells] using h
theorem made_vu (m : Nat) : madeCells #[.int .u64 0] m = (vu (List.replicate m 0)).toArray := by
  apply Array.toList_inj.1
  rw [toList_madeCells_one]
  simp [vu]

theorem gb_set {w w' : World} {b : Nat} (h : w.grownBy w' (some b)) (i : Nat) (v : Value) : w.grownBy (w'.setCell ⟨b, i, none⟩ v) (some b) :=
  ⟨h.os, h.tape, h.output, by simp [World.setCell]; exact h.size, fun q hq hne => (Below.heap_setCell w' ⟨b, i, none⟩ v q (fun e => hne (by rw [e]))).trans (h.block q hq hne)⟩

set_option maxRecDepth 100000 in
theorem addW (g : Nat) (xs : List Nat) (n at0 v0 : Nat) (w : World) (hn : xs.length = n) (hmax : n ≤ 1000) (ok : Ok xs) (hat : at0 ≤ n) (hv : v0 < 18446744073709551616) (h : val xs + v0 * pw at0 < pw n) (hb : Bu w g xs) :
    Calls Tryd.prog 34 #[.slice (some ⟨g, 0, none⟩) n n, .int .i64 (at0 : Int), .int .u64 (v0 : Int)] w fun e w' => e = .returned (.tuple #[]) ∧ (∃ ys, ys.length = n ∧ Ok ys ∧ val ys = val xs + v0 * pw at0 ∧ Bu w' g ys) ∧ w.grownBy w' (some g) := by
  obtain ⟨T, hT⟩ : ∃ T, T = val xs + v0 * pw at0 := ⟨_, rfl⟩
  rw [← hT] at h ⊢
  have HT := Lib.hid h
  have I0 : Hid (xs.length = n ∧ Ok xs ∧ val xs + v0 * pw at0 = T ∧ Bu w g xs ∧ w.grownBy w (some g) ∧ at0 ≤ n ∧ v0 < 18446744073709551616) := Lib.hid ⟨hn, ok, hT.symm, hb, World.grownBy.refl w _, hat, hv⟩
  clear hT h hn ok hb
  go_enter Tryd.func34, Tryd.ntmps34
  go_wp2_with fail
  go_loopw [1, 2, 6] (fun a v _ wr => ∃ (i u : Nat) (ys : List Nat), a = .int .i64 (i : Int) ∧ v = .int .u64 (u : Int) ∧ (ys.length = n ∧ Ok ys ∧ val ys + u * pw i = T ∧ Bu wr g ys ∧ w.grownBy wr (some g) ∧ i ≤ n ∧ u < 18446744073709551616)) (fun a _ _ _ => 2000 - (intOf a).toNat)
  case atStart => exact ⟨at0, v0, xs, rfl, rfl, I0.out⟩
  case round =>
    clear I0
    obtain ⟨i, u, ys, rfl, rfl, hl, ok, hv, hb, hg, hi, hu⟩ := hrel
    by_cases h0 : u = 0
    · subst h0
      have hE : Hid ((∃ ys, ys.length = n ∧ Ok ys ∧ val ys = T ∧ Bu wr g ys) ∧ w.grownBy wr (some g)) := Lib.hid ⟨⟨ys, hl, ok, by rw [← hv, Nat.zero_mul, Nat.add_zero], hb⟩, hg⟩
      clear hl ok hv hb hg
      go_wp2
      go_end0
      exact ⟨rfl, hE.out⟩
    · have h0' : (0 : Int) < (u : Int) := by omega
      by_cases hlt : i < n
      · have hlt' : (i : Int) < (n : Int) := by omega
        obtain ⟨x, hx⟩ : ∃ x, x = ys.getD i 0 := ⟨_, rfl⟩
        have hxb : x < 4294967296 := by rw [hx]; exact ok i
        have c1 := hb.cell i (by omega)
        rw [← hx] at c1
        have z1 := Mem.Blk.frozen hb i
        obtain ⟨p, hp⟩ : ∃ p, p = u % 4294967296 := ⟨_, rfl⟩
        obtain ⟨q1, hq1⟩ : ∃ q, q = u / 4294967296 := ⟨_, rfl⟩
        obtain ⟨s, hs⟩ : ∃ s, s = x + p := ⟨_, rfl⟩
        obtain ⟨s1, hs1⟩ : ∃ s1, s1 = s % 4294967296 := ⟨_, rfl⟩
        obtain ⟨q2, hq2⟩ : ∃ q, q = s / 4294967296 := ⟨_, rfl⟩
        obtain ⟨u2, hu2⟩ : ∃ u2, u2 = q1 + q2 := ⟨_, rfl⟩
        have e1 : bits .and .u64 (u : Int) 4294967295 = (p : Int) := by rw [and32 u hu, hp]
        have e2 : IntKind.u64.wrap ((x : Int) + (p : Int)) = (s : Int) := by rw [IntKind.wrap_u64]; omega
        have e2' : ((x : Int) + (p : Int)) % 18446744073709551616 = (s : Int) := by omega
        have e3 : bits .and .u64 (s : Int) 4294967295 = (s1 : Int) := by rw [and32 s (by omega), hs1]
        have e4 : (u : Int) / 4294967296 = (q1 : Int) := by omega
        have e5 : (s : Int) / 4294967296 = (q2 : Int) := by omega
        have e6 : IntKind.u64.wrap ((q1 : Int) + (q2 : Int)) = (u2 : Int) := by rw [IntKind.wrap_u64]; omega
        have e6' : ((q1 : Int) + (q2 : Int)) % 18446744073709551616 = (u2 : Int) := by omega
        have hnext : Hid ((ys.set i s1).length = n ∧ Ok (ys.set i s1) ∧ val (ys.set i s1) + u2 * pw (i + 1) = T ∧ Bu (wr.setCell ⟨g, i, none⟩ (.int .u64 (s1 : Int))) g (ys.set i s1) ∧ w.grownBy (wr.setCell ⟨g, i, none⟩ (.int .u64 (s1 : Int))) (some g) ∧ i + 1 ≤ n ∧ u2 < 18446744073709551616) := Lib.hid ⟨by rw [List.length_set]; exact hl, ok.set i s1 (by omega), by
            have hvs := val_set ys i s1 (by omega)
            rw [← hx] at hvs
            show _ + u2 * (4294967296 * pw i) = _
            have a1 : x + u = s1 + 4294967296 * u2 := by omega
            have a2 : (x + u) * pw i = (s1 + 4294967296 * u2) * pw i := by rw [a1]
            rw [Nat.add_mul, Nat.add_mul, Nat.mul_assoc] at a2
            rw [Nat.mul_left_comm]
            rw [← hv]
            omega, hb.put i s1, gb_set hg i _, by omega, by omega⟩
        replace hx := Lib.hid hx
        replace hp := Lib.hid hp
        replace hq1 := Lib.hid hq1
        replace hs := Lib.hid hs
        replace hs1 := Lib.hid hs1
        replace hq2 := Lib.hid hq2
        replace hu2 := Lib.hid hu2
        clear hl ok hv hb hg
        go_wp2_with fail
        go_roundw
        case rel => exact ⟨i + 1, u2, _, by go_num, rfl, hnext.out⟩
        case measure => simp [intOf]; omega
      · obtain rfl : n = i := by omega
        exfalso
        have h1 := HT.out
        have h2 : pw n ≤ u * pw n := Nat.le_mul_of_pos_left _ (by omega)
        omega

theorem below_gb {B : Nat} {w0 w w' : World} {g : Nat} (h : Below B w0 w) (hu : w.grownBy w' (some g)) (hB : B ≤ g) (hs : B ≤ w.heap.size) : Below B w0 w' :=
  ⟨hu.os.trans h.os, hu.tape.trans h.tape, hu.output.trans h.output, Nat.le_trans h.size hu.size, fun q hq => (hu.block q (by omega) (by intro e; injection e; omega)).trans (h.block q hq)⟩
theorem pw_two (n : Nat) : pw (n + 2) = 4294967296 * (4294967296 * pw n) := rfl
/-- The bounds of a step of a product. -/
theorem times_bd (xs : List Nat) (i n x lo hi : Nat) (hl : xs.length = n) (ok : Ok xs) (hi' : i < n) (hx : x = lo + 4294967296 * hi) (hx2 : x < 1099511627776) (hlo : lo < 4294967296) :
    xs.getD i 0 * lo < 18446744073709551616 ∧ xs.getD i 0 * hi < 18446744073709551616 ∧ val (xs.take i) * x + (xs.getD i 0 * lo) * pw i + (xs.getD i 0 * hi) * pw (i + 1) = val (xs.take (i + 1)) * x ∧ val (xs.take (i + 1)) * x < pw (n + 2) := by
  have hb := ok i
  have hhi : hi < 256 := by omega
  generalize hq : xs.getD i 0 = a at *
  have m1 : a * lo < 4294967296 * 4294967296 := Nat.mul_lt_mul'' hb hlo
  have m2 : a * hi < 4294967296 * 256 := Nat.mul_lt_mul'' hb hhi
  refine ⟨by omega, by omega, ?_, ?_⟩
  · have hv := val_take xs i (by omega)
    rw [hq] at hv
    rw [hv, Nat.add_mul, hx]
    show val (xs.take i) * (lo + 4294967296 * hi) + a * lo * pw i + a * hi * (4294967296 * pw i) = _
    rw [Nat.add_assoc]
    congr 1
    rw [Nat.mul_add, Nat.mul_assoc a lo, Nat.mul_comm lo (pw i), ← Nat.mul_assoc a (pw i) lo, Nat.mul_assoc a hi]
    congr 1
    rw [Nat.mul_assoc a (pw i), Nat.mul_left_comm hi 4294967296, Nat.mul_comm hi (pw i), Nat.mul_left_comm (pw i) 4294967296]
  · have h1 := val_lt (xs.take (i + 1)) (ok.take _)
    have h2 : (xs.take (i + 1)).length = i + 1 := by rw [List.length_take]; omega
    rw [h2] at h1
    have h3 : pw (i + 1) ≤ pw n := by
      obtain ⟨d, hd⟩ : ∃ d, n = i + 1 + d := ⟨n - (i + 1), by omega⟩
      rw [hd]
      clear hd h1
      induction d with
      | zero => exact Nat.le_refl _
      | succ d ih => exact Nat.le_trans ih (Nat.le_mul_of_pos_left _ (by omega))
    have h4 : val (xs.take (i + 1)) * x < pw n * 1099511627776 := Nat.mul_lt_mul'' (by omega) hx2
    rw [pw_two]
    omega

set_option maxRecDepth 100000 in
theorem timesW (ga : Nat) (xs : List Nat) (n c x : Nat) (w : World) (hn : xs.length = n) (hmax : n ≤ 900) (ok : Ok xs) (hx : x < 1099511627776) (hb : Bu w ga xs) :
    Calls Tryd.prog 31 #[.slice (some ⟨ga, 0, none⟩) n c, .int .u64 (x : Int)] w fun e w' => ∃ g, e = .returned (.slice (some ⟨g, 0, none⟩) (n + 2) (n + 2)) ∧ w.heap.size ≤ g ∧ (∃ ys, ys.length = n + 2 ∧ Ok ys ∧ val ys = val xs * x ∧ Bu w' g ys) ∧ Below w.heap.size w w' := by
  obtain ⟨lo, hlo⟩ : ∃ lo, lo = x % 4294967296 := ⟨_, rfl⟩
  obtain ⟨hi, hhi⟩ : ∃ hi, hi = x / 4294967296 := ⟨_, rfl⟩
  have e1 : bits .and .u64 (x : Int) 4294967295 = (lo : Int) := by rw [and32 x (by omega), hlo]
  have e2 : (x : Int) / 4294967296 = (hi : Int) := by omega
  have HBD := Lib.hid (fun i (h : i < n) => times_bd xs i n x lo hi hn ok h (by omega) hx (by omega))
  have hmk : ∀ w : World, (Instr.makeSlice 49 (.int .i64 ((n : Int) + 2)) (.int .i64 ((n : Int) + 2))).run Tryd.prog w = .ok (.slice (some ⟨w.heap.size, 0, none⟩) (n + 2) (n + 2)) (w.alloc (.cells (vu (List.replicate (n + 2) 0)).toArray 55)) := fun w => by
    have := run_full (n + 2) (by omega) w
    rw [made_vu] at this
    exact this
  have hga := Mem.Blk.lt hb
  have HA0 : Hid (Bu w ga xs) := Lib.hid hb
  have HN := Lib.hid hn
  have HV : Hid (val (xs.take n) = val xs) := Lib.hid (by rw [← hn, List.take_length])
  have hmax' := Lib.hid hmax
  have I0 : Hid (∃ ys, ys.length = n + 2 ∧ Ok ys ∧ val ys = val (xs.take 0) * x ∧ Bu (w.alloc (.cells (vu (List.replicate (n + 2) 0)).toArray 55)) w.heap.size ys ∧ Below w.heap.size w (w.alloc (.cells (vu (List.replicate (n + 2) 0)).toArray 55))) := Lib.hid ⟨_, by rw [List.length_replicate], Ok.zeros _, by rw [val_zeros]; simp [val], Mem.Blk.new w 55 _, (Below.refl _ _).alloc (Nat.le_refl _) _⟩
  have HG : Hid (ga < w.heap.size) := Lib.hid hga
  replace hlo := Lib.hid hlo
  replace hhi := Lib.hid hhi
  clear hn ok hb hga hx
  go_enter Tryd.func31, Tryd.ntmps31
  go_upto_region 4 with fail
  generalize w.alloc (.cells (vu (List.replicate (n + 2) 0)).toArray 55) = w1 at I0 ⊢
  clear hmk
  go_wp2_with fail
  go_loopw [8] (fun v wr => ∃ i : Nat, i ≤ n ∧ v = .int .i64 (i : Int) ∧ ∃ ys, ys.length = n + 2 ∧ Ok ys ∧ val ys = val (xs.take i) * x ∧ Bu wr w.heap.size ys ∧ Below w.heap.size w wr) (fun v _ => 2000 - (intOf v).toNat)
  case atStart => exact ⟨0, by omega, rfl, I0.out⟩
  case round =>
    clear I0
    obtain ⟨i, hi', rfl, ys, hl, ok, hv, hb, hB⟩ := hrel
    by_cases hlt : i < n
    · have hlt' : (i : Int) < (n : Int) := by omega
      obtain ⟨b1, b2, b3, b4⟩ := HBD.out i hlt
      have hpos := pw_pos i
      have HA1 := Mem.Blk.below HA0.out hB HG.out
      have c1 := Bu.cell HA1 i (by have := HN.out; omega)
      generalize xs.getD i 0 = a at b1 b2 b3 c1
      obtain ⟨u1, hu1⟩ : ∃ u, u = a * lo := ⟨_, rfl⟩
      obtain ⟨u2, hu2⟩ : ∃ u, u = a * hi := ⟨_, rfl⟩
      rw [← hu1] at b1 b3
      rw [← hu2] at b2 b3
      have m1 : IntKind.u64.wrap ((a : Int) * (lo : Int)) = (u1 : Int) := by
        rw [← Int.natCast_mul, ← hu1, IntKind.wrap_u64]; omega
      have m2 : IntKind.u64.wrap ((a : Int) * (hi : Int)) = (u2 : Int) := by
        rw [← Int.natCast_mul, ← hu2, IntKind.wrap_u64]; omega
      have m1' : ((a : Int) * (lo : Int)) % 18446744073709551616 = (u1 : Int) := by
        rw [← Int.natCast_mul, ← hu1]; omega
      have m2' : ((a : Int) * (hi : Int)) % 18446744073709551616 = (u2 : Int) := by
        rw [← Int.natCast_mul, ← hu2]; omega
      have A1 := Lib.hid (addW w.heap.size ys (n + 2) i u1 wr hl (by have := hmax'.out; omega) ok (by omega) b1 (by rw [hv]; omega) hb)
      have HC : Hid (∀ wz, wr.grownBy wz (some w.heap.size) → wz.cell? ⟨ga, i, none⟩ = some (.int .u64 (a : Int))) := Lib.hid fun wz hz => (hz.cell_far ⟨ga, i, none⟩ (by have := hB.size; have := HG.out; show ga < _; omega) (by intro e; injection e with e; have e2 : ga = w.heap.size := e; have := HG.out; omega)).trans c1
      have hBB := Lib.hid hB
      have hvv := Lib.hid hv
      have B3 := Lib.hid b3
      have B4 := Lib.hid b4
      replace b2 := Lib.hid b2
      replace hu1 := Lib.hid hu1
      replace hu2 := Lib.hid hu2
      clear hl ok hv hb hB b1 b3 b4 HA1 hpos
      go_wp2_with fail
      refine A1.out.mono ?_
      rintro e w2 ⟨rfl, ⟨zs, hzl, hzo, hzv, hzb⟩, hzg⟩
      have c2 := HC.out w2 hzg
      have A2 := Lib.hid (addW w.heap.size zs (n + 2) (i + 1) u2 w2 hzl (by have := hmax'.out; omega) hzo (by omega) b2.out (by rw [hzv, hvv.out]; have := B3.out; have := B4.out; omega) hzb)
      have D2 := Lib.hid (below_gb hBB.out hzg (Nat.le_refl _) hBB.out.size)
      have V2 := Lib.hid hzv
      clear hzl hzo hzv hzb hzg c1
      go_wp2_with fail
      refine A2.out.mono ?_
      rintro e w3 ⟨rfl, ⟨qs, hql, hqo, hqv, hqb⟩, hqg⟩
      have D3 := Lib.hid (below_gb D2.out hqg (Nat.le_refl _) D2.out.size)
      have E3 : Hid (qs.length = n + 2 ∧ Ok qs ∧ val qs = val (xs.take (i + 1)) * x ∧ Bu w3 w.heap.size qs) := Lib.hid ⟨hql, hqo, by rw [hqv, V2.out, hvv.out]; exact B3.out, hqb⟩
      clear hql hqo hqv hqb hqg c2
      go_wp2_with fail
      go_roundw
      case rel => exact ⟨i + 1, by omega, by go_num, qs, E3.out.1, E3.out.2.1, E3.out.2.2.1, E3.out.2.2.2, D3.out⟩
      case measure => have := hmax'.out; simp [intOf]; omega
    · obtain rfl : n = i := by omega
      have hlt' : ¬ (n : Int) < (n : Int) := by omega
      have hE : Hid (ys.length = n + 2 ∧ Ok ys ∧ val ys = val xs * x ∧ Bu wr w.heap.size ys ∧ Below w.heap.size w wr) := Lib.hid ⟨hl, ok, by rw [hv, HV.out], hb, hB⟩
      clear hl ok hv hb hB
      go_wp2
      go_ret
      obtain ⟨x1, x2, x3, x4, x5⟩ := hE.out
      exact ⟨_, rfl, Nat.le_refl _, ⟨ys, x1, x2, x3, x4⟩, x5⟩
end Go.Proofs.YtlfohiejlajmaaaDoor.RfC
