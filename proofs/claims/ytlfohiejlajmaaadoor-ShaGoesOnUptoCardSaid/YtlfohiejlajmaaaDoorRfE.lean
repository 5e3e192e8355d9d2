/- The document's digests: roots and primes. -/
import Derived.Test.YtlfohiejlajmaaaDoorRfD
namespace Go.Proofs.YtlfohiejlajmaaaDoor.RfE
open Go.ChangeShapes Go.WideShapes Go.ChangeAt Go.RowKit
open ShM RfM RfC RfD Mem
set_option linter.unusedVariables false
set_option maxHeartbeats 2000000

theorem or64 (a b : Nat) (ha : a < 18446744073709551616) (hb : b < 18446744073709551616) : bits .or .u64 (a : Int) (b : Int) = ((a ||| b : Nat) : Int) := u64_or_nat a b ha hb

set_option maxRecDepth 100000 in
theorem rootW (v k : Nat) (w : World) (hk : k ≤ 3) (hv : v < 4294967296) :
    Calls Tryd.prog 21 #[.int .u64 (v : Int), .int .i64 (k : Int)] w fun e w' => e = .returned (.int .u32 ((rt v k 37 % 4294967296 : Nat) : Int)) ∧ Below w.heap.size w w' := by
  have HBL : Hid (∀ j w', j ≤ 36 → Calls Tryd.prog 28 #[.int .u64 ((rt v k j + 2 ^ (36 - j) : Nat) : Int), .int .i64 (k : Int), .int .u64 (v : Int)] w' fun e w'' => e = .returned (.bool (decide ((rt v k j + 2 ^ (36 - j)) ^ k ≤ v * pw k))) ∧ Below w'.heap.size w' w'') := Lib.hid fun j w' hj => belowW _ k v w' (by have := rt_lt v k j hj; omega) hk hv
  have HST : Hid (∀ j, rt v k (j + 1) = if (rt v k j + 2 ^ (36 - j)) ^ k ≤ v * pw k then rt v k j + 2 ^ (36 - j) else rt v k j) := Lib.hid fun _ => rfl
  have HOR : Hid (∀ j, j ≤ 36 → bits .or .u64 ((rt v k j : Nat) : Int) ((2 ^ (36 - j) : Nat) : Int) = ((rt v k j + 2 ^ (36 - j) : Nat) : Int)) := Lib.hid fun j hj => by
    have h1 := rt_lt v k j hj
    have h2 := Nat.two_pow_pos (36 - j)
    rw [or64 _ _ (by omega) (by omega), rt_or v k j hj]
  have H2 : Hid (∀ j, j ≤ 36 → 2 ^ (36 - j) < 18446744073709551616) := Lib.hid fun j hj => by
    have h1 := rt_lt v k j hj
    omega
  have HR0 : Hid (rt v k 0 = 0) := Lib.hid rfl
  obtain ⟨FR, hFR⟩ : ∃ FR, FR = rt v k 37 := ⟨_, rfl⟩
  rw [← hFR]
  replace hFR := Lib.hid hFR
  clear hk hv
  go_enter Tryd.func21, Tryd.ntmps21
  go_wp2_with fail
  go_loopw [5, 6, 7] (fun v5 v6 _ wr => ∃ (j r : Nat), j ≤ 37 ∧ r = rt v k j ∧ v5 = .int .u64 (r : Int) ∧ v6 = .int .i64 (36 - (j : Int)) ∧ Below w.heap.size w wr) (fun _ v6 _ _ => (intOf v6 + 1).toNat)
  case atStart => exact ⟨0, 0, by omega, HR0.out.symm, rfl, rfl, Below.refl _ _⟩
  case round =>
    obtain ⟨j, r, hj, hr, rfl, rfl, hB⟩ := hrel
    by_cases hlt : j ≤ 36
    · obtain ⟨q, hq⟩ : ∃ q, q = 36 - j := ⟨_, rfl⟩
      have hqi : (36 : Int) - (j : Int) = (q : Int) := by omega
      have hq64 : q < 64 := by omega
      rw [hqi]
      have hor := HOR.out j hlt
      have h2 := H2.out j hlt
      have hbl := fun w' => HBL.out j w' hlt
      have hst := HST.out j
      rw [← hr, ← hq] at hor hst
      rw [← hq] at h2
      simp only [← hr, ← hq] at hbl
      obtain ⟨x, hx⟩ : ∃ x, x = r + 2 ^ q := ⟨_, rfl⟩
      rw [← hx] at hor hst
      simp only [← hx] at hbl
      obtain ⟨p2, hp2⟩ : ∃ p, p = 2 ^ q := ⟨_, rfl⟩
      rw [← hp2] at hor h2
      have hsh : IntKind.u64.wrap ((2 : Int) ^ q) = (p2 : Int) := by
        have e : (2 : Int) ^ q = ((2 ^ q : Nat) : Int) := by rw [Int.natCast_pow]; rfl
        rw [e, ← hp2, IntKind.wrap_u64]
        omega
      have hBB := Lib.hid hB
      have hbl2 := Lib.hid hbl
      have hst2 := Lib.hid hst
      replace hr := Lib.hid hr
      replace hq := Lib.hid hq
      replace hx := Lib.hid hx
      replace hp2 := Lib.hid hp2
      replace hqj := Lib.hid hqi
      clear hB hbl hst h2 hqi
      go_wp2_with fail
      refine (hbl2.out _).mono ?_
      rintro e w2 ⟨rfl, b2⟩
      have D2 := Lib.hid (hBB.out.trans (b2.mono hBB.out.size))
      clear b2
      by_cases hle : x ^ k ≤ v * pw k
      · have h1 : Hid (x = rt v k (j + 1)) := Lib.hid (by rw [hst2.out, if_pos hle])
        have hd : decide (x ^ k ≤ v * pw k) = true := decide_eq_true hle
        go_wp2_with fail
        go_roundw
        case rel => exact ⟨j + 1, x, by omega, h1.out, by go_num, by have := hqj.out; go_num, D2.out⟩
        case measure => simp [intOf]
      · have h1 : Hid (r = rt v k (j + 1)) := Lib.hid (by rw [hst2.out, if_neg hle])
        have hd : decide (x ^ k ≤ v * pw k) = false := decide_eq_false hle
        go_wp2_with fail
        go_roundw
        case rel => exact ⟨j + 1, r, by omega, h1.out, by go_num, by have := hqj.out; go_num, D2.out⟩
        case measure => simp [intOf]
    · obtain rfl : j = 37 := by omega
      have hrl : r < 2 ^ 37 := by
        obtain ⟨_, _, h2⟩ := rt_form v k 37 (by omega)
        rw [← hr] at h2
        omega
      have hfr := Lib.hid (hr.trans hFR.out.symm)
      have hBB := Lib.hid hB
      clear hB hr
      go_wp2_with fail
      go_ret
      exact ⟨Mem.ret_int (by rw [← hfr.out]; first | rfl | omega), hBB.out⟩

theorem pr_pre (j : Nat) : ∀ d, ∃ t, pr (j + d) = pr j ++ t
  | 0 => ⟨[], by rw [List.append_nil]; rfl⟩
  | d + 1 => by
    obtain ⟨t, ht⟩ := pr_pre j d
    show ∃ t, RfM.step (pr (j + d)) (j + d + 2) = _
    unfold RfM.step
    split
    · exact ⟨t, ht⟩
    · exact ⟨t ++ [j + d + 2], by rw [ht, List.append_assoc]⟩
theorem pr_end (j : Nat) (hj : j ≤ 310) (h : (pr j).length = 64) : pr j = pr 310 := by
  obtain ⟨t, ht⟩ := pr_pre j (310 - j)
  rw [Nat.add_sub_cancel' hj] at ht
  have hl := pr_310
  rw [ht, List.length_append, h] at hl
  have : t = [] := List.eq_nil_of_length_eq_zero (by omega)
  rw [ht, this, List.append_nil]

set_option maxRecDepth 100000 in
theorem primesW (w : World) : Calls Tryd.prog 20 #[.int .i64 64] w fun e w' => ∃ g c, e = .returned (.slice (some ⟨g, 0, none⟩) 64 c) ∧ (∀ i, i < 64 → w'.cell? ⟨g, i, none⟩ = some (.int .u64 (((pr 310).getD i 0 : Nat) : Int))) ∧ w.heap.size ≤ g ∧ Below w.heap.size w w' := by
  have HST : Hid (∀ j, pr (j + 1) = if (pr j).any (fun p => (j + 2) % p == 0) then pr j else pr j ++ [j + 2]) := Lib.hid fun _ => rfl
  have HFEW := Lib.hid (fun j h => pr_few j h)
  have HPOS := Lib.hid (fun j p h => pr_pos j p h)
  have HLE := Lib.hid (fun j => pr_le j)
  have I0 := Lib.hid (OwnU.nil w w.heap.size)
  have H310 := Lib.hid pr_310
  have HMO := Lib.hid (fun j d => pr_mono j d)
  go_enter Tryd.func20, Tryd.ntmps20
  go_wp2_with fail
  go_loopw [3, 4, 5, 6] (fun v3 v4 _ _ wr => ∃ (j : Nat) (a : Option Addr) (c n : Nat), j ≤ 310 ∧ n = (pr j).length ∧ n ≤ 64 ∧ (∀ i, i < j → (pr i).length < 64) ∧ v3 = .slice a n c ∧ v4 = .int .u64 ((j : Int) + 2) ∧ OwnU wr w.heap.size (.slice a n c) (pr j) ∧ Below w.heap.size w wr) (fun _ v4 _ _ _ => 400 - (intOf v4).toNat)
  case atStart => exact ⟨0, none, 0, 0, by omega, rfl, by omega, fun i h => absurd h (by omega), rfl, rfl, I0.out, Below.refl _ _⟩
  case round =>
    clear I0
    obtain ⟨j, a, c, n, hj, hn, hn64, hall, rfl, rfl, hO, hB⟩ := hrel
    by_cases hlt : n < 64
    · have hlt' : (n : Int) < 64 := by omega
      have hj2 := HFEW.out j (by omega)
      obtain ⟨a', c', e, hcell⟩ := hO.shape
      injection e with e1 e2 e3
      subst e1 e3
      clear e2
      obtain ⟨v, hv⟩ : ∃ v, v = j + 2 := ⟨_, rfl⟩
      have hvi : (j : Int) + 2 = (v : Int) := by omega
      rw [hvi]
      have hvb : (v : Int) < 1000 := by omega
      have hst := HST.out j
      have hpos := Lib.hid (fun p h => HPOS.out j p h)
      rw [← hv] at hst
      obtain ⟨L, hL⟩ : ∃ L, L = pr j := ⟨_, rfl⟩
      rw [← hL] at hst hpos hO hcell hn
      have hO1 := Lib.hid hO
      have hB1 := Lib.hid hB
      have hc1 := Lib.hid hcell
      have hst1 := Lib.hid hst
      replace hall := Lib.hid hall
      replace hL := Lib.hid hL
      replace hv := Lib.hid hv
      replace hvi := Lib.hid hvi
      replace hn := Lib.hid hn
      clear hO hB hcell hst
      go_wp2_with fail
      go_loopw [5, 6] (fun v5 v6 wz => wz = wr ∧ ∃ i : Nat, i ≤ n ∧ v6 = .int .i64 (i : Int) ∧ v5 = .bool (!(L.take i).any (fun p => v % p == 0))) (fun _ v6 _ => 100 - (intOf v6).toNat)
      case atStart => exact ⟨rfl, 0, by omega, rfl, by simp⟩
      case round =>
        obtain ⟨rfl, i, hi, rfl, rfl⟩ := hrel
        by_cases hlt2 : i < n
        · have hlt2' : (i : Int) < (n : Int) := by omega
          obtain ⟨g, hg, hc⟩ := hc1.out (by have := hn.out; omega)
          subst hg
          have ci := hc i (by have := hn.out; omega)
          have hp := hpos.out (L.getD i 0) (by
            rw [List.getD_eq_getElem?_getD, List.getElem?_eq_getElem (by have := hn.out; omega)]
            exact List.getElem_mem _)
          have htk : Hid ((L.take (i + 1)).any (fun p => v % p == 0) = ((L.take i).any (fun p => v % p == 0) || (v % L.getD i 0 == 0))) := Lib.hid (by
            rw [List.take_add_one, List.any_append, List.getD_eq_getElem?_getD, List.getElem?_eq_getElem (by have := hn.out; omega)]
            simp)
          generalize L.getD i 0 = p at ci hp htk
          generalize (L.take i).any (fun p => v % p == 0) = B0 at htk ⊢
          have hp0 : ¬ (p : Int) = 0 := by omega
          clear hc
          by_cases hz : v % p = 0
          · have hz' : (v : Int) % (p : Int) = 0 := by omega
            have hz2 : (v : Int).tmod (p : Int) = 0 := by rw [Int.tmod_eq_emod_of_nonneg (by omega)]; exact hz'
            go_wp2_with fail
            go_roundw
            case rel => exact ⟨trivial, i + 1, by omega, by go_num, by rw [htk.out]; simp [hz]⟩
            case measure => simp [intOf]; omega
          · have hz' : ¬ (v : Int) % (p : Int) = 0 := by omega
            have hz2 : ¬ (v : Int).tmod (p : Int) = 0 := by rw [Int.tmod_eq_emod_of_nonneg (by omega)]; exact hz'
            go_wp2_with fail
            go_roundw
            case rel => exact ⟨trivial, i + 1, by omega, by go_num, by rw [htk.out]; simp [hz]⟩
            case measure => simp [intOf]; omega
        · obtain rfl : n = i := by omega
          have htn : L.take n = L := by rw [hn.out, List.take_length]
          rw [htn]
          have hle := HLE.out (j + 1)
          have hmo := HMO.out (j + 1) (310 - (j + 1))
          have hj3 : Hid (j + 1 ≤ 310 ∧ (∀ i, i < j + 1 → (pr i).length < 64)) := Lib.hid ⟨by omega, fun i hi => by
            rcases Nat.lt_or_ge i j with h | h
            · exact hall.out i h
            · have : i = j := by omega
              subst this
              rw [← hL.out, ← hn.out]; omega⟩
          clear hle hmo
          by_cases hany : L.any (fun p => v % p == 0) = true
          · have hL2 : Hid (pr (j + 1) = L) := Lib.hid (by rw [hst1.out, if_pos hany])
            have hb0 : (!L.any (fun p => v % p == 0)) = false := by rw [hany]; rfl
            rw [hb0]
            clear hb0 hany
            go_wp2_with fail
            go_roundw
            case rel => exact ⟨j + 1, _, _, n, hj3.out.1, by rw [hL2.out]; exact hn.out, by omega, hj3.out.2, rfl, by have := hvi.out; rw [show ((j + 1 : Nat) : Int) + 2 = (v : Int) + 1 by omega], by rw [hL2.out]; exact hO1.out, hB1.out⟩
            case measure => have := hvi.out; simp [intOf]; omega
          · have hany' : L.any (fun p => v % p == 0) = false := by simpa using hany
            have hL2 : Hid (pr (j + 1) = L ++ [v]) := Lib.hid (by rw [hst1.out, if_neg hany])
            rw [hany', Bool.not_false]
            clear hany hany'
            have O4 := Lib.hid (hO1.out.alloc (.cells #[.int .u64 (v : Int)] 55))
            have B4 := Lib.hid (hB1.out.alloc hB1.out.size (.cells #[.int .u64 (v : Int)] 55))
            have n4 := Lib.hid (Mem.Blk.new wr 55 #[.int .u64 (v : Int)])
            have l4 : Hid (L.length ≤ 100000 ∧ L.length + 1 = n + 1) := Lib.hid (by have := hn.out; omega)
            go_wp2_with (at_builtin; refine RfD.wpList_moreU rfl (.tmp 27) (.tmp 29) rfl w.heap.size (.slice a n c) L rfl O4.out v wr.heap.size rfl (n4.out.cell 0) l4.out.1 B4.out.size (n + 1) l4.out.2 ?_; intro a5 c5 w5 hO5 hg5)
            have B5 := Lib.hid (B4.out.grown hg5 B4.out.size (fun q e => (O4.out.blocks q e).1))
            have O5 := Lib.hid hO5
            clear hO5 hg5
            go_wp2_with fail
            go_roundw
            case rel => exact ⟨j + 1, _, _, n + 1, hj3.out.1, by rw [hL2.out, List.length_append]; have := hn.out; simp; omega, by omega, hj3.out.2, rfl, by have := hvi.out; rw [show ((j + 1 : Nat) : Int) + 2 = (v : Int) + 1 by omega], by rw [hL2.out]; exact O5.out, B5.out⟩
            case measure => have := hvi.out; simp [intOf]; omega
    · obtain rfl : n = 64 := by omega
      have hpe := pr_end j hj hn.symm
      rw [hpe] at hO
      obtain ⟨a', c', e, hcell⟩ := hO.shape
      injection e with e1 e2 e3
      subst e1 e3
      obtain ⟨g, rfl, hc⟩ := hcell (by rw [H310.out]; omega)
      have hbl := (hO.blocks g rfl).1
      have hE : Hid ((∀ i, i < 64 → wr.cell? ⟨g, i, none⟩ = some (.int .u64 (((pr 310).getD i 0 : Nat) : Int))) ∧ w.heap.size ≤ g ∧ Below w.heap.size w wr) := Lib.hid ⟨fun i hi => hc i (by rw [H310.out]; exact hi), hbl, hB⟩
      clear hO hB hc hcell hbl hn hall hn64 e2
      go_wp2_with fail
      go_ret
      exact ⟨_, _, rfl, hE.out⟩
end Go.Proofs.YtlfohiejlajmaaaDoor.RfE
