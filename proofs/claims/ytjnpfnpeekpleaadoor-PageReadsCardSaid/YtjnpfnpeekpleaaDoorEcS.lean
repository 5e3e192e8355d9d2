/- Contracts of the document's checks and mends. -/
import Derived.Test.YtjnpfnpeekpleaaDoorEcR
namespace Go.Proofs.YtjnpfnpeekpleaaDoor.EcS
open Go.ChangeShapes Go.WideShapes Go.ChangeAt Go.RowKit
open EcM EcA EcB EcC EcN EcT EcR
set_option linter.unusedVariables false
set_option maxHeartbeats 1000000

/-- The columns stand in a row. -/
def Cols (w : World) (a : Option Addr) : Prop := ∃ b off, a = some ⟨b, off, none⟩ ∧ b < w.heap.size ∧ ∀ i, i < 64 → w.cell? ⟨b, off + i, none⟩ = some (.int .u8 (col i : Int))
theorem row_col : ∀ i : Fin 64, ((row cols).getD i.val 0).toNat = col i.val := by decide +kernel
theorem row_cols_len : (row cols).length = 64 := by decide
theorem Cols.of {w : World} {a : Option Addr} {base c : Nat} (h : Own w base (.slice a (64 : Nat) c) (row cols)) : Cols w a := by
  obtain ⟨hr, _, _, _⟩ := h.rd
  obtain ⟨a', c', e, _, _, h3, _⟩ := h.shape
  injection e with e1 e2 e3
  subst e1
  rcases hr.cells with h0 | ⟨b, off, rfl, hc⟩
  · have := row_cols_len
    rw [h0] at this
    simp at this
  · refine ⟨b, off, rfl, (h3 _ rfl).2, fun i hi => ?_⟩
    rw [hc i (by rw [row_cols_len]; exact hi), row_col ⟨i, hi⟩]
theorem Cols.below {w w' : World} {a : Option Addr} (h : Cols w a) (hb : Below w.heap.size w w') : Cols w' a := by
  obtain ⟨b, off, e, hl, hc⟩ := h
  exact ⟨b, off, e, Nat.lt_of_lt_of_le hl hb.size, fun i hi => (hb.cell (p := ⟨b, off + i, none⟩) hl).trans (hc i hi)⟩

theorem and1 (x : Nat) (h : x < 18446744073709551616) : bits .and .u64 (x : Int) 1 = ((x % 2 : Nat) : Int) := by
  have := andL x 1 (by omega)
  rw [show ((1 : Nat) : Int) = 1 by rfl] at this
  rw [this, Nat.and_one_is_mod]

set_option maxRecDepth 100000 in
theorem checkR (x : Nat) (hx : x < 18446744073709551616) (a : Option Addr) (c : Nat) (w : World) (ha : Cols w a) : Calls Tryd.prog 29 #[.slice a (64 : Nat) c, .int .u64 (x : Int)] w fun e w' => e = .returned (.int .u8 (chk x : Int)) ∧ w' = w := by
  obtain ⟨b, off, rfl, _, hc⟩ := ha
  rw [← fold_chk x hx]
  have hs : ∀ k, fold x (k + 1) = if x / 2 ^ k % 2 = 1 then fold x k ^^^ col k else fold x k := fun k => rfl
  have h0 : Hid (fold x 0 = 0) := Lib.hid rfl
  have hlt := fold_lt x
  have hcl := col_lt
  generalize fold x = F at hs hlt h0 ⊢
  generalize col = C at hs hc hcl
  replace hs := Lib.hid hs
  replace hc := Lib.hid hc
  replace hlt := Lib.hid hlt
  replace hcl := Lib.hid hcl
  go_enter Tryd.func29, Tryd.ntmps29
  go_wp2
  go_loop [5, 6] (fun s i => ∃ k : Nat, k ≤ 64 ∧ i = .int .i64 (k : Int) ∧ s = .int .u8 (F k : Int)) (fun _ i => 64 - (intOf i).toNat)
  case atStart => exact ⟨0, by omega, rfl, by rw [h0.out]; rfl⟩
  case round =>
    obtain ⟨k, hk, rfl, rfl⟩ := hrel
    by_cases hk64 : k < 64
    · have hcell := hc.out k hk64
      have hsk := Lib.hid (hs.out k)
      have hx8 := Lib.hid (xor8 ⟨F k, hlt.out k⟩ ⟨C k, hcl.out k⟩)
      have h2 := Lib.hid (and1 (x / 2 ^ k) (Nat.lt_of_le_of_lt (Nat.div_le_self _ _) hx))
      by_cases hb : x / 2 ^ k % 2 = 1
      · have hbit : (bits BinOp.and IntKind.u64 ((x : Int) / 2 ^ k) 1 == 1) = true := by
          have := h2.out
          rw [hb] at this
          rw [show ((x : Int) / 2 ^ k) = ((x / 2 ^ k : Nat) : Int) by push_cast; rfl, this]; rfl
        have hF : Hid (F (k + 1) = F k ^^^ C k) := Lib.hid (by rw [hsk.out, if_pos hb])
        clear hb
        go_wp2
        go_round
        case rel => exact ⟨k + 1, by omega, by go_num, by rw [hF.out]; exact congrArg _ hx8.out⟩
        case measure => simp [intOf]; omega
      · have hbit : (bits BinOp.and IntKind.u64 ((x : Int) / 2 ^ k) 1 == 1) = false := by
          have := h2.out
          rw [show ((x : Int) / 2 ^ k) = ((x / 2 ^ k : Nat) : Int) by push_cast; rfl, this]
          rw [beq_eq_false_iff_ne]; intro e; exact hb (by omega)
        have hF : Hid (F (k + 1) = F k) := Lib.hid (by rw [hsk.out, if_neg hb])
        clear hb
        go_wp2
        go_round
        case rel => exact ⟨k + 1, by omega, by go_num, by rw [hF.out]⟩
        case measure => simp [intOf]; omega
    · have hk' : Hid (k = 64) := Lib.hid (by omega)
      clear hx
      go_wp2
      go_ret
      exact ⟨by rw [hk'.out]; rfl, rfl⟩

theorem beqZ (q : Nat) (h : q ≠ 0) : ((q : Int) == 0) = false := by simp; omega

def Same (x c : Nat) (w : World) : Ending → World → Prop := fun e w' => e = .returned (.tuple #[.int .u64 ((mend x c).1 : Int), .int .u8 ((mend x c).2.1 : Int), .int .i64 ((mend x c).2.2 : Int)]) ∧ w' = w

set_option maxRecDepth 100000 in
theorem mendRR (x c : Nat) (hx : x < 18446744073709551616) (hc : c < 256) (a : Option Addr) (cap : Nat) (w : World) (ha : Cols w a) : Calls Tryd.prog 33 #[.slice a (64 : Nat) cap, .int .u64 (x : Int), .int .u8 (c : Int)] w (Same x c w) := by
  have HC := checkR x hx a cap w ha
  obtain ⟨b, off, rfl, _, hcell⟩ := ha
  generalize hs : chk x ^^^ c = s
  have h8 : s < 256 := by rw [← hs]; exact Nat.xor_lt_two_pow (n := 8) (chk_lt x) hc
  have hxor := xor8 ⟨chk x, chk_lt x⟩ ⟨c, hc⟩
  simp only at hxor
  rw [hs] at hxor
  have hZ : s = 0 → mend x c = (x, c, 0) := fun h => by unfold mend; simp only [hs]; rw [if_pos h]
  have hS : s ≠ 0 → ∀ i, find s = some i → mend x c = (x ^^^ 2 ^ i, c, 1) := fun h0 i h => by unfold mend; simp only [hs]; rw [if_neg h0, if_neg (find_bits s i h), h]
  have hB : s ≠ 0 → pc s = 1 → mend x c = (x, c ^^^ s, 1) := fun h0 h1 => by unfold mend; simp only [hs]; rw [if_neg h0, if_pos h1]
  have hN : s ≠ 0 → find s = none → pc s ≠ 1 → mend x c = (x, c, 2) := fun h0 h h1 => by unfold mend; simp only [hs]; rw [if_neg h0, if_neg h1, h]
  have hO := onesR s h8
  have hF0 : (∀ j, j < 64 → col j ≠ s) → find s = none := fun h => find_none s 0 h
  have hF1 : ∀ k, k < 64 → (∀ j, j < k → col j ≠ s) → col k = s → find s = some k := fun k h1 h2 h3 => find_some s k h1 h2 h3
  have hx2 := xor8 ⟨c, hc⟩ ⟨s, h8⟩
  simp only at hx2
  clear hs
  unfold Same
  generalize mend x c = me at hZ hS hB hN ⊢
  generalize chk x = q at HC hxor
  generalize pc s = p at hB hN hO
  generalize col = C at hF0 hF1 hcell
  generalize find s = f at hS hN hF0 hF1
  replace HC := Lib.hid HC
  replace hZ := Lib.hid hZ
  replace hS := Lib.hid hS
  replace hB := Lib.hid hB
  replace hN := Lib.hid hN
  replace hO := Lib.hid hO
  replace hF0 := Lib.hid hF0
  replace hF1 := Lib.hid hF1
  replace hx2 := Lib.hid hx2
  replace hcell := Lib.hid hcell
  by_cases h0 : s = 0
  · subst h0
    have hme := hZ.out rfl
    subst hme
    clear hZ hS hB hN
    go_enter Tryd.func33, Tryd.ntmps33
    go_wp2_with (go_at_call 29; refine HC.out.mono ?_; rintro e w' ⟨rfl, rfl⟩)
    go_ret3
    exact ⟨rfl, rfl⟩
  · have hz : ((s : Int) == 0) = false := beqZ _ h0
    replace h0 := Lib.hid h0
    go_enter Tryd.func33, Tryd.ntmps33
    go_wp2_with (go_at_call 29; refine HC.out.mono ?_; rintro e w' ⟨rfl, rfl⟩)
    go_loop [10] (fun i => ∃ k : Nat, k ≤ 64 ∧ i = .int .i64 (k : Int) ∧ ∀ j, j < k → C j ≠ s) (fun i => 64 - (intOf i).toNat)
    case atStart => exact ⟨0, by omega, rfl, fun j hj => by omega⟩
    case round =>
      obtain ⟨k, hk, rfl, hn⟩ := hrel
      replace hn := Lib.hid hn
      by_cases hk64 : k < 64
      · have hck := hcell.out k hk64
        by_cases he : C k = s
        · have hme := hS.out h0.out k (hF1.out k hk64 hn.out he)
          rw [he] at hck
          clear hZ hS hB hN
          subst hme
          have h2 : 2 ^ k < 18446744073709551616 := Nat.pow_lt_pow_right (a := 2) (by omega) (show k < 64 by omega)
          have hpow : bits .xor .u64 (x : Int) (IntKind.u64.wrap ((2 : Int) ^ k)) = ((x ^^^ 2 ^ k : Nat) : Int) := by
            rw [show ((2 : Int) ^ k) = ((2 ^ k : Nat) : Int) by simp, wrapL _ h2]
            exact xor64 x (2 ^ k) hx h2
          replace hpow := Lib.hid hpow
          clear he
          go_wp2
          go_ret3
          refine ⟨?_, rfl⟩
          first | (rw [← hpow.out]; rfl) | (simp only; rfl)
        · have he' : ((C k : Int) == (s : Int)) = false := by simp; omega
          go_wp2
          refine ⟨⟨k + 1, by omega, by simp, fun j hj => ?_⟩, by simp [intOf]; omega⟩
          rcases Nat.lt_or_ge j k with h | h
          · exact hn.out j h
          · rw [show j = k by omega]; exact he
      · obtain rfl : k = 64 := by omega
        by_cases hp : p = 1
        · have hme := hB.out h0.out hp
          subst hp
          clear hZ hS hB hN
          subst hme
          go_wp2_with (go_at_call 35; refine (hO.out _).mono ?_; rintro e w' ⟨rfl, rfl⟩)
          go_ret3
          refine ⟨?_, rfl⟩
          first | (rw [hx2.out]; rfl) | (rw [← hx2.out]; rfl)
        · have hme := hN.out h0.out (hF0.out hn.out) hp
          have hp' : ((p : Int) == 1) = false := by simp; omega
          clear hZ hS hB hN
          subst hme
          go_wp2_with (go_at_call 35; refine (hO.out _).mono ?_; rintro e w' ⟨rfl, rfl⟩)
          go_ret3
          exact ⟨rfl, rfl⟩

end Go.Proofs.YtjnpfnpeekpleaaDoor.EcS
