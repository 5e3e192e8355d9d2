/- Contracts of the words' checks: Mend by columns. -/
import Derived.Test.YtjnpfnpeekpleaaDoorEcC
namespace Go.Proofs.YtjnpfnpeekpleaaDoor.EcD
open Go.ChangeShapes Go.WideShapes Go.ChangeAt Go.RowKit
open EcM EcA EcB EcC
set_option linter.unusedVariables false
set_option maxHeartbeats 1000000

theorem loadW {ops : Array Oper} {rest : List Oper} {op : Oper} {a : Act} {w : World} {Q : Exit → Act → World → Prop} (ho : op.op = .load 61 (.global 1)) (hgd : op.guard = none) (hl : Laid w)
    (h : wpList Tryd.prog ops Q rest (a.put op.dst (.agg colV)) w) : wpList Tryd.prog ops Q (op :: rest) a w :=
  wpList_plain hgd fun _ hK => loadG ho hl (hK _ _ h)
theorem beqOne (q : Nat) (h : q ≠ 1) : ((q : Int) == 1) = false := by simp; omega
theorem beqZero (q : Nat) (h : q ≠ 0) : ((q : Int) == 0) = false := by simp; omega

set_option maxRecDepth 100000 in
theorem mendCol (x c s : Nat) (hx : x < 18446744073709551616) (hc : c < 256) (w : World) (hl : Laid w) (hs : chk x ^^^ c = s) (h0 : s ≠ 0) (h8 : s < 256) (h1 : pc s ≠ 1) : Calls Tryd.prog 31 #[.int .u64 (x : Int), .int .u8 (c : Int)] w (EcC.Ends x c w) := by
  unfold EcC.Ends
  have HS := synW x c hx hc w hl
  rw [hs] at HS
  have hS : ∀ i, find s = some i → mend x c = (x ^^^ 2 ^ i, c, 1) := fun i h => by unfold mend; simp only [hs]; rw [if_neg h0, if_neg h1, h]
  have hN : find s = none → mend x c = (x, c, 2) := fun h => by unfold mend; simp only [hs]; rw [if_neg h0, if_neg h1, h]
  have hS := Lib.hid hS
  have hN := Lib.hid hN
  generalize hme : mend x c = me at hS hN ⊢
  clear hme
  have HO := fun w => ones8 s h8 w
  have hz : ((s : Int) == 0) = false := beqZero _ h0
  have h1' : ((pc s : Int) == 1) = false := beqOne _ h1
  clear hs h0 h1
  generalize pc s = q at HO h1'
  go_enter Tryd.func31, Tryd.ntmps31
  go_wp2_with fail
  refine HS.mono ?_
  rintro e w1 ⟨rfl, hb⟩
  have hl1 := hl.below hb
  go_wp2_with fail
  refine (HO w1).mono ?_
  rintro e w2 ⟨rfl, rfl⟩
  have cs := fun i (h : i < 64) => (hl1.col i).trans (colV_get i h)
  have d0 : w2.cell? ⟨1, 0, none⟩ = some (.int .u8 7) := cs 0 (by omega)
  have d1 : w2.cell? ⟨1, 1, none⟩ = some (.int .u8 11) := cs 1 (by omega)
  have d2 : w2.cell? ⟨1, 2, none⟩ = some (.int .u8 13) := cs 2 (by omega)
  have d3 : w2.cell? ⟨1, 3, none⟩ = some (.int .u8 14) := cs 3 (by omega)
  have d4 : w2.cell? ⟨1, 4, none⟩ = some (.int .u8 19) := cs 4 (by omega)
  have d5 : w2.cell? ⟨1, 5, none⟩ = some (.int .u8 21) := cs 5 (by omega)
  have d6 : w2.cell? ⟨1, 6, none⟩ = some (.int .u8 22) := cs 6 (by omega)
  have d7 : w2.cell? ⟨1, 7, none⟩ = some (.int .u8 25) := cs 7 (by omega)
  have d8 : w2.cell? ⟨1, 8, none⟩ = some (.int .u8 26) := cs 8 (by omega)
  have d9 : w2.cell? ⟨1, 9, none⟩ = some (.int .u8 28) := cs 9 (by omega)
  have d10 : w2.cell? ⟨1, 10, none⟩ = some (.int .u8 35) := cs 10 (by omega)
  have d11 : w2.cell? ⟨1, 11, none⟩ = some (.int .u8 37) := cs 11 (by omega)
  have d12 : w2.cell? ⟨1, 12, none⟩ = some (.int .u8 38) := cs 12 (by omega)
  have d13 : w2.cell? ⟨1, 13, none⟩ = some (.int .u8 41) := cs 13 (by omega)
  have d14 : w2.cell? ⟨1, 14, none⟩ = some (.int .u8 42) := cs 14 (by omega)
  have d15 : w2.cell? ⟨1, 15, none⟩ = some (.int .u8 44) := cs 15 (by omega)
  have d16 : w2.cell? ⟨1, 16, none⟩ = some (.int .u8 49) := cs 16 (by omega)
  have d17 : w2.cell? ⟨1, 17, none⟩ = some (.int .u8 50) := cs 17 (by omega)
  have d18 : w2.cell? ⟨1, 18, none⟩ = some (.int .u8 52) := cs 18 (by omega)
  have d19 : w2.cell? ⟨1, 19, none⟩ = some (.int .u8 56) := cs 19 (by omega)
  have d20 : w2.cell? ⟨1, 20, none⟩ = some (.int .u8 67) := cs 20 (by omega)
  have d21 : w2.cell? ⟨1, 21, none⟩ = some (.int .u8 69) := cs 21 (by omega)
  have d22 : w2.cell? ⟨1, 22, none⟩ = some (.int .u8 70) := cs 22 (by omega)
  have d23 : w2.cell? ⟨1, 23, none⟩ = some (.int .u8 73) := cs 23 (by omega)
  have d24 : w2.cell? ⟨1, 24, none⟩ = some (.int .u8 74) := cs 24 (by omega)
  have d25 : w2.cell? ⟨1, 25, none⟩ = some (.int .u8 76) := cs 25 (by omega)
  have d26 : w2.cell? ⟨1, 26, none⟩ = some (.int .u8 81) := cs 26 (by omega)
  have d27 : w2.cell? ⟨1, 27, none⟩ = some (.int .u8 82) := cs 27 (by omega)
  have d28 : w2.cell? ⟨1, 28, none⟩ = some (.int .u8 84) := cs 28 (by omega)
  have d29 : w2.cell? ⟨1, 29, none⟩ = some (.int .u8 88) := cs 29 (by omega)
  have d30 : w2.cell? ⟨1, 30, none⟩ = some (.int .u8 97) := cs 30 (by omega)
  have d31 : w2.cell? ⟨1, 31, none⟩ = some (.int .u8 98) := cs 31 (by omega)
  have d32 : w2.cell? ⟨1, 32, none⟩ = some (.int .u8 100) := cs 32 (by omega)
  have d33 : w2.cell? ⟨1, 33, none⟩ = some (.int .u8 104) := cs 33 (by omega)
  have d34 : w2.cell? ⟨1, 34, none⟩ = some (.int .u8 112) := cs 34 (by omega)
  have d35 : w2.cell? ⟨1, 35, none⟩ = some (.int .u8 131) := cs 35 (by omega)
  have d36 : w2.cell? ⟨1, 36, none⟩ = some (.int .u8 133) := cs 36 (by omega)
  have d37 : w2.cell? ⟨1, 37, none⟩ = some (.int .u8 134) := cs 37 (by omega)
  have d38 : w2.cell? ⟨1, 38, none⟩ = some (.int .u8 137) := cs 38 (by omega)
  have d39 : w2.cell? ⟨1, 39, none⟩ = some (.int .u8 138) := cs 39 (by omega)
  have d40 : w2.cell? ⟨1, 40, none⟩ = some (.int .u8 140) := cs 40 (by omega)
  have d41 : w2.cell? ⟨1, 41, none⟩ = some (.int .u8 145) := cs 41 (by omega)
  have d42 : w2.cell? ⟨1, 42, none⟩ = some (.int .u8 146) := cs 42 (by omega)
  have d43 : w2.cell? ⟨1, 43, none⟩ = some (.int .u8 148) := cs 43 (by omega)
  have d44 : w2.cell? ⟨1, 44, none⟩ = some (.int .u8 152) := cs 44 (by omega)
  have d45 : w2.cell? ⟨1, 45, none⟩ = some (.int .u8 161) := cs 45 (by omega)
  have d46 : w2.cell? ⟨1, 46, none⟩ = some (.int .u8 162) := cs 46 (by omega)
  have d47 : w2.cell? ⟨1, 47, none⟩ = some (.int .u8 164) := cs 47 (by omega)
  have d48 : w2.cell? ⟨1, 48, none⟩ = some (.int .u8 168) := cs 48 (by omega)
  have d49 : w2.cell? ⟨1, 49, none⟩ = some (.int .u8 176) := cs 49 (by omega)
  have d50 : w2.cell? ⟨1, 50, none⟩ = some (.int .u8 193) := cs 50 (by omega)
  have d51 : w2.cell? ⟨1, 51, none⟩ = some (.int .u8 194) := cs 51 (by omega)
  have d52 : w2.cell? ⟨1, 52, none⟩ = some (.int .u8 196) := cs 52 (by omega)
  have d53 : w2.cell? ⟨1, 53, none⟩ = some (.int .u8 200) := cs 53 (by omega)
  have d54 : w2.cell? ⟨1, 54, none⟩ = some (.int .u8 208) := cs 54 (by omega)
  have d55 : w2.cell? ⟨1, 55, none⟩ = some (.int .u8 224) := cs 55 (by omega)
  have d56 : w2.cell? ⟨1, 56, none⟩ = some (.int .u8 31) := cs 56 (by omega)
  have d57 : w2.cell? ⟨1, 57, none⟩ = some (.int .u8 47) := cs 57 (by omega)
  have d58 : w2.cell? ⟨1, 58, none⟩ = some (.int .u8 55) := cs 58 (by omega)
  have d59 : w2.cell? ⟨1, 59, none⟩ = some (.int .u8 59) := cs 59 (by omega)
  have d60 : w2.cell? ⟨1, 60, none⟩ = some (.int .u8 61) := cs 60 (by omega)
  have d61 : w2.cell? ⟨1, 61, none⟩ = some (.int .u8 62) := cs 61 (by omega)
  have d62 : w2.cell? ⟨1, 62, none⟩ = some (.int .u8 79) := cs 62 (by omega)
  have d63 : w2.cell? ⟨1, 63, none⟩ = some (.int .u8 87) := cs 63 (by omega)
  clear cs
  have HL : ∀ (op : Oper) (a : Act) (K : Act → World → Prop) (Q : Exit → Act → World → Prop), op.op = .load 61 (.global 1) → K (a.put op.dst (.agg colV)) w2 → Oper.wp Tryd.prog op a w2 K Q := fun op a K Q ho h => loadG ho hl1 h
  have HL := Lib.hid HL
  clear hl1 hl
  have HX := ix
  go_wp2
  refine HL.out _ _ _ _ rfl ?_
  clear HL
  clear d0 d1 d2 d3 d4 d5 d6 d7 d8 d9 d10 d11 d12 d13 d14 d15 d16 d17 d18 d19 d20 d21 d22 d23 d24 d25 d26 d27 d28 d29 d30 d31 d32 d33 d34 d35 d36 d37 d38 d39 d40 d41 d42 d43 d44 d45 d46 d47 d48 d49 d50 d51 d52 d53 d54 d55 d56 d57 d58 d59 d60 d61 d62 d63
  generalize colV = cv at HX ⊢
  go_wp2
  go_loop [8, 9, 25] (fun _ _ i => ∃ k : Nat, k ≤ 64 ∧ i = .int .i64 k ∧ ∀ j, j < k → col j ≠ s) (fun _ _ i => 64 - (intOf i).toNat)
  case atStart => exact ⟨0, by omega, rfl, fun j hj => by omega⟩
  case round =>
    obtain ⟨k, hk, rfl, hn⟩ := hrel
    have hn := Lib.hid hn
    by_cases hk64 : k < 64
    · have hix := fun w => HX k hk64 w
      clear HX
      generalize hck : col k = ck at hix
      have hck := Lib.hid hck
      by_cases he : ck = s
      · subst he
        have hme := hS.out k (find_some _ k hk64 hn.out hck.out)
        clear hS hN
        subst hme
        have h2 : 2 ^ k < 18446744073709551616 := Nat.pow_lt_pow_right (a := 2) (by omega) (show k < 64 by omega)
        have hpow : bits .xor .u64 (x : Int) (IntKind.u64.wrap ((2 : Int) ^ k)) = ((x ^^^ 2 ^ k : Nat) : Int) := by
          rw [show ((2 : Int) ^ k) = ((2 ^ k : Nat) : Int) by simp, wrapL _ h2]
          exact xor64 x (2 ^ k) hx h2
        have hpow := Lib.hid hpow
        go_wp2
        go_ret3
        refine ⟨?_, hb⟩
        first | (rw [← hpow.out]; rfl) | (simp only; rfl)
      · have he' : ((ck : Int) == (s : Int)) = false := by simp; omega
        go_wp2
        refine ⟨⟨k + 1, by omega, by simp, fun j hj => ?_⟩, by simp [intOf]; omega⟩
        rcases Nat.lt_or_ge j k with h | h
        · exact hn.out j h
        · rw [show j = k by omega, hck.out]; exact he
    · obtain rfl : k = 64 := by omega
      clear HX
      have hme := hN.out (find_none s 0 hn.out)
      clear hS hN
      subst hme
      go_wp2
      go_ret3
      exact ⟨rfl, hb⟩

theorem mendW (x c : Nat) (hx : x < 18446744073709551616) (hc : c < 256) (w : World) (hl : Laid w) : Calls Tryd.prog 31 #[.int .u64 (x : Int), .int .u8 (c : Int)] w (EcC.Ends x c w) := by
  have h8 : chk x ^^^ c < 256 := Nat.xor_lt_two_pow (n := 8) (chk_lt x) hc
  by_cases h0 : chk x ^^^ c = 0
  · exact mendFine x c hx hc w hl h0
  · by_cases h1 : pc (chk x ^^^ c) = 1
    · exact mendBit x c _ hx hc w hl rfl h0 h8 h1
    · exact mendCol x c _ hx hc w hl rfl h0 h8 h1
end Go.Proofs.YtjnpfnpeekpleaaDoor.EcD
