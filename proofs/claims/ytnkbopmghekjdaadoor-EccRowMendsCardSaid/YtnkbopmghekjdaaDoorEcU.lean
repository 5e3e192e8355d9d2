/- The law on words: its walk. -/
import Derived.Test.YtnkbopmghekjdaaDoorEcS
import Derived.Test.YtnkbopmghekjdaaDoorEcE
namespace Go.Proofs.YtnkbopmghekjdaaDoor.EcU
open Go.ChangeShapes Go.WideShapes Go.ChangeAt Go.RowKit
open EcM EcA EcB EcC EcN EcT EcR EcS
set_option linter.unusedVariables false
set_option maxHeartbeats 1000000

set_option maxRecDepth 100000 in
theorem columnInR (i : Nat) (hi : i < 64) (w : World) : Calls Tryd.prog 15 #[.int .i64 (i : Int)] w fun e w' => e = .returned (.int .u8 (col i : Int)) ∧ w' = w := by
  have hO := onesR
  have a0 : (pick 3 0).length = 0 := rfl
  have b0 : (pick 5 0).length = 0 := rfl
  have aY : ∀ k, pc k = 3 → (pick 3 (k + 1)).length = (pick 3 k).length + 1 := fun k h => by rw [pick_yes 3 k h, List.length_append]; rfl
  have aN : ∀ k, pc k ≠ 3 → (pick 3 (k + 1)).length = (pick 3 k).length := fun k h => by rw [pick_no 3 k h]
  have bY : ∀ k, pc k = 5 → (pick 5 (k + 1)).length = (pick 5 k).length + 1 := fun k h => by rw [pick_yes 5 k h, List.length_append]; rfl
  have bN : ∀ k, pc k ≠ 5 → (pick 5 (k + 1)).length = (pick 5 k).length := fun k h => by rw [pick_no 5 k h]
  have aP : ∀ k, k < 256 → pc k = 3 → col (pick 3 k).length = k := fun k h1 h2 => place3 ⟨k, h1⟩ h2
  have bP : ∀ k, k < 256 → pc k = 5 → (pick 5 k).length < 8 → col (56 + (pick 5 k).length) = k := fun k h1 h2 h3 => place5 ⟨k, h1⟩ h2 h3
  have aE := p3len
  have bE := p5at
  generalize pc = P at hO aY aN bY bN aP bP
  generalize hA : (fun k => (pick 3 k).length) = A
  generalize hB : (fun k => (pick 5 k).length) = B
  have ea : ∀ k, (pick 3 k).length = A k := fun k => by rw [← hA]
  have eb : ∀ k, (pick 5 k).length = B k := fun k => by rw [← hB]
  simp only [ea] at a0 aY aN aP aE
  simp only [eb] at b0 bY bN bP bE
  clear ea eb hA hB
  generalize col = C at aP bP ⊢
  replace hO := Lib.hid hO
  replace a0 := Lib.hid a0
  replace b0 := Lib.hid b0
  replace aY := Lib.hid aY
  replace aN := Lib.hid aN
  replace bY := Lib.hid bY
  replace bN := Lib.hid bN
  replace aP := Lib.hid aP
  replace bP := Lib.hid bP
  replace aE := Lib.hid aE
  replace bE := Lib.hid bE
  have hs0 : ((i : Int) < 0) = False := by simp
  have hs1 : decide ((63 : Int) < (i : Int)) = false := by simp; omega
  replace hs0 := Lib.hid hs0
  go_enter Tryd.func15, Tryd.ntmps15
  go_wp2
  go_loop [3, 4] (fun n c => ∃ k : Nat, k ≤ 256 ∧ c = .int .i64 (k : Int) ∧ n = .int .i64 (A k : Int) ∧ A k ≤ i) (fun _ c => 256 - (intOf c).toNat)
  case atStart => exact ⟨0, by omega, rfl, by rw [a0.out]; rfl, by rw [a0.out]; omega⟩
  case round =>
    obtain ⟨k, hk, rfl, rfl, hA⟩ := hrel
    by_cases hlt : k < 256
    · have hON := hO.out k hlt
      have hay := Lib.hid (aY.out k)
      have han := Lib.hid (aN.out k)
      have hap := Lib.hid (aP.out k hlt)
      by_cases hp : P k = 3
      · have ho3 : ∀ w, Calls Tryd.prog 27 #[.int .i64 (k : Int)] w fun e w' => e = .returned (.int .i64 (3 : Nat)) ∧ w' = w := fun w => by rw [← hp]; exact hON w
        have hc := Lib.hid (hap.out hp)
        have hy := Lib.hid (hay.out hp)
        replace ho3 := Lib.hid ho3
        clear hON hp
        have hk256 : (k : Int) < 256 := by omega
        by_cases hi : A k = i
        · have hc' : Hid (C i = k) := Lib.hid (by rw [← hi]; exact hc.out)
          have hq : ((A k : Int) == (i : Int)) = true := by simp; omega
          clear hi hA
          go_wp2_with (go_at_call 27; refine (ho3.out _).mono ?_; rintro e w' ⟨rfl, rfl⟩)
          go_ret
          exact ⟨by rw [hc'.out]; rfl, rfl⟩
        · have hq : ((A k : Int) == (i : Int)) = false := by simp; omega
          have hA' : A k + 1 ≤ i := by omega
          have hA'' : (A k : Int) ≤ 63 := by omega
          go_wp2_with (go_at_call 27; refine (ho3.out _).mono ?_; rintro e w' ⟨rfl, rfl⟩)
          go_round
          case rel => exact ⟨k + 1, by omega, by go_num, by rw [hy.out]; go_num, by rw [hy.out]; exact hA'⟩
          case measure => simp [intOf]; omega
      · have hn := Lib.hid (han.out hp)
        have hq : ((P k : Int) == 3) = false := by simp; omega
        replace hON := Lib.hid hON
        go_wp2_with (go_at_call 27; refine (hON.out _).mono ?_; rintro e w' ⟨rfl, rfl⟩)
        go_round
        case rel => exact ⟨k + 1, by omega, by go_num, by rw [hn.out], by rw [hn.out]; exact hA⟩
        case measure => simp [intOf]; omega
    · obtain rfl : k = 256 := by omega
      have h56 : 56 ≤ i := by rw [aE.out] at hA; exact hA
      rw [aE.out]
      clear hA
      go_wp2
      go_loop [3, 5] (fun n c => ∃ k : Nat, k ≤ 256 ∧ c = .int .i64 (k : Int) ∧ n = .int .i64 ((56 + B k : Nat) : Int) ∧ 56 + B k ≤ i) (fun _ c => 256 - (intOf c).toNat)
      case atStart => exact ⟨0, by omega, rfl, by rw [b0.out]; rfl, by rw [b0.out]; omega⟩
      case round =>
        obtain ⟨k, hk, rfl, rfl, hA⟩ := hrel
        by_cases hlt : k < 256
        · have hON := hO.out k hlt
          have hay := Lib.hid (bY.out k)
          have han := Lib.hid (bN.out k)
          have hap := Lib.hid (bP.out k hlt)
          generalize hN : 56 + B k = N at hA hap
          have hNN := Lib.hid hN
          by_cases hp : P k = 5
          · have ho3 : ∀ w, Calls Tryd.prog 27 #[.int .i64 (k : Int)] w fun e w' => e = .returned (.int .i64 (5 : Nat)) ∧ w' = w := fun w => by rw [← hp]; exact hON w
            have hc := Lib.hid (hap.out hp (by omega))
            have hy := Lib.hid (hay.out hp)
            replace ho3 := Lib.hid ho3
            clear hON hp hN
            have hk256 : (k : Int) < 256 := by omega
            by_cases hi : N = i
            · have hc' : Hid (C i = k) := Lib.hid (by rw [← hi]; exact hc.out)
              have hq : ((N : Int) == (i : Int)) = true := by simp; omega
              clear hi hA
              go_wp2_with (go_at_call 27; refine (ho3.out _).mono ?_; rintro e w' ⟨rfl, rfl⟩)
              go_ret
              exact ⟨by rw [hc'.out]; rfl, rfl⟩
            · have hq : ((N : Int) == (i : Int)) = false := by simp; omega
              have hA' : N + 1 ≤ i := by omega
              have hA'' : (N : Int) ≤ 63 := by omega
              go_wp2_with (go_at_call 27; refine (ho3.out _).mono ?_; rintro e w' ⟨rfl, rfl⟩)
              go_round
              case rel => exact ⟨k + 1, by omega, by go_num, by rw [hy.out, ← Nat.add_assoc, hNN.out]; go_num, by rw [hy.out, ← Nat.add_assoc, hNN.out]; exact hA'⟩
              case measure => simp [intOf]; omega
          · have hn := Lib.hid (han.out hp)
            have hq : ((P k : Int) == 5) = false := by simp; omega
            replace hON := Lib.hid hON
            clear hN
            go_wp2_with (go_at_call 27; refine (hON.out _).mono ?_; rintro e w' ⟨rfl, rfl⟩)
            go_round
            case rel => exact ⟨k + 1, by omega, by go_num, by rw [hn.out, hNN.out], by rw [hn.out, hNN.out]; exact hA⟩
            case measure => simp [intOf]; omega
        · obtain rfl : k = 256 := by omega
          exfalso
          rw [bE.out] at hA
          omega

theorem checkRR (x : Nat) (hx : x < 18446744073709551616) (w : World) : Calls Tryd.prog 12 #[.int .u64 (x : Int)] w fun e w' => e = .returned (.int .u8 (chk x : Int)) ∧ Below w.heap.size w w' := by
  have HC := Lib.hid (checkR x hx)
  have HK := Lib.hid (columnsR w)
  clear hx
  go_enter Tryd.func12, Tryd.ntmps12
  go_wp2_with fail
  refine HK.out.mono ?_
  rintro e w1 ⟨a, c, rfl, ho, hb⟩
  replace ho := Lib.hid (Cols.of ho)
  go_wp2_with (go_at_call 26; refine (HC.out a c w1 ho.out).mono ?_; rintro e w' ⟨rfl, rfl⟩)
  go_ret
  exact ⟨rfl, hb⟩

theorem mendR (x c : Nat) (hx : x < 18446744073709551616) (hc : c < 256) (w : World) : Calls Tryd.prog 10 #[.int .u64 (x : Int), .int .u8 (c : Int)] w (EcC.Ends x c w) := by
  have HC := mendRR x c hx hc
  unfold EcC.Ends
  unfold Same at HC
  replace HC := Lib.hid HC
  have HK := Lib.hid (columnsR w)
  clear hx hc
  go_enter Tryd.func10, Tryd.ntmps10
  go_wp2_with fail
  refine HK.out.mono ?_
  rintro e w1 ⟨a, c, rfl, ho, hb⟩
  replace ho := Lib.hid (Cols.of ho)
  go_wp2_with (go_at_call 23; refine (HC.out a c w1 ho.out).mono ?_; rintro e w' ⟨rfl, rfl⟩)
  go_ret3
  exact ⟨rfl, hb⟩
end Go.Proofs.YtnkbopmghekjdaaDoor.EcU
