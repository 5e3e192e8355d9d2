/- The law on rows with turned bits: the whole. -/
import Derived.Test.YtnkbopmghekjdaaDoorEcFL
namespace Go.Proofs.YtnkbopmghekjdaaDoor.EcFO
open Go.ChangeShapes Go.WideShapes Go.ChangeAt Go.RowKit
open EcM EcA EcB EcC EcT EcX EcY EcZ
set_option linter.unusedVariables false
set_option maxHeartbeats 1000000

theorem lawOut (a ab : Option Addr) (n c nb cb : Nat) (tw : Int) (w : World) (h1 : n ≤ maxLen) (h2 : nb ≤ maxLen) (h : 600 < n ∨ n = 0 ∨ n % 8 ≠ 0 ∨ 100 < nb) (hl : Laid w) :
    Calls Tryd.prog 7 #[.slice a n c, .slice ab nb cb, .int .i64 tw] w fun e w' => e = .returned (.bool true) ∧ Below w.heap.size w w' := by
  have HK := Lib.hid (EcE.known w hl)
  clear hl
  unfold maxLen at h1 h2
  by_cases p1 : 600 < n
  · have hd1 : decide ((600 : Int) < (n : Int)) = true := by simp; omega
    go_enter Tryd.func7, Tryd.ntmps7
    go_wp2_with fail
    refine HK.out.mono ?_
    rintro e w' ⟨rfl, hww⟩
    obtain rfl := hww.symm
    go_wp2
    go_ret
    exact ⟨rfl, Below.refl _ _⟩
  · have hd1 : decide ((600 : Int) < (n : Int)) = false := by simp; omega
    by_cases p2 : n = 0
    · have hd2 : ((n : Int) == 0) = true := by simp; omega
      replace p2 := Lib.hid p2
      go_enter Tryd.func7, Tryd.ntmps7
      go_wp2_with fail
      refine HK.out.mono ?_
      rintro e w' ⟨rfl, hww⟩
      obtain rfl := hww.symm
      go_wp2
      go_ret
      exact ⟨rfl, Below.refl _ _⟩
    · have hd2 : ((n : Int) == 0) = false := by simp; omega
      by_cases p3 : n % 8 = 0
      · have hd3 : ((n : Int) % 8 != 0) = false := by rw [bne_eq_false_iff_eq]; omega
        have hd4 : decide ((100 : Int) < (nb : Int)) = true := by simp; omega
        replace p3 := Lib.hid p3
        go_enter Tryd.func7, Tryd.ntmps7
        go_wp2_with fail
        refine HK.out.mono ?_
        rintro e w' ⟨rfl, hww⟩
        obtain rfl := hww.symm
        go_wp2
        go_ret
        exact ⟨rfl, Below.refl _ _⟩
      · have hd3 : ((n : Int) % 8 != 0) = true := by rw [bne_iff_ne]; omega
        go_enter Tryd.func7, Tryd.ntmps7
        go_wp2_with fail
        refine HK.out.mono ?_
        rintro e w' ⟨rfl, hww⟩
        obtain rfl := hww.symm
        go_wp2
        go_ret
        exact ⟨rfl, Below.refl _ _⟩

theorem law (a ab : Option Addr) (n c nb cb : Nat) (z zb : List Int) (tw : Int) (w : World) (h1 : IsRow .u8 w a n c z) (h2 : IsRow .i64 w ab nb cb zb) (hl : Laid w) :
    Calls Tryd.prog 7 #[.slice a n c, .slice ab nb cb, .int .i64 tw] w fun e w' => e = .returned (.bool true) ∧ Below w.heap.size w w' := by
  obtain ⟨l, hn, hr, hnc, ha⟩ := IsRow.bytes h1
  have hm1 := hr.1
  have hcm : c ≤ maxLen := by
    rcases h1 with ⟨_, _, rfl, _⟩ | ⟨_, _, _, h, _⟩
    · simp [maxLen]
    · exact h
  have hnb : nb ≤ maxLen := by
    rcases h2 with ⟨_, rfl, _, _⟩ | ⟨_, _, h, h', _⟩
    · simp [maxLen]
    · omega
  by_cases hb : 600 < n ∨ n = 0 ∨ n % 8 ≠ 0 ∨ 100 < nb
  · exact lawOut a ab n c nb cb tw w (by omega) hnb hb hl
  · obtain ⟨m, rfl⟩ : ∃ m, n = 8 * m := ⟨n / 8, by omega⟩
    refine EcFL.lawIn a ab l zb (8 * m) m c nb cb tw w hn hr (fun x h0 => ha x (by omega)) hnc hcm rfl (by omega) (by omega) (by omega) ?_ hl
    intro w' hb' j hj
    rcases h2 with ⟨_, rfl, _, _⟩ | ⟨x, rfl, hle, _, hz, hc, _⟩
    · omega
    · obtain ⟨b, off, spot⟩ := x
      have h3 := hc j (by omega)
      have hspot : spot = none := by simpa [Addr.add] using World.cell?_spot (hc 0 (by omega))
      subst hspot
      rw [Addr.add_lit] at h3
      exact ⟨b, off, rfl, (hb'.cell (p := ⟨b, off + j, none⟩) (World.block_lt_of_cell? w ⟨b, off + j, none⟩ h3)).trans h3⟩
end Go.Proofs.YtnkbopmghekjdaaDoor.EcFO
