/- Contracts of the document geom: the numbers alone. -/
import Derived.Test.YtcggghiionlngaaGeoRN
namespace Go.Proofs.Ytcggghiionlngaa.GeoR
open Go.ChangeShapes Go.WideShapes Go.ChangeAt Go.RowKit
open GeoM GeoC GeoD GeoE Mem
set_option linter.unusedVariables false
set_option maxHeartbeats 2000000

set_option maxRecDepth 100000 in
theorem plainR (b p s u o r g k x : Int) (w : World) : Calls Try.prog 36 #[.agg #[.int .i64 b, .int .i64 p, .int .i64 s, .int .i64 u, .int .i64 o, .int .i64 r, .int .i64 g, .int .i64 k, .int .i64 x]] w fun e w' => ∃ B, e = .returned (.bool B) ∧ Below w.heap.size w w' ∧ (B = true ↔ (1 ≤ b ∧ b ≤ 1024) ∧ (4 ≤ p ∧ p ≤ 256) ∧ (p % 2 = 0) ∧ (128 ≤ s ∧ s ≤ 448) ∧ (s % 64 = 0) ∧ (1 ≤ u ∧ u ≤ 16384) ∧ (1 ≤ o ∧ o ≤ 256) ∧ (1 ≤ r ∧ r ≤ 256) ∧ (1 ≤ g ∧ g ≤ u) ∧ (u % g = 0) ∧ (u / g ≤ 32) ∧ (0 ≤ k ∧ k ≤ 64) ∧ (0 ≤ x ∧ x ≤ b)) := by
  have HB : Hid (Below w.heap.size w (w.alloc (.cells #[.int .i64 b, .int .i64 p, .int .i64 s, .int .i64 u, .int .i64 o, .int .i64 r, .int .i64 g, .int .i64 k, .int .i64 x] 23))) := Lib.hid ((Below.refl _ _).alloc (Nat.le_refl _) _)
  go_enter Try.func36, Try.ntmps36
  go_wp2_with fail
  by_cases h0 : 1 ≤ b ∧ b ≤ 1024
  · refine (inT b 1 1024 h0 _).mono ?_
    rintro e' w' ⟨rfl, hww⟩
    obtain rfl := hww.symm
    obtain ⟨h0a, h0b⟩ := h0
    have h0 := And.intro h0a h0b
    go_wp2_with fail
    by_cases h1 : 4 ≤ p ∧ p ≤ 256
    · refine (inT p 4 256 h1 _).mono ?_
      rintro e' w' ⟨rfl, hww⟩
      obtain rfl := hww.symm
      obtain ⟨h1a, h1b⟩ := h1
      have h1 := And.intro h1a h1b
      by_cases h2 : p % 2 = 0
      · go_wp2_with fail
        by_cases h3 : 128 ≤ s ∧ s ≤ 448
        · refine (inT s 128 448 h3 _).mono ?_
          rintro e' w' ⟨rfl, hww⟩
          obtain rfl := hww.symm
          obtain ⟨h3a, h3b⟩ := h3
          have h3 := And.intro h3a h3b
          by_cases h4 : s % 64 = 0
          · go_wp2_with fail
            by_cases h5 : 1 ≤ u ∧ u ≤ 16384
            · refine (inT u 1 16384 h5 _).mono ?_
              rintro e' w' ⟨rfl, hww⟩
              obtain rfl := hww.symm
              obtain ⟨h5a, h5b⟩ := h5
              have h5 := And.intro h5a h5b
              go_wp2_with fail
              by_cases h6 : 1 ≤ o ∧ o ≤ 256
              · refine (inT o 1 256 h6 _).mono ?_
                rintro e' w' ⟨rfl, hww⟩
                obtain rfl := hww.symm
                go_wp2_with fail
                by_cases h7 : 1 ≤ r ∧ r ≤ 256
                · refine (inT r 1 256 h7 _).mono ?_
                  rintro e' w' ⟨rfl, hww⟩
                  obtain rfl := hww.symm
                  go_wp2_with fail
                  by_cases h8 : 1 ≤ g ∧ g ≤ u
                  · refine (inT g 1 u h8 _).mono ?_
                    rintro e' w' ⟨rfl, hww⟩
                    obtain rfl := hww.symm
                    obtain ⟨h8a, h8b⟩ := h8
                    have h8 := And.intro h8a h8b
                    have hgz : (g == 0) = false := by simp; omega
                    have hg0 : ¬ g = 0 := by omega
                    have ht : u.tmod g = u % g := Int.tmod_eq_emod_of_nonneg (by omega)
                    by_cases h9 : u % g = 0
                    · have hqq : 0 ≤ u / g := Int.ediv_nonneg (by omega) (by omega)
                      have hqr : u / g ≤ u := Int.ediv_le_self _ (by omega)
                      by_cases h10 : u / g ≤ 32
                      · go_wp2_with fail
                        by_cases h11 : 0 ≤ k ∧ k ≤ 64
                        · refine (inT k 0 64 h11 _).mono ?_
                          rintro e' w' ⟨rfl, hww⟩
                          obtain rfl := hww.symm
                          go_wp2_with fail
                          by_cases h12 : 0 ≤ x ∧ x ≤ b
                          · refine (inT x 0 b h12 _).mono ?_
                            rintro e' w' ⟨rfl, hww⟩
                            obtain rfl := hww.symm
                            go_wp2
                            go_ret
                            exact ⟨true, rfl, HB.out, by simp only [true_iff]; exact ⟨h0, h1, h2, h3, h4, h5, h6, h7, h8, h9, h10, h11, h12⟩⟩
                          · refine (inF x 0 b h12 _).mono ?_
                            rintro e' w' ⟨rfl, hww⟩
                            obtain rfl := hww.symm
                            go_wp2
                            go_ret
                            exact ⟨false, rfl, HB.out, by simp only [Bool.false_eq_true, false_iff]; intro hh; have hz := hh.2.2.2.2.2.2.2.2.2.2.2.2; exact h12 hz⟩
                        · refine (inF k 0 64 h11 _).mono ?_
                          rintro e' w' ⟨rfl, hww⟩
                          obtain rfl := hww.symm
                          go_wp2
                          go_ret
                          exact ⟨false, rfl, HB.out, by simp only [Bool.false_eq_true, false_iff]; intro hh; have hz := hh.2.2.2.2.2.2.2.2.2.2.2.1; exact h11 hz⟩
                      · have hn10 := Lib.hid h10
                        have hqd : decide (u / g ≤ 32) = false := by simpa using h10
                        go_wp2
                        go_ret
                        exact ⟨false, rfl, HB.out, by simp only [Bool.false_eq_true, false_iff]; intro hh; have hz := hh.2.2.2.2.2.2.2.2.2.2.1; omega⟩
                    · go_wp2
                      go_ret
                      exact ⟨false, rfl, HB.out, by simp only [Bool.false_eq_true, false_iff]; intro hh; have hz := hh.2.2.2.2.2.2.2.2.2.1; exact h9 hz⟩
                  · refine (inF g 1 u h8 _).mono ?_
                    rintro e' w' ⟨rfl, hww⟩
                    obtain rfl := hww.symm
                    go_wp2
                    go_ret
                    exact ⟨false, rfl, HB.out, by simp only [Bool.false_eq_true, false_iff]; intro hh; have hz := hh.2.2.2.2.2.2.2.2.1; exact h8 hz⟩
                · refine (inF r 1 256 h7 _).mono ?_
                  rintro e' w' ⟨rfl, hww⟩
                  obtain rfl := hww.symm
                  go_wp2
                  go_ret
                  exact ⟨false, rfl, HB.out, by simp only [Bool.false_eq_true, false_iff]; intro hh; have hz := hh.2.2.2.2.2.2.2.1; exact h7 hz⟩
              · refine (inF o 1 256 h6 _).mono ?_
                rintro e' w' ⟨rfl, hww⟩
                obtain rfl := hww.symm
                go_wp2
                go_ret
                exact ⟨false, rfl, HB.out, by simp only [Bool.false_eq_true, false_iff]; intro hh; have hz := hh.2.2.2.2.2.2.1; exact h6 hz⟩
            · refine (inF u 1 16384 h5 _).mono ?_
              rintro e' w' ⟨rfl, hww⟩
              obtain rfl := hww.symm
              go_wp2
              go_ret
              exact ⟨false, rfl, HB.out, by simp only [Bool.false_eq_true, false_iff]; intro hh; have hz := hh.2.2.2.2.2.1; exact h5 hz⟩
          · go_wp2
            go_ret
            exact ⟨false, rfl, HB.out, by simp only [Bool.false_eq_true, false_iff]; intro hh; have hz := hh.2.2.2.2.1; exact h4 hz⟩
        · refine (inF s 128 448 h3 _).mono ?_
          rintro e' w' ⟨rfl, hww⟩
          obtain rfl := hww.symm
          go_wp2
          go_ret
          exact ⟨false, rfl, HB.out, by simp only [Bool.false_eq_true, false_iff]; intro hh; have hz := hh.2.2.2.1; exact h3 hz⟩
      · go_wp2
        go_ret
        exact ⟨false, rfl, HB.out, by simp only [Bool.false_eq_true, false_iff]; intro hh; have hz := hh.2.2.1; exact h2 hz⟩
    · refine (inF p 4 256 h1 _).mono ?_
      rintro e' w' ⟨rfl, hww⟩
      obtain rfl := hww.symm
      go_wp2
      go_ret
      exact ⟨false, rfl, HB.out, by simp only [Bool.false_eq_true, false_iff]; intro hh; have hz := hh.2.1; exact h1 hz⟩
  · refine (inF b 1 1024 h0 _).mono ?_
    rintro e' w' ⟨rfl, hww⟩
    obtain rfl := hww.symm
    go_wp2
    go_ret
    exact ⟨false, rfl, HB.out, by simp only [Bool.false_eq_true, false_iff]; intro hh; have hz := hh.1; exact h0 hz⟩

end Go.Proofs.Ytcggghiionlngaa.GeoR
