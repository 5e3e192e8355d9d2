/- The machines of states: blocks that are waited for; the chapter's example. -/
import Derived.Test.YtddmodiogjnhmaaPhR
namespace Go.Proofs.Ytddmodiogjnhmaa.PhS
open Go.ChangeShapes Go.WideShapes Go.ChangeAt Go.RowKit
open PhM PhA PhB PhC PhD PhE PhR
set_option linter.unusedVariables false
set_option maxHeartbeats 1000000

theorem recvR (g : Nat) (M : Mch) (n : Int) (w : World) (h : Rm w g M) :
    Calls Try.prog 14 #[.pointer (some ⟨g, 0, none⟩), .int .i64 n] w fun e w' => (∃ v, e = .returned v) ∧ Rm w' g (recvM M n) ∧ w.grownBy w' (some g) := by
  have k0 : w.cell? ⟨g, 0, none⟩ = some (.int .i64 M.s) := Mem.Blk.cell h 0
  have k1 : w.cell? ⟨g, 1, none⟩ = some (.int .i64 M.l) := Mem.Blk.cell h 1
  have z1 := Mem.Blk.frozen h 1
  have HH := Lib.hid h
  clear h
  unfold recvM
  by_cases hs : M.s = 6
  · rw [if_pos hs]
    rw [hs] at k0
    have hs' := Lib.hid hs
    clear hs
    by_cases h1 : n < 1
    · have e : max 1 (min n 64) = 1 := by omega
      rw [e]
      go_enter Try.func14, Try.ntmps14
      go_wp2
      go_returns
      exact ⟨⟨_, rfl⟩, rm_put 1 _ HH.out rfl, grown_set _ _ _ _⟩
    · by_cases h2 : 64 < n
      · have e : max 1 (min n 64) = 64 := by omega
        rw [e]
        go_enter Try.func14, Try.ntmps14
        go_wp2
        go_returns
        exact ⟨⟨_, rfl⟩, rm_put 1 _ HH.out rfl, grown_set _ _ _ _⟩
      · have e : max 1 (min n 64) = n := by omega
        rw [e]
        go_enter Try.func14, Try.ntmps14
        go_wp2
        go_returns
        exact ⟨⟨_, rfl⟩, rm_put 1 _ HH.out rfl, grown_set _ _ _ _⟩
  · rw [if_neg hs]
    go_enter Try.func14, Try.ntmps14
    go_wp2
    go_returns
    exact ⟨⟨_, rfl⟩, HH.out, ⟨rfl, rfl, rfl, Nat.le_refl _, fun _ _ _ => rfl⟩⟩

theorem gotR (g : Nat) (M : Mch) (w : World) (h : Rm w g M) (hl : M.s = 6 → 1 ≤ M.l ∧ M.l ≤ 64) :
    Calls Try.prog 16 #[.pointer (some ⟨g, 0, none⟩)] w fun e w' => e = .returned (.bool (decide (M.s = 6))) ∧ Rm w' g (gotM M) ∧ w.grownBy w' (some g) := by
  have k0 : w.cell? ⟨g, 0, none⟩ = some (.int .i64 M.s) := Mem.Blk.cell h 0
  have k1 : w.cell? ⟨g, 1, none⟩ = some (.int .i64 M.l) := Mem.Blk.cell h 1
  have z0 := Mem.Blk.frozen h 0
  have z1 := Mem.Blk.frozen h 1
  have HH := Lib.hid h
  clear h
  unfold gotM
  by_cases hs : M.s = 6
  · rw [if_pos hs]
    have hl' := hl hs
    rw [hs] at k0
    have hs' := Lib.hid hs
    clear hl
    by_cases h1 : M.l = 1
    · rw [if_pos h1]
      rw [h1] at k1 hl'
      replace h1 := Lib.hid h1
      clear hs
      go_enter Try.func16, Try.ntmps16
      go_wp2
      go_ret
      exact ⟨by rw [hs'.out]; rfl, rm_put 0 _ (rm_put (M' := ⟨M.s, M.a, 0⟩) 1 _ HH.out rfl) rfl, (grown_set _ _ _ _).trans (grown_set _ _ _ _)⟩
    · rw [if_neg h1]
      have h2 : ¬ (M.l - 1 = 0) := by omega
      clear hs
      go_enter Try.func16, Try.ntmps16
      go_wp2
      go_ret
      exact ⟨by rw [hs'.out]; rfl, rm_put 1 _ HH.out rfl, grown_set _ _ _ _⟩
  · rw [if_neg hs]
    have hd : decide (M.s = 6) = false := by simpa using hs
    rw [hd]
    clear hd hl
    go_enter Try.func16, Try.ntmps16
    go_wp2
    go_ret
    exact ⟨rfl, HH.out, ⟨rfl, rfl, rfl, Nat.le_refl _, fun _ _ _ => rfl⟩⟩

theorem known (w : World) : Calls Try.prog 7 #[] w fun e w' => e = .returned (.bool true) ∧ Below w.heap.size w w' := by
  go_enter Try.func7, Try.ntmps7
  go_wp2_with fail
  refine (newW _).mono ?_
  rintro e' w1 ⟨g, b, rfl, K1, hg, hb, B1⟩
  replace K1 := Lib.hid K1
  replace B1 := Lib.hid B1
  have GR : Hid (∀ w2 w3, Below w.heap.size w w2 → w2.grownBy w3 (some g) → Below w.heap.size w w3) := Lib.hid fun w2 w3 hB hG => hB.grown hG hB.size (fun j e => by cases e; exact hg)
  go_wp2_with fail
  refine (goW g b ⟨0, 0, 0⟩ 1 0 _ K1.out (by decide) (by decide) rfl rfl).mono ?_
  rintro e' w2 ⟨rfl, K2, G2⟩
  rw [show goM ⟨0, 0, 0⟩ 1 0 = ⟨1, 0, 0⟩ from rfl] at K2
  rw [show goA ⟨0, 0, 0⟩ 1 0 = true from rfl, show (nx 0 1 (mineP ⟨0, 0, 0⟩ 0)).2 = true from rfl]
  replace K2 := Lib.hid K2
  have B2 := Lib.hid (GR.out _ _ B1.out G2)
  clear G2 K1 B1
  go_wp2_with fail
  refine (goW g b ⟨1, 0, 0⟩ 2 0 _ K2.out (by decide) (by decide) rfl rfl).mono ?_
  rintro e' w3 ⟨rfl, K3, G3⟩
  rw [show goM ⟨1, 0, 0⟩ 2 0 = ⟨2, 0, 0⟩ from rfl] at K3
  rw [show goA ⟨1, 0, 0⟩ 2 0 = true from rfl, show (nx 1 2 (mineP ⟨1, 0, 0⟩ 0)).2 = true from rfl]
  replace K3 := Lib.hid K3
  have B3 := Lib.hid (GR.out _ _ B2.out G3)
  clear G3 K2 B2
  go_wp2_with fail
  refine (goW g b ⟨2, 0, 0⟩ 3 458752 _ K3.out (by decide) (by decide) rfl rfl).mono ?_
  rintro e' w4 ⟨rfl, K4, G4⟩
  rw [show goM ⟨2, 0, 0⟩ 3 458752 = ⟨3, 7, 0⟩ from rfl] at K4
  rw [show goA ⟨2, 0, 0⟩ 3 458752 = true from rfl, show (nx 2 3 (mineP ⟨2, 0, 0⟩ 458752)).2 = true from rfl]
  replace K4 := Lib.hid K4
  have B4 := Lib.hid (GR.out _ _ B3.out G4)
  clear G4 K3 B3
  go_wp2_with fail
  refine (goW g b ⟨3, 7, 0⟩ 7 458752 _ K4.out (by decide) (by decide) rfl rfl).mono ?_
  rintro e' w5 ⟨rfl, K5, G5⟩
  rw [show goM ⟨3, 7, 0⟩ 7 458752 = ⟨4, 7, 0⟩ from rfl] at K5
  rw [show goA ⟨3, 7, 0⟩ 7 458752 = true from rfl, show (nx 3 7 (mineP ⟨3, 7, 0⟩ 458752)).2 = true from rfl]
  replace K5 := Lib.hid K5
  have B5 := Lib.hid (GR.out _ _ B4.out G5)
  clear G5 K4 B4
  go_wp2_with fail
  refine (stateW g b _ _ K5.out).mono ?_
  rintro e' w6 ⟨rfl, h6⟩
  obtain rfl := h6.symm
  go_wp2_with fail
  refine (addrW g b _ _ K5.out).mono ?_
  rintro e' w7 ⟨rfl, h7⟩
  obtain rfl := h7.symm
  go_wp2_with fail
  refine (legalW g b _ 1 0 _ K5.out (by decide) (by decide) rfl rfl).mono ?_
  rintro e' w8 ⟨rfl, h8⟩
  rw [show (nx 4 1 (mineP ⟨4, 7, 0⟩ 0)).2 = false from rfl]
  have B8 := Lib.hid (B5.out.trans (h8.mono B5.out.size))
  clear h8
  go_wp2_with fail
  refine (states _).mono ?_
  rintro e' w9 ⟨rfl, h9⟩
  go_wp2
  go_ret
  exact ⟨rfl, by first | exact B8.out.alloc B8.out.size _ | (rw [h9]; exact B8.out.alloc B8.out.size _)⟩
end Go.Proofs.Ytddmodiogjnhmaa.PhS
