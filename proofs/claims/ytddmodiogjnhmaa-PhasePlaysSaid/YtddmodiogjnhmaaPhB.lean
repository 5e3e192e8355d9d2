/- Both steps of a command laid into the table. -/
import Derived.Test.YtddmodiogjnhmaaPhA
import Derived.Maps.AppendAt
namespace Go.Proofs.Ytddmodiogjnhmaa.PhB
open Go.ChangeShapes Go.WideShapes Go.ChangeAt Go.RowKit
open PhM PhA
set_option linter.unusedVariables false
set_option maxHeartbeats 1000000

theorem grown_cell {w w' : World} {b : Nat} {p : Addr} {v : Value} (hg : w.grownBy w' (some b)) (hne : p.block ≠ b) (h : w.cell? p = some v) : w'.cell? p = some v := by
  have hlt := World.block_lt_of_cell? w p h
  have := hg.block p.block hlt (by simpa using hne)
  unfold World.cell? at *
  rw [this]
  exact h

theorem bothW (b c : Nat) (hbc : c ≠ b) (s i x : Int) (hs : W s) (hi : W i) (l : List (K3 × Int)) (hl : l.length < 900) (w : World) (hT : Tab w b l) (hc : w.cell? ⟨c, 0, none⟩ = some (.map (some b))) :
    Calls Try.prog 32 #[.int .i64 s, .int .i64 i, .int .i64 x, .pointer (some ⟨c, 0, none⟩)] w fun e w' => (∃ v, e = .returned v) ∧ Tab w' b (both s i x l) ∧ w.grownBy w' (some b) ∧ w'.cell? ⟨c, 0, none⟩ = some (.map (some b)) := by
  replace hT := Lib.hid hT
  go_enter Try.func32, Try.ntmps32
  go_wp2_with (first
    | (at_mapUpdate
       refine wpList_put rfl (.tmp 7) (.tmp 10) (.tmp 12) rfl b l rfl hT.out s i x false rfl rfl hs hi (by omega) ?_
       intro w1 hT1 hg1
       replace hT1 := Lib.hid hT1
       have hc1 := grown_cell hg1 hbc hc
       replace hg1 := Lib.hid hg1)
    | (at_mapUpdate
       refine wpList_put rfl (.tmp 13) (.tmp 16) (.tmp 18) rfl b _ rfl hT1.out s i x true rfl rfl hs hi (by simp; omega) ?_
       intro w2 hT2 hg2
       have hc2 := grown_cell hg2 hbc hc1))
  go_returns
  exact ⟨⟨_, rfl⟩, hT2, hg1.out.trans hg2, hc2⟩
end Go.Proofs.Ytddmodiogjnhmaa.PhB
