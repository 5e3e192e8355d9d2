/- Areas: a table in memory, by ranges. -/
import Derived.Test.YtcggghiionlngaaAreD
import Derived.Test.YtcggghiionlngaaAreE
import Derived.Deep.MidRow
namespace Go.Proofs.Ytcggghiionlngaa.AreF
open Go.ChangeShapes Go.WideShapes Go.ChangeAt Go.RowKit
open Mem GeoM GeoC GeoD GeoF AreA AreB AreC AreD AreE
set_option linter.unusedVariables false
set_option maxHeartbeats 1000000

/-- A table: its shape, what was set last, what is in force; all of its cells are there. -/
structure Tt (w : World) (g : Nat) (c : Cfg) (l a : Stt) : Prop where
  lt : g < w.heap.size
  cfg : w.rangeAt g 0 (cc c).toList
  last : w.rangeAt g 9 (sc l).toList
  act : w.rangeAt g 15 (sc a).toList
  there : w.there g 0 40
theorem there_below {B : Nat} {w w' : World} {b o n : Nat} (h : w.there b o n) (hb : Below B w w') (hB : b < B) : w'.there b o n := fun j hj => by
  obtain ⟨h1, h2⟩ := h j hj
  refine ⟨by rw [hb.cell (p := ⟨b, o + j, none⟩) hB]; exact h1, ?_⟩
  rw [← h2]
  exact World.frozen?_of_block (hb.block b hB)
theorem one_cell (w : World) (g i : Nat) (v : Value) : w.setCell ⟨g, i, none⟩ v = w.setCells g i [v] := rfl
section
variable {w w' : World} {g : Nat} {c : Cfg} {l a : Stt}
theorem Tt.below {B : Nat} (h : Tt w g c l a) (hb : Below B w w') (hg : g < B) : Tt w' g c l a :=
  ⟨Nat.lt_of_lt_of_le h.lt hb.size, range_below h.cfg hb hg, range_below h.last hb hg, range_below h.act hb hg, there_below h.there hb hg⟩
theorem Tt.puts (h : Tt w g c l a) (o : Nat) (ho : 21 ≤ o) (vs : List Value) : Tt (w.setCells g o vs) g c l a := by
  have e9 : (cc c).toList.length = 9 := rfl
  have e6 : (sc l).toList.length = 6 := rfl
  have e7 : (sc a).toList.length = 6 := rfl
  exact ⟨Nat.lt_of_lt_of_le h.lt (below_setCells (B := 0) (Nat.zero_le _) vs o w (Below.refl 0 w)).size, World.rangeAt_setCells_apart h.cfg g o vs (.inr (.inl (by omega))), World.rangeAt_setCells_apart h.last g o vs (.inr (.inl (by omega))), World.rangeAt_setCells_apart h.act g o vs (.inr (.inl (by omega))), World.there_setCells h.there g o vs⟩
theorem Tt.put (h : Tt w g c l a) (i : Nat) (hi : 21 ≤ i) (v : Value) : Tt (w.setCell ⟨g, i, none⟩ v) g c l a := h.puts i hi [v]
theorem Tt.drew (h : Tt w g c l a) : Tt w.drew g c l a := ⟨h.lt, h.cfg, h.last, h.act, h.there⟩
theorem Tt.free (h : Tt w g c l a) (i : Nat) (hi : i < 40) : w.frozen? ⟨g, i, none⟩ = false := by
  have := (h.there i hi).2
  rwa [Nat.zero_add] at this
theorem Tt.some (h : Tt w g c l a) (i : Nat) (hi : i < 40) : ∃ v, w.cell? ⟨g, i, none⟩ = .some v := by
  have := (h.there i hi).1
  rw [Nat.zero_add] at this
  exact Option.isSome_iff_exists.1 this
theorem Tt.sub (h : Tt w g c l a) (o n : Nat) (hn : o + n ≤ 40) : w.there g o n := fun j hj => by
  have := h.there (o + j) (by omega)
  rwa [Nat.zero_add] at this
theorem Tt.done (h : Tt w g c l a) : w.cell? ⟨g, 20, none⟩ = .some (.bool a.d) := h.act 5 _ rfl
theorem Tt.lastDone (h : Tt w g c l a) : w.cell? ⟨g, 14, none⟩ = .some (.bool l.d) := h.last 5 _ rfl
end
end Go.Proofs.Ytcggghiionlngaa.AreF
