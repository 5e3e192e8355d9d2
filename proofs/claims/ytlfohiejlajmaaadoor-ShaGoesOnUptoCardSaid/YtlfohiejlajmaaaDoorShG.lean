/- Digests: one in memory; it is reset. -/
import Derived.Test.YtlfohiejlajmaaaDoorShF
import Derived.Deep.MidRow
namespace Go.Proofs.YtlfohiejlajmaaaDoor.ShG
open Go.ChangeShapes Go.WideShapes Go.ChangeAt Go.RowKit
open ShM ShA ShB ShC ShD ShE ShF Mem
set_option linter.unusedVariables false
set_option maxHeartbeats 2000000

/-- A digest in memory: its block, the block as it was made, the one with the key of the second turn, whether there is a key. -/
structure Dg (w : World) (g : Nat) (t f o : St) (kd : Bool) : Prop where
  lt : g < w.heap.size
  b : w.rangeAt g 0 (bkl t)
  first : w.rangeAt g 74 (bkl f)
  outer : w.rangeAt g 148 (bkl o)
  keyed : w.cell? ⟨g, 222, none⟩ = some (.bool kd)
  there : w.there g 0 223
section
variable {w w' : World} {g : Nat} {t f o : St} {kd : Bool}
theorem Dg.sub (h : Dg w g t f o kd) (p n : Nat) (hn : p + n ≤ 223) : w.there g p n := fun j hj => by
  have := h.there (p + j) (by omega)
  rwa [Nat.zero_add] at this
theorem Dg.bk (h : Dg w g t f o kd) : Bk w g t := Bk_of h.lt h.b (h.sub 0 74 (by omega))
theorem Dg.below {B : Nat} (h : Dg w g t f o kd) (hb : Below B w w') (hg : g < B) : Dg w' g t f o kd :=
  ⟨Nat.lt_of_lt_of_le h.lt hb.size, range_below h.b hb hg, range_below h.first hb hg, range_below h.outer hb hg, by rw [hb.cell (p := ⟨g, 222, none⟩) hg]; exact h.keyed, there_below h.there hb hg⟩
/-- What writes to the front block alone leaves the rest. -/
theorem Dg.front {t' : St} (h : Dg w g t f o kd) (hb : Bk w' g t') (hu : Upd w w' g) : Dg w' g t' f o kd :=
  ⟨hb.lt, Bk_range hb, fun j v hv => (hu.far (74 + j) (by omega)).trans (h.first j v hv), fun j v hv => (hu.far (148 + j) (by omega)).trans (h.outer j v hv), (hu.far 222 (by omega)).trans h.keyed, hu.th 223 h.there⟩
theorem Dg.set (h : Dg w g t f o kd) (t' : St) : Dg (w.setCells g 0 (bkl t')) g t' f o kd := by
  have e := bkl_len t'
  exact ⟨Nat.lt_of_lt_of_le h.lt (below_setCells (B := 0) (Nat.zero_le _) _ 0 w (Below.refl 0 w)).size, World.rangeAt_setCells_same w g 0 _ (by rw [e]; exact h.sub 0 74 (by omega)), World.rangeAt_setCells_apart h.first g 0 _ (.inr (.inr (by omega))), World.rangeAt_setCells_apart h.outer g 0 _ (.inr (.inr (by omega))), by rw [World.cell?_setCells_out g _ 0 w ⟨g, 222, none⟩ (fun _ _ => .inr (by show 0 + (bkl t').length ≤ 222; omega))]; exact h.keyed, World.there_setCells h.there g 0 _⟩
end
theorem bkl_one (t : St) : ∀ v ∈ bkl t, v.oneCell' = true := by
  intro v hv
  unfold bkl at hv
  rcases List.mem_append.1 hv with h | h
  · unfold s8c at h
    simp at h
    rcases h with rfl | rfl | rfl | rfl | rfl | rfl | rfl | rfl <;> rfl
  · rcases List.mem_append.1 h with h | h
    · unfold bc at h
      simp at h
      obtain ⟨i, _, rfl⟩ := h
      rfl
    · simp at h
      rcases h with rfl | rfl <;> rfl

set_option maxRecDepth 100000 in
theorem resetW (g : Nat) (t f o : St) (kd : Bool) (w : World) (h : Dg w g t f o kd) : Calls Tryd.prog 15 #[.pointer (some ⟨g, 0, none⟩)] w fun e w' => e = .returned (.tuple #[]) ∧ Dg w' g f f o kd ∧ w.grownBy w' (some g) := by
  obtain ⟨FV, hFV⟩ : ∃ FV : Array Value, FV = (bkl f).toArray := ⟨_, rfl⟩
  have r1 : Hid (w.rangeAt g 74 FV.toList) := Lib.hid (by rw [hFV]; exact h.first)
  have i1 : Hid ((Tryd.prog.info? 60).map (·.size) = some FV.size) := Lib.hid (by rw [hFV, List.size_toArray, bkl_len]; exact i60)
  have o1 : Hid (FV.all (·.oneCell') = true) := Lib.hid (by rw [hFV]; exact all_oneCell_toArray (bkl_one f))
  have t1 : Hid (w.there g 0 FV.size) := Lib.hid (by rw [hFV, List.size_toArray, bkl_len]; exact h.sub 0 74 (by omega))
  have H := Lib.hid h
  replace hFV := Lib.hid hFV
  clear h
  go_enter Tryd.func15, Tryd.ntmps15
  go_wp2_with (first
    | ((with_reducible show wpList _ _ _ (Oper.mk _ (Op.load 60 (.tmp 5)) _ _ _ _ :: _) _ _); refine Mem.loadMid 60 (.tmp 5) rfl g 74 rfl FV r1.out _ Tryd.underlying60 rfl i1.out rfl ?_)
    | ((with_reducible show wpList _ _ _ (Oper.mk _ (Op.store 60 (.tmp 8) (.tmp 6)) _ _ _ _ :: _) _ _); refine wpList_store_mid rfl 60 (.tmp 8) (.tmp 6) rfl g 0 FV rfl rfl t1.out i1.out o1.out ?_))
  go_end0
  exact ⟨rfl, by rw [hFV.out]; exact H.out.set f, ((Upd.refl w g).setCells 0 FV.toList (by rw [hFV.out, bkl_len]; omega)).gb⟩
end Go.Proofs.YtlfohiejlajmaaaDoor.ShG
