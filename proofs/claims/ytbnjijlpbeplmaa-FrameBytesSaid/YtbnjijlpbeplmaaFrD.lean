/- Contracts of frames: the command of a frame. -/
import Derived.Test.YtbnjijlpbeplmaaFrT
namespace Go.Proofs.Ytbnjijlpbeplmaa.FrD
open Go.ChangeShapes Go.WideShapes Go.ChangeAt Go.RowKit
open CrcM CrcB CrcL CrcQ FrA FrB FrT
set_option linter.unusedVariables false
set_option maxHeartbeats 1000000

/-- What these six bytes are to be, as a frame that begins so. -/
def Good (f b0 b1 b2 b3 b4 b5 : B8) : Prop := b0 >>> 6 = f ∧ b5 &&& 1#8 = 1#8 ∧ sum7 [b0, b1, b2, b3, b4] = b5 >>> 1

theorem take (b off : Nat) (c : Nat) (b0 b1 b2 b3 b4 b5 f : B8) (w : World) (hc : 6 ≤ c) (hr : Rd w (some ⟨b, off, none⟩) [b0, b1, b2, b3, b4, b5]) :
    Calls Try.prog 86 #[.slice (some ⟨b, off, none⟩) 6 c, .int .u8 f.toNat] w fun e w' => Below w.heap.size w w' ∧
      ∃ V N K : Nat, e = .returned (.tuple #[.int .i64 V, .int .u32 N, .int .i64 K]) ∧ V ≤ 63 ∧ N < 4294967296 ∧
        ((Good f b0 b1 b2 b3 b4 b5 ∧ K = 0 ∧ V = (b0 &&& 63#8).toNat ∧ N = num [b1, b2, b3, b4]) ∨ (¬ Good f b0 b1 b2 b3 b4 b5 ∧ (K = 24 ∨ K = 25) ∧ V = 0 ∧ N = 0)) := by
  by_cases h1 : b0 >>> 6 = f ∧ b5 &&& 1#8 = 1#8
  · by_cases h2 : sum7 [b0, b1, b2, b3, b4] = b5 >>> 1
    · refine (takeGood b off c b0 b1 b2 b3 b4 b5 f w hc hr h1.1 h1.2 h2).mono fun e w' h => ⟨h.2, _, _, 0, h.1, ?_, ?_, .inl ⟨⟨h1.1, h1.2, h2⟩, rfl, rfl, rfl⟩⟩
      · rw [BitVec.toNat_and, show (63#8).toNat = 63 from rfl]; exact Nat.and_le_right
      · have := num_lt [b1, b2, b3, b4] 4 (by simp)
        simpa using this
    · exact (takeSum b off c b0 b1 b2 b3 b4 b5 f w hc hr h1.1 h1.2 h2).mono fun e w' h => ⟨h.2, 0, 0, 25, h.1, by omega, by omega, .inr ⟨fun g => h2 g.2.2, .inr rfl, rfl, rfl⟩⟩
  · exact (takeForm b off c b0 b1 b2 b3 b4 b5 f w hc hr h1).mono fun e w' h => ⟨h.2, 0, 0, 24, h.1, by omega, by omega, .inr ⟨fun g => h1 ⟨g.1, g.2.1⟩, .inl rfl, rfl, rfl⟩⟩

theorem twoCells {w : World} {g : Nat} {ty : TypeId} {v0 v1 : Value} (h : w.heap[g]? = some (.cells #[v0, v1] ty (0, 0))) :
    w.cell? ⟨g, 0, none⟩ = some v0 ∧ w.cell? ⟨g, 1, none⟩ = some v1 ∧ ∀ j, w.frozen? ⟨g, j, none⟩ = false :=
  ⟨cell_of_row w g 0 _ ty _ h, cell_of_row w g 1 _ ty _ h, fun j => by simp [World.frozen?, h]⟩

/-- The card's frames are read so. -/
theorem read (b off : Nat) (c : Nat) (b0 b1 b2 b3 b4 b5 : B8) (w : World) (hc : 6 ≤ c) (hr : Rd w (some ⟨b, off, none⟩) [b0, b1, b2, b3, b4, b5]) :
    Calls Try.prog 39 #[.slice (some ⟨b, off, none⟩) 6 c] w fun e w' => Below w.heap.size w w' ∧
      ∃ V N K : Nat, e = .returned (.tuple #[.int .i64 V, .int .u32 N, .int .i64 K]) ∧ V ≤ 63 ∧ N < 4294967296 ∧
        ((Good 0 b0 b1 b2 b3 b4 b5 ∧ K = 0 ∧ V = (b0 &&& 63#8).toNat ∧ N = num [b1, b2, b3, b4]) ∨ (¬ Good 0 b0 b1 b2 b3 b4 b5 ∧ (K = 24 ∨ K = 25) ∧ V = 0 ∧ N = 0)) := by
  have HT := Lib.hid (take b off c b0 b1 b2 b3 b4 b5 0 w hc hr)
  clear hr
  go_enter Try.func39, Try.ntmps39
  go_wp2_with fail
  refine Calls.mono HT.out ?_
  rintro e w' ⟨hb, V, N, K, rfl, hV, hN, hh⟩
  have HH := Lib.hid hh
  clear hh
  go_wp2
  go_ret3
  exact ⟨hb, V, N, K, rfl, hV, hN, HH.out⟩

/-- The command of six bytes. -/
theorem decode (b off : Nat) (c : Nat) (b0 b1 b2 b3 b4 b5 : B8) (w : World) (hc : 6 ≤ c) (hb : b < w.heap.size) (hr : Rd w (some ⟨b, off, none⟩) [b0, b1, b2, b3, b4, b5]) :
    Calls Try.prog 35 #[.slice (some ⟨b, off, none⟩) 6 c] w fun e w' => Below w.heap.size w w' ∧
      ∃ V N K : Nat, e = .returned (.tuple #[.agg #[.int .i64 V, .int .u32 N], .int .i64 K]) ∧ V ≤ 63 ∧ N < 4294967296 ∧
        ((Good 1 b0 b1 b2 b3 b4 b5 ∧ K = 0 ∧ V = (b0 &&& 63#8).toNat ∧ N = num [b1, b2, b3, b4]) ∨ (¬ Good 1 b0 b1 b2 b3 b4 b5 ∧ (K = 24 ∨ K = 25) ∧ V = 0 ∧ N = 0)) := by
  have HT : Hid (∀ w', Below w.heap.size w w' → Rd w' (some ⟨b, off, none⟩) [b0, b1, b2, b3, b4, b5]) := Lib.hid fun w' hb' => Rd.below hr hb' (fun x _ hx => by injection hx with hx; subst hx; exact hb)
  clear hr
  go_enter Try.func35, Try.ntmps35
  go_wp2_with fail
  refine Calls.mono (take b off c b0 b1 b2 b3 b4 b5 1 _ hc (HT.out _ ((Below.refl _ w).alloc (Nat.le_refl _) _))) ?_
  rintro e w' ⟨hb', V, N, K, rfl, hV, hN, hh⟩
  have HH := Lib.hid hh
  have hw := hb'.block w.heap.size (by simp)
  rw [heap_alloc_new] at hw
  obtain ⟨c0, c1, hz⟩ := twoCells hw
  have z0 := hz 0
  have z1 := hz 1
  have hb0 := ((Below.refl w.heap.size w).alloc (Nat.le_refl _) _).trans (hb'.mono (by simp))
  have d0 : (w'.setCell ⟨w.heap.size, 0, none⟩ (.int .i64 V)).cell? ⟨w.heap.size, 0, none⟩ = some (.int .i64 V) := World.cell?_setCell_same _ _ _ c0
  have d1 : ((w'.setCell ⟨w.heap.size, 0, none⟩ (.int .i64 V)).setCell ⟨w.heap.size, 1, none⟩ (.int .u32 N)).cell? ⟨w.heap.size, 1, none⟩ = some (.int .u32 N) := World.cell?_setCell_same _ _ _ (u := .int .u32 0) (by go_simp)
  clear hh hw hz hb'
  go_wp2
  refine bodyPost_ret (by simp [results, Try.results35, go_sem, d0, d1]; try rfl) rfl ?_
  exact ⟨(hb0.setCell (by simp) _).setCell (by simp) _, V, N, K, rfl, hV, hN, HH.out⟩
end Go.Proofs.Ytbnjijlpbeplmaa.FrD
