/- Groups: what they tell. -/
import Derived.Test.YtleflegbdnmgeaaGdT
import Derived.Test.YtleflegbdnmgeaaMem
import Derived.Test.YtleflegbdnmgeaaReg
import Derived.Handy
import Derived.StillTail
import Derived.StillTactics
namespace Go.Proofs.Ytleflegbdnmgeaa.GdA
open Go.ChangeShapes Go.WideShapes Go.ChangeAt Go.RowKit
open GdT
set_option linter.unusedVariables false
set_option maxHeartbeats 1000000

/-- Groups in memory. -/
def Gd (w : World) (g q n : Nat) (L : List B8) : Prop :=
  Mem.Blk w g 51 #[.slice (some ⟨q, 0, none⟩) n n] ∧ Mem.Blk w q 5 (vals L).toArray ∧ q ≠ g ∧ L.length = n ∧ n ≤ 256
theorem Gd.below {w w' g q n L} (h : Gd w g q n L) (hb : Below w.heap.size w w') : Gd w' g q n L := ⟨Mem.Blk.below h.1 hb h.1.lt, Mem.Blk.below h.2.1 hb h.2.1.lt, h.2.2⟩
theorem Gd.head {w g q n L} (h : Gd w g q n L) : w.cell? ⟨g, 0, none⟩ = some (.slice (some ⟨q, 0, none⟩) n n) := h.1.cell 0
theorem Gd.cell {w g q n L} (h : Gd w g q n L) (k : Nat) (hk : k < n) : w.cell? ⟨q, k, none⟩ = some (.int .u8 (L.getD k 0).toNat) := by
  rw [h.2.1.cell k]
  simp [vals, h.2.2.2.1, hk]
theorem Gd.frozen {w g q n L} (h : Gd w g q n L) (k : Nat) : w.frozen? ⟨q, k, none⟩ = false := h.2.1.frozen k
theorem grown_set (w : World) (g k : Nat) (v : Value) : w.grownBy (w.setCell ⟨g, k, none⟩ v) (some g) := ⟨rfl, rfl, rfl, by simp, fun j _ hne => Below.heap_setCell w ⟨g, k, none⟩ v j (by simpa using hne)⟩
theorem below_grown {w w' : World} (h : Below w.heap.size w w') (r : Option Nat) : w.grownBy w' r := ⟨h.os, h.tape, h.output, h.size, fun k hk _ => h.block k hk⟩
theorem Gd.put {w g q n L} (h : Gd w g q n L) (k : Nat) (y : B8) : Gd (w.setCell ⟨q, k, none⟩ (.int .u8 y.toNat)) g q n (L.set k y) := by
  refine ⟨Mem.Blk.far h.1 (by simpa using h.2.2.1.symm) _, ?_, h.2.2.1, by simp [h.2.2.2.1], h.2.2.2.2⟩
  have := Mem.Blk.put h.2.1 k (.int .u8 y.toNat)
  have e : (vals L).toArray.setIfInBounds k (.int .u8 y.toNat) = (vals (L.set k y)).toArray := by
    simp [vals, List.map_set]
  rw [e] at this
  exact this

def inN (n : Nat) (k : Int) : Bool := decide (0 ≤ k ∧ k < (n : Int))
theorem inN_nat {n K : Nat} (h : K < n) : inN n (K : Int) = true := by unfold inN; simp; omega
theorem inN_out {n : Nat} {k : Int} (h : k < 0 ∨ (n : Int) ≤ k) : inN n k = false := by unfold inN; simp; omega

theorem hasW (g q n : Nat) (L : List B8) (k : Int) (w : World) (h : Gd w g q n L) :
    Calls Try.prog 25 #[.pointer (some ⟨g, 0, none⟩), .int .i64 k] w fun e w' => e = .returned (.bool (inN n k)) ∧ w' = w := by
  have c := h.head
  clear h
  by_cases h0 : k < 0
  · rw [inN_out (.inl h0)]
    go_enter Try.func25, Try.ntmps25
    go_wp2
    go_returns
    exact ⟨rfl, rfl⟩
  · have h0' : 0 ≤ k := by omega
    by_cases h1 : k < (n : Int)
    · have e : inN n k = true := by unfold inN; simp [h0', h1]
      rw [e]
      clear e
      go_enter Try.func25, Try.ntmps25
      go_wp2
      go_returns
      exact ⟨by simp [h1], rfl⟩
    · rw [inN_out (.inr (by omega))]
      go_enter Try.func25, Try.ntmps25
      go_wp2
      go_returns
      exact ⟨by first | rfl | (simp; done) | (simp; omega), rfl⟩

def kindP (n : Nat) (L : List B8) (k : Int) : Int := if inN n k = true then ((L.getD k.toNat 0).toNat : Int) else 0
theorem kindW (g q n : Nat) (L : List B8) (k : Int) (w : World) (h : Gd w g q n L) :
    Calls Try.prog 23 #[.pointer (some ⟨g, 0, none⟩), .int .i64 k] w fun e w' => e = .returned (.int .i64 (kindP n L k)) ∧ w' = w := by
  have HH := Lib.hid (hasW g q n L k w h)
  unfold kindP
  by_cases h1 : 0 ≤ k ∧ k < (n : Int)
  · obtain ⟨K, rfl⟩ := Int.eq_ofNat_of_zero_le h1.1
    have hK : K < n := by omega
    rw [inN_nat hK] at HH ⊢
    rw [if_pos rfl, Int.toNat_natCast]
    have c := h.head
    have ck := h.cell K hK
    have hy := (L.getD K 0).isLt
    generalize L.getD K 0 = y at *
    clear h
    go_enter Try.func23, Try.ntmps23
    go_wp2_with fail
    refine HH.out.mono ?_
    rintro e' w5 ⟨rfl, h5⟩
    obtain rfl := h5.symm
    go_wp2
    go_ret
    exact ⟨rfl, rfl⟩
  · have e : inN n k = false := inN_out (by omega)
    rw [e] at HH ⊢
    clear h h1 e
    go_enter Try.func23, Try.ntmps23
    go_wp2_with fail
    refine HH.out.mono ?_
    rintro e' w5 ⟨rfl, h5⟩
    obtain rfl := h5.symm
    go_wp2
    go_ret
    exact ⟨rfl, rfl⟩

def mayP (n : Nat) (L : List B8) (k : Int) : Bool := inN n k && decide (L.getD k.toNat 0 = 0)
theorem zero8 (y : B8) : decide (y = 0) = ((y.toNat : Int) == 0) := by
  rw [Bool.eq_iff_iff]
  simp [BitVec.toNat_eq]
theorem mayW (g q n : Nat) (L : List B8) (k : Int) (w : World) (h : Gd w g q n L) :
    Calls Try.prog 22 #[.pointer (some ⟨g, 0, none⟩), .int .i64 k] w fun e w' => e = .returned (.bool (mayP n L k)) ∧ w' = w := by
  have HH := Lib.hid (hasW g q n L k w h)
  unfold mayP
  by_cases h1 : 0 ≤ k ∧ k < (n : Int)
  · obtain ⟨K, rfl⟩ := Int.eq_ofNat_of_zero_le h1.1
    have hK : K < n := by omega
    rw [inN_nat hK] at HH ⊢
    rw [Int.toNat_natCast, zero8]
    have c := h.head
    have ck := h.cell K hK
    have hy := (L.getD K 0).isLt
    generalize L.getD K 0 = y at *
    clear h
    go_enter Try.func22, Try.ntmps22
    go_wp2_with fail
    refine HH.out.mono ?_
    rintro e' w5 ⟨rfl, h5⟩
    obtain rfl := h5.symm
    go_wp2
    go_ret
    exact ⟨by simp, rfl⟩
  · have e : inN n k = false := inN_out (by omega)
    rw [e] at HH ⊢
    clear h h1 e
    go_enter Try.func22, Try.ntmps22
    go_wp2_with fail
    refine HH.out.mono ?_
    rintro e' w5 ⟨rfl, h5⟩
    obtain rfl := h5.symm
    go_wp2
    go_ret
    exact ⟨rfl, rfl⟩

def levelP (r : B8) : Int := if r = 1 then 2 else if r = 2 then 3 else 1
theorem levelW (r : B8) (w : World) : Calls Try.prog 20 #[.int .u8 r.toNat] w fun e w' => e = .returned (.int .i64 (levelP r)) ∧ w' = w := by
  unfold levelP
  by_cases h1 : r = 1
  · subst h1
    go_enter Try.func20, Try.ntmps20
    go_wp2
    go_ret
    exact ⟨rfl, rfl⟩
  · by_cases h2 : r = 2
    · subst h2
      go_enter Try.func20, Try.ntmps20
      go_wp2
      go_ret
      exact ⟨rfl, rfl⟩
    · rw [if_neg h1, if_neg h2]
      have e1 : ¬ ((r.toNat : Int) = 1) := fun e => h1 (BitVec.eq_of_toNat_eq (by
        have : (1 : B8).toNat = 1 := rfl
        omega))
      have e2 : ¬ ((r.toNat : Int) = 2) := fun e => h2 (BitVec.eq_of_toNat_eq (by
        have : (2 : B8).toNat = 2 := rfl
        omega))
      go_enter Try.func20, Try.ntmps20
      go_wp2
      go_ret
      exact ⟨rfl, rfl⟩

theorem zeros (n : Nat) : madeCells #[.int .u8 0] n = (vals (List.replicate n 0#8)).toArray := by
  apply Array.ext
  · simp [madeCells, vals]
  · intro i h1 h2
    simp [madeCells, vals, Nat.mod_one]
theorem newW (n : Nat) (w : World) (h1 : 1 ≤ n) (h2 : n ≤ 256) :
    Calls Try.prog 8 #[.int .i64 n] w fun e w' => ∃ g q, e = .returned (.tuple #[.pointer (some ⟨g, 0, none⟩), .int .i64 0]) ∧ Gd w' g q n (List.replicate n 0#8) ∧ w.heap.size ≤ g ∧ w.heap.size ≤ q ∧ Below w.heap.size w w' := by
  have hmk : ∀ w : World, (Instr.makeSlice 38 (.int .i64 n) (.int .i64 n)).run Try.prog w = .ok (.slice (some ⟨w.heap.size, 0, none⟩) n n) (w.alloc (.cells (vals (List.replicate n 0#8)).toArray 5)) := fun w => by
    rw [← zeros]
    exact run_make_row' 38 5 (.int .u8 0) 1 Try.underlying38 info5 rfl .i64 .i64 n (by omega) (by omega) w
  go_enter Try.func8, Try.ntmps8
  go_wp2
  go_ret2
  refine ⟨_, _, rfl, ⟨?_, ?_, ?_, by simp, h2⟩, ?_, Nat.le_refl _, ((Below.refl _ _).alloc (Nat.le_refl _) _).alloc (by simp) _⟩
  · have := Mem.Blk.new (w.alloc (.cells (vals (List.replicate n 0#8)).toArray 5)) 51 #[.slice (some ⟨w.heap.size, 0, none⟩) n n]
    simpa only [World.size_alloc] using this
  · exact (Mem.Blk.new w 5 (vals (List.replicate n 0#8)).toArray).alloc _
  · omega
  · omega
theorem newBad (z : Int) (w : World) (h : z < 1 ∨ 256 < z) :
    Calls Try.prog 8 #[.int .i64 z] w fun e w' => e = .returned (.tuple #[.pointer none, .int .i64 1]) ∧ w' = w := by
  rcases h with h | h
  all_goals
    go_enter Try.func8, Try.ntmps8
    go_wp2
    go_ret2
    exact ⟨rfl, rfl⟩
end Go.Proofs.Ytleflegbdnmgeaa.GdA
