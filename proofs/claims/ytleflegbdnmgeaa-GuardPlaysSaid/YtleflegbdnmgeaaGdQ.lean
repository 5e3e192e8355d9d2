/- The document's groups. -/
import Derived.Test.YtleflegbdnmgeaaGdR0
namespace Go.Proofs.Ytleflegbdnmgeaa.GdQ
open Go.ChangeShapes Go.WideShapes Go.ChangeAt Go.RowKit
open GdT GdA GdB GdC GdD GdE
set_option linter.unusedVariables false
set_option maxHeartbeats 1000000

def ivals (L : List B8) : List Value := L.map fun x => Value.int .i64 x.toNat
/-- The document's groups in memory. -/
def Rg (w : World) (r s n : Nat) (L : List B8) : Prop :=
  Mem.Blk w r 54 #[.slice (some ⟨s, 0, none⟩) n n] ∧ Mem.Blk w s 3 (ivals L).toArray ∧ s ≠ r ∧ L.length = n ∧ n ≤ 256
theorem Rg.below {w w' r s n L} (h : Rg w r s n L) (hb : Below w.heap.size w w') : Rg w' r s n L := ⟨Mem.Blk.below h.1 hb h.1.lt, Mem.Blk.below h.2.1 hb h.2.1.lt, h.2.2⟩
theorem Rg.kept {w w' r s n L} {q : Nat} (h : Rg w r s n L) (hg : w.grownBy w' (some q)) (h1 : r ≠ q) (h2 : s ≠ q) : Rg w' r s n L :=
  ⟨(hg.block r h.1.lt (by simpa using h1)).trans h.1, (hg.block s h.2.1.lt (by simpa using h2)).trans h.2.1, h.2.2⟩
theorem Gd.kept {w w' g q n L} {s : Nat} (h : Gd w g q n L) (hg : w.grownBy w' (some s)) (h1 : g ≠ s) (h2 : q ≠ s) : Gd w' g q n L :=
  ⟨(hg.block g h.1.lt (by simpa using h1)).trans h.1, (hg.block q h.2.1.lt (by simpa using h2)).trans h.2.1, h.2.2⟩
theorem Rg.head {w r s n L} (h : Rg w r s n L) : w.cell? ⟨r, 0, none⟩ = some (.slice (some ⟨s, 0, none⟩) n n) := h.1.cell 0
theorem Rg.cell {w r s n L} (h : Rg w r s n L) (k : Nat) (hk : k < n) : w.cell? ⟨s, k, none⟩ = some (.int .i64 (L.getD k 0).toNat) := by
  rw [h.2.1.cell k]
  simp [ivals, h.2.2.2.1, hk]
theorem Rg.frozen {w r s n L} (h : Rg w r s n L) (k : Nat) : w.frozen? ⟨s, k, none⟩ = false := h.2.1.frozen k
theorem Rg.put {w r s n L} (h : Rg w r s n L) (k : Nat) (y : B8) : Rg (w.setCell ⟨s, k, none⟩ (.int .i64 y.toNat)) r s n (L.set k y) := by
  refine ⟨Mem.Blk.far h.1 (by simpa using h.2.2.1.symm) _, ?_, h.2.2.1, by simp [h.2.2.2.1], h.2.2.2.2⟩
  have := Mem.Blk.put h.2.1 k (.int .i64 y.toNat)
  have e : (ivals L).toArray.setIfInBounds k (.int .i64 y.toNat) = (ivals (L.set k y)).toArray := by
    simp [ivals, List.map_set]
  rw [e] at this
  exact this

theorem kindR (r s n : Nat) (L : List B8) (k : Int) (w : World) (h : Rg w r s n L) :
    Calls Try.prog 27 #[.pointer (some ⟨r, 0, none⟩), .int .i64 k] w fun e w' => e = .returned (.int .i64 (kindP n L k)) ∧ w' = w := by
  have c := h.head
  unfold kindP
  by_cases h0 : k < 0
  · rw [inN_out (.inl h0)]
    clear h
    go_enter Try.func27, Try.ntmps27
    go_wp2
    go_ret
    exact ⟨rfl, rfl⟩
  by_cases h1 : (n : Int) ≤ k
  · rw [inN_out (.inr h1)]
    clear h
    go_enter Try.func27, Try.ntmps27
    go_wp2
    go_ret
    exact ⟨rfl, rfl⟩
  obtain ⟨K, rfl⟩ := Int.eq_ofNat_of_zero_le (by omega : 0 ≤ k)
  have hK : K < n := by omega
  have hKi : (K : Int) < (n : Int) := by omega
  rw [inN_nat hK, if_pos rfl, Int.toNat_natCast]
  have ck := h.cell K hK
  generalize L.getD K 0 = y at *
  clear h
  go_enter Try.func27, Try.ntmps27
  go_wp2
  go_ret
  exact ⟨rfl, rfl⟩

theorem mayR (r s n : Nat) (L : List B8) (k : Int) (w : World) (h : Rg w r s n L) :
    Calls Try.prog 28 #[.pointer (some ⟨r, 0, none⟩), .int .i64 k] w fun e w' => e = .returned (.bool (mayP n L k)) ∧ w' = w := by
  have c := h.head
  unfold mayP
  by_cases h0 : k < 0
  · rw [inN_out (.inl h0)]
    clear h
    go_enter Try.func28, Try.ntmps28
    go_wp2
    go_ret
    exact ⟨rfl, rfl⟩
  by_cases h1 : (n : Int) ≤ k
  · have h1' : ¬ k < (n : Int) := by omega
    rw [inN_out (.inr h1)]
    clear h
    go_enter Try.func28, Try.ntmps28
    go_wp2
    go_ret
    exact ⟨rfl, rfl⟩
  obtain ⟨K, rfl⟩ := Int.eq_ofNat_of_zero_le (by omega : 0 ≤ k)
  have hK : K < n := by omega
  have hKi : (K : Int) < (n : Int) := by omega
  rw [inN_nat hK, Int.toNat_natCast, zero8]
  have ck := h.cell K hK
  generalize L.getD K 0 = y at *
  clear h
  go_enter Try.func28, Try.ntmps28
  go_wp2
  go_ret
  exact ⟨by simp, rfl⟩

theorem levelR (r : B8) (w : World) : Calls Try.prog 21 #[.int .u8 r.toNat] w fun e w' => e = .returned (.int .i64 (levelP r)) ∧ w' = w := by
  unfold levelP
  by_cases h1 : r = 1
  · subst h1
    go_enter Try.func21, Try.ntmps21
    go_wp2
    go_ret
    exact ⟨rfl, rfl⟩
  · by_cases h2 : r = 2
    · subst h2
      go_enter Try.func21, Try.ntmps21
      go_wp2
      go_ret
      exact ⟨rfl, rfl⟩
    · rw [if_neg h1, if_neg h2]
      have e1 : ¬ ((r.toNat : Int) = 1) := fun e => h1 (BitVec.eq_of_toNat_eq (by
        have : (1 : B8).toNat = 1 := rfl
        omega))
      have e2 : ¬ ((r.toNat : Int) = 2) := fun e => h2 (BitVec.eq_of_toNat_eq (by
        have : (2 : B8).toNat = 2 := rfl
        omega))
      go_enter Try.func21, Try.ntmps21
      go_wp2
      go_ret
      exact ⟨rfl, rfl⟩

theorem info3 : (Try.prog.info? 3).map (fun i => (i.zero, i.size, i.bytes)) = some (some (.int .i64 0), 1, 8) := by kernel_rfl
theorem izeros (n : Nat) : madeCells #[.int .i64 0] n = (ivals (List.replicate n 0#8)).toArray := by
  apply Array.ext
  · simp [madeCells, ivals]
  · intro i h1 h2
    simp [madeCells, ivals, Nat.mod_one]
theorem newR (n : Nat) (w : World) (h1 : 1 ≤ n) (h2 : n ≤ 256) :
    Calls Try.prog 9 #[.int .i64 n] w fun e w' => ∃ r s, e = .returned (.tuple #[.pointer (some ⟨r, 0, none⟩), .int .i64 0]) ∧ Rg w' r s n (List.replicate n 0#8) ∧ w.heap.size ≤ r ∧ w.heap.size ≤ s ∧ Below w.heap.size w w' := by
  have hmk : ∀ w : World, (Instr.makeSlice 52 (.int .i64 n) (.int .i64 n)).run Try.prog w = .ok (.slice (some ⟨w.heap.size, 0, none⟩) n n) (w.alloc (.cells (ivals (List.replicate n 0#8)).toArray 3)) := fun w => by
    rw [← izeros]
    exact run_make_row' 52 3 (.int .i64 0) 8 Try.underlying52 info3 rfl .i64 .i64 n (by omega) (by omega) w
  go_enter Try.func9, Try.ntmps9
  go_wp2
  go_ret2
  refine ⟨_, _, rfl, ⟨?_, ?_, ?_, by simp, h2⟩, ?_, Nat.le_refl _, ((Below.refl _ _).alloc (Nat.le_refl _) _).alloc (by simp) _⟩
  · have := Mem.Blk.new (w.alloc (.cells (ivals (List.replicate n 0#8)).toArray 3)) 54 #[.slice (some ⟨w.heap.size, 0, none⟩) n n]
    simpa only [World.size_alloc] using this
  · exact (Mem.Blk.new w 3 (ivals (List.replicate n 0#8)).toArray).alloc _
  · omega
  · omega
theorem newBadR (z : Int) (w : World) (h : z < 1 ∨ 256 < z) :
    Calls Try.prog 9 #[.int .i64 z] w fun e w' => e = .returned (.tuple #[.pointer none, .int .i64 1]) ∧ w' = w := by
  rcases h with h | h
  all_goals
    go_enter Try.func9, Try.ntmps9
    go_wp2
    go_ret2
    exact ⟨rfl, rfl⟩

theorem setR (r s n : Nat) (L : List B8) (k kind : Int) (w : World) (h : Rg w r s n L) :
    Calls Try.prog 11 #[.pointer (some ⟨r, 0, none⟩), .int .i64 k, .int .i64 kind] w fun e w' => e = .returned (.int .i64 (setE n k kind)) ∧ Rg w' r s n (setL n L k kind) ∧ w.grownBy w' (some s) := by
  have c := h.head
  have hr : Hid (w.grownBy w (some s)) := Lib.hid ⟨rfl, rfl, rfl, Nat.le_refl _, fun _ _ _ => rfl⟩
  have Hg := Lib.hid h
  unfold setL setE
  by_cases h0 : k < 0
  · rw [inN_out (.inl h0)]
    clear h
    go_enter Try.func11, Try.ntmps11
    go_wp2
    go_ret
    exact ⟨rfl, by simpa using Hg.out, hr.out⟩
  by_cases h1 : (n : Int) ≤ k
  · rw [inN_out (.inr h1)]
    clear h
    go_enter Try.func11, Try.ntmps11
    go_wp2
    go_ret
    exact ⟨rfl, by simpa using Hg.out, hr.out⟩
  obtain ⟨K, rfl⟩ := Int.eq_ofNat_of_zero_le (by omega : 0 ≤ k)
  have hK : K < n := by omega
  have hKi : (K : Int) < (n : Int) := by omega
  rw [inN_nat hK]
  by_cases b1 : kind < 1
  · clear h
    go_enter Try.func11, Try.ntmps11
    go_wp2
    go_ret
    exact ⟨by simp [b1], by simpa [b1] using Hg.out, hr.out⟩
  by_cases b2 : 3 < kind
  · clear h
    go_enter Try.func11, Try.ntmps11
    go_wp2
    go_ret
    exact ⟨by simp [b2], by simpa [b2] using Hg.out, hr.out⟩
  obtain ⟨m, rfl⟩ := Int.eq_ofNat_of_zero_le (by omega : 0 ≤ kind)
  have hmm : (BitVec.ofNat 8 m).toNat = m := by rw [BitVec.toNat_ofNat]; omega
  have ck := h.cell K hK
  have zk := h.frozen K
  have hne : ¬ ((m : Int) < 1 ∨ 3 < (m : Int)) := by omega
  rw [if_neg (by simp), if_neg hne, if_pos rfl, Int.toNat_natCast, Int.toNat_natCast]
  have HP := Lib.hid (fun z => h.put K z)
  obtain ⟨y, hy⟩ : ∃ y, y = L.getD K 0 := ⟨_, rfl⟩
  have hsame : Hid (L.set K y = L) := Lib.hid (by
    rw [hy]
    apply List.ext_getElem
    · simp
    · intro i h1 h2
      rw [List.getElem_set]
      split
      · rename_i e; subst e; simp [List.getD_eq_getElem?_getD, h2]
      · rfl)
  rw [← hy] at ck ⊢
  clear h hy
  by_cases hlt : y.toNat < m
  · rw [if_pos hlt]
    have hlt' : (y.toNat : Int) < (m : Int) := by omega
    have HX := HP.out (BitVec.ofNat 8 m)
    rw [hmm] at HX
    replace HX := Lib.hid HX
    go_enter Try.func11, Try.ntmps11
    go_wp2
    go_ret
    exact ⟨rfl, HX.out, grown_set _ _ _ _⟩
  · rw [if_neg hlt, hsame.out]
    have hlt' : ¬ ((y.toNat : Int) < (m : Int)) := by omega
    go_enter Try.func11, Try.ntmps11
    go_wp2
    go_ret
    exact ⟨rfl, Hg.out, hr.out⟩

theorem clrR (r s n : Nat) (L : List B8) (k : Int) (w : World) (h : Rg w r s n L) :
    Calls Try.prog 13 #[.pointer (some ⟨r, 0, none⟩), .int .i64 k] w fun e w' => e = .returned (.int .i64 (clrE n L k)) ∧ Rg w' r s n (clrL n L k) ∧ w.grownBy w' (some s) := by
  have c := h.head
  have hr : Hid (w.grownBy w (some s)) := Lib.hid ⟨rfl, rfl, rfl, Nat.le_refl _, fun _ _ _ => rfl⟩
  have Hg := Lib.hid h
  unfold clrL clrE
  by_cases h0 : k < 0
  · rw [inN_out (.inl h0)]
    clear h
    go_enter Try.func13, Try.ntmps13
    go_wp2
    go_ret
    exact ⟨rfl, by simpa using Hg.out, hr.out⟩
  by_cases h1 : (n : Int) ≤ k
  · rw [inN_out (.inr h1)]
    clear h
    go_enter Try.func13, Try.ntmps13
    go_wp2
    go_ret
    exact ⟨rfl, by simpa using Hg.out, hr.out⟩
  obtain ⟨K, rfl⟩ := Int.eq_ofNat_of_zero_le (by omega : 0 ≤ k)
  have hK : K < n := by omega
  have hKi : (K : Int) < (n : Int) := by omega
  rw [inN_nat hK, Int.toNat_natCast]
  have ck := h.cell K hK
  have zk := h.frozen K
  obtain ⟨y, hy⟩ : ∃ y, y = L.getD K 0 := ⟨_, rfl⟩
  have HP := Lib.hid (h.put K 0)
  rw [← hy] at ck ⊢
  clear h hy
  by_cases hlt : 1 < y.toNat
  · have hlt' : (2 : Int) ≤ (y.toNat : Int) := by omega
    go_enter Try.func13, Try.ntmps13
    go_wp2
    go_ret
    exact ⟨by simp [hlt], by simpa [hlt] using Hg.out, hr.out⟩
  · have hlt' : ¬ ((2 : Int) ≤ (y.toNat : Int)) := by omega
    go_enter Try.func13, Try.ntmps13
    go_wp2
    go_ret
    exact ⟨by simp [hlt], by simpa [hlt] using HP.out, grown_set _ _ _ _⟩

theorem powerR (r s n : Nat) (L : List B8) (w : World) (h : Rg w r s n L) :
    Calls Try.prog 15 #[.pointer (some ⟨r, 0, none⟩)] w fun e w' => (∃ v, e = .returned v) ∧ Rg w' r s n (L.map lst) ∧ w.grownBy w' (some s) := by
  have hL := Lib.hid h.2.2.2.1
  have hn := h.2.2.2.2
  replace h := Lib.hid h
  go_enter Try.func15, Try.ntmps15
  go_wp2
  go_loopw [2] (fun i wr => ∃ k : Nat, k ≤ n ∧ i = .int .i64 k ∧ Rg wr r s n (GdC.part L k) ∧ w.grownBy wr (some s)) (fun i _ => n - (intOf i).toNat)
  case atStart => exact ⟨0, by omega, rfl, by rw [part_zero]; exact h.out, ⟨rfl, rfl, rfl, Nat.le_refl _, fun _ _ _ => rfl⟩⟩
  case round =>
    clear h
    obtain ⟨k, hk, rfl, hR, hG⟩ := hrel
    have c := hR.head
    by_cases hlt : k < n
    · have hlt' : (k : Int) < (n : Int) := by omega
      have hkL : k < L.length := by rw [hL.out]; exact hlt
      have ck := hR.cell k hlt
      have zk := hR.frozen k
      have HP := Lib.hid (hR.put k 0)
      have S1 := Lib.hid (part_succ L k hkL)
      have S2 := Lib.hid (part_same L k hkL)
      rw [part_at L k hkL] at ck
      obtain ⟨y, hy⟩ : ∃ y, y = L.getD k 0 := ⟨_, rfl⟩
      rw [← hy] at ck S1 S2
      replace hR := Lib.hid hR
      replace hG := Lib.hid hG
      clear hy
      by_cases h2 : y = 2
      · have e : lst y = 0 := by simp [lst, h2]
        rw [e] at S1
        subst h2
        have e2 : ((2 : B8).toNat : Int) = 2 := rfl
        rw [e2] at ck
        go_wp2
        go_roundw
        case rel => exact ⟨k + 1, by omega, by go_num, by rw [← S1.out]; exact HP.out, hG.out.trans (grown_set _ _ _ _)⟩
        case measure => simp [intOf]; omega
      · have e : lst y = y := if_neg h2
        have e2 : ¬ ((y.toNat : Int) = 2) := fun h => h2 (BitVec.eq_of_toNat_eq (by
          have : (2 : B8).toNat = 2 := rfl
          omega))
        have S3 := Lib.hid (S2.out e)
        clear e S2
        go_wp2
        go_roundw
        case rel => exact ⟨k + 1, by omega, by go_num, by rw [← S3.out]; exact hR.out, hG.out⟩
        case measure => simp [intOf]; omega
    · obtain rfl : k = n := by omega
      have e : GdC.part L k = L.map lst := by rw [← hL.out]; exact part_all L
      rw [e] at hR
      replace hR := Lib.hid hR
      replace hG := Lib.hid hG
      go_wp2
      go_end0
      exact ⟨⟨_, rfl⟩, hR.out, hG.out⟩
end Go.Proofs.Ytleflegbdnmgeaa.GdQ
