/- Contracts of registers: what lasts; the chapter's example. -/
import Derived.Test.YtnkbopmghekjdaaRegE
import Derived.Deep.AppendLies
import Derived.Handy
namespace Go.Proofs.Ytnkbopmghekjdaa.RegF
open Go.ChangeShapes Go.WideShapes Go.ChangeAt Go.RowKit
open RegA Mem RegB RegC RegD RegE
set_option linter.unusedVariables false
set_option maxHeartbeats 1000000

theorem below_own {B : Nat} {w0 w w' : World} {g : Nat} (hb : Below B w0 w) (hgr : w.grownBy w' (some g)) (hB : B ≤ g) (hg : g < w.heap.size) : Below B w0 w' :=
  hb.grown hgr (by omega) (fun k hk => by injection hk with hk; omega)

theorem s0 : writeS zeros 6 1 = (0, zeros.set 6 1) := by decide +kernel
theorem s1 : writeS (zeros.set 6 1) 6 0 = (22, zeros.set 6 1) := by decide +kernel
theorem s2 : writeS (zeros.set 6 1) 6 3 = (0, (zeros.set 6 1).set 6 3) := by decide +kernel
theorem s3 : nextS ((zeros.set 6 1).set 6 3) 50397440 = (1, 1, 0) := by decide +kernel
theorem s4 : getS ((zeros.set 6 1).set 6 3) 6 = 3 := by decide +kernel

theorem knownW (w : World) : Calls Try.prog 7 #[] w fun e w' => e = .returned (.bool true) ∧ Below w.heap.size w w' := by
  go_enter Try.func7, Try.ntmps7
  go_wp2_with fail
  refine (newW _).mono ?_
  rintro e w1 ⟨rfl, hf1, hb1⟩
  have h1 := writeW w.heap.size zeros 6 1 w1 hf1
  rw [s0] at h1
  have H1 := Lib.hid h1
  have hg1 := hf1.2.lt
  clear h1 hf1
  go_wp2_with fail
  refine H1.out.mono ?_
  rintro e w2 ⟨rfl, hf2, hr2⟩
  have h2 := writeW w.heap.size (zeros.set 6 1) 6 0 w2 hf2
  rw [s1] at h2
  have H2 := Lib.hid h2
  have hg2 := hf2.2.lt
  have hb2 := below_own hb1 hr2 (Nat.le_refl _) hg1
  clear h2 hf2 hr2 hb1
  go_wp2_with fail
  refine H2.out.mono ?_
  rintro e w3 ⟨rfl, hf3, hr3⟩
  have h3 := writeW w.heap.size (zeros.set 6 1) 6 3 w3 hf3
  rw [s2] at h3
  have H3 := Lib.hid h3
  have hg3 := hf3.2.lt
  have hb3 := below_own hb2 hr3 (Nat.le_refl _) hg2
  clear h3 hf3 hr3 hb2
  go_wp2_with fail
  refine H3.out.mono ?_
  rintro e w4 ⟨rfl, hf4, hr4⟩
  have h4 := nextW w.heap.size ((zeros.set 6 1).set 6 3) 50397440 w4 (by omega) (by omega) hf4
  rw [s3] at h4
  have h5 := getW w.heap.size ((zeros.set 6 1).set 6 3) 6 w4 hf4
  rw [s4] at h5
  have H4 := Lib.hid h4
  have H5 := Lib.hid h5
  have hb4 := below_own hb3 hr4 (Nat.le_refl _) hg3
  clear h4 h5 hf4 hr4 hb3
  go_wp2_with fail
  refine H4.out.mono ?_
  rintro e w' ⟨rfl, rfl⟩
  go_wp2_with fail
  refine H5.out.mono ?_
  rintro e w' ⟨rfl, rfl⟩
  go_wp2
  go_ret
  exact ⟨rfl, hb4⟩

/-- The registers that last, by number. -/
def lk (k : Nat) : Nat := [6, 8, 9, 10, 11, 12, 13].getD k 0
def lastK (st : List Int) (k : Nat) : List Int := (List.range k).map fun j => st.getD (lk j) 0
theorem lastK_succ (st : List Int) (k : Nat) : lastK st (k + 1) = lastK st k ++ [st.getD (lk k) 0] := by simp [lastK, List.range_succ]
theorem lastK_len (st : List Int) (k : Nat) : (lastK st k).length = k := by simp [lastK]
theorem lk_bd (k : Nat) (h : k < 7) : lk k ≤ 13 := by
  match k, h with
  | 0, _ => decide
  | 1, _ => decide
  | 2, _ => decide
  | 3, _ => decide
  | 4, _ => decide
  | 5, _ => decide
  | 6, _ => decide

def order : Array Value := #[.int .i64 6, .int .i64 8, .int .i64 9, .int .i64 10, .int .i64 11, .int .i64 12, .int .i64 13]
theorem ix0 (w : World) : (Instr.index 60 (.agg #[.int .i64 6, .int .i64 8, .int .i64 9, .int .i64 10, .int .i64 11, .int .i64 12, .int .i64 13]) (.int .i64 0)).run Try.prog w = .ok (.int .i64 6) w := by kernel_rfl
theorem ix1 (w : World) : (Instr.index 60 (.agg #[.int .i64 6, .int .i64 8, .int .i64 9, .int .i64 10, .int .i64 11, .int .i64 12, .int .i64 13]) (.int .i64 1)).run Try.prog w = .ok (.int .i64 8) w := by kernel_rfl
theorem ix2 (w : World) : (Instr.index 60 (.agg #[.int .i64 6, .int .i64 8, .int .i64 9, .int .i64 10, .int .i64 11, .int .i64 12, .int .i64 13]) (.int .i64 2)).run Try.prog w = .ok (.int .i64 9) w := by kernel_rfl
theorem ix3 (w : World) : (Instr.index 60 (.agg #[.int .i64 6, .int .i64 8, .int .i64 9, .int .i64 10, .int .i64 11, .int .i64 12, .int .i64 13]) (.int .i64 3)).run Try.prog w = .ok (.int .i64 10) w := by kernel_rfl
theorem ix4 (w : World) : (Instr.index 60 (.agg #[.int .i64 6, .int .i64 8, .int .i64 9, .int .i64 10, .int .i64 11, .int .i64 12, .int .i64 13]) (.int .i64 4)).run Try.prog w = .ok (.int .i64 11) w := by kernel_rfl
theorem ix5 (w : World) : (Instr.index 60 (.agg #[.int .i64 6, .int .i64 8, .int .i64 9, .int .i64 10, .int .i64 11, .int .i64 12, .int .i64 13]) (.int .i64 5)).run Try.prog w = .ok (.int .i64 12) w := by kernel_rfl
theorem ix6 (w : World) : (Instr.index 60 (.agg #[.int .i64 6, .int .i64 8, .int .i64 9, .int .i64 10, .int .i64 11, .int .i64 12, .int .i64 13]) (.int .i64 6)).run Try.prog w = .ok (.int .i64 13) w := by kernel_rfl
theorem ix (k : Nat) (h : k < 7) (w : World) : (Instr.index 60 (.agg #[.int .i64 6, .int .i64 8, .int .i64 9, .int .i64 10, .int .i64 11, .int .i64 12, .int .i64 13]) (.int .i64 (k : Int))).run Try.prog w = .ok (.int .i64 (lk k : Int)) w := by
  match k, h with
  | 0, _ => exact ix0 w
  | 1, _ => exact ix1 w
  | 2, _ => exact ix2 w
  | 3, _ => exact ix3 w
  | 4, _ => exact ix4 w
  | 5, _ => exact ix5 w
  | 6, _ => exact ix6 w

theorem orderW (w : World) : Calls Try.prog 29 #[] w fun e w' => e = .returned (.agg order) ∧ Below w.heap.size w w' := by
  go_enter Try.func29, Try.ntmps29
  go_wp2
  go_returns
  exact ⟨rfl, (Below.refl _ w).alloc (Nat.le_refl _) _⟩

theorem info5 : (Try.prog.info? 5).map (fun i => (i.zero, i.size, i.bytes)) = some (some (.int .u8 0), 1, 1) := by kernel_rfl
def bys (l : List Int) : List Value := l.map (Value.int .u8)

set_option maxRecDepth 100000 in
theorem lastingW (g : Nat) (st : List Int) (w : World) (hf : File 57 w g st) :
    Calls Try.prog 18 #[.pointer (some ⟨g, 0, none⟩)] w fun e w' => ∃ a c, e = .returned (.slice a 7 c) ∧ w'.ownsRow w.heap.size 5 1 (.slice a 7 c) 7 (bys (lastK st 7)) ∧ Below w.heap.size w w' := by
  obtain ⟨i0, hi, hz0, hz1, hz2⟩ := info_parts info5
  have HF := Lib.hid hf
  have hgl := hf.2.lt
  clear hf
  go_enter Try.func18, Try.ntmps18
  go_wp2_with fail
  refine (orderW _).mono ?_
  rintro e w1 ⟨rfl, hb1⟩
  simp only [order]
  go_wp2
  go_loopw [3, 7] (fun v i wr => ∃ k : Nat, k ≤ 7 ∧ i = .int .i64 k ∧ wr.ownsRow w.heap.size 5 1 v k (bys (lastK st k)) ∧ Below w.heap.size w wr) (fun _ i _ => 7 - (intOf i).toNat)
  case atStart => exact ⟨0, by omega, rfl, World.ownsRow_nil _ _ _ _, hb1⟩
  case round =>
    clear hb1
    obtain ⟨k, hk, rfl, hown, hbel⟩ := hrel
    by_cases hlt : k < 7
    · have hix := ix k hlt
      have hlk := lk_bd k hlt
      have hc := (HF.out.below hbel hgl).cell (lk k) (by omega)
      obtain ⟨y, hy⟩ : ∃ y, y = st.getD (lk k) 0 := ⟨_, rfl⟩
      rw [← hy] at hc
      have HS : Hid (lastK st (k + 1) = lastK st k ++ [y]) := Lib.hid (by rw [hy]; exact lastK_succ st k)
      have HB := Lib.hid hbel
      have HO := Lib.hid hown
      have hsz := hbel.size
      clear hy hbel hown
      go_wp2_with (at_builtin; refine wpList_append_own _ rfl _ _ 43 rfl w.heap.size 5 i0 (.int .u8 0) 1 1 Try.underlying43 hi hz0 hz1 hz2 rfl (by decide) _ _ _ rfl (HO.out.alloc _) ⟨wr.heap.size, 0, none⟩ 1 1 [.int .u8 y] rfl rfl ?c1 ?c2 ?c3 ?c4 ?c5 ?_)
      case c1 =>
        intro j u hj
        match j, hj with
        | 0, hj => simp at hj; subst hj; simp [Addr.add]
      case c2 => intro u hu; simp at hu; subst hu; rfl
      case c3 => unfold maxLen; omega
      case c4 => omega
      case c5 => simp; omega
      intro v' w2 hown' hgrow _
      have HO2 : Hid (w2.ownsRow w.heap.size 5 1 v' (k + 1) (bys (lastK st (k + 1)))) := Lib.hid (by rw [HS.out]; simpa [bys] using hown')
      have HB2 := Lib.hid ((HB.out.alloc hsz (.cells #[.int .u8 y] 5)).grown hgrow (by simp; omega) (fun j hj => (World.ownsRow.lt (HO.out) j hj).1))
      clear hown' hgrow
      go_wp2
      go_roundw
      case rel => exact ⟨k + 1, by omega, by go_num, HO2.out, HB2.out⟩
      case measure => simp [intOf]; omega
    · obtain rfl : k = 7 := by omega
      have HO := Lib.hid hown
      obtain ⟨g', cap, hv, _⟩ := World.ownsRow.form hown (by omega)
      subst hv
      clear hown
      go_wp2
      go_ret
      exact ⟨_, _, rfl, HO.out, hbel⟩
end Go.Proofs.Ytnkbopmghekjdaa.RegF
