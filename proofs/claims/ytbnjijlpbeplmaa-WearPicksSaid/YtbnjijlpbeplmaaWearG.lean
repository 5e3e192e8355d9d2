/- Contracts of Victim and Fresh. -/
import Derived.Test.YtbnjijlpbeplmaaWearEv
import Derived.Test.YtbnjijlpbeplmaaWearEf
import Derived.Test.YtbnjijlpbeplmaaWearV1
namespace Go.Proofs.Ytbnjijlpbeplmaa.WearG
open Go.ChangeShapes Go.WideShapes Go.ChangeAt Go.RowKit
open WearVM Mem WearC WearD WearE WearF WearEv WearEf WearV1
set_option linter.unusedVariables false
set_option maxHeartbeats 1000000

theorem chooseNil (fp fq : Value) (a : Option Addr) (c : Nat) (w : World) :
    Calls Try.prog 74 #[.slice a 0 c, fp, fq] w fun e w' => e = .returned (.tuple #[val zero, .bool false]) ∧ Below w.heap.size w w' := by
  have hne : ∀ w, (binOp .neq 55 (.agg (cs zero)) (.agg (cs zero))).run Try.prog w = .ok (.bool false) w := fun w => by
    have := neq55 zero zero w
    simpa using this
  simp only [cs, zero] at hne
  go_enter Try.func74, Try.ntmps74
  go_wp2
  refine wp_loop_rounds 1 ?_
  rw [rounds_succ]
  go_wp2
  go_region
  all_goals go_wp2
  all_goals refine bodyPost_ret (results_mid2 Try.results74 _ _ w.heap.size (cs zero) _ rfl (Mem.Blk.range (((Mem.Blk.new w 55 (cs zero)).alloc _).drew)) Try.underlying55 rfl i55) rfl ⟨rfl, ?_⟩
  all_goals exact (((Below.refl w.heap.size w).alloc (Nat.le_refl _) _).alloc (by simp) _).drew




theorem chooseV' (a : Option Addr) (l : List WearVM.Blk) (n c : Nat) (w : World) (hn : l.length = n) (hr : RdB w a l) (h200 : n ≤ 200) :
    Calls Try.prog 74 #[.slice a n c, .func (.func 75) #[] #[], .func (.func 76) #[] #[]] w fun e w' =>
      e = .returned (.tuple #[val (chosen usable vAhead l), .bool (decide (chosen usable vAhead l ≠ zero))]) ∧ Below w.heap.size w w' := by
  by_cases h0 : n = 0
  · subst h0
    obtain rfl : l = [] := List.length_eq_zero_iff.1 hn
    exact chooseNil _ _ a c w
  · obtain ⟨b, off, rfl, _⟩ := hr.2 0 (by omega)
    exact chooseV b off l n c w hn hr h200
theorem chooseF' (a : Option Addr) (l : List WearVM.Blk) (n c : Nat) (w : World) (hn : l.length = n) (hr : RdB w a l) (h200 : n ≤ 200) (gp : Nat) (pick : Bool) (hgp : gp < w.heap.size) (hcp : w.cell? ⟨gp, 0, none⟩ = some (.bool pick)) :
    Calls Try.prog 74 #[.slice a n c, .func (.func 80) #[] #[], .func (.func 81) #[] #[.pointer (some ⟨gp, 0, none⟩)]] w fun e w' =>
      e = .returned (.tuple #[val (chosen empty (fAhead pick) l), .bool (decide (chosen empty (fAhead pick) l ≠ zero))]) ∧ Below w.heap.size w w' := by
  by_cases h0 : n = 0
  · subst h0
    obtain rfl : l = [] := List.length_eq_zero_iff.1 hn
    exact chooseNil _ _ a c w
  · obtain ⟨b, off, rfl, _⟩ := hr.2 0 (by omega)
    exact chooseF b off l n c w hn hr h200 gp pick hgp hcp

theorem victimW (a : Option Addr) (l : List WearVM.Blk) (n c : Nat) (w : World) (hn : l.length = n) (hr : RdB w a l) (h200 : n ≤ 200) :
    Calls Try.prog 22 #[.slice a n c] w fun e w' => e = .returned (.tuple #[.int .i64 (victimOf l).1, .bool (victimOf l).2]) ∧ Below w.heap.size w w' := by
  have HC := Lib.hid (chooseV' a l n c w hn hr h200)
  have HD : Hid (victimOf l = if chosen usable vAhead l = zero ∨ (chosen usable vAhead l).live = (chosen usable vAhead l).pages then (0, false) else ((chosen usable vAhead l).n, true)) := Lib.hid rfl
  obtain ⟨X, hX⟩ : ∃ X, X = chosen usable vAhead l := ⟨_, rfl⟩
  rw [← hX] at HC HD
  clear hX hr hn
  by_cases hz : X = zero
  · have HD2 : Hid (victimOf l = (0, false)) := Lib.hid (by rw [HD.out, if_pos (.inl hz)])
    rw [show decide (X ≠ zero) = false by simpa using hz] at HC
    rw [HD2.out]
    obtain ⟨n1, l1, p1, k1, o1, e1, b1⟩ := X
    clear hz HD HD2
    go_enter Try.func22, Try.ntmps22
    go_wp2_with fail
    refine HC.out.mono ?_
    rintro e w1 ⟨rfl, hb⟩
    simp only [val, cs]
    go_wp2
    go_ret2
    exact ⟨rfl, hb.alloc hb.size _⟩
  · rw [show decide (X ≠ zero) = true by simpa using hz] at HC
    obtain ⟨n1, l1, p1, k1, o1, e1, b1⟩ := X
    by_cases hl : l1 = p1
    · have HD2 : Hid (victimOf l = (0, false)) := Lib.hid (by rw [HD.out, if_pos (.inr hl)])
      have hq : (l1 == p1) = true := by simpa using hl
      rw [HD2.out]
      clear hz HD HD2 hl
      go_enter Try.func22, Try.ntmps22
      go_wp2_with fail
      refine HC.out.mono ?_
      rintro e w1 ⟨rfl, hb⟩
      simp only [val, cs]
      go_wp2
      go_ret2
      exact ⟨rfl, hb.alloc hb.size _⟩
    · have HD2 : Hid (victimOf l = (n1, true)) := Lib.hid (by rw [HD.out, if_neg (by intro h; rcases h with h | h; exact hz h; exact hl h)])
      have hq : (l1 == p1) = false := by simpa using hl
      rw [HD2.out]
      clear hz HD HD2 hl
      go_enter Try.func22, Try.ntmps22
      go_wp2_with fail
      refine HC.out.mono ?_
      rintro e w1 ⟨rfl, hb⟩
      simp only [val, cs]
      go_wp2
      go_ret2
      exact ⟨rfl, hb.alloc hb.size _⟩

theorem freshW (one : Bool) (a : Option Addr) (l : List WearVM.Blk) (n c : Nat) (w : World) (hn : l.length = n) (hr : RdB w a l) (h200 : n ≤ 200) :
    Calls Try.prog 24 #[.bool one, .slice a n c] w fun e w' => e = .returned (.tuple #[.int .i64 (freshOf one l).1, .bool (freshOf one l).2]) ∧ Below w.heap.size w w' := by
  have hmf : ∀ (fn : Fn) (first cap : Array Value) (w : World), (Instr.makeFunc fn first cap).run Try.prog w = .ok (.func fn first cap) w := fun _ _ _ _ => rfl
  have HC := Lib.hid (chooseF' a l n c (w.alloc (.cells #[.bool one] 4)) hn (hr.below ((Below.refl _ _).alloc (Nat.le_refl _) _)) h200 w.heap.size one (by simp) (by simp))
  unfold freshOf
  obtain ⟨X, hX⟩ : ∃ X, X = chosen empty (fAhead one) l := ⟨_, rfl⟩
  rw [← hX] at HC ⊢
  clear hX hr hn
  obtain ⟨D, hD⟩ : ∃ D, D = decide (X ≠ zero) := ⟨_, rfl⟩
  rw [← hD] at HC ⊢
  clear hD
  obtain ⟨n1, l1, p1, k1, o1, e1, b1⟩ := X
  go_enter Try.func24, Try.ntmps24
  go_wp2_with fail
  refine HC.out.mono ?_
  rintro e w1 ⟨rfl, hb⟩
  simp only [val, cs]
  have hb1 := ((Below.refl w.heap.size w).alloc (Nat.le_refl _) (.cells #[.bool one] 4)).trans (hb.mono (by simp))
  clear hb
  go_wp2
  go_ret2
  exact ⟨rfl, hb1.alloc hb1.size _⟩
end Go.Proofs.Ytbnjijlpbeplmaa.WearG
