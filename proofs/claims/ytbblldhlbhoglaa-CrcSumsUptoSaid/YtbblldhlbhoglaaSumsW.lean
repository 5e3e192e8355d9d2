/- The walk of the law on both kinds of sums. -/
import Derived.Test.YtbblldhlbhoglaaSumN
import Derived.Deep.Matrix
namespace Go.Proofs.Ytbblldhlbhoglaa.SumsW
open Go.ChangeShapes Go.WideShapes Go.ChangeAt Go.RowKit
open CrcM CrcA CrcK CrcP CrcB CrcL SumF SumO SumT SumR SumN
set_option linter.unusedVariables false
set_option maxHeartbeats 1000000

theorem refSixteen (a : Option Addr) (l : List B8) (n c : Nat) (w : World) (hn : l.length = n) (hr : Rd w a l) :
    Calls Try.prog 11 #[.slice a n c] w fun e w' => e = .returned (.int .u16 (sum16 l).toNat) ∧ w = w' := by
  have HR := Lib.hid (rem16 a l n c w hn hr)
  have HS := Lib.hid (sum16_bits l)
  have HN := Lib.hid hn
  clear hr hn
  obtain ⟨z, hz⟩ : ∃ z, z = feed p16 0 (CrcL.bits l (8 * n)) := ⟨_, rfl⟩
  rw [← hz] at HR
  have HZ := Lib.hid hz
  have hb := z.isLt
  clear hz
  have hw : IntKind.u16.wrap (z.toNat : Int) = (z.toNat : Int) := by rw [IntKind.wrap_u16]; omega
  go_enter Try.func11, Try.ntmps11
  go_wp2_with (go_at_call 18; refine (HR.out).mono ?_; rintro e w' ⟨rfl, rfl⟩)
  go_ret
  exact ⟨ret_int (by rw [HS.out, HN.out, ← HZ.out]), rfl⟩
theorem refSeven (a : Option Addr) (l : List B8) (n c : Nat) (w : World) (hn : l.length = n) (hr : Rd w a l) :
    Calls Try.prog 10 #[.slice a n c] w fun e w' => e = .returned (.int .u8 (sum7 l).toNat) ∧ w = w' := by
  have HR := Lib.hid (rem7 a l n c w hn hr)
  have HS := Lib.hid (sum7_bits l)
  have HN := Lib.hid hn
  clear hr hn
  obtain ⟨z, hz⟩ : ∃ z, z = feed p7 0 (CrcL.bits l (8 * n)) := ⟨_, rfl⟩
  rw [← hz] at HR
  have HZ := Lib.hid hz
  have hb := z.isLt
  clear hz
  have hw : IntKind.u8.wrap (z.toNat : Int) = (z.toNat : Int) := by rw [IntKind.wrap_u8']; omega
  go_enter Try.func10, Try.ntmps10
  go_wp2_with (go_at_call 18; refine (HR.out).mono ?_; rintro e w' ⟨rfl, rfl⟩)
  go_ret
  exact ⟨ret_int (by rw [HS.out, z7, HN.out, ← HZ.out, BitVec.toNat_setWidth]; omega), rfl⟩

def tot (L : Nat → List B8) : Nat → Nat
  | 0 => 0
  | k + 1 => tot L k + (L k).length
theorem tot_mono (L : Nat → List B8) (i j : Nat) (h : i ≤ j) : tot L i ≤ tot L j := by
  induction j with
  | zero => have : i = 0 := by omega
            subst this; exact Nat.le_refl _
  | succ j ih =>
    by_cases e : i = j + 1
    · subst e; exact Nat.le_refl _
    · have h1 := ih (by omega)
      have h2 : tot L (j + 1) = tot L j + (L j).length := rfl
      omega

/-- Rows of bytes that came in. -/
def Lists (w : World) (a : Option Addr) (len : Nat) (L : Nat → List B8) (S : Nat → Option Addr) (C : Nat → Nat) : Prop :=
  ∀ i, i < len → ∃ b off, a = some ⟨b, off, none⟩ ∧ b < w.heap.size ∧ w.cell? ⟨b, off + i, none⟩ = some (.slice (S i) (L i).length (C i)) ∧ Rd w (S i) (L i) ∧ ∀ x, 0 < (L i).length → S i = some x → x.block < w.heap.size
theorem Lists.below {w w' : World} {a : Option Addr} {len : Nat} {L : Nat → List B8} {S : Nat → Option Addr} {C : Nat → Nat} (h : Lists w a len L S C) (hb : Below w.heap.size w w') : Lists w' a len L S C := fun i hi => by
  obtain ⟨b, off, e, h1, h2, h3, h4⟩ := h i hi
  exact ⟨b, off, e, Nat.lt_of_lt_of_le h1 hb.size, (hb.cell (p := ⟨b, off + i, none⟩) h1).trans h2, Rd.below h3 hb h4, fun x h0 hx => Nat.lt_of_lt_of_le (h4 x h0 hx) hb.size⟩

set_option maxRecDepth 100000 in
theorem sums (a : Option Addr) (len cap : Nat) (L : Nat → List B8) (S : Nat → Option Addr) (C : Nat → Nat) (w : World) (hl : Lists w a len L S C) (ht : tot L len ≤ 1048576) (hlen : len ≤ 1048576) :
    Calls Try.prog 3 #[.slice a len cap] w fun e w' => e = .returned (.bool true) ∧ Below w.heap.size w w' := by
  have HLB : Hid (∀ w', Below w.heap.size w w' → Lists w' a len L S C) := Lib.hid fun w' hb => Lists.below hl hb
  have HO : Hid (Lists w a len L S C) := Lib.hid hl
  have HT : Hid (∀ k, k ≤ len → tot L k ≤ 1048576) := Lib.hid fun k hk => Nat.le_trans (tot_mono L k len hk) ht
  clear hl
  go_enter Try.func3, Try.ntmps3
  go_wp2_with (go_at_call 8; refine (known_any _).mono ?_; rintro e w1 ⟨rfl, hb1⟩)
  go_loop [3, 4] (fun n i => ∃ k : Nat, k ≤ len ∧ i = .int .i64 k ∧ n = .int .i64 (tot L k)) (fun _ i => len - (intOf i).toNat)
  case atStart => exact ⟨0, Nat.zero_le _, rfl, rfl⟩
  case round =>
    obtain ⟨k, hk, rfl, rfl⟩ := hrel
    have hT := HT.out k hk
    by_cases hlt : k < len
    · obtain ⟨b, off, ea, _, hc, _, _⟩ := HLB.out w1 hb1 k hlt
      have hT' := HT.out (k + 1) hlt
      have HE : Hid (tot L (k + 1) = tot L k + (L k).length) := Lib.hid rfl
      have hln : (L k).length ≤ 1048576 := by rw [HE.out] at hT'; omega
      subst ea
      obtain ⟨m, hm⟩ : ∃ m, m = (L k).length := ⟨_, rfl⟩
      rw [← hm] at hc hln
      have HM := Lib.hid hm
      clear hm hT'
      go_wp2
      go_round
      case rel => exact ⟨k + 1, by omega, by go_num, by rw [HE.out, HM.out]; go_num⟩
      case measure => simp [intOf]; omega
    · obtain rfl : k = len := by omega
      by_cases hbig : 4096 < tot L k
      · have hd : decide ((4096 : Int) < (tot L k : Int)) = true := by simp; omega
        go_wp2
        go_ret
        exact ⟨rfl, hb1⟩
      · have hd : decide ((4096 : Int) < (tot L k : Int)) = false := by simp; omega
        by_cases hmany : 200 < k
        · have hd2 : decide ((200 : Int) < (k : Int)) = true := by simp; omega
          go_wp2
          go_ret
          exact ⟨rfl, hb1⟩
        · have hd2 : decide ((200 : Int) < (k : Int)) = false := by simp; omega
          go_wp2_with (go_at_call 9; refine (new_any _).mono ?_; rintro e w2 ⟨rfl, hs2, hb2⟩)
          have hb3 := hb1.trans (hb2.mono hb1.size)
          have HG : Hid (w.heap.size ≤ w1.heap.size) := Lib.hid hb1.size
          have HS2 := Lib.hid hs2
          clear hb2 hb1 hs2
          go_loopw [6, 7, 8] (fun i _ _ wr => ∃ j : Nat, j ≤ k ∧ i = .int .i64 j ∧ Sum wr w1.heap.size (2 * (j : Int)) ∧ Below w.heap.size w wr) (fun i _ _ _ => k - (intOf i).toNat)
          case atStart => exact ⟨0, Nat.zero_le _, rfl, HS2.out, hb3⟩
          case round =>
            obtain ⟨j, hj, rfl, hsm, hbw⟩ := hrel
            have HSM := Lib.hid hsm
            clear hsm
            by_cases hjl : j < k
            · obtain ⟨b, off, ea, _, hc, hrd, hbs⟩ := HLB.out wr hbw j hjl
              have HRD := Lib.hid hrd
              have HBS : Hid (∀ x, 0 < (L j).length → S j = some x → x.block ≠ w1.heap.size) := Lib.hid (by
                obtain ⟨_, _, _, _, _, _, h9⟩ := HO.out j hjl
                intro x h0 hx e
                have := h9 x h0 hx
                have := HG.out
                omega)
              clear hrd hbs
              subst ea
              obtain ⟨m, hm⟩ : ∃ m, m = (L j).length := ⟨_, rfl⟩
              rw [← hm] at hc
              have HM := Lib.hid hm
              clear hm
              have grow : Hid (∀ x y : World, Below w.heap.size w x → x.grownBy y (some w1.heap.size) → Below w.heap.size w y) := Lib.hid fun x y hx hy =>
                hx.grown hy hx.size (fun i hi => by injection hi with hi; have := HG.out; omega)
              go_wp2_with fail
              refine Calls.mono (refSeven _ _ _ _ _ HM.out.symm HRD.out) ?_
              rintro e w' ⟨rfl, rfl⟩
              go_wp2_with fail
              refine Calls.mono (refSixteen _ _ _ _ _ HM.out.symm HRD.out) ?_
              rintro e w' ⟨rfl, rfl⟩
              go_wp2_with fail
              refine Calls.mono (seven' _ _ _ _ _ HM.out.symm HRD.out) ?_
              rintro e w' ⟨rfl, rfl⟩
              go_wp2_with fail
              refine Calls.mono (sixteen' _ _ _ _ _ HM.out.symm HRD.out) ?_
              rintro e w' ⟨rfl, rfl⟩
              go_wp2_with fail
              refine Calls.mono (SumT.seven _ _ _ _ _ _ _ HM.out.symm HSM.out (by omega) (by omega) HRD.out HBS.out) ?_
              rintro e w3 ⟨rfl, hs3, hg3⟩
              have hb4 := grow.out _ _ hbw hg3
              obtain ⟨b', off', ea', _, hc', hrd', _⟩ := HLB.out w3 hb4 j hjl
              injection ea' with ea'
              injection ea' with e1 e2
              subst e1 e2
              rw [← HM.out] at hc'
              have HRD3 := Lib.hid hrd'
              have HS3 := Lib.hid hs3
              clear hrd' hs3 hg3
              go_wp2_with fail
              refine Calls.mono (SumT.sixteen _ _ _ _ _ _ _ HM.out.symm HS3.out (by omega) (by omega) HRD3.out HBS.out) ?_
              rintro e w4 ⟨rfl, hs4, hg4⟩
              have hb5 := grow.out _ _ hb4 hg4
              rw [show 2 * (j : Int) + 1 + 1 = 2 * (j : Int) + 2 by omega] at hs4
              have HS4 := Lib.hid hs4
              have HS5 : Hid (Sum w4 w1.heap.size (2 * ((j + 1 : Nat) : Int))) := Lib.hid (by rw [show 2 * ((j + 1 : Nat) : Int) = 2 * (j : Int) + 2 by omega]; exact hs4)
              clear hs4 hg4 hb4 hc'
              go_wp2_with fail
              refine Calls.mono (SumT.uses _ _ _ HS4.out) ?_
              rintro e w' ⟨rfl, rfl⟩
              go_wp2
              go_roundw
              case rel => exact ⟨j + 1, by omega, by go_num, HS5.out, hb5⟩
              case measure => simp [intOf]; omega
            · obtain rfl : j = k := by omega
              go_wp2
              go_ret
              exact ⟨rfl, hbw⟩
end Go.Proofs.Ytbblldhlbhoglaa.SumsW
