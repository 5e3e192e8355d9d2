/- Contracts of the document's columns and checks. -/
import Derived.Test.YtjnpfnpeekpleaaDoorEcD
import Derived.Test.YtjnpfnpeekpleaaDoorEcN
import Derived.Test.YtjnpfnpeekpleaaDoorEcT
namespace Go.Proofs.YtjnpfnpeekpleaaDoor.EcR
open Go.ChangeShapes Go.WideShapes Go.ChangeAt Go.RowKit
open EcM EcA EcB EcC EcN EcT
set_option linter.unusedVariables false
set_option maxHeartbeats 1000000

theorem pc_half : ∀ y : Fin 256, pc y.val = y.val % 2 + pc (y.val / 2) := by decide +kernel
theorem pc_zero : pc 0 = 0 := by decide +kernel
theorem pc_small : ∀ y : Fin 256, pc y.val ≤ 8 := by decide +kernel

theorem onesG (P : Nat → Nat) (hz : P 0 = 0) (hh : ∀ y, y < 256 → P y = y % 2 + P (y / 2)) (x : Nat) (hx : x < 256) (hb : P x ≤ 8) (w : World) :
    Calls Tryd.prog 35 #[.int .i64 (x : Int)] w fun e w' => e = .returned (.int .i64 (P x : Int)) ∧ w' = w := by
  generalize hq : P x = q at hb
  replace hq := Lib.hid hq
  replace hz := Lib.hid hz
  replace hh := Lib.hid hh
  go_enter Tryd.func35, Tryd.ntmps35
  go_wp2
  go_loop [0, 3] (fun a n => ∃ y m : Nat, y < 256 ∧ m + P y = q ∧ a = .int .i64 (y : Int) ∧ n = .int .i64 (m : Int)) (fun a _ => (intOf a).toNat)
  case atStart => exact ⟨x, 0, hx, by rw [hq.out]; omega, rfl, rfl⟩
  case round =>
    obtain ⟨y, m, hy, hm, rfl, rfl⟩ := hrel
    have h2 := Lib.hid (hh.out y hy)
    have hm' : Hid (m + P y = q) := Lib.hid hm
    have hmq : m ≤ q := by omega
    clear hm
    by_cases h0 : y = 0
    · subst h0
      go_wp2
      go_ret
      have e := hm'.out
      rw [hz.out] at e
      exact ⟨ret_int (by omega), rfl⟩
    · have hd : decide ((0 : Int) < (y : Int)) = true := by simp; omega
      go_wp2
      go_round
      case rel => exact ⟨y / 2, m + y % 2, by omega, by have := hm'.out; have := h2.out; omega, by go_num, by go_num⟩
      case measure => simp [intOf]; omega
theorem onesR (x : Nat) (hx : x < 256) (w : World) : Calls Tryd.prog 35 #[.int .i64 (x : Int)] w fun e w' => e = .returned (.int .i64 (pc x : Int)) ∧ w' = w :=
  onesG pc pc_zero (fun y hy => pc_half ⟨y, hy⟩) x hx (pc_small ⟨x, hx⟩) w

def row (l : List Nat) : List B8 := l.map (BitVec.ofNat 8)
theorem row_snoc (l : List Nat) (k : Nat) : row (l ++ [k]) = row l ++ [BitVec.ofNat 8 k] := by simp [row]
theorem row_len (l : List Nat) : (row l).length = l.length := by simp [row]
theorem cols_len : cols.length = 64 := by decide

/-- What the collector holds. -/
def Coll (w0 : World) (l : Value) (xs : List Nat) (w : World) : Prop := ∃ a c, l = .slice a xs.length c ∧ Own w w0.heap.size (.slice a xs.length c) (row xs) ∧ Below w0.heap.size w0 w

theorem Coll.nil (w : World) : Coll w (.slice none 0 0) [] w := ⟨none, 0, rfl, Own.nil w _, Below.refl _ _⟩

set_option maxRecDepth 100000 in
theorem columnsR (w : World) : Calls Tryd.prog 28 #[] w fun e w' => ∃ a c, e = .returned (.slice a (64 : Nat) c) ∧ Own w' w.heap.size (.slice a (64 : Nat) c) (row cols) ∧ Below w.heap.size w w' := by
  have hL0 := coll_len0
  have hL1 := coll_len1
  have hN := Lib.hid coll_next
  have hE := Lib.hid coll_end
  have hY := Lib.hid coll_yes
  have hNo := Lib.hid coll_no
  have h00 : Hid (coll 0 0 = []) := Lib.hid (by simp [coll, pick_zero])
  have hC := Lib.hid (Coll.nil w)
  have hl64 := Lib.hid cols_len
  have hO := Lib.hid onesR
  generalize coll = cl at hL0 hL1 hN hE hY hNo h00
  generalize cols = cc at hE hl64 ⊢
  generalize pc = P at hY hNo hO
  replace hL0 := Lib.hid hL0
  replace hL1 := Lib.hid hL1
  go_enter Tryd.func28, Tryd.ntmps28
  go_wp2
  go_loopw [1, 2, 3] (fun l v c wr => (v = .int .i64 3 ∧ Coll w l [] wr) ∨ (v = .int .i64 5 ∧ Coll w l (cl 1 0) wr) ∨ (v = .int .i64 7 ∧ Coll w l cc wr)) (fun _ v _ _ => (8 - intOf v).toNat)
  case atStart => exact .inl ⟨rfl, hC.out⟩
  case round =>
    rcases hrel with ⟨rfl, hc⟩ | ⟨rfl, hc⟩ | ⟨rfl, hc⟩
    · obtain ⟨wo, rfl⟩ : ∃ wo : World, wo = wr := ⟨_, rfl⟩
      replace hc := Lib.hid hc
      go_wp2
      go_loopw [1, 3] (fun l c wr => ∃ k : Nat, k ≤ 256 ∧ c = .int .i64 (k : Int) ∧ Coll w l (cl 0 k) wr) (fun _ c _ => 256 - (intOf c).toNat)
      case atStart => exact ⟨0, by omega, rfl, by rw [h00.out]; exact hc.out⟩
      case round =>
        obtain ⟨k, hk, rfl, a, ca, rfl, ho, hb⟩ := hrel
        by_cases hlt : k < 256
        · have hln := hL0.out k hk
          have hy : Hid (P k = 3 + 2 * 0 → cl 0 (k + 1) = cl 0 k ++ [k]) := Lib.hid fun h => hY.out 0 k h (by omega)
          have hno : Hid (P k ≠ 3 + 2 * 0 → cl 0 (k + 1) = cl 0 k) := Lib.hid fun h => hNo.out 0 k h (by omega)
          have hON := hO.out k (by omega)
          generalize hxs' : cl 0 (k + 1) = xs' at hy hno
          generalize hxs : cl 0 k = xs at ho hln hy hno ⊢
          generalize hn : xs.length = n at ho hln ⊢
          replace hn := Lib.hid hn
          replace hxs := Lib.hid hxs
          replace hxs' := Lib.hid hxs'
          replace ho := Lib.hid ho
          have hk256 : (k : Int) < 256 := by omega
          have hk0 : (0 : Int) ≤ (k : Int) := by omega
          by_cases hp : P k = 3
          · have hx := Lib.hid (hy.out hp)
            rw [hp] at hON
            clear hy hno hp
            replace hON := Lib.hid hON
            go_wp2_with (first
              | (go_at_call 35; refine (hON.out _).mono ?_; rintro e w' ⟨rfl, rfl⟩)
              | (at_builtin
                 refine wpList_app rfl (.tmp 21) (.tmp 24) rfl w.heap.size (.slice a n ca) (row xs) rfl (ho.out.alloc _) _ [BitVec.ofNat 8 k] 1 _ rfl rfl (EcT.one _ (BitVec.ofNat 8 k) _ _ (by simp) (by simp; omega)) (row xs') (n + 1) (by rw [hx.out, row_snoc]) (by rw [hx.out, row_len, List.length_append, hn.out]; rfl) (by omega) (by have := hb.size; simp; omega) ?_
                 intro a1 c1 w1 hv1 hr1 hg1 hn1
                 clear hr1 hn1
                 have hb1 := (hb.alloc hb.size _).grown hg1 (by have := hb.size; simp; omega) (ho.out.blocks · · |>.1)
                 replace hv1 := Lib.hid hv1
                 clear hg1))
            go_roundw
            case rel => exact ⟨k + 1, by omega, by go_num, a1, c1, by rw [hxs'.out, hx.out, List.length_append, hn.out]; rfl, by rw [hxs'.out, hx.out, List.length_append, hn.out]; have := hv1.out; rw [hx.out] at this; exact this, hb1⟩
            case measure => simp [intOf]; omega
          · have hx := Lib.hid (hno.out hp)
            have hne : ((P k : Int) == 3) = false := by simp; omega
            clear hy hno hp
            replace hON := Lib.hid hON
            go_wp2_with (first
              | (go_at_call 35; refine (hON.out _).mono ?_; rintro e w' ⟨rfl, rfl⟩))
            go_roundw
            case rel => exact ⟨k + 1, by omega, by go_num, a, ca, by rw [hxs'.out, hx.out, hn.out], by rw [hxs'.out, hx.out, hn.out]; exact ho.out, hb⟩
            case measure => simp [intOf]; omega
        · obtain rfl : k = 256 := by omega
          have hln := hL0.out 256 (by omega)
          have hnx := Lib.hid hN.out
          generalize cl 0 256 = xs at ho hln hnx ⊢
          generalize hn : xs.length = n at ho hln ⊢
          replace hn := Lib.hid hn
          replace ho := Lib.hid ho
          go_wp2
          go_roundw
          case rel => exact .inr (.inl ⟨rfl, a, ca, by rw [← hnx.out, hn.out], by rw [← hnx.out, hn.out]; exact ho.out, hb⟩)
          case measure => simp [intOf]
    · obtain ⟨wo, rfl⟩ : ∃ wo : World, wo = wr := ⟨_, rfl⟩
      replace hc := Lib.hid hc
      go_wp2
      go_loopw [1, 3] (fun l c wr => ∃ k : Nat, k ≤ 88 ∧ c = .int .i64 (k : Int) ∧ Coll w l (cl 1 k) wr) (fun _ c _ => 88 - (intOf c).toNat)
      case atStart => exact ⟨0, by omega, rfl, by exact hc.out⟩
      case round =>
        obtain ⟨k, hk, rfl, a, ca, rfl, ho, hb⟩ := hrel
        by_cases hlt : k < 88
        · have hln := hL1.out k hlt
          have hy : Hid (P k = 3 + 2 * 1 → cl 1 (k + 1) = cl 1 k ++ [k]) := Lib.hid fun h => hY.out 1 k h (by omega)
          have hno : Hid (P k ≠ 3 + 2 * 1 → cl 1 (k + 1) = cl 1 k) := Lib.hid fun h => hNo.out 1 k h (by omega)
          have hON := hO.out k (by omega)
          generalize hxs' : cl 1 (k + 1) = xs' at hy hno
          generalize hxs : cl 1 k = xs at ho hln hy hno ⊢
          generalize hn : xs.length = n at ho hln ⊢
          replace hn := Lib.hid hn
          replace hxs := Lib.hid hxs
          replace hxs' := Lib.hid hxs'
          replace ho := Lib.hid ho
          have hk256 : (k : Int) < 256 := by omega
          have hk0 : (0 : Int) ≤ (k : Int) := by omega
          by_cases hp : P k = 5
          · have hx := Lib.hid (hy.out hp)
            rw [hp] at hON
            clear hy hno hp
            replace hON := Lib.hid hON
            go_wp2_with (first
              | (go_at_call 35; refine (hON.out _).mono ?_; rintro e w' ⟨rfl, rfl⟩)
              | (at_builtin
                 refine wpList_app rfl (.tmp 21) (.tmp 24) rfl w.heap.size (.slice a n ca) (row xs) rfl (ho.out.alloc _) _ [BitVec.ofNat 8 k] 1 _ rfl rfl (EcT.one _ (BitVec.ofNat 8 k) _ _ (by simp) (by simp; omega)) (row xs') (n + 1) (by rw [hx.out, row_snoc]) (by rw [hx.out, row_len, List.length_append, hn.out]; rfl) (by omega) (by have := hb.size; simp; omega) ?_
                 intro a1 c1 w1 hv1 hr1 hg1 hn1
                 clear hr1 hn1
                 have hb1 := (hb.alloc hb.size _).grown hg1 (by have := hb.size; simp; omega) (ho.out.blocks · · |>.1)
                 replace hv1 := Lib.hid hv1
                 clear hg1))
            go_roundw
            case rel => exact ⟨k + 1, by omega, by go_num, a1, c1, by rw [hxs'.out, hx.out, List.length_append, hn.out]; rfl, by rw [hxs'.out, hx.out, List.length_append, hn.out]; have := hv1.out; rw [hx.out] at this; exact this, hb1⟩
            case measure => simp [intOf]; omega
          · have hx := Lib.hid (hno.out hp)
            have hne : ((P k : Int) == 5) = false := by simp; omega
            clear hy hno hp
            replace hON := Lib.hid hON
            go_wp2_with (first
              | (go_at_call 35; refine (hON.out _).mono ?_; rintro e w' ⟨rfl, rfl⟩))
            go_roundw
            case rel => exact ⟨k + 1, by omega, by go_num, a, ca, by rw [hxs'.out, hx.out, hn.out], by rw [hxs'.out, hx.out, hn.out]; exact ho.out, hb⟩
            case measure => simp [intOf]; omega
        · obtain rfl : k = 88 := by omega
          rw [hE.out] at ho ⊢
          replace ho := Lib.hid ho
          have e := hl64.out
          generalize hn : cc.length = n at ho e ⊢
          replace hn := Lib.hid hn
          subst e
          go_wp2
          go_roundw
          case rel => exact .inr (.inr ⟨rfl, a, ca, by rw [hn.out], by rw [hn.out]; exact ho.out, hb⟩)
          case measure => simp [intOf]
    · obtain ⟨a, c, rfl, ho, hb⟩ := hc
      replace ho := Lib.hid ho
      have e := hl64.out
      generalize cc.length = n at *
      subst e
      go_wp2
      go_ret
      exact ⟨a, c, rfl, ho.out, hb⟩
end Go.Proofs.YtjnpfnpeekpleaaDoor.EcR
