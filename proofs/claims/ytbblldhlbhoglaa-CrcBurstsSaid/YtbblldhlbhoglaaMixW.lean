/- The walk of the law on mixed rows. -/
import Derived.Test.YtbblldhlbhoglaaCrcP
import Derived.Deep.RegionHeld3
import Derived.Deep.QuietTactic
import Derived.BigQuiet
namespace Go.Proofs.Ytbblldhlbhoglaa.MixW
open Go.ChangeShapes Go.WideShapes Go.ChangeAt Go.RowKit
open Go.ChangeMaps (open_string shut_string)
open CrcM CrcA CrcK CrcP
set_option linter.unusedVariables false
set_option maxHeartbeats 1000000

theorem step_app {ops : Array Oper} {o : Oper} {a : Act} {w : World} {K : Act → World → Prop} {Q : Exit → Act → World → Prop} {E : Prop} (hgd : o.guard = none) (s x : Operand)
    (ho : o.op = .call { callee := .builtin .append, args := #[s, x], argTypes := #[24, 24] })
    (base : Nat) (v : Value) (xs : List B8) (hs : a.eval s = v) (h : Own w base v xs) (A : Option Addr) (l : List B8) (m c : Nat) (hx : a.eval x = .slice A m c) (hm : l.length = m) (hr : Rd w A l)
    (ys : List B8) (N : Nat) (hy : xs ++ l = ys) (hN : ys.length = N) (hroom : N ≤ 1000000) (hbase : base ≤ w.heap.size)
    (hK : ∀ a' c' w', Own w' base (.slice a' N c') ys → Rd w' a' ys → w.grownBy w' v.ownBlock → (∀ x, a' = some x → base ≤ x.block ∧ x.block < w'.heap.size) → K (a.put o.dst (.slice a' N c')) w') :
    if Region.wanted o (yielded ops a.tmps) = true then Oper.wp Try.prog o a w K Q else E := by
  have hw : Region.wanted o (yielded ops a.tmps) = true := by simp [Region.wanted, hgd]
  rw [if_pos hw]
  exact wp_app s x ho base v xs hs h A l m c hx hm hr ys N hy hN hroom hbase hK

theorem early (a b : Option Addr) (n m c d : Nat) (w : World) (hn : n ≤ maxLen) (hm : m ≤ maxLen) (h1 : 4096 < n) (h2 : 4096 < m) :
    Calls Try.prog 4 #[.slice a n c, .slice b m d] w fun e w' => e = .returned (.bool true) ∧ Below w.heap.size w w' := by
  unfold maxLen at hn hm
  by_cases h : m < n
  · have hd : decide ((m : Int) < (n : Int)) = true := by simp; omega
    have he : decide ((4096 : Int) < (m : Int)) = true := by simp; omega
    go_enter Try.func4, Try.ntmps4
    go_wp2_with (go_at_call 8; refine (known_any _).mono ?_; rintro e w' ⟨rfl, hb⟩)
    go_ret
    exact ⟨rfl, hb⟩
  · have hd : decide ((m : Int) < (n : Int)) = false := by simp; omega
    have he : decide ((4096 : Int) < (n : Int)) = true := by simp; omega
    go_enter Try.func4, Try.ntmps4
    go_wp2_with (go_at_call 8; refine (known_any _).mono ?_; rintro e w' ⟨rfl, hb⟩)
    go_ret
    exact ⟨rfl, hb⟩

theorem mix_take (a b : List B8) (k : Nat) (ha : k < a.length) (hb : k < b.length) : mix (a.take (k + 1)) (b.take (k + 1)) = mix (a.take k) (b.take k) ++ [a.getD k 0 ^^^ b.getD k 0] := by
  rw [take_snoc a k ha, take_snoc b k hb]
  unfold mix
  rw [List.zipWith_append (by simp; omega)]; rfl
theorem mix_len (a b : List B8) (k : Nat) (ha : k ≤ a.length) (hb : k ≤ b.length) : (mix (a.take k) (b.take k)).length = k := by
  unfold mix; simp; omega

theorem one (w : World) (x : B8) (n : Int) (g : Nat) (hg : g = w.heap.size) (hn : n = (x.toNat : Int)) : Rd (w.alloc (.cells #[.int .u8 n] 5)) (some ⟨g, 0, none⟩) [x] := by
  subst hn hg
  refine Rd.of_whole (Whole.made w _) (by simp [maxLen]) fun i hi => ?_
  have hi5 : i < 1 := hi
  match i, hi5 with
  | 0, _ => rfl

theorem Rd.take {w : World} {a : Option Addr} {l : List B8} (h : Rd w a l) (k : Nat) : Rd w a (l.take k) :=
  ⟨by have := h.1; simp; omega, fun i hi => by
    have hi' : i < k ∧ i < l.length := by simp at hi; omega
    obtain ⟨b, off, e, hc⟩ := h.2 i hi'.2
    exact ⟨b, off, e, by rw [hc]; simp [List.getD, hi'.1]⟩⟩

theorem Below.drewN' {B : Nat} {a w : World} (h : Below B a w) (n : Nat) : Below B a (w.drewN n) := ⟨h.os, h.tape, h.output, h.size, h.block⟩
theorem q7 {a : Option Addr} {l : List B8} {n c j : Nat} {w : World} (hr : Rd w a l) (hn : l.length = n) :
    Calls Try.prog 12 #[.slice a n c] (w.drewN j) fun e w'' => e = .returned (.int .u8 (sum7 l).toNat) ∧ ∃ m, w'' = w.drewN m :=
  (seven' a l n c (w.drewN j) hn hr).mono fun e w' h => ⟨h.1, j, h.2.symm⟩
theorem q16 {a : Option Addr} {l : List B8} {n c j : Nat} {w : World} (hr : Rd w a l) (hn : l.length = n) :
    Calls Try.prog 13 #[.slice a n c] (w.drewN j) fun e w'' => e = .returned (.int .u16 (sum16 l).toNat) ∧ ∃ m, w'' = w.drewN m :=
  (sixteen' a l n c (w.drewN j) hn hr).mono fun e w' h => ⟨h.1, j, h.2.symm⟩
theorem Rd.drew {w : World} {a : Option Addr} {l : List B8} (h : Rd w a l) : Rd w.drew a l := h
theorem Own.drew {w : World} {base : Nat} {v : Value} {xs : List B8} (h : Own w base v xs) : Own w.drew base v xs := h

set_option maxRecDepth 100000 in
theorem shorter (a b : Option Addr) (l r : List B8) (n m c d : Nat) (w : World) (hl : l.length = n) (hr : r.length = m) (ra : Rd w a l) (rb : Rd w b r) (ha : ∀ x, 0 < l.length → a = some x → x.block < w.heap.size)
    (hb : ∀ x, 0 < r.length → b = some x → x.block < w.heap.size) (hc : n ≤ c) (hdd : m ≤ d) (h : m < n) (h2 : m ≤ 4096) (hbig : n ≤ maxLen) (hbig' : m ≤ maxLen) :
    Calls Try.prog 4 #[.slice a n c, .slice b m d] w fun e w' => e = .returned (.bool true) ∧ Below w.heap.size w w' := by
  unfold maxLen at hbig hbig'
  have hd : decide (m < n) = true := by simp; omega
  have he : decide ((4096 : Int) < (m : Int)) = false := by simp; omega
  have HA : Hid (∀ w', Below w.heap.size w w' → Rd w' a l) := Lib.hid fun w' hb' => Rd.below ra hb' ha
  have HB : Hid (∀ w', Below w.heap.size w w' → Rd w' b r) := Lib.hid fun w' hb' => Rd.below rb hb' hb
  have HLA : Hid (∀ x, 0 < l.length → a = some x → x.block < w.heap.size) := Lib.hid ha
  have HLB : Hid (∀ x, 0 < r.length → b = some x → x.block < w.heap.size) := Lib.hid hb
  have HL := Lib.hid hl
  have HM := Lib.hid hr
  clear hl hr ra rb ha hb
  go_enter Try.func4, Try.ntmps4
  go_wp2_with (go_at_call 8; refine (known_any _).mono ?_; rintro e w1 ⟨rfl, hb1⟩)
  go_loopw [6, 7] (fun v i wr => ∃ k a' c', k ≤ m ∧ i = .int .i64 (k : Nat) ∧ v = .slice a' k c' ∧ Own wr w.heap.size (.slice a' k c') (mix (l.take k) (r.take k)) ∧ Below w.heap.size w wr) (fun _ i _ => m - (intOf i).toNat)
  case atStart => exact ⟨0, none, 0, Nat.zero_le _, rfl, rfl, by simpa [mix] using Own.nil _ _, hb1⟩
  case round =>
    obtain ⟨k, a', c', hk, rfl, rfl, hown, hbw⟩ := hrel
    have hsz := hbw.size
    by_cases hlt : k < m
    · have hkl : k < l.length := by rw [HL.out]; omega
      have hkr : k < r.length := by rw [HM.out]; omega
      obtain ⟨ba, oa, ea, hca⟩ := (HA.out wr hbw).2 k hkl
      obtain ⟨bb, ob, eb, hcb⟩ := (HB.out wr hbw).2 k hkr
      have hba : ba < w.heap.size := HLA.out ⟨ba, oa, none⟩ (by omega) ea
      have hbb : bb < w.heap.size := HLB.out ⟨bb, ob, none⟩ (by omega) eb
      subst ea eb
      have HT := Lib.hid (mix_take l r k hkl hkr)
      have HN := Lib.hid (mix_len l r (k + 1) hkl hkr)
      obtain ⟨x, hx⟩ : ∃ x, x = l.getD k 0 := ⟨_, rfl⟩
      obtain ⟨y, hy⟩ : ∃ y, y = r.getD k 0 := ⟨_, rfl⟩
      rw [← hx] at hca
      rw [← hy] at hcb
      have HX := Lib.hid hx
      have HY := Lib.hid hy
      have HO := Lib.hid hown
      have HW := Lib.hid hbw
      clear hx hy hown hbw hkl hkr
      have i0 : (0 : Int) ≤ (k : Int) := Int.natCast_nonneg _
      have i1 : (k : Int) < (n : Int) := by omega
      have i2 : (k : Int) < (m : Int) := by omega
      go_wp2_with fail
      go_region_held3 (fun w' => w'.cell? ⟨ba, oa + k, none⟩ = some (.int .u8 x.toNat) ∧ w'.cell? ⟨bb, ob + k, none⟩ = some (.int .u8 y.toNat))
        (first
          | go_keep
          | (go_split_ands
             refine ⟨?_, ?_⟩
             · (rw [hgrow.cell_far _ (by simp; omega) (by intro e; have := (HO.out.blocks _ e.symm).1; simp at this; omega)]; assumption)
             · (rw [hgrow.cell_far _ (by simp; omega) (by intro e; have := (HO.out.blocks _ e.symm).1; simp at this; omega)]; assumption)))
        ((refine step_app rfl (.tmp 25) (.tmp 35) rfl w.heap.size (.slice a' k c') (mix (l.take k) (r.take k)) (by rfl) (Own.drew (HO.out.alloc _)) _ [x ^^^ y] 1 _ (by rfl) rfl (Rd.drew (one wr _ _ _ rfl (x8 x y))) (mix (l.take (k + 1)) (r.take (k + 1))) (k + 1) (by rw [HT.out, HX.out, HY.out]) HN.out (by omega) (by simp; omega) ?_; intro a2 c2 w2 hown2 hrd2 hgrow hn2))
      have hb2 := ((HW.out.alloc HW.out.size _).drew).grown hgrow (by have := HW.out.size; simp; omega) (fun k' hk' => (HO.out.blocks k' hk').1)
      have HO2 := Lib.hid hown2
      clear hown2 hrd2 hgrow hn2
      go_wp2
      go_roundw
      case rel => exact ⟨k + 1, a2, c2, by omega, by go_num, rfl, HO2.out, hb2⟩
      case measure => simp [intOf]; omega
    · obtain rfl : k = m := by omega
      have HR := Lib.hid (Own.rd hown).1
      have HN := Lib.hid (mix_len l r k (by rw [HL.out]; omega) (by rw [HM.out]; omega))
      have HA1 := Lib.hid (Rd.take (HA.out wr hbw) k)
      have HB1 := Lib.hid (Rd.take (HB.out wr hbw) k)
      have HL1 : Hid ((l.take k).length = k) := Lib.hid (by have := HL.out; simp; omega)
      have HM1 : Hid ((r.take k).length = k) := Lib.hid (by have := HM.out; simp; omega)
      have c1 : (k : Int) ≤ (c : Int) := by omega
      have c2 : (k : Int) ≤ (d : Int) := by omega
      have x7 := x8 (sum7 (l.take k)) (sum7 (r.take k))
      have y16 := x16 (sum16 (l.take k)) (sum16 (r.take k))
      rw [← sum7_mix _ _ (by rw [HL1.out, HM1.out])] at x7
      rw [← sum16_mix _ _ (by rw [HL1.out, HM1.out])] at y16
      clear hown
      go_wp2_with fail
      go_quiet (first
        | (go_at_call 12; first | exact q7 (HR.out) HN.out | exact q7 HA1.out HL1.out | exact q7 HB1.out HM1.out)
        | (go_at_call 13; first | exact q16 (HR.out) HN.out | exact q16 HA1.out HL1.out | exact q16 HB1.out HM1.out))
      go_wp2
      go_ret
      exact ⟨rfl, Below.drewN' hbw _⟩

set_option maxRecDepth 100000 in
theorem longer (a b : Option Addr) (l r : List B8) (n m c d : Nat) (w : World) (hl : l.length = n) (hr : r.length = m) (ra : Rd w a l) (rb : Rd w b r) (ha : ∀ x, 0 < l.length → a = some x → x.block < w.heap.size)
    (hb : ∀ x, 0 < r.length → b = some x → x.block < w.heap.size) (hc : n ≤ c) (hdd : m ≤ d) (h : n ≤ m) (h2 : n ≤ 4096) (hbig : n ≤ maxLen) (hbig' : m ≤ maxLen) :
    Calls Try.prog 4 #[.slice a n c, .slice b m d] w fun e w' => e = .returned (.bool true) ∧ Below w.heap.size w w' := by
  unfold maxLen at hbig hbig'
  have hd : decide (m < n) = false := by simp; omega
  have he : decide ((4096 : Int) < (n : Int)) = false := by simp; omega
  have HA : Hid (∀ w', Below w.heap.size w w' → Rd w' a l) := Lib.hid fun w' hb' => Rd.below ra hb' ha
  have HB : Hid (∀ w', Below w.heap.size w w' → Rd w' b r) := Lib.hid fun w' hb' => Rd.below rb hb' hb
  have HLA : Hid (∀ x, 0 < l.length → a = some x → x.block < w.heap.size) := Lib.hid ha
  have HLB : Hid (∀ x, 0 < r.length → b = some x → x.block < w.heap.size) := Lib.hid hb
  have HL := Lib.hid hl
  have HM := Lib.hid hr
  clear hl hr ra rb ha hb
  go_enter Try.func4, Try.ntmps4
  go_wp2_with (go_at_call 8; refine (known_any _).mono ?_; rintro e w1 ⟨rfl, hb1⟩)
  go_loopw [6, 7] (fun v i wr => ∃ k a' c', k ≤ n ∧ i = .int .i64 (k : Nat) ∧ v = .slice a' k c' ∧ Own wr w.heap.size (.slice a' k c') (mix (l.take k) (r.take k)) ∧ Below w.heap.size w wr) (fun _ i _ => n - (intOf i).toNat)
  case atStart => exact ⟨0, none, 0, Nat.zero_le _, rfl, rfl, by simpa [mix] using Own.nil _ _, hb1⟩
  case round =>
    obtain ⟨k, a', c', hk, rfl, rfl, hown, hbw⟩ := hrel
    have hsz := hbw.size
    by_cases hlt : k < n
    · have hkl : k < l.length := by rw [HL.out]; omega
      have hkr : k < r.length := by rw [HM.out]; omega
      obtain ⟨ba, oa, ea, hca⟩ := (HA.out wr hbw).2 k hkl
      obtain ⟨bb, ob, eb, hcb⟩ := (HB.out wr hbw).2 k hkr
      have hba : ba < w.heap.size := HLA.out ⟨ba, oa, none⟩ (by omega) ea
      have hbb : bb < w.heap.size := HLB.out ⟨bb, ob, none⟩ (by omega) eb
      subst ea eb
      have HT := Lib.hid (mix_take l r k hkl hkr)
      have HN := Lib.hid (mix_len l r (k + 1) hkl hkr)
      obtain ⟨x, hx⟩ : ∃ x, x = l.getD k 0 := ⟨_, rfl⟩
      obtain ⟨y, hy⟩ : ∃ y, y = r.getD k 0 := ⟨_, rfl⟩
      rw [← hx] at hca
      rw [← hy] at hcb
      have HX := Lib.hid hx
      have HY := Lib.hid hy
      have HO := Lib.hid hown
      have HW := Lib.hid hbw
      clear hx hy hown hbw hkl hkr
      have i0 : (0 : Int) ≤ (k : Int) := Int.natCast_nonneg _
      have i1 : (k : Int) < (n : Int) := by omega
      have i2 : (k : Int) < (m : Int) := by omega
      go_wp2_with fail
      go_region_held3 (fun w' => w'.cell? ⟨ba, oa + k, none⟩ = some (.int .u8 x.toNat) ∧ w'.cell? ⟨bb, ob + k, none⟩ = some (.int .u8 y.toNat))
        (first
          | go_keep
          | (go_split_ands
             refine ⟨?_, ?_⟩
             · (rw [hgrow.cell_far _ (by simp; omega) (by intro e; have := (HO.out.blocks _ e.symm).1; simp at this; omega)]; assumption)
             · (rw [hgrow.cell_far _ (by simp; omega) (by intro e; have := (HO.out.blocks _ e.symm).1; simp at this; omega)]; assumption)))
        ((refine step_app rfl (.tmp 25) (.tmp 35) rfl w.heap.size (.slice a' k c') (mix (l.take k) (r.take k)) (by rfl) (Own.drew (HO.out.alloc _)) _ [x ^^^ y] 1 _ (by rfl) rfl (Rd.drew (one wr _ _ _ rfl (x8 x y))) (mix (l.take (k + 1)) (r.take (k + 1))) (k + 1) (by rw [HT.out, HX.out, HY.out]) HN.out (by omega) (by simp; omega) ?_; intro a2 c2 w2 hown2 hrd2 hgrow hn2))
      have hb2 := ((HW.out.alloc HW.out.size _).drew).grown hgrow (by have := HW.out.size; simp; omega) (fun k' hk' => (HO.out.blocks k' hk').1)
      have HO2 := Lib.hid hown2
      clear hown2 hrd2 hgrow hn2
      go_wp2
      go_roundw
      case rel => exact ⟨k + 1, a2, c2, by omega, by go_num, rfl, HO2.out, hb2⟩
      case measure => simp [intOf]; omega
    · obtain rfl : k = n := by omega
      have HR := Lib.hid (Own.rd hown).1
      have HN := Lib.hid (mix_len l r k (by rw [HL.out]; omega) (by rw [HM.out]; omega))
      have HA1 := Lib.hid (Rd.take (HA.out wr hbw) k)
      have HB1 := Lib.hid (Rd.take (HB.out wr hbw) k)
      have HL1 : Hid ((l.take k).length = k) := Lib.hid (by have := HL.out; simp; omega)
      have HM1 : Hid ((r.take k).length = k) := Lib.hid (by have := HM.out; simp; omega)
      have c1 : (k : Int) ≤ (c : Int) := by omega
      have c2 : (k : Int) ≤ (d : Int) := by omega
      have x7 := x8 (sum7 (l.take k)) (sum7 (r.take k))
      have y16 := x16 (sum16 (l.take k)) (sum16 (r.take k))
      rw [← sum7_mix _ _ (by rw [HL1.out, HM1.out])] at x7
      rw [← sum16_mix _ _ (by rw [HL1.out, HM1.out])] at y16
      clear hown
      go_wp2_with fail
      go_quiet (first
        | (go_at_call 12; first | exact q7 (HR.out) HN.out | exact q7 HA1.out HL1.out | exact q7 HB1.out HM1.out)
        | (go_at_call 13; first | exact q16 (HR.out) HN.out | exact q16 HA1.out HL1.out | exact q16 HB1.out HM1.out))
      go_wp2
      go_ret
      exact ⟨rfl, Below.drewN' hbw _⟩

end Go.Proofs.Ytbblldhlbhoglaa.MixW
