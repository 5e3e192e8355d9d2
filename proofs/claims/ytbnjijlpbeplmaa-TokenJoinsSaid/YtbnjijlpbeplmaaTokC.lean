/- Blocks on the wire: what is read of any bytes; the document's blocks. -/
import Derived.Test.YtbnjijlpbeplmaaTokB
import Derived.Test.YtbnjijlpbeplmaaSumR
namespace Go.Proofs.Ytbnjijlpbeplmaa.TokC
open Go.ChangeShapes Go.WideShapes Go.ChangeAt Go.RowKit
open CrcM CrcB CrcL CrcQ TokA TokB SumR
set_option linter.unusedVariables false
set_option maxHeartbeats 1000000

theorem clone2 (b off : Nat) (l : List B8) (n c : Nat) (w : World) (hn : l.length = n) (hr : Rd w (some ⟨b, off, none⟩) l) (hb : b < w.heap.size) (h1 : n ≤ 10000) :
    Calls Try.prog 89 #[.slice (some ⟨b, off, none⟩) n c] w fun e w' => ∃ a' c', e = .returned (.slice a' n c') ∧ Rd w' a' l ∧ (∀ x, a' = some x → w.heap.size ≤ x.block ∧ x.block < w'.heap.size) ∧ Below w.heap.size w w' := by
  have hb2 := (Below.refl w.heap.size w).alloc (Nat.le_refl _) (.cells #[] 5)
  have HO := Lib.hid (Own.made w w.heap.size (Nat.le_refl _) #[] 0 [] rfl (Nat.zero_le _) rfl)
  have HR : Hid (∀ w', Below w.heap.size w w' → Rd w' (some ⟨b, off, none⟩) l) := Lib.hid fun w' hb' => Rd.below hr hb' (fun x _ e => by injection e with e; subst e; exact hb)
  have HL := Lib.hid hn
  have hnil : ∀ w : World, (binOp .eql 24 (.slice (some ⟨b, off, none⟩) n c) (.slice none 0 0)).run Try.prog w = .ok (.bool false) w := fun w => by
    have := Lib.run_eql_slice_nil (P := Try.prog) w 24 5 (some ⟨b, off, none⟩) n c 0 0 Try.underlying24
    simpa using this
  clear hr hn
  go_enter Try.func89, Try.ntmps89
  go_wp2_with (first
    | (at_builtin
       refine wpList_app rfl (.tmp 5) (.tmp 6) rfl w.heap.size (.slice (some ⟨w.heap.size, 0, none⟩) 0 0) [] rfl HO.out (some ⟨b, off, none⟩) l n c rfl HL.out (HR.out _ hb2) l n rfl HL.out (by omega) hb2.size ?_
       intro a1 c1 w2 hv1 hr1 hg1 hn1
       have hb3 := hb2.grown hg1 hb2.size (HO.out.blocks · · |>.1)
       have HR1 := Lib.hid hr1
       have HN1 := Lib.hid hn1
       clear hr1 hg1 hv1 hn1))
  go_ret
  exact ⟨a1, c1, rfl, HR1.out, fun x e => HN1.out x e, hb3⟩


theorem readGood2 (a : Option Addr) (l : List B8) (n c k : Nat) (w : World) (hn : l.length = n) (hr : Rd w a l) (h0 : l.getD 0 0 = 254) (hk : k ≤ 4096) (hs : k + 3 ≤ n) (hcn : n ≤ c) (hgood : sum16 (block l k) = sumOf l k) (ha : ∀ x, 0 < l.length → a = some x → x.block < w.heap.size) :
    Calls Try.prog 50 #[.slice a n c, .int .i64 k] w fun e w' => ∃ a' c', e = .returned (.tuple #[.slice a' k c', .int .i64 ((k : Int) + 3), .int .i64 0]) ∧ Rd w' a' (block l k) ∧ (∀ x, a' = some x → w.heap.size ≤ x.block ∧ x.block < w'.heap.size) ∧ Below w.heap.size w w' := by
  obtain ⟨b, off, ea, hc⟩ := hr.2 0 (by omega)
  subst ea
  rw [h0] at hc
  have hc' : w.cell? ⟨b, off, none⟩ = some (.int .u8 254) := by simpa using hc
  obtain ⟨b1, o1, e1, hc1⟩ := hr.2 (1 + k) (by omega)
  injection e1 with e1
  injection e1 with i1 i2
  subst i1 i2
  obtain ⟨b2, o2, e2, hc2⟩ := hr.2 (2 + k) (by omega)
  injection e2 with e2
  injection e2 with i1 i2
  subst i1 i2
  have hm := hr.1
  rw [hn] at hm
  unfold maxLen at hm
  have HB := Lib.hid (block_rd hr (k := k) (by omega))
  obtain ⟨y0, hy0⟩ : ∃ y, y = l.getD (1 + k) 0 := ⟨_, rfl⟩
  obtain ⟨y1, hy1⟩ : ∃ y, y = l.getD (2 + k) 0 := ⟨_, rfl⟩
  rw [← hy0] at hc1
  rw [← hy1] at hc2
  have hJ := join y0 y1
  have hA := test (sum16 (block l k)) (y0 ++ y1 : BitVec 16) true (by
    constructor
    · intro _; rfl
    · intro _; rw [hgood, hy0, hy1]; rfl)
  have hA' : (((sum16 (block l k)).toNat : Int) != ((y0 ++ y1 : BitVec 16).toNat : Int)) = false := by rw [bne, hA]; rfl
  have hbb : b < w.heap.size := ha ⟨b, off, none⟩ (by omega) rfl
  have hz : ((n : Int) == 0) = false := by simp; omega
  have hp : 0 < (n : Int) := by omega
  have d1 : decide ((k : Int) < 0) = false := by simp
  have d2 : decide ((4096 : Int) < (k : Int)) = false := by simp; omega
  have d3 : decide ((n : Int) < (k : Int) + 3) = false := by simp; omega
  have l1 : 1 + (k : Int) < (n : Int) := by omega
  have l2 : 2 + (k : Int) < (n : Int) := by omega
  have l3 : 1 + (k : Int) ≤ (c : Int) := by omega
  have c1 : ¬ c = 1 := by omega
  clear hc h0 hr hn hy0 hy1 hgood hA ha
  go_enter Try.func50, Try.ntmps50
  go_wp2_with fail
  go_quiet ((go_at_call 88; exact q16d HB.out.1 HB.out.2))
  go_wp2_with fail
  refine Calls.mono (clone2 b (off + 1) (block l k) k (c - 1) _ HB.out.2 HB.out.1 hbb (by omega)) ?_
  rintro e w' ⟨a', c', rfl, hr', hn', hb'⟩
  replace hn' := Lib.hid hn'
  have HR' := Lib.hid hr'
  have HBB := Lib.hid hb'
  clear hr' hb'
  go_wp2
  go_ret3
  exact ⟨a', c', rfl, HR'.out, hn'.out, (Below.drewN' (Below.refl _ _) _).trans HBB.out⟩


theorem refSixteen (a : Option Addr) (l : List B8) (n c : Nat) (w : World) (hn : l.length = n) (hr : Rd w a l) :
    Calls Try.prog 90 #[.slice a n c] w fun e w' => e = .returned (.int .u16 (sum16 l).toNat) ∧ w = w' := by
  have HR := Lib.hid (rem16 a l n c w hn hr)
  have HS := Lib.hid (sum16_bits l)
  have HN := Lib.hid hn
  clear hr hn
  obtain ⟨z, hz⟩ : ∃ z, z = feed p16 0 (CrcL.bits l (8 * n)) := ⟨_, rfl⟩
  rw [← hz] at HR
  have HZ := Lib.hid hz
  have hb := z.isLt
  clear hz
  have hw : IntKind.u16.wrap (z.toNat : Int) = (z.toNat : Int) := by rw [IntKind.wrap_u16]; omega
  go_enter Try.func90, Try.ntmps90
  go_wp2_with (go_at_call 97; refine (HR.out).mono ?_; rintro e w' ⟨rfl, rfl⟩)
  go_ret
  exact ⟨ret_int (by rw [HS.out, HN.out, ← HZ.out]), rfl⟩

theorem readForm2 (a : Option Addr) (l : List B8) (n c : Nat) (size : Int) (w : World) (hn : l.length = n) (hr : Rd w a l) (hpos : 0 < n) (h0 : l.getD 0 0 = 254) (hs : size < 0 ∨ 4096 < size) :
    Calls Try.prog 50 #[.slice a n c, .int .i64 size] w fun e w' => e = .returned (none3 24) ∧ w = w' := by
  obtain ⟨b, off, ea, hc⟩ := hr.2 0 (by omega)
  subst ea
  rw [h0] at hc
  have hc' : w.cell? ⟨b, off, none⟩ = some (.int .u8 254) := by simpa using hc
  have hz : ((n : Int) == 0) = false := by simp; omega
  have hp : 0 < (n : Int) := by omega
  clear hc h0 hr hn
  rcases hs with hs | hs
  · have d1 : decide (size < 0) = true := by simpa using hs
    go_enter Try.func50, Try.ntmps50
    go_wp2
    go_ret3
    exact ⟨rfl, rfl⟩
  · have d1 : decide (size < 0) = false := by simp; omega
    have d2 : decide ((4096 : Int) < size) = true := by simpa using hs
    go_enter Try.func50, Try.ntmps50
    go_wp2
    go_ret3
    exact ⟨rfl, rfl⟩

/-- What is read of any bytes, at any size. -/
def rdSpec (l : List B8) (s : Int) : List B8 × Nat × Nat :=
  if l = [] then ([], 0, 23)
  else if l.getD 0 0 ≠ 254 ∨ s < 0 ∨ 4096 < s then ([], 0, 24)
  else if (l.length : Int) < s + 3 then ([], 0, 23)
  else if sum16 (block l s.toNat) ≠ sumOf l s.toNat then ([], 0, 25)
  else (block l s.toNat, s.toNat + 3, 0)
def Gives (r : List B8 × Nat × Nat) (w : World) : Ending → World → Prop := fun e w' =>
  (∃ a' c', e = .returned (.tuple #[.slice a' r.1.length c', .int .i64 (r.2.1 : Int), .int .i64 (r.2.2 : Int)]) ∧ Rd w' a' r.1 ∧ ∀ x, a' = some x → w.heap.size ≤ x.block ∧ x.block < w'.heap.size) ∧ Below w.heap.size w w'
theorem gives_none {f : FuncId} {args : Array Value} {w : World} {q : Int} {k : Nat} (hq : q = (k : Int)) (h : Calls Try.prog f args w fun e w' => e = .returned (none3 q) ∧ Below w.heap.size w w') : Calls Try.prog f args w (Gives ([], 0, k) w) :=
  h.mono fun e w' ⟨he, hb⟩ => ⟨⟨none, 0, by rw [he, hq]; rfl, ⟨by simp [maxLen], fun i hi => absurd hi (by simp)⟩, fun x hx => by cases hx⟩, hb⟩
theorem gives_none' {f : FuncId} {args : Array Value} {w : World} {q : Int} {k : Nat} (hq : q = (k : Int)) (h : Calls Try.prog f args w fun e w' => e = .returned (none3 q) ∧ w = w') : Calls Try.prog f args w (Gives ([], 0, k) w) :=
  gives_none hq (h.mono fun e w' ⟨he, hw⟩ => ⟨he, by subst hw; exact Below.refl _ _⟩)

theorem readAny (a : Option Addr) (l : List B8) (n c : Nat) (s : Int) (w : World) (hn : l.length = n) (hr : Rd w a l) (hc : n ≤ c) (ha : ∀ x, 0 < l.length → a = some x → x.block < w.heap.size) :
    Calls Try.prog 50 #[.slice a n c, .int .i64 s] w (Gives (rdSpec l s) w) := by
  unfold rdSpec
  by_cases h0 : l = []
  · rw [if_pos h0]
    subst h0
    simp at hn
    subst hn
    exact gives_none' rfl (readEmpty a c s w)
  · rw [if_neg h0]
    have hpos : 0 < n := by
      have := List.length_pos_iff.2 h0
      omega
    by_cases h1 : l.getD 0 0 = 254
    · by_cases h2 : s < 0 ∨ 4096 < s
      · rw [if_pos (.inr h2)]
        exact gives_none' rfl (readForm2 a l n c s w hn hr hpos h1 h2)
      · rw [if_neg (by intro h; rcases h with h | h; exact h h1; exact h2 h)]
        obtain ⟨k, rfl⟩ := Int.eq_ofNat_of_zero_le (show 0 ≤ s by omega)
        simp only [Int.toNat_natCast]
        by_cases h3 : n < k + 3
        · rw [if_pos (by omega)]
          exact gives_none' rfl (readShort a l n c k w hn hr hpos h1 (by omega) h3)
        · rw [if_neg (by omega)]
          by_cases h4 : sum16 (block l k) = sumOf l k
          · rw [if_neg (by simpa using h4)]
            refine (readGood2 a l n c k w hn hr h1 (by omega) (by omega) hc h4 ha).mono ?_
            rintro e w' ⟨a', c', rfl, hr', hb', hw'⟩
            have hl : (block l k).length = k := by simp [block]; omega
            exact ⟨⟨a', c', by rw [hl]; rfl, hr', hb'⟩, hw'⟩
          · rw [if_pos h4]
            exact gives_none rfl (readSum a l n c k w hn hr h1 (by omega) (by omega) hc h4)
    · rw [if_pos (.inl h1)]
      exact gives_none' rfl (readForm a l n c s w hn hr hpos h1)

set_option maxRecDepth 100000 in
theorem layR (a : Option Addr) (l : List B8) (n c : Nat) (w : World) (hn : l.length = n) (hr : Rd w a l) (ha : ∀ x, 0 < l.length → a = some x → x.block < w.heap.size) (h1 : n ≤ 10000) :
    Calls Try.prog 55 #[.slice a n c] w fun e w' => ∃ a' c', e = .returned (.slice a' (n + 3) c') ∧ Own w' w.heap.size (.slice a' (n + 3) c') (laid l) ∧ Below w.heap.size w w' := by
  have HR : Hid (∀ w', Below w.heap.size w w' → Rd w' a l) := Lib.hid fun w' hb => Rd.below hr hb ha
  have HN := Lib.hid hn
  have H9 := Lib.hid (refSixteen a l n c w hn hr)
  have HO := Lib.hid (Own.made w w.heap.size (Nat.le_refl _) #[.int .u8 254] 1 [254] rfl (by simp [maxLen]) rfl)
  have hb1 := (Below.refl w.heap.size w).alloc (Nat.le_refl _) (.cells #[.int .u8 254] 5)
  clear hr hn ha
  go_enter Try.func55, Try.ntmps55
  go_wp2_with (first
    | (go_at_call 90; refine H9.out.mono ?_; rintro e w' ⟨rfl, rfl⟩)
    | (at_builtin
       refine wpList_app rfl (.tmp 6) (.tmp 7) rfl w.heap.size (.slice (some ⟨w.heap.size, 0, none⟩) 1 1) [254] rfl HO.out a l n c rfl HN.out (HR.out _ hb1) (254 :: l) (n + 1) rfl (by simp [HN.out]) (by omega) hb1.size ?_
       intro a2 c2 w2 hv2 hr2 hg2 hn2
       clear hr2 hn2
       have hb3 := hb1.grown hg2 hb1.size (HO.out.blocks · · |>.1)
       have HV2 := Lib.hid hv2
       clear hv2 hg2)
    | (at_builtin
       refine wpList_app rfl (.tmp 8) (.tmp 14) rfl w.heap.size (.slice a2 (n + 1) c2) (254 :: l) rfl (HV2.out.alloc _) _ (tail16 l) 2 _ rfl rfl (two w2 _ _ _ _ _ rfl (u8_high _) (u8_low _)) (laid l) (n + 3) rfl (by rw [laid_length, HN.out]) (by omega) (by have := hb3.size; simp; omega) ?_
       intro a3 c3 w3 hv3 hr3 hg3 hn3
       clear hr3 hn3
       have hb4 := (hb3.alloc hb3.size _).grown hg3 (by have := hb3.size; simp; omega) (HV2.out.blocks · · |>.1)
       have HV3 := Lib.hid hv3
       clear hv3 hg3))
  go_ret
  exact ⟨a3, c3, rfl, HV3.out, hb4⟩

theorem tail_sum (l : List B8) (k : Nat) (h : k + 3 ≤ l.length) : laid (block l k) = l.take (k + 3) ↔ l.getD 0 0 = 254 ∧ sum16 (block l k) = sumOf l k := by
  have e : l.take (k + 3) = l.getD 0 0 :: (block l k ++ [l.getD (1 + k) 0, l.getD (2 + k) 0]) := by
    refine List.ext_getElem (by simp [block]; omega) fun i h1 h2 => ?_
    have hi : i < k + 3 := by simp at h1; omega
    match i with
    | 0 => simp [show 0 < l.length by omega]
    | j + 1 =>
      simp only [List.getElem_take, List.getElem_cons_succ]
      by_cases hj : j < k
      · rw [List.getElem_append_left (by simp [block]; omega)]
        simp [block, Nat.add_comm]
      · rw [List.getElem_append_right (by simp [block]; omega)]
        have hlb : (block l k).length = k := by simp [block]; omega
        obtain h | h : j = k ∨ j = k + 1 := by omega
        · subst h; simp [hlb, Nat.add_comm 1 j, show j + 1 < l.length by omega]
        · subst h; simp [hlb, show k + 1 + 1 = 2 + k by omega, show 2 + k < l.length by omega]
  rw [e]
  unfold laid
  rw [List.cons.injEq, List.append_cancel_left_eq]
  constructor
  · rintro ⟨h1, h2⟩
    refine ⟨h1.symm, ?_⟩
    unfold tail16 at h2
    simp only [List.cons.injEq, and_true] at h2
    rw [← whole16 (sum16 (block l k)), h2.1, h2.2]
    rfl
  · rintro ⟨h1, h2⟩
    refine ⟨h1.symm, ?_⟩
    unfold tail16
    rw [h2]
    unfold sumOf
    generalize l.getD (1 + k) 0 = x
    generalize l.getD (2 + k) 0 = y
    have hxy : (x ++ y : BitVec 16).toNat = x.toNat * 256 + y.toNat := by
      rw [BitVec.toNat_append, ← Nat.shiftLeft_add_eq_or_of_lt y.isLt, Nat.shiftLeft_eq]
    have := x.isLt
    have := y.isLt
    have h3 : ((x ++ y : BitVec 16) >>> 8).setWidth 8 = x := by
      apply BitVec.eq_of_toNat_eq
      rw [BitVec.toNat_setWidth, BitVec.toNat_ushiftRight, hxy, Nat.shiftRight_eq_div_pow]
      omega
    have h4 : (x ++ y : BitVec 16).setWidth 8 = y := by
      apply BitVec.eq_of_toNat_eq
      rw [BitVec.toNat_setWidth, hxy]
      omega
    rw [h3, h4]
end Go.Proofs.Ytbnjijlpbeplmaa.TokC
