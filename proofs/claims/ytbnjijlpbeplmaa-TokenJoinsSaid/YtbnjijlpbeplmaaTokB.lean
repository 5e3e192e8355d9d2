/- Contracts of blocks on the wire: laid, read. -/
import Derived.Test.YtbnjijlpbeplmaaTokA
import Derived.WalkSpells
import Derived.Lib.SlBytesConst
namespace Go.Proofs.Ytbnjijlpbeplmaa.TokB
open Go.ChangeShapes Go.WideShapes Go.ChangeAt Go.RowKit
open CrcM CrcB CrcL CrcQ TokA
set_option linter.unusedVariables false
set_option maxHeartbeats 1000000

def tail16 (l : List B8) : List B8 := [((sum16 l) >>> 8).setWidth 8, (sum16 l).setWidth 8]
def laid (l : List B8) : List B8 := 254 :: (l ++ tail16 l)
theorem laid_length (l : List B8) : (laid l).length = l.length + 3 := by simp [laid, tail16]

theorem Own.room (w : World) (base n : Nat) (hb : base ≤ w.heap.size) (hn : n ≤ maxLen) : Own (w.alloc (.cells (madeCells #[.int .u8 0] n) 5)) base (.slice (some ⟨w.heap.size, 0, none⟩) 0 n) [] := by
  have h := World.ownsRow_made (e := 5) (size := 1) w (madeCells #[.int .u8 0] n) n hb hn (by rw [size_madeCells]; omega)
  unfold Own
  simpa [vals] using h

theorem run_room (n : Nat) (hn : n ≤ 1000000) (w : World) : (Instr.makeSlice 24 (.int .i64 0) (.int .i64 ((n : Int) + 3))).run Try.prog w = .ok (.slice (some ⟨w.heap.size, 0, none⟩) 0 (n + 3)) (w.alloc (.cells (madeCells #[.int .u8 0] (n + 3)) 5)) := by
  obtain ⟨i, hi, hz, hs, hb⟩ := i5
  have h := run_make (P := Try.prog) w 24 5 i (.int .u8 0) Try.underlying24 hi hz .i64 .i64 0 ((n : Int) + 3) (by omega) (by omega) (by rw [hb]; omega) (by omega)
  have e : ((n : Int) + 3).toNat = n + 3 := by omega
  rw [e] at h
  simpa [hs, Value.cells] using h

set_option maxRecDepth 100000 in
theorem lay (a : Option Addr) (l : List B8) (n c : Nat) (w : World) (hn : l.length = n) (hr : Rd w a l) (ha : ∀ x, 0 < l.length → a = some x → x.block < w.heap.size) (h1 : n ≤ 10000) :
    Calls Try.prog 54 #[.slice a n c] w fun e w' => ∃ a' c', e = .returned (.slice a' (n + 3) c') ∧ Own w' w.heap.size (.slice a' (n + 3) c') (laid l) ∧ Below w.heap.size w w' := by
  have hmk := run_room n (by omega)
  have HR : Hid (∀ w', Below w.heap.size w w' → Rd w' a l) := Lib.hid fun w' hb => Rd.below hr hb ha
  have HN := Lib.hid hn
  have HO := Lib.hid (Own.room w w.heap.size (n + 3) (Nat.le_refl _) (by simp only [maxLen]; omega))
  have hb1 := (Below.refl w.heap.size w).alloc (Nat.le_refl _) (.cells (madeCells #[.int .u8 0] (n + 3)) 5)
  clear hr hn ha
  go_enter Try.func54, Try.ntmps54
  go_wp2_with fail
  refine Calls.mono (sixteen' a l _ _ _ HN.out (HR.out _ (Below.refl _ _))) ?_
  rintro e w' ⟨rfl, rfl⟩
  go_wp2_with (first
    | (at_builtin
       refine wpList_app rfl (.tmp 11) (.tmp 12) rfl w.heap.size (.slice (some ⟨w.heap.size, 0, none⟩) 0 (n + 3)) [] rfl (HO.out.alloc _) _ [254] 1 _ rfl rfl (TokA.one _ 254 _ _ (by simp) rfl) [254] 1 rfl rfl (by omega) (by simp; omega) ?_
       intro a1 c1 w1 hv1 hr1 hg1 hn1
       clear hr1 hn1
       have hb2 := (hb1.alloc (by simp) (.cells #[.int .u8 254] 5)).grown hg1 (by simp; omega) (HO.out.blocks · · |>.1)
       have HV1 := Lib.hid hv1
       clear hv1 hg1)
    | (at_builtin
       refine wpList_app rfl (.tmp 14) (.tmp 15) rfl w.heap.size (.slice a1 1 c1) [254] rfl HV1.out a l n c rfl HN.out (HR.out _ hb2) (254 :: l) (n + 1) rfl (by simp [HN.out]) (by omega) hb2.size ?_
       intro a2 c2 w2 hv2 hr2 hg2 hn2
       clear hr2 hn2
       have hb3 := hb2.grown hg2 hb2.size (HV1.out.blocks · · |>.1)
       have HV2 := Lib.hid hv2
       clear hv2 hg2)
    | (at_builtin
       refine wpList_app rfl (.tmp 17) (.tmp 23) rfl w.heap.size (.slice a2 (n + 1) c2) (254 :: l) rfl (HV2.out.alloc _) _ (tail16 l) 2 _ rfl rfl (two w2 _ _ _ _ _ rfl (u8_high _) (u8_low _)) (laid l) (n + 3) rfl (by rw [laid_length, HN.out]) (by omega) (by have := hb3.size; simp; omega) ?_
       intro a3 c3 w3 hv3 hr3 hg3 hn3
       clear hr3 hn3
       have hb4 := (hb3.alloc hb3.size _).grown hg3 (by have := hb3.size; simp; omega) (HV2.out.blocks · · |>.1)
       have HV3 := Lib.hid hv3
       clear hv3 hg3))
  go_ret
  exact ⟨a3, c3, rfl, HV3.out, hb4⟩

theorem clone (b off : Nat) (l : List B8) (n c : Nat) (w : World) (hn : l.length = n) (hr : Rd w (some ⟨b, off, none⟩) l) (hb : b < w.heap.size) (h1 : n ≤ 10000) :
    Calls Try.prog 89 #[.slice (some ⟨b, off, none⟩) n c] w fun e w' => ∃ a' c', e = .returned (.slice a' n c') ∧ Rd w' a' l ∧ Below w.heap.size w w' := by
  have hb2 := (Below.refl w.heap.size w).alloc (Nat.le_refl _) (.cells #[] 5)
  have HO := Lib.hid (Own.made w w.heap.size (Nat.le_refl _) #[] 0 [] rfl (Nat.zero_le _) rfl)
  have HR : Hid (∀ w', Below w.heap.size w w' → Rd w' (some ⟨b, off, none⟩) l) := Lib.hid fun w' hb' => Rd.below hr hb' (fun x _ e => by injection e with e; subst e; exact hb)
  have HL := Lib.hid hn
  have hnil : ∀ w : World, (binOp .eql 24 (.slice (some ⟨b, off, none⟩) n c) (.slice none 0 0)).run Try.prog w = .ok (.bool false) w := fun w => by
    have := Lib.run_eql_slice_nil (P := Try.prog) w 24 5 (some ⟨b, off, none⟩) n c 0 0 Try.underlying24
    simpa using this
  clear hr hn
  go_enter Try.func89, Try.ntmps89
  go_wp2_with (first
    | (at_builtin
       refine wpList_app rfl (.tmp 5) (.tmp 6) rfl w.heap.size (.slice (some ⟨w.heap.size, 0, none⟩) 0 0) [] rfl HO.out (some ⟨b, off, none⟩) l n c rfl HL.out (HR.out _ hb2) l n rfl HL.out (by omega) hb2.size ?_
       intro a1 c1 w2 hv1 hr1 hg1 hn1
       have hb3 := hb2.grown hg1 hb2.size (HO.out.blocks · · |>.1)
       have HR1 := Lib.hid hr1
       clear hr1 hg1 hv1 hn1))
  go_ret
  exact ⟨a1, c1, rfl, HR1.out, hb3⟩

/-- What is answered where nothing is told. -/
def none3 (e : Int) : Value := .tuple #[.slice none 0 0, .int .i64 0, .int .i64 e]

theorem readEmpty (a : Option Addr) (c : Nat) (size : Int) (w : World) :
    Calls Try.prog 50 #[.slice a 0 c, .int .i64 size] w fun e w' => e = .returned (none3 23) ∧ w = w' := by
  go_enter Try.func50, Try.ntmps50
  go_wp2
  go_ret3
  exact ⟨rfl, rfl⟩

theorem readForm (a : Option Addr) (l : List B8) (n c : Nat) (size : Int) (w : World) (hn : l.length = n) (hr : Rd w a l) (hpos : 0 < n) (hne : l.getD 0 0 ≠ 254) :
    Calls Try.prog 50 #[.slice a n c, .int .i64 size] w fun e w' => e = .returned (none3 24) ∧ w = w' := by
  obtain ⟨b, off, ea, hc⟩ := hr.2 0 (by omega)
  subst ea
  obtain ⟨x, hx⟩ : ∃ x, x = l.getD 0 0 := ⟨_, rfl⟩
  rw [← hx] at hc hne
  have h254 : ((x.toNat : Int) != 254) = true := by
    rw [bne_iff_ne]
    intro e
    exact hne (BitVec.eq_of_toNat_eq (by have : x.toNat = 254 := by omega
                                         rw [this]; rfl))
  have hz : ((n : Int) == 0) = false := by simp; omega
  have hp : 0 < (n : Int) := by omega
  simp only [Nat.add_zero] at hc
  clear hx hne hr hn
  go_enter Try.func50, Try.ntmps50
  go_wp2
  go_ret3
  exact ⟨rfl, rfl⟩

theorem readShort (a : Option Addr) (l : List B8) (n c k : Nat) (w : World) (hn : l.length = n) (hr : Rd w a l) (hpos : 0 < n) (h0 : l.getD 0 0 = 254) (hk : k ≤ 4096) (hs : n < k + 3) :
    Calls Try.prog 50 #[.slice a n c, .int .i64 k] w fun e w' => e = .returned (none3 23) ∧ w = w' := by
  obtain ⟨b, off, ea, hc⟩ := hr.2 0 (by omega)
  subst ea
  rw [h0] at hc
  have hc' : w.cell? ⟨b, off, none⟩ = some (.int .u8 254) := by simpa using hc
  have hz : ((n : Int) == 0) = false := by simp; omega
  have hp : 0 < (n : Int) := by omega
  have d1 : decide ((k : Int) < 0) = false := by simp
  have d2 : decide ((4096 : Int) < (k : Int)) = false := by simp; omega
  have d3 : decide ((n : Int) < (k : Int) + 3) = true := by simp; omega
  clear hc h0 hr hn
  go_enter Try.func50, Try.ntmps50
  go_wp2
  go_ret3
  exact ⟨rfl, rfl⟩

/-- The block that stands behind the first byte, and the sum behind it. -/
def block (l : List B8) (k : Nat) : List B8 := (l.drop 1).take k
def sumOf (l : List B8) (k : Nat) : BitVec 16 := l.getD (1 + k) 0 ++ l.getD (2 + k) 0
theorem block_rd {w : World} {b off : Nat} {l : List B8} {k : Nat} (h : Rd w (some ⟨b, off, none⟩) l) (hk : k + 1 ≤ l.length) : Rd w (some ⟨b, off + 1, none⟩) (block l k) ∧ (block l k).length = k := by
  have hlen : (block l k).length = k := by simp [block]; omega
  refine ⟨⟨by rw [hlen]; have := h.1; omega, fun i hi => ?_⟩, hlen⟩
  rw [hlen] at hi
  obtain ⟨b', off', e, hc⟩ := h.2 (i + 1) (by omega)
  injection e with e
  injection e with e1 e2
  subst e1 e2
  refine ⟨b, off + 1, rfl, ?_⟩
  rw [show off + 1 + i = off + (i + 1) by omega, hc]
  simp [block, List.getD, hi]

theorem q16d {a : Option Addr} {l : List B8} {n c j : Nat} {w : World} (hr : Rd w a l) (hn : l.length = n) :
    Calls Try.prog 88 #[.slice a n c] (w.drewN j) fun e w'' => e = .returned (.int .u16 (sum16 l).toNat) ∧ ∃ m, w'' = w.drewN m :=
  (sixteen' a l n c (w.drewN j) hn hr).mono fun e w' h => ⟨h.1, j, h.2.symm⟩

set_option maxRecDepth 100000 in
theorem readSum (a : Option Addr) (l : List B8) (n c k : Nat) (w : World) (hn : l.length = n) (hr : Rd w a l) (h0 : l.getD 0 0 = 254) (hk : k ≤ 4096) (hs : k + 3 ≤ n) (hcn : n ≤ c) (hbad : sum16 (block l k) ≠ sumOf l k) :
    Calls Try.prog 50 #[.slice a n c, .int .i64 k] w fun e w' => e = .returned (none3 25) ∧ Below w.heap.size w w' := by
  obtain ⟨b, off, ea, hc⟩ := hr.2 0 (by omega)
  subst ea
  rw [h0] at hc
  have hc' : w.cell? ⟨b, off, none⟩ = some (.int .u8 254) := by simpa using hc
  obtain ⟨b1, o1, e1, hc1⟩ := hr.2 (1 + k) (by omega)
  injection e1 with e1
  injection e1 with i1 i2
  subst i1 i2
  obtain ⟨b2, o2, e2, hc2⟩ := hr.2 (2 + k) (by omega)
  injection e2 with e2
  injection e2 with i1 i2
  subst i1 i2
  have hm := hr.1
  rw [hn] at hm
  unfold maxLen at hm
  have HB := Lib.hid (block_rd hr (k := k) (by omega))
  obtain ⟨y0, hy0⟩ : ∃ y, y = l.getD (1 + k) 0 := ⟨_, rfl⟩
  obtain ⟨y1, hy1⟩ : ∃ y, y = l.getD (2 + k) 0 := ⟨_, rfl⟩
  rw [← hy0] at hc1
  rw [← hy1] at hc2
  have hJ := join y0 y1
  have hA := test (sum16 (block l k)) (y0 ++ y1 : BitVec 16) false (by
    constructor
    · intro e; exact absurd (by rw [e, hy0, hy1]; rfl) hbad
    · intro e; cases e)
  have hA' : (((sum16 (block l k)).toNat : Int) != ((y0 ++ y1 : BitVec 16).toNat : Int)) = true := by rw [bne, hA]; rfl
  have hz : ((n : Int) == 0) = false := by simp; omega
  have hp : 0 < (n : Int) := by omega
  have d1 : decide ((k : Int) < 0) = false := by simp
  have d2 : decide ((4096 : Int) < (k : Int)) = false := by simp; omega
  have d3 : decide ((n : Int) < (k : Int) + 3) = false := by simp; omega
  have l1 : 1 + (k : Int) < (n : Int) := by omega
  have l2 : 2 + (k : Int) < (n : Int) := by omega
  have l3 : 1 + (k : Int) ≤ (c : Int) := by omega
  have c1 : ¬ c = 1 := by omega
  clear hc h0 hr hn hy0 hy1 hbad hA
  go_enter Try.func50, Try.ntmps50
  go_wp2_with fail
  go_quiet ((go_at_call 88; exact q16d HB.out.1 HB.out.2))
  go_wp2
  go_ret3
  exact ⟨rfl, Below.drewN' (Below.refl _ _) _⟩

set_option maxRecDepth 100000 in
theorem readGood (a : Option Addr) (l : List B8) (n c k : Nat) (w : World) (hn : l.length = n) (hr : Rd w a l) (h0 : l.getD 0 0 = 254) (hk : k ≤ 4096) (hs : k + 3 ≤ n) (hcn : n ≤ c) (hgood : sum16 (block l k) = sumOf l k) (ha : ∀ x, 0 < l.length → a = some x → x.block < w.heap.size) :
    Calls Try.prog 50 #[.slice a n c, .int .i64 k] w fun e w' => ∃ a' c', e = .returned (.tuple #[.slice a' k c', .int .i64 ((k : Int) + 3), .int .i64 0]) ∧ Rd w' a' (block l k) ∧ Below w.heap.size w w' := by
  obtain ⟨b, off, ea, hc⟩ := hr.2 0 (by omega)
  subst ea
  rw [h0] at hc
  have hc' : w.cell? ⟨b, off, none⟩ = some (.int .u8 254) := by simpa using hc
  obtain ⟨b1, o1, e1, hc1⟩ := hr.2 (1 + k) (by omega)
  injection e1 with e1
  injection e1 with i1 i2
  subst i1 i2
  obtain ⟨b2, o2, e2, hc2⟩ := hr.2 (2 + k) (by omega)
  injection e2 with e2
  injection e2 with i1 i2
  subst i1 i2
  have hm := hr.1
  rw [hn] at hm
  unfold maxLen at hm
  have HB := Lib.hid (block_rd hr (k := k) (by omega))
  obtain ⟨y0, hy0⟩ : ∃ y, y = l.getD (1 + k) 0 := ⟨_, rfl⟩
  obtain ⟨y1, hy1⟩ : ∃ y, y = l.getD (2 + k) 0 := ⟨_, rfl⟩
  rw [← hy0] at hc1
  rw [← hy1] at hc2
  have hJ := join y0 y1
  have hA := test (sum16 (block l k)) (y0 ++ y1 : BitVec 16) true (by
    constructor
    · intro _; rfl
    · intro _; rw [hgood, hy0, hy1]; rfl)
  have hA' : (((sum16 (block l k)).toNat : Int) != ((y0 ++ y1 : BitVec 16).toNat : Int)) = false := by rw [bne, hA]; rfl
  have hbb : b < w.heap.size := ha ⟨b, off, none⟩ (by omega) rfl
  have hz : ((n : Int) == 0) = false := by simp; omega
  have hp : 0 < (n : Int) := by omega
  have d1 : decide ((k : Int) < 0) = false := by simp
  have d2 : decide ((4096 : Int) < (k : Int)) = false := by simp; omega
  have d3 : decide ((n : Int) < (k : Int) + 3) = false := by simp; omega
  have l1 : 1 + (k : Int) < (n : Int) := by omega
  have l2 : 2 + (k : Int) < (n : Int) := by omega
  have l3 : 1 + (k : Int) ≤ (c : Int) := by omega
  have c1 : ¬ c = 1 := by omega
  clear hc h0 hr hn hy0 hy1 hgood hA ha
  go_enter Try.func50, Try.ntmps50
  go_wp2_with fail
  go_quiet ((go_at_call 88; exact q16d HB.out.1 HB.out.2))
  go_wp2_with fail
  refine Calls.mono (clone b (off + 1) (block l k) k (c - 1) _ HB.out.2 HB.out.1 hbb (by omega)) ?_
  rintro e w' ⟨a', c', rfl, hr', hb'⟩
  have HR' := Lib.hid hr'
  have HBB := Lib.hid hb'
  clear hr' hb'
  go_wp2
  go_ret3
  exact ⟨a', c', rfl, HR'.out, (Below.drewN' (Below.refl _ _) _).trans HBB.out⟩

theorem whole16 (s : BitVec 16) : ((s >>> 8).setWidth 8 ++ s.setWidth 8 : BitVec 16) = s := by
  apply BitVec.eq_of_toNat_eq
  have := s.isLt
  rw [BitVec.toNat_append]
  simp only [BitVec.toNat_setWidth, BitVec.toNat_ushiftRight, Nat.shiftRight_eq_div_pow]
  have e1 : s.toNat / 2 ^ 8 % 2 ^ 8 = s.toNat / 256 := by omega
  have e2 : s.toNat % 2 ^ 8 = s.toNat % 256 := by omega
  rw [e1, e2, Nat.shiftLeft_eq, ← Nat.shiftLeft_eq, ← Nat.shiftLeft_add_eq_or_of_lt (by omega), Nat.shiftLeft_eq]
  omega
theorem laid_block (l r : List B8) : block (laid l ++ r) l.length = l := by
  simp [block, laid, tail16]
theorem laid_sum (l r : List B8) : sumOf (laid l ++ r) l.length = sum16 l := by
  have e1 : (laid l ++ r).getD (1 + l.length) 0 = ((sum16 l) >>> 8).setWidth 8 := by
    rw [show 1 + l.length = l.length + 1 by omega]
    simp [laid, tail16]
  have e2 : (laid l ++ r).getD (2 + l.length) 0 = (sum16 l).setWidth 8 := by
    rw [show 2 + l.length = (l.length + 1) + 1 by omega]
    simp [laid, tail16]
  unfold sumOf
  rw [e1, e2, whole16]
theorem laid_zero (l r : List B8) : (laid l ++ r).getD 0 0 = 254 := rfl

/-- A laid block, whatever stands behind it, is read. -/
theorem readLaid (a : Option Addr) (l r : List B8) (n m c k : Nat) (w : World) (hn : l.length = k) (hm : (laid l ++ r).length = m) (hr : Rd w a (laid l ++ r)) (ha : ∀ x, 0 < (laid l ++ r).length → a = some x → x.block < w.heap.size) (hk : k ≤ 4096) (hc : m ≤ c) :
    Calls Try.prog 50 #[.slice a m c, .int .i64 k] w fun e w' => ∃ a' c', e = .returned (.tuple #[.slice a' k c', .int .i64 ((k : Int) + 3), .int .i64 0]) ∧ Rd w' a' l ∧ Below w.heap.size w w' := by
  have h := readGood a (laid l ++ r) m c k w hm hr rfl hk (by rw [← hm, List.length_append, laid_length]; omega) hc (by rw [← hn, laid_block, laid_sum]) ha
  rw [← hn, laid_block] at h
  rw [← hn]
  exact h

theorem readFront (a : Option Addr) (l : List B8) (q c k : Nat) (w : World) (hn : l.length = k) (hr : Rd w a ((laid l).take q)) (hq : q < k + 3) (hk : k ≤ 4096) :
    Calls Try.prog 50 #[.slice a q c, .int .i64 k] w fun e w' => e = .returned (none3 23) ∧ w = w' := by
  by_cases h0 : q = 0
  · subst h0
    exact readEmpty a c k w
  · refine readShort a ((laid l).take q) q c k w (by rw [List.length_take, laid_length]; omega) hr (by omega) ?_ hk hq
    obtain ⟨j, rfl⟩ : ∃ j, q = j + 1 := ⟨q - 1, by omega⟩
    rfl

theorem readFirst (a : Option Addr) (l : List B8) (f : B8) (c k : Nat) (w : World) (hn : l.length = k) (hr : Rd w a ((laid l).set 0 f)) (ha : ∀ x, 0 < ((laid l).set 0 f).length → a = some x → x.block < w.heap.size) (hk : k ≤ 4096) (hc : k + 3 ≤ c) :
    Calls Try.prog 50 #[.slice a (k + 3) c, .int .i64 k] w fun e w' => ∃ s m g, e = .returned (.tuple #[s, .int .i64 m, .int .i64 g]) ∧ (g = 0 ∧ f = 254 ∨ g = 24 ∧ f ≠ 254) ∧ Below w.heap.size w w' := by
  have hlen : ((laid l).set 0 f).length = k + 3 := by rw [List.length_set, laid_length, hn]
  by_cases h : f = 254
  · have e : (laid l).set 0 f = laid l ++ [] := by rw [h, List.append_nil]; rfl
    rw [e] at hr ha hlen
    refine Calls.mono (readLaid a l [] k (k + 3) c k w hn hlen hr ha hk hc) ?_
    rintro e w' ⟨a', c', he, _, hb⟩
    exact ⟨_, _, _, he, .inl ⟨rfl, h⟩, hb⟩
  · refine Calls.mono (readForm a _ (k + 3) c k w hlen hr (by omega) h) ?_
    rintro e w' ⟨he, rfl⟩
    exact ⟨_, _, _, he, .inr ⟨rfl, h⟩, Below.refl _ _⟩

set_option maxRecDepth 100000 in
theorem known_any (w : World) : Calls Try.prog 49 #[] w fun e w' => e = .returned (.bool true) ∧ Below w.heap.size w w' := by
  have HR : Hid (∀ w : World, Rd (w.alloc (.cells #[.int .u8 97, .int .u8 98] 5 (2, 3))) (some ⟨w.heap.size, 0, none⟩) [97, 98]) := Lib.hid fun w => by
    have hh : (w.alloc (.cells #[.int .u8 97, .int .u8 98] 5 (2, 3))).heap[w.heap.size]? = some (.cells #[.int .u8 97, .int .u8 98] 5 (2, 3)) := heap_alloc_new w _
    refine ⟨by simp [maxLen], fun i hi => ⟨w.heap.size, 0, rfl, ?_⟩⟩
    have hi2 : i < 2 := hi
    rw [Nat.zero_add, cell_of_row _ w.heap.size i _ 5 (2, 3) hh]
    match i, hi2 with
    | 0, _ => rfl
    | 1, _ => rfl
  have hcv := fun (w : World) (C : Array Value) (n c : Nat) => Lib.run_convert_bytes_const (P := Try.prog) w 24 5 C n c Try.underlying24 Try.underlying5
  go_enter Try.func49, Try.ntmps49
  go_wp2_with fail
  refine Calls.mono (lay _ [97, 98] 2 2 _ rfl (HR.out w) (fun x _ hx => by injection hx with hx; subst hx; simp) (by omega)) ?_
  rintro e w1 ⟨a1, c1, rfl, hv1, hb1⟩
  have hrd := hv1.rd
  obtain ⟨b1, o1, e1, hc1⟩ := hrd.1.2 0 (by rw [laid_length]; simp)
  subst e1
  have hb1l : b1 < w1.heap.size := World.block_lt_of_cell? w1 _ hc1
  have hc1' : w1.cell? ⟨b1, o1, none⟩ = some (.int .u8 254) := by simpa [laid] using hc1
  have HRD := Lib.hid hrd
  clear hrd hc1 hv1
  go_wp2_with fail
  refine Calls.mono (readLaid (some ⟨b1, o1, none⟩) [97, 98] [] 5 5 c1 2 _ rfl rfl (by rw [List.append_nil]; exact HRD.out.1) (fun x _ hx => by injection hx with hx; subst hx; exact hb1l) (by omega) HRD.out.2.2.1) ?_
  rintro e w2 ⟨a2, c2, rfl, hr2, hb2⟩
  have hs := conv w2 a2 [97, 98] 2 c2 rfl hr2
  rw [show strB [97, 98] = ⟨#[97, 98]⟩ from rfl] at hs
  have hb3 := (((Below.refl w.heap.size w).alloc (Nat.le_refl _) (.cells #[.int .u8 97, .int .u8 98] 5 (2, 3))).trans (hb1.mono (by simp))).trans (hb2.mono (by have := hb1.size; simp at this; omega))
  have hc2 : w2.cell? ⟨b1, o1, none⟩ = some (.int .u8 254) := (hb2.cell (p := ⟨b1, o1, none⟩) hb1l).trans hc1'
  clear hb1 hb2 hr2 hc1'
  go_wp2
  go_ret
  exact ⟨rfl, hb3⟩
end Go.Proofs.Ytbnjijlpbeplmaa.TokB
