/- The law of pages that are laid, read and told. -/
import Derived.Test.YtjnpfnpeekpleaaDoorPgD
import Derived.Test.YtjnpfnpeekpleaaDoorPgT
namespace Go.Proofs.YtjnpfnpeekpleaaDoor.PgR
open Go.ChangeShapes Go.WideShapes Go.ChangeAt Go.RowKit
open EcM EcA EcB EcC EcT EcX EcY EcZ EcZR EcWM EcWP EcWR EcFM PgM PgA PgB PgC PgZ PgL PgS PgT PgD
set_option linter.unusedVariables false
set_option maxHeartbeats 4000000

def bad (l : List B8) (k : Int) : Prop := k < 1 ∨ 8 < k ∨ 64 * k < (l.length : Int)
instance (l : List B8) (k : Int) : Decidable (bad l k) := by unfold bad; exact inferInstance
def LO (l : List B8) (k : Int) : List B8 := if bad l k then [] else layK (padT l (64 * k.toNat)) k.toNat
def LC (l : List B8) (k : Int) : Nat := if bad l k then 1 else 0
def Lays (O : List B8) (C : Nat) (w : World) : Ending → World → Prop := fun e w' => (∃ (a' : Option Addr) (c' : Nat), e = .returned (.tuple #[.slice a' O.length c', .int .i64 (C : Int)]) ∧ Rd w' a' O ∧ ∀ x, 0 < O.length → a' = some x → x.block < w'.heap.size) ∧ Below w.heap.size w w'
theorem lays_bad {l : List B8} {k : Int} (w : World) (h : bad l k) : Lays (LO l k) (LC l k) w (.returned (.tuple #[.slice none 0 0, .int .i64 1])) w := by
  unfold LO LC
  rw [if_pos h, if_pos h]
  exact ⟨⟨none, 0, rfl, ⟨by simp [maxLen], fun i hi => absurd hi (by simp)⟩, fun x h0 => absurd h0 (by simp)⟩, Below.refl _ _⟩
theorem lays_own {l : List B8} {k c' base : Nat} {a' : Option Addr} {w w' : World} (hn : l.length ≤ 64 * k) (h : ¬ bad l (k : Int)) (ho : Own w' base (.slice a' (73 * k) c') (layK (padT l (64 * k)) k)) (hb : Below w.heap.size w w') : Lays (LO l (k : Int)) (LC l (k : Int)) w (.returned (.tuple #[.slice a' (73 * k) c', .int .i64 0])) w' := by
  have hlen := layK_len (padT l (64 * k)) k (padT_len l (64 * k) hn) k (Nat.le_refl _)
  unfold LO LC
  rw [if_neg h, if_neg h, Int.toNat_natCast]
  exact ⟨⟨a', c', by rw [hlen]; rfl, (Own.rd ho).1, own_lt ho⟩, hb⟩
theorem lay8 (a : Option Addr) (l : List B8) (n c : Nat) (k : Int) (w : World) (hn : l.length = n) (hr : Rd w a l) (ha : ∀ x, 0 < l.length → a = some x → x.block < w.heap.size) (hl : Laid w) :
    Calls Tryd.prog 8 #[.slice a n c, .int .i64 k] w (Lays (LO l k) (LC l k) w) := by
  have hm : n ≤ 9223372036854775807 := by have := hr.1; unfold maxLen at this; omega
  by_cases h : bad l k
  · refine (layBad a n c k w hm (by have := h; unfold bad at this; omega)).mono ?_
    rintro e w' ⟨rfl, hw⟩
    obtain rfl := hw.symm
    exact lays_bad _ h
  · have h2 := h
    unfold bad at h2
    obtain ⟨kk, rfl⟩ := Int.eq_ofNat_of_zero_le (show 0 ≤ k by omega)
    refine (layW a l n c kk w hn hr ha (by omega) (by omega) (by omega) hl).mono ?_
    rintro e w' ⟨a', c', rfl, ho, hb⟩
    exact lays_own (by omega) h ho hb
theorem lay9 (a : Option Addr) (l : List B8) (n c : Nat) (k : Int) (w : World) (hn : l.length = n) (hr : Rd w a l) (ha : ∀ x, 0 < l.length → a = some x → x.block < w.heap.size) :
    Calls Tryd.prog 9 #[.slice a n c, .int .i64 k] w (Lays (LO l k) (LC l k) w) := by
  have hm : n ≤ 9223372036854775807 := by have := hr.1; unfold maxLen at this; omega
  by_cases h : bad l k
  · refine (layBadR a n c k w hm (by have := h; unfold bad at this; omega)).mono ?_
    rintro e w' ⟨rfl, hw⟩
    obtain rfl := hw.symm
    exact lays_bad _ h
  · have h2 := h
    unfold bad at h2
    obtain ⟨kk, rfl⟩ := Int.eq_ofNat_of_zero_le (show 0 ≤ k by omega)
    refine (layR a l n c kk w hn hr ha (by omega) (by omega) (by omega)).mono ?_
    rintro e w' ⟨a', c', rfl, ho, hb⟩
    exact lays_own (by omega) h ho hb

set_option maxRecDepth 100000 in
theorem early (a a2 : Option Addr) (n c n2 c2 : Nat) (k b m : Int) (w : World) (hl : Laid w) (hm : n ≤ 9223372036854775807) (hm2 : n2 ≤ 9223372036854775807) (h : 800 < n ∨ 800 < n2 ∨ 1099511627776 < b) :
    Calls Tryd.prog 3 #[.slice a n c, .int .i64 k, .slice a2 n2 c2, .int .i64 b, .int .u8 m] w fun e w' => e = .returned (.bool true) ∧ Below w.heap.size w w' := by
  have HK := Lib.hid (known w hl)
  clear hl
  rcases (show (800 : Int) < (n : Int) ∨ (¬ (800 : Int) < (n : Int) ∧ (800 : Int) < (n2 : Int)) ∨ (¬ (800 : Int) < (n : Int) ∧ ¬ (800 : Int) < (n2 : Int) ∧ 1099511627776 < b) by omega) with h1 | ⟨h1, h2⟩ | ⟨h1, h2, h3⟩
  all_goals
    clear h
    go_enter Tryd.func3, Tryd.ntmps3
    go_wp2_with fail
    refine HK.out.mono ?_
    rintro e w1 ⟨rfl, b1⟩
    replace b1 := Lib.hid b1
    go_wp2
    go_ret
    exact ⟨rfl, b1.out⟩

set_option maxRecDepth 100000 in
theorem law (a a2 : Option Addr) (l l2 : List B8) (n c n2 c2 : Nat) (k b : Int) (m : B8) (w : World) (hn : l.length = n) (hr : Rd w a l) (ha : ∀ x, 0 < l.length → a = some x → x.block < w.heap.size)
    (hn2 : l2.length = n2) (hr2 : Rd w a2 l2) (ha2 : ∀ x, 0 < l2.length → a2 = some x → x.block < w.heap.size) (hc2 : n2 ≤ c2) (hcm2 : c2 ≤ maxLen) (hb : -9223372036854775808 ≤ b ∧ b ≤ 9223372036854775807)
    (h1 : n ≤ 800) (h2 : n2 ≤ 800) (h3 : b ≤ 1099511627776) (hl : Laid w) :
    Calls Tryd.prog 3 #[.slice a n c, .int .i64 k, .slice a2 n2 c2, .int .i64 b, .int .u8 (m.toNat : Int)] w fun e w' => e = .returned (.bool true) ∧ Below w.heap.size w w' := by
  have HK := Lib.hid (known w hl)
  have H8 := Lib.hid (fun w' (hb : Below w.heap.size w w') => lay8 a l n c k w' hn (Rd.below hr hb ha) (fun x h0 e => Nat.lt_of_lt_of_le (ha x h0 e) hb.size) (hl.below hb))
  have H9 := Lib.hid (fun w' (hb : Below w.heap.size w w') => lay9 a l n c k w' hn (Rd.below hr hb ha) (fun x h0 e => Nat.lt_of_lt_of_le (ha x h0 e) hb.size))
  have H10 := Lib.hid (fun w' (hb : Below w.heap.size w w') => readW a2 l2 n2 c2 b w' hn2 (Rd.below hr2 hb ha2) (fun x h0 e => Nat.lt_of_lt_of_le (ha2 x h0 e) hb.size) hc2 hcm2 (hl.below hb))
  have H11 := Lib.hid (fun w' (hb : Below w.heap.size w w') => readR a2 l2 n2 c2 b w' hn2 (Rd.below hr2 hb ha2) (fun x h0 e => Nat.lt_of_lt_of_le (ha2 x h0 e) hb.size) hc2 hcm2)
  have H12 := Lib.hid (fun w' (hb : Below w.heap.size w w') => stateW a2 l2 n2 c2 w' hn2 (Rd.below hr2 hb ha2))
  have H13 := Lib.hid (fun w' (hb : Below w.heap.size w w') => stateR a2 l2 n2 c2 w' hn2 (Rd.below hr2 hb ha2))
  have H14 := Lib.hid (fun w' => markW m w')
  have H15 := Lib.hid (fun w' => markR m w')
  have H16 := Lib.hid (fun w' => chunksW b hb w')
  have H17 := Lib.hid (fun w' => chunksR b hb w')
  have hTo := Lib.hid (fun (o o' : List B8) (cn cn' s s' : Nat) (h : PgM.Told l2 b o cn s) (h' : PgM.Told l2 b o' cn' s') => h.one h')
  generalize LO l k = O at *
  generalize LC l k = C at *
  generalize stateOf l2 = ST at *
  generalize marked m = MK at *
  generalize chunks b = CH at *
  generalize (m.toNat : Int) = mi at *
  have g1 : ¬ (800 : Int) < (n : Int) := by omega
  have g2 : ¬ (800 : Int) < (n2 : Int) := by omega
  have g3 : ¬ (1099511627776 : Int) < b := by omega
  replace hn := Lib.hid hn
  replace hn2 := Lib.hid hn2
  clear hr ha hr2 ha2 hl hb h1 h2 h3 hcm2 hc2
  go_enter Tryd.func3, Tryd.ntmps3
  go_wp2_with fail
  refine HK.out.mono ?_
  rintro e w1 ⟨rfl, b1⟩
  have B1 := Lib.hid b1
  clear b1 HK
  go_wp2_with fail
  refine (H8.out _ B1.out).mono ?_
  rintro e w2 ⟨⟨a5, c5, rfl, r5, l5⟩, b2⟩
  have B2 := Lib.hid (B1.out.trans (b2.mono B1.out.size))
  have R5 : Hid (∀ w', Below w2.heap.size w2 w' → Rd w' a5 O) := Lib.hid fun w' hb => Rd.below r5 hb l5
  clear b2 r5 l5 H8
  go_wp2_with fail
  refine (H9.out _ B2.out).mono ?_
  rintro e w3 ⟨⟨a6, c6, rfl, r6, l6⟩, b3⟩
  have B3 := Lib.hid (B2.out.trans (b3.mono B2.out.size))
  have R6 : Hid (∀ w', Below w3.heap.size w3 w' → Rd w' a6 O) := Lib.hid fun w' hb => Rd.below r6 hb l6
  have b3' := Lib.hid b3
  clear b3 r6 l6 H9
  go_wp2_with fail
  refine (H10.out _ B3.out).mono ?_
  rintro e w4 ⟨⟨o, cn, s, a7, c7, rfl, hT, r7, l7⟩, b4⟩
  have B4 := Lib.hid (B3.out.trans (b4.mono B3.out.size))
  have R7 : Hid (∀ w', Below w4.heap.size w4 w' → Rd w' a7 o) := Lib.hid fun w' hb => Rd.below r7 hb l7
  have b4' := Lib.hid b4
  have hT' := Lib.hid hT
  clear b4 r7 l7 H10 hT
  go_wp2_with fail
  refine (H11.out _ B4.out).mono ?_
  rintro e w5 ⟨⟨o', cn', s', a8, c8, rfl, hT, r8, l8⟩, b5⟩
  have B5 := Lib.hid (B4.out.trans (b5.mono B4.out.size))
  obtain ⟨rfl, rfl, rfl⟩ := hTo.out _ _ _ _ _ _ hT'.out hT
  have hb35 := b4'.out.trans (b5.mono b4'.out.size)
  have hb25 := b3'.out.trans (hb35.mono b3'.out.size)
  have hc5 := conv w5 a5 O O.length c5 rfl (R5.out _ hb25)
  have hc6 := conv w5 a6 O O.length c6 rfl (R6.out _ hb35)
  have hc7 := conv w5 a7 o o.length c7 rfl (R7.out _ b5)
  have hc8 := conv w5 a8 o o.length c8 rfl r8
  generalize strB O = S1 at *
  generalize strB o = S2 at *
  clear hT r8 l8 b5 hb35 hb25 H11
  go_wp2_with (first
    | (go_at_call 12; refine (H12.out _ B5.out).mono ?_; rintro e w' ⟨rfl, hw⟩; obtain rfl := hw.symm)
    | (go_at_call 13; refine (H13.out _ B5.out).mono ?_; rintro e w' ⟨rfl, hw⟩; obtain rfl := hw.symm)
    | (go_at_call 14; refine (H14.out _).mono ?_; rintro e w' ⟨rfl, hw⟩; obtain rfl := hw.symm)
    | (go_at_call 15; refine (H15.out _).mono ?_; rintro e w' ⟨rfl, hw⟩; obtain rfl := hw.symm)
    | (go_at_call 16; refine (H16.out _).mono ?_; rintro e w' ⟨rfl, hw⟩; obtain rfl := hw.symm)
    | (go_at_call 17; refine (H17.out _).mono ?_; rintro e w' ⟨rfl, hw⟩; obtain rfl := hw.symm))
  go_ret
  exact ⟨rfl, B5.out⟩

theorem row_cap {w : World} {a : Option Addr} {n c : Nat} {zs : List Int} (h : IsRow .u8 w a n c zs) : n ≤ c ∧ c ≤ maxLen := by
  rcases h with ⟨rfl, rfl, rfl, rfl⟩ | ⟨x, rfl, hl, hm, hz, hc, hw⟩
  · exact ⟨Nat.le_refl _, Nat.zero_le _⟩
  · exact ⟨hl, hm⟩

theorem all (a : Option Addr) (n c : Nat) (zs : List Int) (k : Int) (a2 : Option Addr) (n2 c2 : Nat) (z2 : List Int) (b m : Int) (w : World) (h : IsRow .u8 w a n c zs) (h2 : IsRow .u8 w a2 n2 c2 z2) (hb : (Lit.int .i64 b).wf = true) (hm : (Lit.int .u8 m).wf = true) (hl : Laid w) :
    Calls Tryd.prog 3 #[.slice a n c, .int .i64 k, .slice a2 n2 c2, .int .i64 b, .int .u8 m] w fun e w' => e = .returned (.bool true) ∧ Below w.heap.size w w' := by
  obtain ⟨l, hn, hr, _, ha⟩ := h.bytes
  obtain ⟨l2, hn2, hr2, _, ha2⟩ := h2.bytes
  have hn0 : n ≤ 9223372036854775807 := by have := hr.1; unfold maxLen at this; omega
  have hn20 : n2 ≤ 9223372036854775807 := by have := hr2.1; unfold maxLen at this; omega
  have hb2 : -9223372036854775808 ≤ b ∧ b ≤ 9223372036854775807 := by simpa [Lit.wf, IntKind.min, IntKind.max, IntKind.signed, IntKind.bits] using hb
  have hm2 : 0 ≤ m ∧ m ≤ 255 := by simpa [Lit.wf, IntKind.min, IntKind.max, IntKind.signed, IntKind.bits] using hm
  by_cases he : 800 < n ∨ 800 < n2 ∨ 1099511627776 < b
  · exact PgR.early a a2 n c n2 c2 k b m w hl hn0 hn20 he
  · obtain ⟨y, rfl⟩ : ∃ y : B8, m = (y.toNat : Int) := ⟨BitVec.ofNat 8 m.toNat, by rw [BitVec.toNat_ofNat]; omega⟩
    exact law a a2 l l2 n c n2 c2 k b y w hn hr (fun x h0 e => ha x (by omega) e) hn2 hr2 (fun x h0 e => ha2 x (by omega) e) (row_cap h2).1 (row_cap h2).2 hb2 (by omega) (by omega) (by omega) hl
end Go.Proofs.YtjnpfnpeekpleaaDoor.PgR
