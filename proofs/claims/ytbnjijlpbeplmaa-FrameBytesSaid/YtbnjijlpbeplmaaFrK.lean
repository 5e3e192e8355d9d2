/- Contracts of frames: what is read of any bytes as a long answer, by the program and by the document. -/
import Derived.Test.YtbnjijlpbeplmaaFrQr
namespace Go.Proofs.Ytbnjijlpbeplmaa.FrK
open Go.ChangeShapes Go.WideShapes Go.ChangeAt Go.RowKit
open CrcM CrcB CrcL CrcQ FrA FrB FrT FrD FrR FrL FrU FrQ
set_option linter.unusedVariables false
set_option maxHeartbeats 1000000

/-- What is read of bytes as a long answer. -/
def rl (l : List B8) : List B8 × Int :=
  if l.length < 17 then ([], 23) else if 17 < l.length ∨ l.getD 0 0 ≠ 63 ∨ l.getD 16 0 &&& 1#8 ≠ 1#8 then ([], 24) else (backOf (l.drop 1), 0)

/-- A slice that is told, with an error. -/
def Told (B : Nat) (w : World) (e : Ending) (w' : World) (r : List B8 × Int) : Prop :=
  ∃ a n c, e = .returned (.tuple #[.slice a n c, .int .i64 r.2]) ∧ r.1.length = n ∧ Rd w' a r.1 ∧ (∀ x, 0 < r.1.length → a = some x → x.block < w'.heap.size) ∧ Below B w w'

theorem Told.none (B : Nat) (w : World) (z : Int) (r : List B8 × Int) (h : r = ([], z)) (w' : World) (hb : Below B w w') : Told B w (.returned (.tuple #[.slice none 0 0, .int .i64 z])) w' r := by
  subst h
  exact ⟨_, _, _, rfl, rfl, ⟨by simp [maxLen], fun i hi => absurd hi (by simp)⟩, fun x h => absurd h (by simp), hb⟩

theorem longWShort (a : Option Addr) (n c : Nat) (w : World) (h : n < 17) :
    Calls Try.prog 41 #[.slice a n c] w fun e w' => e = .returned (.tuple #[.slice none 0 0, .int .i64 23]) ∧ Below w.heap.size w w' := by
  have h' : (n : Int) < 17 := by omega
  go_enter Try.func41, Try.ntmps41
  go_wp2
  go_ret2
  exact ⟨rfl, Below.refl _ _⟩
theorem longWLarge (a : Option Addr) (n c : Nat) (w : World) (h : 17 < n) :
    Calls Try.prog 41 #[.slice a n c] w fun e w' => e = .returned (.tuple #[.slice none 0 0, .int .i64 24]) ∧ Below w.heap.size w w' := by
  have h' : ¬ ((n : Int) < 17) := by omega
  have h2 : (17 : Int) < (n : Int) := by omega
  go_enter Try.func41, Try.ntmps41
  go_wp2
  go_ret2
  exact ⟨rfl, Below.refl _ _⟩
theorem longWForm (b off c : Nat) (l : List B8) (w : World) (hl : l.length = 17) (hr : Rd w (some ⟨b, off, none⟩) l) (h : l.getD 0 0 ≠ 63 ∨ l.getD 16 0 &&& 1#8 ≠ 1#8) :
    Calls Try.prog 41 #[.slice (some ⟨b, off, none⟩) 17 c] w fun e w' => e = .returned (.tuple #[.slice none 0 0, .int .i64 24]) ∧ Below w.heap.size w w' := by
  have c0 : w.cell? ⟨b, off, none⟩ = some (.int .u8 (l.getD 0 0).toNat) := Rd.at hr 0 (by omega)
  have c16 : w.cell? ⟨b, off + 16, none⟩ = some (.int .u8 (l.getD 16 0).toNat) := Rd.at hr 16 (by omega)
  clear hr
  generalize l.getD 0 0 = y0 at *
  generalize l.getD 16 0 = y6 at *
  have h0 := y0.isLt
  have h6 := y6.isLt
  by_cases h1 : y0 = 63
  · have q1 : (y0.toNat : Int) = 63 := by rw [h1]; rfl
    have q2 := last y6 true (by simp [h1] at h; simp [h])
    clear h h1
    go_enter Try.func41, Try.ntmps41
    go_wp2
    go_ret2
    exact ⟨rfl, Below.refl _ _⟩
  · have q1 : ¬ ((y0.toNat : Int) = 63) := fun e => h1 (BitVec.eq_of_toNat_eq (by
      have : (63 : B8).toNat = 63 := rfl
      omega))
    clear h h1
    go_enter Try.func41, Try.ntmps41
    go_wp2
    go_ret2
    exact ⟨rfl, Below.refl _ _⟩

set_option maxRecDepth 100000 in
theorem longWGood (b off c : Nat) (l : List B8) (w : World) (hl : l.length = 17) (hc : 17 ≤ c) (hr : Rd w (some ⟨b, off, none⟩) l) (hg : b < w.heap.size) (h1 : l.getD 0 0 = 63) (h2 : l.getD 16 0 &&& 1#8 = 1#8) :
    Calls Try.prog 41 #[.slice (some ⟨b, off, none⟩) 17 c] w fun e w' => Told w.heap.size w e w' (backOf (l.drop 1), 0) := by
  have c0 : w.cell? ⟨b, off, none⟩ = some (.int .u8 63) := by
    have : w.cell? ⟨b, off, none⟩ = some (.int .u8 (l.getD 0 0).toNat) := Rd.at hr 0 (by omega)
    rw [this, h1]; rfl
  obtain ⟨m, hm⟩ : ∃ m, m = l.drop 1 := ⟨_, rfl⟩
  have hml : m.length = 16 := by rw [hm]; simp; omega
  obtain ⟨v, hv⟩ : ∃ v, v = l.getD 16 0 := ⟨_, rfl⟩
  have c16 : w.cell? ⟨b, off + 16, none⟩ = some (.int .u8 v.toNat) := by rw [hv]; exact Rd.at hr 16 (by omega)
  rw [← hv] at h2
  have q := last v false (by simp [h2])
  have hv8 := v.isLt
  have hlm : l = 63#8 :: m := by
    rw [hm]
    match l, hl, h1 with
    | x :: t, _, h1 => simp at h1; simp [h1]
  have HT : Hid (∀ w', Below w.heap.size w w' → Rd w' (some ⟨b, off + 1, none⟩) m) := Lib.hid fun w' hb' => by
    have h1 := Rd.below hr hb' (fun x _ hx => by injection hx with hx; subst hx; exact hg)
    rw [hlm] at h1
    exact Rd.tail h1
  have hm15 : m.getD 15 0 = v := by rw [hm, hv]; simp
  have HM15 := Lib.hid hm15
  have HBK : Hid (m.set 15 (v &&& 254#8) = backOf m) := Lib.hid (by unfold backOf; rw [hm15])
  have HML := Lib.hid hml
  have hn := andNot1 v
  have hb1 := (Below.refl w.heap.size w).alloc (Nat.le_refl _) (.cells #[] 5)
  have HO := Lib.hid (Own.made w w.heap.size (Nat.le_refl _) #[] 0 [] rfl (Nat.zero_le _) rfl)
  rw [← hm]
  clear hr hv hm hml hm15 hlm h1 h2 hl
  go_enter Try.func41, Try.ntmps41
  go_wp2_with (first
    | (at_builtin
       refine wpList_app rfl (.tmp 24) (.tmp 26) rfl w.heap.size (.slice (some ⟨w.heap.size, 0, none⟩) 0 0) [] rfl HO.out (some ⟨b, off + 1, none⟩) m 16 16 rfl HML.out (HT.out _ hb1) m 16 rfl HML.out (by omega) hb1.size ?_
       intro a5 c5 w5 hv5 hr5 hg5 hn5
       have HB5 := Lib.hid (hb1.grown hg5 hb1.size (HO.out.blocks · · |>.1))
       obtain ⟨g5, o5, e5, _⟩ := (Own.rd hv5).1.2 0 (by rw [HML.out]; omega)
       subst e5
       have ho : o5 = 0 := by
         obtain ⟨a2, c2, e, _, _, _, hz, _⟩ := hv5.shape
         injection e with e1
         have := hz _ (e1.symm.trans rfl)
         injection this
       subst ho
       have hge : w.heap.size ≤ g5 := (hn5 _ rfl).1
       have hlt5 : g5 < w5.heap.size := (hn5 _ rfl).2
       have c15 : w5.cell? ⟨g5, 15, none⟩ = some (.int .u8 v.toNat) := by
         have := Rd.at (Own.rd hv5).1 15 (by rw [HML.out]; omega)
         rw [Nat.zero_add, HM15.out] at this
         exact this
       have z15 := Own.free hv5 15
       have HP := Lib.hid (Own.put hv5 15 (by rw [HML.out]; omega) (v &&& 254#8))
       clear hv5 hr5 hg5 hn5))
  go_ret2
  rw [← HBK.out]
  refine ⟨_, _, _, rfl, by simp [HML.out], ?_, fun x _ hx => ?_, HB5.out.setCell hge _⟩
  · rw [show v.toNat &&& 254 = (v &&& 254#8).toNat by rw [BitVec.toNat_and]; rfl]
    exact (Own.rd HP.out).1
  · injection hx with hx; subst hx; simpa using hlt5

theorem longW (a : Option Addr) (l : List B8) (n c : Nat) (w : World) (hn : l.length = n) (hc : n ≤ c) (hr : Rd w a l) (ha : ∀ x, 0 < l.length → a = some x → x.block < w.heap.size) :
    Calls Try.prog 41 #[.slice a n c] w fun e w' => Told w.heap.size w e w' (rl l) := by
  subst hn
  unfold rl
  by_cases h1 : l.length < 17
  · rw [if_pos h1]
    exact (longWShort a _ c w h1).mono fun e w' h => h.1 ▸ Told.none _ _ _ _ rfl _ h.2
  rw [if_neg h1]
  by_cases h2 : 17 < l.length
  · rw [if_pos (Or.inl h2)]
    exact (longWLarge a _ c w h2).mono fun e w' h => h.1 ▸ Told.none _ _ _ _ rfl _ h.2
  have h17 : l.length = 17 := by omega
  obtain ⟨b, off, rfl, _⟩ := hr.2 0 (by omega)
  by_cases h3 : l.getD 0 0 ≠ 63 ∨ l.getD 16 0 &&& 1#8 ≠ 1#8
  · rw [if_pos (Or.inr h3), h17]
    exact (longWForm b off c l w h17 hr h3).mono fun e w' h => h.1 ▸ Told.none _ _ _ _ rfl _ h.2
  · rw [if_neg (by rintro (h | h); exact h2 h; exact h3 h), h17]
    rw [not_or, Classical.not_not, Classical.not_not] at h3
    exact longWGood b off c l w h17 (by omega) hr (ha _ (by omega) rfl) h3.1 h3.2

theorem longRShort (a : Option Addr) (n c : Nat) (w : World) (h : n < 17) :
    Calls Try.prog 42 #[.slice a n c] w fun e w' => e = .returned (.tuple #[.slice none 0 0, .int .i64 23]) ∧ Below w.heap.size w w' := by
  have h' : (n : Int) < 17 := by omega
  go_enter Try.func42, Try.ntmps42
  go_wp2
  go_ret2
  exact ⟨rfl, Below.refl _ _⟩
theorem longRLarge (a : Option Addr) (n c : Nat) (w : World) (h : 17 < n) :
    Calls Try.prog 42 #[.slice a n c] w fun e w' => e = .returned (.tuple #[.slice none 0 0, .int .i64 24]) ∧ Below w.heap.size w w' := by
  have h' : ¬ ((n : Int) < 17) := by omega
  have h2 : (17 : Int) < (n : Int) := by omega
  go_enter Try.func42, Try.ntmps42
  go_wp2
  go_ret2
  exact ⟨rfl, Below.refl _ _⟩
theorem longRForm (b off c : Nat) (l : List B8) (w : World) (hl : l.length = 17) (hr : Rd w (some ⟨b, off, none⟩) l) (h : l.getD 0 0 ≠ 63 ∨ l.getD 16 0 &&& 1#8 ≠ 1#8) :
    Calls Try.prog 42 #[.slice (some ⟨b, off, none⟩) 17 c] w fun e w' => e = .returned (.tuple #[.slice none 0 0, .int .i64 24]) ∧ Below w.heap.size w w' := by
  have c0 : w.cell? ⟨b, off, none⟩ = some (.int .u8 (l.getD 0 0).toNat) := Rd.at hr 0 (by omega)
  have c16 : w.cell? ⟨b, off + 16, none⟩ = some (.int .u8 (l.getD 16 0).toNat) := Rd.at hr 16 (by omega)
  clear hr
  generalize l.getD 0 0 = y0 at *
  generalize l.getD 16 0 = y6 at *
  have h0 := y0.isLt
  have h6 := y6.isLt
  by_cases h1 : y0 = 63
  · have q1 : (y0.toNat : Int) = 63 := by rw [h1]; rfl
    have q2 := last y6 true (by simp [h1] at h; simp [h])
    clear h h1
    go_enter Try.func42, Try.ntmps42
    go_wp2
    go_ret2
    exact ⟨rfl, Below.refl _ _⟩
  · have q1 : ¬ ((y0.toNat : Int) = 63) := fun e => h1 (BitVec.eq_of_toNat_eq (by
      have : (63 : B8).toNat = 63 := rfl
      omega))
    clear h h1
    go_enter Try.func42, Try.ntmps42
    go_wp2
    go_ret2
    exact ⟨rfl, Below.refl _ _⟩

set_option maxRecDepth 100000 in
theorem longRGood (b off c : Nat) (l : List B8) (w : World) (hl : l.length = 17) (hc : 17 ≤ c) (hr : Rd w (some ⟨b, off, none⟩) l) (hg : b < w.heap.size) (h1 : l.getD 0 0 = 63) (h2 : l.getD 16 0 &&& 1#8 = 1#8) :
    Calls Try.prog 42 #[.slice (some ⟨b, off, none⟩) 17 c] w fun e w' => Told w.heap.size w e w' (backOf (l.drop 1), 0) := by
  have c0 : w.cell? ⟨b, off, none⟩ = some (.int .u8 63) := by
    have : w.cell? ⟨b, off, none⟩ = some (.int .u8 (l.getD 0 0).toNat) := Rd.at hr 0 (by omega)
    rw [this, h1]; rfl
  obtain ⟨m, hm⟩ : ∃ m, m = l.drop 1 := ⟨_, rfl⟩
  have hml : m.length = 16 := by rw [hm]; simp; omega
  obtain ⟨v, hv⟩ : ∃ v, v = l.getD 16 0 := ⟨_, rfl⟩
  have c16 : w.cell? ⟨b, off + 16, none⟩ = some (.int .u8 v.toNat) := by rw [hv]; exact Rd.at hr 16 (by omega)
  rw [← hv] at h2
  have q := last v false (by simp [h2])
  have hv8 := v.isLt
  have hlm : l = 63#8 :: m := by
    rw [hm]
    match l, hl, h1 with
    | x :: t, _, h1 => simp at h1; simp [h1]
  have HT : Hid (∀ w', Below w.heap.size w w' → Rd w' (some ⟨b, off + 1, none⟩) m) := Lib.hid fun w' hb' => by
    have h1 := Rd.below hr hb' (fun x _ hx => by injection hx with hx; subst hx; exact hg)
    rw [hlm] at h1
    exact Rd.tail h1
  have hm15 : m.getD 15 0 = v := by rw [hm, hv]; simp
  have HM15 := Lib.hid hm15
  have HBK : Hid (m.set 15 (v &&& 254#8) = backOf m) := Lib.hid (by unfold backOf; rw [hm15])
  have HML := Lib.hid hml
  have hn := andNot1 v
  have hb1 := (Below.refl w.heap.size w).alloc (Nat.le_refl _) (.cells #[] 5)
  have HO := Lib.hid (Own.made w w.heap.size (Nat.le_refl _) #[] 0 [] rfl (Nat.zero_le _) rfl)
  rw [← hm]
  clear hr hv hm hml hm15 hlm h1 h2 hl
  go_enter Try.func42, Try.ntmps42
  go_wp2_with (first
    | (at_builtin
       refine wpList_app rfl (.tmp 24) (.tmp 26) rfl w.heap.size (.slice (some ⟨w.heap.size, 0, none⟩) 0 0) [] rfl HO.out (some ⟨b, off + 1, none⟩) m 16 (c - 1) rfl HML.out (HT.out _ hb1) m 16 rfl HML.out (by omega) hb1.size ?_
       intro a5 c5 w5 hv5 hr5 hg5 hn5
       have HB5 := Lib.hid (hb1.grown hg5 hb1.size (HO.out.blocks · · |>.1))
       obtain ⟨g5, o5, e5, _⟩ := (Own.rd hv5).1.2 0 (by rw [HML.out]; omega)
       subst e5
       have ho : o5 = 0 := by
         obtain ⟨a2, c2, e, _, _, _, hz, _⟩ := hv5.shape
         injection e with e1
         have := hz _ (e1.symm.trans rfl)
         injection this
       subst ho
       have hge : w.heap.size ≤ g5 := (hn5 _ rfl).1
       have hlt5 : g5 < w5.heap.size := (hn5 _ rfl).2
       have c15 : w5.cell? ⟨g5, 15, none⟩ = some (.int .u8 v.toNat) := by
         have := Rd.at (Own.rd hv5).1 15 (by rw [HML.out]; omega)
         rw [Nat.zero_add, HM15.out] at this
         exact this
       have z15 := Own.free hv5 15
       have HP := Lib.hid (Own.put hv5 15 (by rw [HML.out]; omega) (v &&& 254#8))
       clear hv5 hr5 hg5 hn5))
  go_ret2
  rw [← HBK.out]
  refine ⟨_, _, _, rfl, by simp [HML.out], ?_, fun x _ hx => ?_, HB5.out.setCell hge _⟩
  · rw [show v.toNat &&& 254 = (v &&& 254#8).toNat by rw [BitVec.toNat_and]; rfl]
    exact (Own.rd HP.out).1
  · injection hx with hx; subst hx; simpa using hlt5

theorem longR (a : Option Addr) (l : List B8) (n c : Nat) (w : World) (hn : l.length = n) (hc : n ≤ c) (hr : Rd w a l) (ha : ∀ x, 0 < l.length → a = some x → x.block < w.heap.size) :
    Calls Try.prog 42 #[.slice a n c] w fun e w' => Told w.heap.size w e w' (rl l) := by
  subst hn
  unfold rl
  by_cases h1 : l.length < 17
  · rw [if_pos h1]
    exact (longRShort a _ c w h1).mono fun e w' h => h.1 ▸ Told.none _ _ _ _ rfl _ h.2
  rw [if_neg h1]
  by_cases h2 : 17 < l.length
  · rw [if_pos (Or.inl h2)]
    exact (longRLarge a _ c w h2).mono fun e w' h => h.1 ▸ Told.none _ _ _ _ rfl _ h.2
  have h17 : l.length = 17 := by omega
  obtain ⟨b, off, rfl, _⟩ := hr.2 0 (by omega)
  by_cases h3 : l.getD 0 0 ≠ 63 ∨ l.getD 16 0 &&& 1#8 ≠ 1#8
  · rw [if_pos (Or.inr h3), h17]
    exact (longRForm b off c l w h17 hr h3).mono fun e w' h => h.1 ▸ Told.none _ _ _ _ rfl _ h.2
  · rw [if_neg (by rintro (h | h); exact h2 h; exact h3 h), h17]
    rw [not_or, Classical.not_not, Classical.not_not] at h3
    exact longRGood b off c l w h17 (by omega) hr (ha _ (by omega) rfl) h3.1 h3.2
end Go.Proofs.Ytbnjijlpbeplmaa.FrK
