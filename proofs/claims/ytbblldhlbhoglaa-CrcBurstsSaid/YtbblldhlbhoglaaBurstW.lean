/- The walk of the law on bursts. -/
import Derived.Test.YtbblldhlbhoglaaTurnW
import Derived.Test.YtbblldhlbhoglaaMixW
import Derived.Test.YtbblldhlbhoglaaEndsW
import Derived.Test.YtbblldhlbhoglaaCrcQ
import Derived.Laws.BytesArg
namespace Go.Proofs.Ytbblldhlbhoglaa.BurstW
open Go.ChangeShapes Go.WideShapes Go.ChangeAt Go.RowKit
open Go.ChangeMaps (open_string shut_string)
open CrcM CrcA CrcK CrcP CrcL CrcQ TurnW MixW EndsW
set_option linter.unusedVariables false
set_option maxHeartbeats 1000000

theorem turnedNeg (a : Option Addr) (l : List B8) (n c p : Nat) (z N : Int) (w : World) (hln : l.length = n) (hr : Rd w a l) (ha : ∀ x, 0 < l.length → a = some x → x.block < w.heap.size) (h1 : n ≤ 5000) (hz : z < 0) :
    Calls Try.prog 17 #[.slice a n c, .int .i64 z, .int .u32 p, .int .i64 N] w fun e w' => ∃ a' c', e = .returned (.slice a' n c') ∧ Rd w' a' l ∧ (∀ x, a' = some x → w.heap.size ≤ x.block ∧ x.block < w'.heap.size) ∧ n ≤ c' ∧ Below w.heap.size w w' := by
  have hb2 := (Below.refl w.heap.size w).alloc (Nat.le_refl _) (.cells #[] 5)
  have HO := Lib.hid (Own.made w w.heap.size (Nat.le_refl _) #[] 0 [] rfl (Nat.zero_le _) rfl)
  have HR : Hid (∀ w', Below w.heap.size w w' → Rd w' a l) := Lib.hid fun w' hb => Rd.below hr hb ha
  have HL := Lib.hid hln
  clear hr hln ha
  go_enter Try.func17, Try.ntmps17
  go_wp2_with (at_builtin
               refine wpList_app rfl (.tmp 11) (.tmp 12) rfl w.heap.size (.slice (some ⟨w.heap.size, 0, none⟩) 0 0) [] rfl HO.out a l n c rfl HL.out (HR.out _ hb2) l n rfl HL.out (by omega) hb2.size ?_
               intro a1 c1 w2 hv1 hr1 hg1 hn1
               have hb3 := hb2.grown hg1 hb2.size (HO.out.blocks · · |>.1)
               have HV := Lib.hid hv1
               have HN1 := Lib.hid hn1
               have HR1 := Lib.hid hr1
               clear hr1 hg1 hv1 hn1)
  go_ret
  exact ⟨a1, c1, rfl, HR1.out, HN1.out, (Own.rd HV.out).2.2.1, hb3⟩

def Turns (l : List B8) (z : Int) (p N : Nat) (y : List B8) : Prop := ∃ bit k, y = turn l bit p k ∧ k ≤ N ∧ bit + k ≤ 8 * l.length ∧ (k = 0 ∧ bit = 0 ∨ (bit : Int) = z)

theorem turnedAny (a : Option Addr) (l : List B8) (n c p N : Nat) (z : Int) (w : World) (hln : l.length = n) (hr : Rd w a l) (ha : ∀ x, 0 < l.length → a = some x → x.block < w.heap.size) (h1 : n ≤ 5000) (hz : z ≤ 9223372036854775807)
    (hp : p < 4294967296) (hN : N ≤ 16) :
    Calls Try.prog 17 #[.slice a n c, .int .i64 z, .int .u32 p, .int .i64 N] w fun e w' => ∃ a' c' y, e = .returned (.slice a' n c') ∧ Turns l z p N y ∧ Rd w' a' y ∧ (∀ x, a' = some x → w.heap.size ≤ x.block ∧ x.block < w'.heap.size) ∧ n ≤ c' ∧ Below w.heap.size w w' := by
  by_cases h : z < 0
  · refine Calls.mono (turnedNeg a l n c p z N w hln hr ha h1 h) ?_
    rintro e w' ⟨a', c', he, h2, h3, h4, h5⟩
    exact ⟨a', c', l, he, ⟨0, 0, rfl, by omega, by omega, .inl ⟨rfl, rfl⟩⟩, h2, h3, h4, h5⟩
  · obtain ⟨bit, rfl⟩ := Int.eq_ofNat_of_zero_le (by omega : 0 ≤ z)
    refine Calls.mono (turned a l n c bit p N w hln hr ha h1 (by omega) hp hN) ?_
    rintro e w' ⟨a', c', he, h2, h3, h4, h5⟩
    by_cases hb : bit ≤ 8 * n
    · exact ⟨a', c', _, he, ⟨bit, min N (8 * n - bit), rfl, by omega, by omega, .inr rfl⟩, h2, h3, h4, h5⟩
    · rw [show min N (8 * n - bit) = 0 by omega] at h2
      exact ⟨a', c', l, he, ⟨0, 0, rfl, by omega, by omega, .inl ⟨rfl, rfl⟩⟩, h2, h3, h4, h5⟩
theorem turned16 (a : Option Addr) (l : List B8) (n c p : Nat) (z : Int) (w : World) (hln : l.length = n) (hr : Rd w a l) (ha : ∀ x, 0 < l.length → a = some x → x.block < w.heap.size) (h1 : n ≤ 5000) (hz : z ≤ 9223372036854775807)
    (hp : p < 4294967296) :
    Calls Try.prog 17 #[.slice a n c, .int .i64 z, .int .u32 p, .int .i64 16] w fun e w' => ∃ a' c' y, e = .returned (.slice a' n c') ∧ Turns l z p 16 y ∧ Rd w' a' y ∧ (∀ x, a' = some x → w.heap.size ≤ x.block ∧ x.block < w'.heap.size) ∧ n ≤ c' ∧ Below w.heap.size w w' :=
  turnedAny a l n c p 16 z w hln hr ha h1 hz hp (by omega)
theorem turned7 (a : Option Addr) (l : List B8) (n c p : Nat) (z : Int) (w : World) (hln : l.length = n) (hr : Rd w a l) (ha : ∀ x, 0 < l.length → a = some x → x.block < w.heap.size) (h1 : n ≤ 5000) (hz : z ≤ 9223372036854775807)
    (hp : p < 4294967296) :
    Calls Try.prog 17 #[.slice a n c, .int .i64 z, .int .u32 p, .int .i64 7] w fun e w' => ∃ a' c' y, e = .returned (.slice a' n c') ∧ Turns l z p 7 y ∧ Rd w' a' y ∧ (∀ x, a' = some x → w.heap.size ≤ x.block ∧ x.block < w'.heap.size) ∧ n ≤ c' ∧ Below w.heap.size w w' :=
  turnedAny a l n c p 7 z w hln hr ha h1 hz hp (by omega)

def strB (l : List B8) : ByteArray := strOfNums (l.map fun x => (x.toNat : Int))
theorem strB_inj (a b : List B8) (h : strB a = strB b) : a = b := by
  have h1 := congrArg (fun s : ByteArray => s.data.toList) h
  simp only [strB, strOfNums_data, List.map_map] at h1
  refine (List.map_inj_right ?_).1 h1
  intro x y hxy
  apply BitVec.eq_of_toNat_eq
  have := congrArg UInt8.toNat hxy
  have hx := x.isLt
  have hy := y.isLt
  simp at this
  omega

theorem conv (w : World) (a : Option Addr) (l : List B8) (n c : Nat) (hn : l.length = n) (hr : Rd w a l) : (convert 24 9 (.slice a n c)).run Try.prog w = .ok (.string (strB l)) w := by
  subst hn
  have key : ∀ b off, a = some ⟨b, off, none⟩ → (∀ i, i < l.length → w.cell? ⟨b, off + i, none⟩ = some (.int .u8 (l.getD i 0).toNat)) → (convert 24 9 (.slice a l.length c)).run Try.prog w = .ok (.string (strB l)) w := by
    intro b off e hc
    subst e
    refine run_convert_bytes_arg w 24 5 Try.underlying24 Try.underlying5 b off l.length c (l.map fun x => (x.toNat : Int)) (by simp) (fun i hi => ?_) 9 Try.underlying9
    rw [hc i hi]; simp [hi]
  rcases hr.cells with rfl | ⟨b, off, e, hc⟩
  · cases a with
    | none => exact run_convert_bytes_nil w 24 5 Try.underlying24 Try.underlying5 0 c 9 Try.underlying9
    | some ad =>
      show (convert 24 9 (.slice (some ad) 0 c)).run Try.prog w = _
      rw [run_convert_bytes_string w 24 9 5 _ 0 c Try.underlying24 Try.underlying5 Try.underlying9]
      rw [run_bytesToString w ad 0 c [] (by simp [loadCells, loadCellsFrom])]
      rfl
  · exact key b off e hc

theorem early (a : Option Addr) (n c : Nat) (z : Int) (p : Int) (w : World) (hn : n ≤ maxLen) (h : 4096 < n) :
    Calls Try.prog 5 #[.slice a n c, .int .i64 z, .int .u32 p] w fun e w' => e = .returned (.bool true) ∧ Below w.heap.size w w' := by
  unfold maxLen at hn
  have he : decide ((4096 : Int) < (n : Int)) = true := by simp; omega
  go_enter Try.func5, Try.ntmps5
  go_wp2_with (go_at_call 8; refine (known_any _).mono ?_; rintro e w' ⟨rfl, hb⟩)
  go_ret
  exact ⟨rfl, hb⟩

theorem join (y0 y1 : B8) : bits .or .u16 ((y0.toNat : Int) * 256) (y1.toNat : Int) = ((y0 ++ y1 : BitVec 16).toNat : Int) := by
  have h0 := y0.isLt
  have h1 := y1.isLt
  rw [show ((y0.toNat : Int) * 256) = ((y0.toNat * 256 : Nat) : Int) by omega, u16_or_nat _ _ (by omega) (by omega), BitVec.toNat_append, Nat.shiftLeft_eq]

/-- Two numbers of one width are the same, or not. -/
theorem test {k : Nat} (a b : BitVec k) (B : Bool) (h : a = b ↔ B = true) : (((a.toNat : Int)) == (b.toNat : Int)) = B := by
  cases B with
  | true => rw [h.2 rfl]; simp
  | false =>
    have : ¬ a = b := by simpa using h
    rw [beq_eq_false_iff_ne]
    intro e
    exact this (BitVec.eq_of_toNat_eq (by omega))
theorem testS (x y : List B8) (B : Bool) (h : x = y ↔ B = true) : ((strB x).toList == (strB y).toList) = B := by
  cases B with
  | true => rw [h.2 rfl]; simp
  | false =>
    have : ¬ x = y := by simpa using h
    rw [beq_eq_false_iff_ne]
    intro e
    refine this (strB_inj _ _ ?_)
    have h2 : (strB x).data.toList = (strB y).data.toList := by rw [← ByteArray.toList_eq, ← ByteArray.toList_eq]; exact e
    have h3 := Array.toList_inj.1 h2
    show (⟨(strB x).data⟩ : ByteArray) = ⟨(strB y).data⟩
    rw [h3]

set_option maxRecDepth 100000 in
theorem late (a : Option Addr) (l : List B8) (n c p : Nat) (z : Int) (w : World) (hln : l.length = n) (hr : Rd w a l) (ha : ∀ x, 0 < l.length → a = some x → x.block < w.heap.size) (h1 : n ≤ 4096) (hz : z ≤ 9223372036854775807) (hz' : -9223372036854775808 ≤ z) (hp : p < 4294967296) :
    Calls Try.prog 5 #[.slice a n c, .int .i64 z, .int .u32 p] w fun e w' => e = .returned (.bool true) ∧ Below w.heap.size w w' := by
  have he : decide ((4096 : Int) < (n : Int)) = false := by simp; omega
  have HR : Hid (∀ w', Below w.heap.size w w' → Rd w' a l) := Lib.hid fun w' hb => Rd.below hr hb ha
  have HL := Lib.hid hln
  clear hr hln ha
  go_enter Try.func5, Try.ntmps5
  go_wp2_with fail
  refine Calls.mono (known_any _) ?_
  rintro e w1 ⟨rfl, hb1⟩
  go_wp2_with fail
  refine Calls.mono (sixteen' _ l _ _ _ HL.out (HR.out _ hb1)) ?_
  rintro e w' ⟨rfl, rfl⟩
  have hb2 := hb1.alloc hb1.size (.cells #[] 5)
  have HO := Lib.hid (Own.made w1 w.heap.size hb1.size #[] 0 [] rfl (Nat.zero_le _) rfl)
  obtain ⟨x, hx⟩ : ∃ x, x = l ++ [((sum16 l) >>> 8).setWidth 8, (sum16 l).setWidth 8] := ⟨_, rfl⟩
  have HX := Lib.hid hx
  have HXL : Hid (x.length = n + 2) := Lib.hid (by rw [hx]; simp [HL.out])
  clear hx
  go_wp2_with (first
    | (at_builtin
       refine wpList_app rfl (.tmp 20) (.tmp 21) rfl w.heap.size (.slice (some ⟨w1.heap.size, 0, none⟩) 0 0) [] rfl HO.out a l n c rfl HL.out (HR.out _ hb2) l n rfl HL.out (by omega) hb2.size ?_
       intro a1 c1 w2 hv1 hr1 hg1 hn1
       clear hr1 hn1
       have hb3 := hb2.grown hg1 hb2.size (HO.out.blocks · · |>.1)
       have HV1 := Lib.hid hv1
       clear hv1 hg1)
    | (at_builtin
       refine wpList_app rfl (.tmp 22) (.tmp 28) rfl w.heap.size (.slice a1 n c1) l rfl (HV1.out.alloc _) _ [((sum16 l) >>> 8).setWidth 8, (sum16 l).setWidth 8] 2 _ rfl rfl (two w2 _ _ _ _ _ rfl (u8_high _) (u8_low _)) x (n + 2) HX.out.symm HXL.out (by omega) (by have := hb3.size; simp; omega) ?_
       intro a2 c2 w3 hv2 hr2 hg2 hn2
       have hb4 := (hb3.alloc hb3.size _).grown hg2 (by have := hb3.size; simp; omega) (HV1.out.blocks · · |>.1)
       have HR2 := Lib.hid hr2
       have HV2 := Lib.hid hv2
       have HN2 := Lib.hid hn2
       clear hv2 hr2 hg2 hn2))
  refine Calls.mono (turned16 a2 x _ _ p z _ HXL.out HR2.out (fun x' _ hx' => (HN2.out x' hx').2) (by omega) hz hp) ?_
  rintro e w4 ⟨a3, c3, y, rfl, hT, hr3, hn3, hc3, hb5⟩
  have hb6 := hb4.trans (hb5.mono hb4.size)
  have HR2' := Lib.hid (Rd.below HR2.out hb5 (fun x' _ hx' => (HN2.out x' hx').2))
  have hly : y.length = n + 2 := by
    obtain ⟨bit, k, rfl, _⟩ := hT
    rw [turn_length, HXL.out]
  obtain ⟨B, hB⟩ : ∃ B, B = decide (x = y) := ⟨_, rfl⟩
  obtain ⟨y0, hy0⟩ : ∃ y0, y0 = y.getD n 0 := ⟨_, rfl⟩
  obtain ⟨y1, hy1⟩ : ∃ y1, y1 = y.getD (n + 1) 0 := ⟨_, rfl⟩
  have hA := test (sum16 (y.take n)) (y0 ++ y1 : BitVec 16) B (by
    obtain ⟨bit, k, hyt, hk, hbk, _⟩ := hT
    rw [hy0, hy1, burst16 l n bit p k HL.out hk x y HX.out (by rw [HXL.out] at hbk; exact hbk) hyt, hB]; simp)
  have hS := testS x y B (by rw [hB]; simp)
  have hJ := join y0 y1
  obtain ⟨b3, off, e3, hcell0⟩ := hr3.2 n (by omega)
  obtain ⟨b3', off', e3', hcell1⟩ := hr3.2 (n + 1) (by omega)
  rw [e3] at e3'
  injection e3' with e3'
  injection e3' with i1 i2
  subst i1 i2 e3
  rw [← hy0] at hcell0
  rw [← hy1] at hcell1
  have HC2 := Lib.hid (fun j => conv (w4.drewN j) a2 x (n + 2) c2 HXL.out HR2'.out)
  have HC3 := Lib.hid (fun j => conv (w4.drewN j) (some ⟨b3, off, none⟩) y (n + 2) c3 hly hr3)
  have HQ := Lib.hid (Rd.take hr3 n)
  have HQL : Hid ((y.take n).length = n) := Lib.hid (by simp; omega)
  have hlt1 : (n : Int) < (n : Int) + 2 := by omega
  have hlt2 : (n : Int) + 1 < (n : Int) + 2 := by omega
  have hle : (n : Int) ≤ (c3 : Int) := by omega
  have HT := Lib.hid hT
  have HN3 := Lib.hid hn3
  have HB := Lib.hid hB
  have HY := Lib.hid hly
  clear hT hr3 hB hy0 hy1 hly
  have k2 := HC2.out
  have k3 := HC3.out
  go_wp2_with fail
  go_quiet ((go_at_call 13; exact q16 HQ.out HQL.out))
  clear k2 k3 hA hS hJ hcell0 hcell1
  have hb7 := MixW.Below.drewN' hb6 nq
  have hb8 := hb7.alloc hb7.size (.cells #[] 5)
  have HO5 := Lib.hid (Own.made (w4.drewN nq) w.heap.size hb7.size #[] 0 [] rfl (Nat.zero_le _) rfl)
  obtain ⟨v, hv⟩ : ∃ v, v = l ++ [sum7 l <<< 1] := ⟨_, rfl⟩
  have HV := Lib.hid hv
  have HVL : Hid (v.length = n + 1) := Lib.hid (by rw [hv]; simp [HL.out])
  clear hv
  have h7 : ((sum7 l).toNat : Int) < 128 := by have := sum7_lt l; omega
  have H7 : Hid (((sum7 l).toNat : Int) * 2 = ((sum7 l <<< 1).toNat : Int)) := Lib.hid (by
    simp [BitVec.toNat_shiftLeft, Nat.shiftLeft_eq]; omega)
  go_wp2_with (first
    | (at_builtin
       refine wpList_app rfl (.tmp 60) (.tmp 61) rfl w.heap.size (.slice (some ⟨w4.heap.size, 0, none⟩) 0 0) [] rfl HO5.out a l n c rfl HL.out (HR.out _ hb8) l n rfl HL.out (by omega) hb8.size ?_
       intro a5 c5 w6 hv5 hr5 hg5 hn5
       clear hr5 hn5
       have hb9 := hb8.grown hg5 hb8.size (HO5.out.blocks · · |>.1)
       have HV5 := Lib.hid hv5
       clear hv5 hg5))
  refine Calls.mono (seven' a l _ _ _ HL.out (HR.out _ hb9)) ?_
  rintro e w' ⟨rfl, rfl⟩
  go_wp2_with (first
    | (at_builtin
       refine wpList_app rfl (.tmp 62) (.tmp 66) rfl w.heap.size (.slice a5 n c5) l rfl (HV5.out.alloc _) _ [sum7 l <<< 1] 1 _ rfl rfl (one w6 _ _ _ rfl H7.out) v (n + 1) HV.out.symm HVL.out (by omega) (by have := hb9.size; simp; omega) ?_
       intro a6 c6 w7 hv6 hr6 hg6 hn6
       have hb10 := (hb9.alloc hb9.size _).grown hg6 (by have := hb9.size; simp; omega) (HV5.out.blocks · · |>.1)
       have HR6 := Lib.hid hr6
       have HN6 := Lib.hid hn6
       have hc6 := (Own.rd hv6).2.2.1
       clear hv6 hr6 hg6 hn6))
  refine Calls.mono (turned7 a6 v _ _ p z _ HVL.out HR6.out (fun x' _ hx' => (HN6.out x' hx').2) (by omega) hz hp) ?_
  rintro e w8 ⟨a7, c7, u, rfl, hU, hr7, hn7, hc7, hb11⟩
  have hb12 := hb10.trans (hb11.mono hb10.size)
  have HR6' := Lib.hid (Rd.below HR6.out hb11 (fun x' _ hx' => (HN6.out x' hx').2))
  have HU := Lib.hid hU
  clear hU hn7
  by_cases hfar : 8 * (n : Int) < z
  · have hd : decide (8 * ((n : Int) + 1) - 8 < z) = true := by simp; omega
    clear hr7 hb11
    go_wp2
    go_ret
    exact ⟨rfl, hb12⟩
  · have hd : decide (8 * ((n : Int) + 1) - 8 < z) = false := by simp; omega
    clear hb11
    have hlu : u.length = n + 1 := by
      obtain ⟨bit, k, rfl, _⟩ := HU.out
      rw [turn_length, HVL.out]
    obtain ⟨u0, hu0⟩ : ∃ u0, u0 = u.getD n 0 := ⟨_, rfl⟩
    obtain ⟨v0, hv0⟩ : ∃ v0, v0 = v.getD n 0 := ⟨_, rfl⟩
    obtain ⟨B1, hB1⟩ : ∃ B, B = decide (v.take n = u.take n) := ⟨_, rfl⟩
    obtain ⟨B2, hB2⟩ : ∃ B, B = decide (v0 >>> 1 = u0 >>> 1) := ⟨_, rfl⟩
    have g1 := testS (v.take n) (u.take n) B1 (by rw [hB1]; simp)
    have g2 := test (v0 >>> 1) (u0 >>> 1) B2 (by rw [hB2]; simp)
    have g3 := test (sum7 (u.take n)) (u0 >>> 1) (B1 && B2) (by
      obtain ⟨bit, k, hyt, hk, hbk, hbz⟩ := HU.out
      have := HVL.out
      rw [hu0, burst7 l n bit p k HL.out hk v u HV.out (by omega) hyt, hB1, hB2, hu0, hv0]; simp)
    rw [← sr8 v0 1 2 rfl, ← sr8 u0 1 2 rfl] at g2
    rw [← sr8 u0 1 2 rfl] at g3
    obtain ⟨b6, o6, e6, hcv⟩ := HR6'.out.2 n (by rw [HVL.out]; omega)
    obtain ⟨b7, o7, e7, hcu⟩ := hr7.2 n (by omega)
    subst e6 e7
    rw [← hv0] at hcv
    rw [← hu0] at hcu
    have HQ7 := Lib.hid (Rd.take hr7 n)
    have HQL7 : Hid ((u.take n).length = n) := Lib.hid (by simp; omega)
    have k6 := fun j => conv (w8.drewN j) (some ⟨b6, o6, none⟩) (v.take n) n c6 (by have := HVL.out; simp; omega) (Rd.take HR6'.out n)
    have k7 := fun j => conv (w8.drewN j) (some ⟨b7, o7, none⟩) (u.take n) n c7 (by simp; omega) (Rd.take hr7 n)
    have hlt3 : (n : Int) < (n : Int) + 1 := by omega
    have hle6 : (n : Int) ≤ (c6 : Int) := by omega
    have hle7 : (n : Int) ≤ (c7 : Int) := by omega
    clear hr7 hu0 hv0 hB1 hB2 hlu
    cases B1 with
    | true =>
      simp only [Bool.true_and] at g3
      go_wp2_with fail
      go_quiet ((go_at_call 12; exact q7 HQ7.out HQL7.out))
      go_wp2
      go_ret
      exact ⟨rfl, MixW.Below.drewN' hb12 _⟩
    | false =>
      simp only [Bool.false_and] at g3
      go_wp2_with fail
      go_quiet ((go_at_call 12; exact q7 HQ7.out HQL7.out))
      go_wp2
      go_ret
      exact ⟨rfl, MixW.Below.drewN' hb12 _⟩
end Go.Proofs.Ytbblldhlbhoglaa.BurstW
