/- Areas: a setting's bytes, bytes as a setting. -/
import Derived.Test.YtcggghiionlngaaAreX
import Derived.Test.YtcggghiionlngaaAreO
namespace Go.Proofs.Ytcggghiionlngaa.AreY
open Go.ChangeShapes Go.WideShapes Go.ChangeAt Go.RowKit
open Mem AreA AreL AreT AreK AreG AreU AreV AreW AreX AreQ0 AreP
open AreO (knownW)
set_option linter.unusedVariables false
set_option maxHeartbeats 4000000

theorem part24b (s : Stt) (w : World) : (part 24 (sc s) 0).run Try.prog w = .ok (.agg #[.int .i64 s.z0, .int .i64 s.z1, .int .i64 s.z2, .int .i64 s.z3]) w := by kernel_rfl
theorem eqIn37 (f : Nat) (a b : Stt) (w : World) : (Op.equalIn (f + 4) 37 (sv a) (sv b)).run Try.prog w = .ok (decide (a = b)) w := by
  obtain ⟨z0, z1, z2, z3, e, d⟩ := a
  obtain ⟨y0, y1, y2, y3, e', d'⟩ := b
  unfold sv
  rw [run_equalIn_struct w (f + 3) 37 _ _ (by kernel_rfl) (by kernel_rfl)]
  simp only [Program.fieldsOf, Try.underlying37]
  have e1 := eqIn24 (f + 1) z0 z1 z2 z3 y0 y1 y2 y3
  have p1 := part24b ⟨z0, z1, z2, z3, e, d⟩
  have p2 := part24b ⟨y0, y1, y2, y3, e', d'⟩
  have p3 : ∀ w, (part 5 (sc ⟨z0, z1, z2, z3, e, d⟩) 4).run Try.prog w = .ok (.int .u8 e) w := fun w => by kernel_rfl
  have p4 : ∀ w, (part 5 (sc ⟨y0, y1, y2, y3, e', d'⟩) 4).run Try.prog w = .ok (.int .u8 e') w := fun w => by kernel_rfl
  have p5 : ∀ w, (part 4 (sc ⟨z0, z1, z2, z3, e, d⟩) 5).run Try.prog w = .ok (.bool d) w := fun w => by kernel_rfl
  have p6 : ∀ w, (part 4 (sc ⟨y0, y1, y2, y3, e', d'⟩) 5).run Try.prog w = .ok (.bool d') w := fun w => by kernel_rfl
  simp only at p1 p2
  have i1 : ∀ w, (Op.equalIn (f + 3) 5 (.int .u8 e) (.int .u8 e')).run Try.prog w = .ok (e == e') w := fun w => run_equalIn_int (P := Try.prog) w (f + 2) 5 .u8 .u8 e e' Try.underlying5
  have i2 : ∀ w, (Op.equalIn (f + 3) 4 (.bool d) (.bool d')).run Try.prog w = .ok (d == d') w := fun w => run_equalIn_bool (P := Try.prog) w (f + 2) 4 d d' Try.underlying4
  have n1 : ("Sizes" ≠ "_") = True := by decide
  have n2 : ("Enhanced" ≠ "_") = True := by decide
  have n3 : ("Done" ≠ "_") = True := by decide
  simp only [Op.eqFields, n1, n2, n3, if_true, Sem.run_bind, p1, p2, p3, p4, p5, p6, e1, i1, i2, Result.andThen_ok, Sem.run_ite, Sem.run_pure]
  by_cases h1 : z0 = y0 ∧ z1 = y1 ∧ z2 = y2 ∧ z3 = y3
  · rw [decide_eq_true h1]
    obtain ⟨rfl, rfl, rfl, rfl⟩ := h1
    simp
    (repeat' split) <;> simp_all
  · rw [decide_eq_false h1]
    simp
    intro h2 h3 h4 h5
    exact absurd ⟨h2, h3, h4, h5⟩ h1

theorem neq37 (a b : Stt) (w : World) : (binOp .neq 37 (sv a) (sv b)).run Try.prog w = .ok (.bool (decide (a ≠ b))) w := by
  unfold sv
  rw [run_neq_struct, show (10000 : Nat) = 9996 + 4 from rfl]
  have := eqIn37 9996 a b w
  unfold sv at this
  rw [this]
  simp [Result.andThen]
/-- The setting that bytes say, and the error. -/
def dec (l : List Y8) : Stt × Int := if l.length = 18 ∧ (l.getD 17 0).toNat ≤ 1 then (⟨num l 0, num l 1, num l 2, num l 3, ((l.getD 16 0).toNat : Int), ((l.getD 17 0).toNat : Int) == 1⟩, 0) else (zeroS, 24)
theorem four_num (n : Int) : ((bt n).toNat : Int) + ((bt (n / 256)).toNat : Int) * 256 + ((bt (n / 65536)).toNat : Int) * 65536 + ((bt (n / 16777216)).toNat : Int) * 16777216 = n % 4294967296 := by
  rw [bt_int, bt_int, bt_int, bt_int]; omega
theorem dec_enc (s : Stt) (hF : Fine s) : dec (enc s) = (⟨s.z0 % 4294967296, s.z1 % 4294967296, s.z2 % 4294967296, s.z3 % 4294967296, s.e, s.d⟩, 0) := by
  have he : 0 ≤ s.e ∧ s.e ≤ 255 := by simpa [Lit.wf, IntKind.min, IntKind.max, IntKind.signed, IntKind.bits] using hF.2.2.2.2
  have heb : ((bt s.e).toNat : Int) = s.e := by rw [bt_int]; omega
  have h17 : (enc s).getD 17 0 = bd s.d := rfl
  have h16 : (enc s).getD 16 0 = bt s.e := rfl
  unfold dec
  rw [if_pos ⟨rfl, by rw [h17]; unfold bd; split <;> decide⟩, h16, h17, heb]
  have e0 : num (enc s) 0 = s.z0 % 4294967296 := four_num s.z0
  have e1 : num (enc s) 1 = s.z1 % 4294967296 := four_num s.z1
  have e2 : num (enc s) 2 = s.z2 % 4294967296 := four_num s.z2
  have e3 : num (enc s) 3 = s.z3 % 4294967296 := four_num s.z3
  rw [e0, e1, e2, e3]
  have ed : (((bd s.d).toNat : Int) == 1) = s.d := by unfold bd; cases s.d <;> rfl
  rw [ed]
def bad (l : List Y8) (a : Option Addr) (n : Nat) (w : World) : Prop := n ≠ 18 ∨ ∃ b off x, a = some ⟨b, off, none⟩ ∧ n = 18 ∧ w.cell? ⟨b, off + 17, none⟩ = some (.int .u8 x) ∧ 1 < x ∧ b < w.heap.size
theorem decW (a : Option Addr) (l : List Y8) (n c : Nat) (w : World) (hn : l.length = n) (hr : Rd w a l) (ha : ∀ x, 0 < l.length → a = some x → x.block < w.heap.size) :
    Calls Try.prog 18 #[.slice a n c] w fun e w' => e = .returned (.tuple #[.agg (sc (dec l).1), .int .i64 (dec l).2]) ∧ Below w.heap.size w w' := by
  by_cases h : n = 18
  · subst h
    rcases hr.cells with rfl | ⟨b, off, rfl, hc⟩
    · simp at hn
    · by_cases h1 : (l.getD 17 0).toNat ≤ 1
      · rw [show dec l = (⟨num l 0, num l 1, num l 2, num l 3, ((l.getD 16 0).toNat : Int), ((l.getD 17 0).toNat : Int) == 1⟩, 0) from if_pos ⟨hn, h1⟩]
        exact decFull18 b off c l (num l) _ _ w (fun _ _ => rfl) (ha ⟨b, off, none⟩ (by omega) rfl) rfl rfl (by omega) (fun i hi => hc i (by omega))
      · rw [show dec l = (zeroS, 24) from if_neg (fun h => h1 h.2)]
        exact decBad18 _ 18 c w (.inr ⟨b, off, _, rfl, rfl, hc 17 (by omega), by omega, ha ⟨b, off, none⟩ (by omega) rfl⟩)
  · rw [show dec l = (zeroS, 24) from if_neg (fun hh => h (hn.symm.trans hh.1))]
    exact decBad18 a n c w (.inl h)
theorem decR (a : Option Addr) (l : List Y8) (n c : Nat) (w : World) (hn : l.length = n) (hr : Rd w a l) (ha : ∀ x, 0 < l.length → a = some x → x.block < w.heap.size) :
    Calls Try.prog 19 #[.slice a n c] w fun e w' => e = .returned (.tuple #[.agg (sc (dec l).1), .int .i64 (dec l).2]) ∧ Below w.heap.size w w' := by
  by_cases h : n = 18
  · subst h
    rcases hr.cells with rfl | ⟨b, off, rfl, hc⟩
    · simp at hn
    · by_cases h1 : (l.getD 17 0).toNat ≤ 1
      · rw [show dec l = (⟨num l 0, num l 1, num l 2, num l 3, ((l.getD 16 0).toNat : Int), ((l.getD 17 0).toNat : Int) == 1⟩, 0) from if_pos ⟨hn, h1⟩]
        exact decFull19 b off c l (num l) _ _ w (fun _ _ => rfl) (ha ⟨b, off, none⟩ (by omega) rfl) rfl rfl (by omega) (fun i hi => hc i (by omega))
      · rw [show dec l = (zeroS, 24) from if_neg (fun h => h1 h.2)]
        exact decBad19 _ 18 c w (.inr ⟨b, off, _, rfl, rfl, hc 17 (by omega), by omega, ha ⟨b, off, none⟩ (by omega) rfl⟩)
  · rw [show dec l = (zeroS, 24) from if_neg (fun hh => h (hn.symm.trans hh.1))]
    exact decBad19 a n c w (.inl h)

theorem early (s : Stt) (a : Option Addr) (n c : Nat) (w : World) (hn : 500 < n) : Calls Try.prog 4 #[sv s, .slice a n c] w fun e w' => e = .returned (.bool true) ∧ Below w.heap.size w w' := by
  have hgt : (500 : Int) < (n : Int) := by omega
  have Dz : Hid (Below w.heap.size w (w.alloc (.cells (sc s) 26))) := Lib.hid ((Below.refl _ _).alloc (Nat.le_refl _) _)
  show Calls Try.prog 4 #[.agg (sc s), .slice a n c] w _
  go_enter Try.func4, Try.ntmps4
  go_wp2_with fail
  refine (knownW _).mono ?_
  rintro e' w1 ⟨rfl, b1⟩
  have D1 := Lib.hid (Dz.out.trans (b1.mono Dz.out.size))
  clear b1
  go_wp2
  go_ret
  exact ⟨rfl, D1.out⟩

set_option maxRecDepth 100000 in
theorem law (s : Stt) (hF : Fine s) (a : Option Addr) (l : List Y8) (n c : Nat) (w : World) (hn : l.length = n) (hr : Rd w a l) (ha : ∀ x, 0 < l.length → a = some x → x.block < w.heap.size) (hle : n ≤ 500) :
    Calls Try.prog 4 #[sv s, .slice a n c] w fun e w' => e = .returned (.bool true) ∧ Below w.heap.size w w' := by
  obtain ⟨w1, hw1⟩ : ∃ w1, w1 = w.alloc (.cells (sc s) 26) := ⟨_, rfl⟩
  have c1 : Hid (Mem.Blk w1 w.heap.size 26 (sc s)) := Lib.hid (by rw [hw1]; exact Mem.Blk.new w 26 _)
  have D1 : Hid (Below w.heap.size w w1) := Lib.hid (by rw [hw1]; exact (Below.refl _ _).alloc (Nat.le_refl _) _)
  have H17 := Lib.hid (fun w => by have := encW s hF w; unfold sv at this; exact this)
  have H20 := Lib.hid (fun w => by have := encR s hF w; unfold sv at this; exact this)
  have HOF := Lib.hid (fun w => by have := ofS s w; unfold sv at this; exact this)
  have HOFD := Lib.hid (fun w => by have := ofS (dec l).1 w; unfold sv at this; exact this)
  have H18 : Hid (∀ w', Below w.heap.size w w' → Calls Try.prog 18 #[.slice a n c] w' fun e w'' => e = .returned (.tuple #[.agg (sc (dec l).1), .int .i64 (dec l).2]) ∧ Below w'.heap.size w' w'') := Lib.hid fun w' hb => decW a l n c w' hn (Rd.below hr hb ha) (fun x h e => Nat.lt_of_lt_of_le (ha x h e) hb.size)
  have H19 : Hid (∀ w', Below w.heap.size w w' → Calls Try.prog 19 #[.slice a n c] w' fun e w'' => e = .returned (.tuple #[.agg (sc (dec l).1), .int .i64 (dec l).2]) ∧ Below w'.heap.size w' w'') := Lib.hid fun w' hb => decR a l n c w' hn (Rd.below hr hb ha) (fun x h e => Nat.lt_of_lt_of_le (ha x h e) hb.size)
  obtain ⟨Y, hY⟩ : ∃ Y, Y = (dec (enc s)).1 := ⟨_, rfl⟩
  have HX : Hid (∀ w' a5 c5 base, Own w' base (.slice a5 18 c5) (enc s) → Calls Try.prog 18 #[.slice a5 18 c5] w' fun e w'' => e = .returned (.tuple #[.agg (sc Y), .int .i64 0]) ∧ Below w'.heap.size w' w'') := Lib.hid fun w' a5 c5 base h => by
    have := decW a5 (enc s) 18 c5 w' rfl h.rd.1 (fun x _ e => own_lt h x e)
    rw [← hY, show (dec (enc s)).2 = 0 by rw [dec_enc s hF]] at this
    exact this
  have hYs : Hid ((∀ j, j < 4 → 0 ≤ (nums s).getD j 0 ∧ (nums s).getD j 0 ≤ 4294967295) → Y = s) := Lib.hid fun h => by
    rw [hY, dec_enc s hF]
    have h0 := h 0 (by omega)
    have h1 := h 1 (by omega)
    have h2 := h 2 (by omega)
    have h3 := h 3 (by omega)
    simp only [nums, List.getD_cons_zero, List.getD_cons_succ] at h0 h1 h2 h3
    obtain ⟨z0, z1, z2, z3, e, d⟩ := s
    simp only at h0 h1 h2 h3
    simp only [Stt.mk.injEq, and_true]
    omega
  obtain ⟨DS, hDS⟩ : ∃ DS, DS = (dec l).1 := ⟨_, rfl⟩
  obtain ⟨DE, hDE⟩ : ∃ DE, DE = (dec l).2 := ⟨_, rfl⟩
  rw [← hDS, ← hDE] at H18 H19
  rw [← hDS] at HOFD
  have hne := neq37 DS DS
  rw [decide_eq_false (by simp)] at hne
  unfold sv at hne
  have heq : Hid (∀ w, (binOp .eql 26 (sv s) (sv s)).run Try.prog w = .ok (.bool true) w) := Lib.hid (fun w => by rw [eql26 s s w, decide_eq_true rfl])
  have HCE := Lib.hid (fun k h => cell4 s k h)
  have CV : Hid (∀ (w' : World) a5 c5 base, Own w' base (.slice a5 18 c5) (enc s) → (convert 46 9 (.slice a5 18 c5)).run Try.prog w' = .ok (.string (strB (enc s))) w') := Lib.hid fun w' a5 c5 base h => conv w' a5 (enc s) 18 c5 rfl h.rd.1
  generalize enc s = en at H17 H20 HX CV
  generalize strB = S at CV
  have hgt : ¬ (500 : Int) < (n : Int) := by omega
  replace hne := Lib.hid hne
  clear hDS hDE hn hr ha hY hF
  obtain ⟨d0, d1, d2, d3, de, dd⟩ := DS
  obtain ⟨y0, y1, y2, y3, ye, yd⟩ := Y
  unfold sc at H18 H19 HX hne HOFD
  simp only at H18 H19 HX hne HOFD
  show Calls Try.prog 4 #[.agg (sc s), .slice a n c] w _
  go_enter Try.func4, Try.ntmps4
  go_wp2_with fail
  rw [← hw1]
  replace hw1 := Lib.hid hw1
  refine (knownW _).mono ?_
  rintro e' w2 ⟨rfl, b2⟩
  have m2 := Lib.hid (c1.out.below b2 c1.out.lt)
  have D2 := Lib.hid (D1.out.trans (b2.mono D1.out.size))
  have r2 := Lib.hid m2.out.range
  clear b2 c1 D1
  obtain ⟨i0, i1, i2, i3, i4, i5⟩ := six (show Mem.Blk w2 w.heap.size 26 #[.int .i64 s.z0, .int .i64 s.z1, .int .i64 s.z2, .int .i64 s.z3, .int .u8 s.e, .bool s.d] from m2.out)
  go_wp2_with fail
  refine (H17.out _).mono ?_
  rintro e' wa ⟨a5, c5, rfl, o5, ba⟩
  have m3 := Lib.hid (m2.out.below ba m2.out.lt)
  have Da := Lib.hid (D2.out.trans (ba.mono D2.out.size))
  replace o5 := Lib.hid o5
  clear ba m2 D2 r2 i0 i1 i2 i3 i4 i5
  go_wp2_with fail
  refine (H18.out _ Da.out).mono ?_
  rintro e' w3 ⟨rfl, b3⟩
  have m4 := Lib.hid (m3.out.below b3 m3.out.lt)
  have D3 := Lib.hid (Da.out.trans (b3.mono Da.out.size))
  have o6 := Lib.hid (own_below o5.out b3)
  clear b3 m3 o5 Da
  go_wp2_with fail
  obtain ⟨w4, hw4⟩ : ∃ w4, w4 = w3.alloc (.cells #[.int .i64 d0, .int .i64 d1, .int .i64 d2, .int .i64 d3, .int .u8 de, .bool dd] 26) := ⟨_, rfl⟩
  rw [← hw4]
  have hNw4 : Mem.Blk w4 w3.heap.size 26 #[.int .i64 d0, .int .i64 d1, .int .i64 d2, .int .i64 d3, .int .u8 de, .bool dd] := by rw [hw4]; exact Mem.Blk.new w3 26 _
  have hbw4 : Below w3.heap.size w3 w4 := by rw [hw4]; exact (Below.refl _ _).alloc (Nat.le_refl _) _
  replace hw4 := Lib.hid hw4
  try go_wp2_with fail
  have m5 := Lib.hid (m4.out.below hbw4 m4.out.lt)
  have D4 := Lib.hid (D3.out.trans (hbw4.mono D3.out.size))
  have o7 := Lib.hid (own_below o6.out hbw4)
  replace hNw4 := Lib.hid hNw4
  clear hbw4 m4 o6
  refine (H19.out _ D4.out).mono ?_
  rintro e' w5 ⟨rfl, b5⟩
  have n6 := Lib.hid (hNw4.out.below b5 hNw4.out.lt)
  have m6 := Lib.hid (m5.out.below b5 m5.out.lt)
  have D5 := Lib.hid (D4.out.trans (b5.mono D4.out.size))
  have o8 := Lib.hid (own_below o7.out b5)
  clear b5 m5 hNw4 o7 D4
  go_wp2_with fail
  obtain ⟨w6, hw6⟩ : ∃ w6, w6 = w5.alloc (.cells #[.int .i64 d0, .int .i64 d1, .int .i64 d2, .int .i64 d3, .int .u8 de, .bool dd] 37) := ⟨_, rfl⟩
  rw [← hw6]
  have hNw6 : Mem.Blk w6 w5.heap.size 37 #[.int .i64 d0, .int .i64 d1, .int .i64 d2, .int .i64 d3, .int .u8 de, .bool dd] := by rw [hw6]; exact Mem.Blk.new w5 37 _
  have hbw6 : Below w5.heap.size w5 w6 := by rw [hw6]; exact (Below.refl _ _).alloc (Nat.le_refl _) _
  replace hw6 := Lib.hid hw6
  have p7 := Lib.hid hNw6
  have n7 := Lib.hid (n6.out.below hbw6 n6.out.lt)
  have m7 := Lib.hid (m6.out.below hbw6 m6.out.lt)
  have D6 := Lib.hid (D5.out.trans (hbw6.mono D5.out.size))
  have o9 := Lib.hid (own_below o8.out hbw6)
  clear hbw6 m6 n6 o8 hNw6 D5
  have AL : Hid (∀ w', Below w6.heap.size w6 w' → (loadVar 26 ⟨w.heap.size, 0, none⟩).run Try.prog w' = .ok (.agg (sc s)) w' ∧ (loadVar 26 ⟨w3.heap.size, 0, none⟩).run Try.prog w' = .ok (.agg #[.int .i64 d0, .int .i64 d1, .int .i64 d2, .int .i64 d3, .int .u8 de, .bool dd]) w' ∧ (loadVar 37 ⟨w5.heap.size, 0, none⟩).run Try.prog w' = .ok (.agg #[.int .i64 d0, .int .i64 d1, .int .i64 d2, .int .i64 d3, .int .u8 de, .bool dd]) w' ∧ (convert 46 9 (.slice a5 18 c5)).run Try.prog w' = .ok (.string (S en)) w') := Lib.hid fun w' hb => ⟨run_loadVar_mid w' w.heap.size 0 26 (sc s).toList _ (m7.out.below hb m7.out.lt).range Try.underlying26 rfl i26, run_loadVar_mid w' w3.heap.size 0 26 (#[.int .i64 d0, .int .i64 d1, .int .i64 d2, .int .i64 d3, .int .u8 de, .bool dd] : Array Value).toList _ (n7.out.below hb n7.out.lt).range Try.underlying26 rfl i26, run_loadVar_mid w' w5.heap.size 0 37 (#[.int .i64 d0, .int .i64 d1, .int .i64 d2, .int .i64 d3, .int .u8 de, .bool dd] : Array Value).toList _ (p7.out.below hb p7.out.lt).range Try.underlying37 rfl i37, CV.out w' a5 c5 _ (own_below o9.out hb)⟩
  have DD : Hid (Below w6.heap.size w6 w6.drew) := Lib.hid (Below.refl _ _).drew
  try go_wp2_with fail
  have hne := hne.out
  refine wp_region_held_drew (S := fun w' => (loadVar 26 ⟨w.heap.size, 0, none⟩).run Try.prog w' = .ok (.agg (sc s)) w' ∧ (loadVar 26 ⟨w3.heap.size, 0, none⟩).run Try.prog w' = .ok (.agg #[.int .i64 d0, .int .i64 d1, .int .i64 d2, .int .i64 d3, .int .u8 de, .bool dd]) w' ∧ (loadVar 37 ⟨w5.heap.size, 0, none⟩).run Try.prog w' = .ok (.agg #[.int .i64 d0, .int .i64 d1, .int .i64 d2, .int .i64 d3, .int .u8 de, .bool dd]) w' ∧ (convert 46 9 (.slice a5 18 c5)).run Try.prog w' = .ok (.string (S en)) w') (by kernel_rfl) (AL.out _ DD.out) (fun hS => ?_)
  try simp only [List.size_toArray, List.length_cons, List.length_nil, Nat.reduceAdd]
  refine wpAnyH_take (i := 0) (v := ?_) (by simp only [List.getElem?_toArray, List.getElem?_cons_succ, List.getElem?_cons_zero]; rfl) (by kernel_rfl) (by kernel_rfl) (by kernel_rfl) (by exact fun _ _ _ h => h) (Or.inl ⟨by rfl, ?_⟩) hS ?_
  rotate_left
  · intro w hSw
    go_simp
    try with_reducible rfl
  try simp only [Act.put, List.setIfInBounds_toArray, List.set_cons_zero, List.set_cons_succ]
  refine wpAnyH_take (i := 1) (v := ?_) (by simp only [List.getElem?_toArray, List.getElem?_cons_succ, List.getElem?_cons_zero]; rfl) (by kernel_rfl) (by kernel_rfl) (by kernel_rfl) (by exact fun _ _ _ h => h) (Or.inl ⟨by rfl, ?_⟩) hS ?_
  rotate_left
  · intro w hSw
    go_simp
    try with_reducible rfl
  try simp only [Act.put, List.setIfInBounds_toArray, List.set_cons_zero, List.set_cons_succ]
  refine wpAnyH_take (i := 2) (v := .agg (sc s)) (by simp only [List.getElem?_toArray, List.getElem?_cons_succ, List.getElem?_cons_zero]; rfl) (by kernel_rfl) (by kernel_rfl) (by kernel_rfl) (by exact fun _ _ _ h => h) (Or.inl ⟨by rfl, ?_⟩) hS ?_
  · intro wq hSw
    exact exec_load 26 (.tmp 2) rfl ⟨w.heap.size, 0, none⟩ rfl _ wq hSw.1
  try simp only [Act.put, List.setIfInBounds_toArray, List.set_cons_zero, List.set_cons_succ]
  refine wpAnyH_ready (rs := [3]) (by kernel_rfl) (by simp) ?_
  refine AllReadyH.cons (by simp only [List.getElem?_toArray, List.getElem?_cons_succ, List.getElem?_cons_zero]; rfl) (fun K hK => ?_) AllReadyH.nil
  go_simp
  go_at_call 10
  refine (HOF.out _).mono ?_
  rintro e' w7 ⟨rfl, b7⟩
  have D7 : Hid (Below w6.heap.size w6 w7) := Lib.hid (DD.out.trans (b7.mono DD.out.size))
  clear b7
  refine hK.out _ _ (AL.out w7 D7.out) (fun hS => ?_)
  clear hK K
  try simp only [Act.put, List.setIfInBounds_toArray, List.set_cons_zero, List.set_cons_succ]
  refine wpAnyH_ready (rs := [4]) (by kernel_rfl) (by simp) ?_
  refine AllReadyH.cons (by simp only [List.getElem?_toArray, List.getElem?_cons_succ, List.getElem?_cons_zero]; rfl) (fun K hK => ?_) AllReadyH.nil
  go_simp
  go_at_call 20
  refine (H20.out _).mono ?_
  rintro e' w8 ⟨ar, cr, rfl, or', b8⟩
  have D8 : Hid (Below w6.heap.size w6 w8) := Lib.hid (D7.out.trans (b8.mono D7.out.size))
  have hconv := CV.out w8 ar cr _ or'
  clear b8
  refine hK.out _ _ (AL.out w8 D8.out) (fun hS => ?_)
  clear hK K
  try simp only [Act.put, List.setIfInBounds_toArray, List.set_cons_zero, List.set_cons_succ]
  refine Reg.raise (fun w' => ((loadVar 26 ⟨w.heap.size, 0, none⟩).run Try.prog w' = .ok (.agg (sc s)) w' ∧ (loadVar 26 ⟨w3.heap.size, 0, none⟩).run Try.prog w' = .ok (.agg #[.int .i64 d0, .int .i64 d1, .int .i64 d2, .int .i64 d3, .int .u8 de, .bool dd]) w' ∧ (loadVar 37 ⟨w5.heap.size, 0, none⟩).run Try.prog w' = .ok (.agg #[.int .i64 d0, .int .i64 d1, .int .i64 d2, .int .i64 d3, .int .u8 de, .bool dd]) w' ∧ (convert 46 9 (.slice a5 18 c5)).run Try.prog w' = .ok (.string (S en)) w') ∧ (convert 46 9 (.slice ar 18 cr)).run Try.prog w' = .ok (.string (S en)) w') (fun w h => h.1) (⟨hS, hconv⟩) (fun hS => ?_)
  refine wpAnyH_take (i := 5) (v := ?_) (by simp only [List.getElem?_toArray, List.getElem?_cons_succ, List.getElem?_cons_zero]; rfl) (by kernel_rfl) (by kernel_rfl) (by kernel_rfl) (by exact fun _ _ _ h => h) (Or.inl ⟨by rfl, ?_⟩) hS ?_
  rotate_left
  · intro w hSw
    go_simp
    try with_reducible rfl
  try simp only [Act.put, List.setIfInBounds_toArray, List.set_cons_zero, List.set_cons_succ]
  refine wpAnyH_take (i := 6) (v := ?_) (by simp only [List.getElem?_toArray, List.getElem?_cons_succ, List.getElem?_cons_zero]; rfl) (by kernel_rfl) (by kernel_rfl) (by kernel_rfl) (by exact fun _ _ _ h => h) (Or.inl ⟨by rfl, ?_⟩) hS ?_
  rotate_left
  · intro w hSw
    go_simp
    try with_reducible rfl
  try simp only [Act.put, List.setIfInBounds_toArray, List.set_cons_zero, List.set_cons_succ]
  refine wpAnyH_take (i := 7) (v := ?_) (by simp only [List.getElem?_toArray, List.getElem?_cons_succ, List.getElem?_cons_zero]; rfl) (by kernel_rfl) (by kernel_rfl) (by kernel_rfl) (by exact fun _ _ _ h => h) (Or.inl ⟨by rfl, ?_⟩) hS ?_
  rotate_left
  · intro w hSw
    go_simp
    try with_reducible rfl
  try simp only [Act.put, List.setIfInBounds_toArray, List.set_cons_zero, List.set_cons_succ]
  refine wpAnyH_take (i := 8) (v := .agg #[.int .i64 d0, .int .i64 d1, .int .i64 d2, .int .i64 d3, .int .u8 de, .bool dd]) (by simp only [List.getElem?_toArray, List.getElem?_cons_succ, List.getElem?_cons_zero]; rfl) (by kernel_rfl) (by kernel_rfl) (by kernel_rfl) (by exact fun _ _ _ h => h) (Or.inl ⟨by rfl, ?_⟩) hS ?_
  · intro wq hSw
    exact exec_load 26 (.tmp 6) rfl ⟨w3.heap.size, 0, none⟩ rfl _ wq hSw.1.2.1
  try simp only [Act.put, List.setIfInBounds_toArray, List.set_cons_zero, List.set_cons_succ]
  refine wpAnyH_take (i := 10) (v := .agg #[.int .i64 d0, .int .i64 d1, .int .i64 d2, .int .i64 d3, .int .u8 de, .bool dd]) (by simp only [List.getElem?_toArray, List.getElem?_cons_succ, List.getElem?_cons_zero]; rfl) (by kernel_rfl) (by kernel_rfl) (by kernel_rfl) (by exact fun _ _ _ h => h) (Or.inl ⟨by rfl, ?_⟩) hS ?_
  · intro wq hSw
    exact exec_load 37 (.tmp 8) rfl ⟨w5.heap.size, 0, none⟩ rfl _ wq hSw.1.2.2.1
  try simp only [Act.put, List.setIfInBounds_toArray, List.set_cons_zero, List.set_cons_succ]
  refine wpAnyH_ready (rs := [9]) (by kernel_rfl) (by simp) ?_
  refine AllReadyH.cons (by simp only [List.getElem?_toArray, List.getElem?_cons_succ, List.getElem?_cons_zero]; rfl) (fun K hK => ?_) AllReadyH.nil
  go_simp
  go_at_call 10
  refine (HOFD.out _).mono ?_
  rintro e' w9 ⟨rfl, b9⟩
  have D9 : Hid (Below w6.heap.size w6 w9) := Lib.hid (D8.out.trans (b9.mono D8.out.size))
  have hconv9 := CV.out w9 ar cr _ (own_below or' b9)
  clear b9
  refine hK.out _ _ (⟨AL.out w9 D9.out, hconv9⟩) (fun hS => ?_)
  clear hK K
  try simp only [Act.put, List.setIfInBounds_toArray, List.set_cons_zero, List.set_cons_succ]
  refine wpAnyH_take (i := 11) (v := ?_) (by simp only [List.getElem?_toArray, List.getElem?_cons_succ, List.getElem?_cons_zero]; rfl) (by kernel_rfl) (by kernel_rfl) (by kernel_rfl) (by exact fun _ _ _ h => h) (Or.inl ⟨by rfl, ?_⟩) hS ?_
  rotate_left
  · intro w hSw
    go_simp
    try with_reducible rfl
  try simp only [Act.put, List.setIfInBounds_toArray, List.set_cons_zero, List.set_cons_succ]
  refine wpAnyH_take (i := 12) (v := ?_) (by simp only [List.getElem?_toArray, List.getElem?_cons_succ, List.getElem?_cons_zero]; rfl) (by kernel_rfl) (by kernel_rfl) (by kernel_rfl) (by exact fun _ _ _ h => h) (Or.inl ⟨by rfl, ?_⟩) hS ?_
  rotate_left
  · intro w hSw
    go_simp
    try with_reducible rfl
  try simp only [Act.put, List.setIfInBounds_toArray, List.set_cons_zero, List.set_cons_succ]
  refine wpAnyH_take (i := 13) (v := ?_) (by simp only [List.getElem?_toArray, List.getElem?_cons_succ, List.getElem?_cons_zero]; rfl) (by kernel_rfl) (by kernel_rfl) (by kernel_rfl) (by exact fun _ _ _ h => h) (Or.inl ⟨by rfl, ?_⟩) hS ?_
  rotate_left
  · intro w hSw
    go_simp
    try with_reducible rfl
  try simp only [Act.put, List.setIfInBounds_toArray, List.set_cons_zero, List.set_cons_succ]
  refine wpAnyH_take (i := 14) (v := ?_) (by simp only [List.getElem?_toArray, List.getElem?_cons_succ, List.getElem?_cons_zero]; rfl) (by kernel_rfl) (by kernel_rfl) (by kernel_rfl) (by exact fun _ _ _ h => h) (Or.inl ⟨by rfl, ?_⟩) hS ?_
  rotate_left
  · intro w hSw
    go_simp
    try with_reducible rfl
  try simp only [Act.put, List.setIfInBounds_toArray, List.set_cons_zero, List.set_cons_succ]
  refine wpAnyH_take (i := 15) (v := ?_) (by simp only [List.getElem?_toArray, List.getElem?_cons_succ, List.getElem?_cons_zero]; rfl) (by kernel_rfl) (by kernel_rfl) (by kernel_rfl) (by exact fun _ _ _ h => h) (Or.inl ⟨by rfl, ?_⟩) hS ?_
  rotate_left
  · intro w hSw
    go_simp
    try with_reducible rfl
  try simp only [Act.put, List.setIfInBounds_toArray, List.set_cons_zero, List.set_cons_succ]
  refine wpAnyH_take (i := 16) (v := ?_) (by simp only [List.getElem?_toArray, List.getElem?_cons_succ, List.getElem?_cons_zero]; rfl) (by kernel_rfl) (by kernel_rfl) (by kernel_rfl) (by exact fun _ _ _ h => h) (Or.inl ⟨by rfl, ?_⟩) hS ?_
  rotate_left
  · intro w hSw
    go_simp
    try with_reducible rfl
  try simp only [Act.put, List.setIfInBounds_toArray, List.set_cons_zero, List.set_cons_succ]
  refine wpAnyH_take (i := 17) (v := ?_) (by simp only [List.getElem?_toArray, List.getElem?_cons_succ, List.getElem?_cons_zero]; rfl) (by kernel_rfl) (by kernel_rfl) (by kernel_rfl) (by exact fun _ _ _ h => h) (Or.inl ⟨by rfl, ?_⟩) hS ?_
  rotate_left
  · intro w hSw
    go_simp
    try with_reducible rfl
  try simp only [Act.put, List.setIfInBounds_toArray, List.set_cons_zero, List.set_cons_succ]
  refine wpAnyH_done (by kernel_rfl) ?_ _
  have o10 := Lib.hid (own_below o9.out D9.out)
  have m10 := Lib.hid (m7.out.below D9.out m7.out.lt)
  have D10 := Lib.hid (D6.out.trans (D9.out.mono D6.out.size))
  clear hS hconv hconv9 or'
  go_wp2_with fail
  refine (HX.out _ _ _ _ o10.out).mono ?_
  rintro e' wb ⟨rfl, bb⟩
  have m11 := Lib.hid (m10.out.below bb m10.out.lt)
  have D11 := Lib.hid (D10.out.trans (bb.mono D10.out.size))
  clear bb m10 D10
  go_wp2_with fail
  obtain ⟨wc, hwc⟩ : ∃ wc, wc = wb.alloc (.cells #[.int .i64 y0, .int .i64 y1, .int .i64 y2, .int .i64 y3, .int .u8 ye, .bool yd] 26) := ⟨_, rfl⟩
  rw [← hwc]
  have hNwc : Mem.Blk wc wb.heap.size 26 #[.int .i64 y0, .int .i64 y1, .int .i64 y2, .int .i64 y3, .int .u8 ye, .bool yd] := by rw [hwc]; exact Mem.Blk.new wb 26 _
  have hbwc : Below wb.heap.size wb wc := by rw [hwc]; exact (Below.refl _ _).alloc (Nat.le_refl _) _
  replace hwc := Lib.hid hwc
  have m12 := Lib.hid (m11.out.below hbwc m11.out.lt)
  have D12 := Lib.hid (D11.out.trans (hbwc.mono D11.out.size))
  have y12 := Lib.hid hNwc
  clear hbwc hNwc m11 D11
  have HCL : Hid (∀ k, k < 4 → wc.cell? ⟨w.heap.size, k, none⟩ = some (.int .i64 ((nums s).getD k 0))) := Lib.hid fun k hk => (m12.out.cell k).trans (HCE.out k hk)
  have rs := Lib.hid m12.out.range
  have ry := Lib.hid y12.out.range
  try go_wp2_with fail
  go_loop [11] (fun i => ∃ k : Nat, k ≤ 4 ∧ i = .int .i64 (k : Int) ∧ ∀ j, j < k → 0 ≤ (nums s).getD j 0 ∧ (nums s).getD j 0 ≤ 4294967295) (fun i => 4 - (intOf i).toNat)
  case atStart => exact ⟨0, by omega, rfl, fun j hj => absurd hj (by omega)⟩
  case round =>
    obtain ⟨k, hk, rfl, hall⟩ := hrel
    replace hall := Lib.hid hall
    by_cases hlt : k < 4
    · have hlt' : (k : Int) < 4 := by omega
      have hc := HCL.out k hlt
      obtain ⟨v, hv⟩ : ∃ v, v = (nums s).getD k 0 := ⟨_, rfl⟩
      rw [← hv] at hc
      replace hv := Lib.hid hv
      by_cases h1 : v < 0
      · go_wp2
        go_ret
        exact ⟨rfl, D12.out⟩
      · by_cases h2 : 4294967295 < v
        · go_wp2
          go_ret
          exact ⟨rfl, D12.out⟩
        · go_wp2_with fail
          go_round
          case rel => exact ⟨k + 1, by omega, by go_num, fun j hj => if e : j = k then by subst e; rw [← hv.out]; omega else hall.out j (by omega)⟩
          case measure => simp [intOf]; omega
    · obtain rfl : k = 4 := by omega
      have hlt' : ¬ ((4 : Nat) : Int) < 4 := by omega
      obtain rfl := hYs.out hall.out
      have heq := heq.out
      unfold sv sc at heq
      simp only at heq
      obtain ⟨k0, k1, k2, k3, k4, k5⟩ := six y12.out
      obtain ⟨i0, i1, i2, i3, i4, i5⟩ := six (show Mem.Blk wc w.heap.size 26 #[.int .i64 y0, .int .i64 y1, .int .i64 y2, .int .i64 y3, .int .u8 ye, .bool yd] from m12.out)
      go_wp2
      go_ret
      exact ⟨rfl, D12.out⟩
theorem all (s : Stt) (hF : Fine s) (a : Option Addr) (n c : Nat) (zs : List Int) (w : World) (h : IsRow .u8 w a n c zs) :
    Calls Try.prog 4 #[sv s, .slice a n c] w fun e w' => e = .returned (.bool true) ∧ Below w.heap.size w w' := by
  obtain ⟨l, hn, hr, _, ha⟩ := h.bytes
  by_cases hle : n ≤ 500
  · exact law s hF a l n c w hn hr (fun x hx => ha x (by omega)) hle
  · exact early s a n c w (by omega)
end Go.Proofs.Ytcggghiionlngaa.AreY
