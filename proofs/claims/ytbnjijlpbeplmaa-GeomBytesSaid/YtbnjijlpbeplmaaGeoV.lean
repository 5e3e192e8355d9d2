/- The law of geom's bytes. -/
import Derived.Test.YtbnjijlpbeplmaaGeoU
namespace Go.Proofs.Ytbnjijlpbeplmaa.GeoV
open Go.ChangeShapes Go.WideShapes Go.ChangeAt Go.RowKit
open GeoM GeoC GeoD GeoE GeoR TokA TokB GeoN GeoP GeoQ GeoS GeoU
set_option linter.unusedVariables false
set_option maxHeartbeats 2000000

set_option maxRecDepth 100000 in
theorem lawA (b p s u o r g k x : Int) (a : Option Addr) (l : List Y8) (n c : Nat) (w : World) (hn : l.length = n) (hr : Rd w a l) (ha : ∀ x, 0 < l.length → a = some x → x.block < w.heap.size) (hk : ¬ check ⟨b, p, s, u, o, r, g, k, x⟩ = true) (hle : n ≤ 1000) :
    Calls Try.prog 3 #[.agg #[.int .i64 b, .int .i64 p, .int .i64 s, .int .i64 u, .int .i64 o, .int .i64 r, .int .i64 g, .int .i64 k, .int .i64 x], .slice a n c] w fun e w' => e = .returned (.bool true) ∧ Below w.heap.size w w' := by
  obtain ⟨w1, hw1⟩ : ∃ w1, w1 = w.alloc (.cells #[.int .i64 b, .int .i64 p, .int .i64 s, .int .i64 u, .int .i64 o, .int .i64 r, .int .i64 g, .int .i64 k, .int .i64 x] 23) := ⟨_, rfl⟩
  have c1 : Mem.Blk w1 w.heap.size 23 #[.int .i64 b, .int .i64 p, .int .i64 s, .int .i64 u, .int .i64 o, .int .i64 r, .int .i64 g, .int .i64 k, .int .i64 x] := by rw [hw1]; exact Mem.Blk.new w 23 _
  have D1 : Below w.heap.size w w1 := by rw [hw1]; exact (Below.refl _ _).alloc (Nat.le_refl _) _
  have H12 := Lib.hid (fun w => encW ⟨b, p, s, u, o, r, g, k, x⟩ w)
  have H15 := Lib.hid (fun w => encR ⟨b, p, s, u, o, r, g, k, x⟩ w)
  have H16 := Lib.hid (fun w => checkW ⟨b, p, s, u, o, r, g, k, x⟩ w)
  have H13 : Hid (∀ w', Below w.heap.size w w' → Calls Try.prog 13 #[.slice a n c] w' fun e w'' => e = .returned (.tuple #[cv (dec l).1, .int .i64 (dec l).2]) ∧ Below w'.heap.size w' w'') := Lib.hid fun w' hb => decW a l n c w' hn (Rd.below hr hb ha) (fun x h e => Nat.lt_of_lt_of_le (ha x h e) hb.size)
  have H14 : Hid (∀ w', Below w.heap.size w w' → Calls Try.prog 14 #[.slice a n c] w' fun e w'' => e = .returned (.tuple #[cv (dec l).1, .int .i64 (dec l).2]) ∧ Below w'.heap.size w' w'') := Lib.hid fun w' hb => decR a l n c w' hn (Rd.below hr hb ha) (fun x h e => Nat.lt_of_lt_of_le (ha x h e) hb.size)
  have HX : Hid (∀ w' a5 c5, Own w' w.heap.size (.slice a5 36 c5) (encTo ⟨b, p, s, u, o, r, g, k, x⟩ 9) → Calls Try.prog 13 #[.slice a5 36 c5] w' fun e w'' => e = .returned (.tuple #[cv (dec (encTo ⟨b, p, s, u, o, r, g, k, x⟩ 9)).1, .int .i64 (dec (encTo ⟨b, p, s, u, o, r, g, k, x⟩ 9)).2]) ∧ Below w'.heap.size w' w'') := Lib.hid fun w' a5 c5 h => decW a5 _ 36 c5 w' (encTo_length _ 9 (by omega)) h.rd.1 (fun x _ e => own_lt h x e)
  rw [show errOf ⟨b, p, s, u, o, r, g, k, x⟩ = 1 from if_neg hk] at H16
  obtain ⟨⟨⟨e0, e1, e2, e3, e4, e5, e6, e7, e8⟩, EE⟩, hEE⟩ : ∃ q, q = dec (encTo ⟨b, p, s, u, o, r, g, k, x⟩ 9) := ⟨_, rfl⟩
  rw [← hEE] at HX
  clear hEE
  have hlen : (encTo ⟨b, p, s, u, o, r, g, k, x⟩ 9).length = 36 := encTo_length _ 9 (by omega)
  have hne : ∀ (d0 d1 d2 d3 d4 d5 d6 d7 d8 : Int) (w : World), (binOp .neq 23 (.agg #[.int .i64 d0, .int .i64 d1, .int .i64 d2, .int .i64 d3, .int .i64 d4, .int .i64 d5, .int .i64 d6, .int .i64 d7, .int .i64 d8]) (.agg #[.int .i64 d0, .int .i64 d1, .int .i64 d2, .int .i64 d3, .int .i64 d4, .int .i64 d5, .int .i64 d6, .int .i64 d7, .int .i64 d8])).run Try.prog w = .ok (.bool false) w := fun d0 d1 d2 d3 d4 d5 d6 d7 d8 w => by
    have := neq23 ⟨d0, d1, d2, d3, d4, d5, d6, d7, d8⟩ ⟨d0, d1, d2, d3, d4, d5, d6, d7, d8⟩ w
    simpa [cc] using this
  have heq : ∀ w : World, (binOp .eql 23 (.agg #[.int .i64 b, .int .i64 p, .int .i64 s, .int .i64 u, .int .i64 o, .int .i64 r, .int .i64 g, .int .i64 k, .int .i64 x]) (.agg #[.int .i64 b, .int .i64 p, .int .i64 s, .int .i64 u, .int .i64 o, .int .i64 r, .int .i64 g, .int .i64 k, .int .i64 x])).run Try.prog w = .ok (.bool true) w := fun w => by
    have := eql23 ⟨b, p, s, u, o, r, g, k, x⟩ ⟨b, p, s, u, o, r, g, k, x⟩ w
    simpa [cc] using this
  obtain ⟨⟨⟨d0, d1, d2, d3, d4, d5, d6, d7, d8⟩, DE⟩, hDE⟩ : ∃ q, q = dec l := ⟨_, rfl⟩
  rw [← hDE] at H13 H14
  have hne := hne d0 d1 d2 d3 d4 d5 d6 d7 d8
  generalize encTo ⟨b, p, s, u, o, r, g, k, x⟩ 9 = en at *
  unfold cv at H12 H13 H14 H15 H16 HX
  unfold cc at H12 H13 H14 H15 H16 HX
  simp only at H12 H13 H14 H15 H16 HX
  have CV : Hid (∀ (w' : World) a5 c5, Own w' w.heap.size (.slice a5 36 c5) en → (convert 24 9 (.slice a5 36 c5)).run Try.prog w' = .ok (.string (strB en)) w') := Lib.hid fun w' a5 c5 h => conv w' a5 en 36 c5 hlen h.rd.1
  generalize strB = S at CV
  have hgt : ¬ (1000 : Int) < (n : Int) := by omega
  replace c1 := Lib.hid c1
  replace D1 := Lib.hid D1
  replace hne := Lib.hid hne
  replace heq := Lib.hid heq
  clear hDE hk hn hr ha hlen 
  go_enter Try.func3, Try.ntmps3
  go_wp2_with fail
  rw [← hw1]
  replace hw1 := Lib.hid hw1
  refine (GeoH.knownW _).mono ?_
  rintro e' w2 ⟨rfl, b2⟩
  have m2 := Mem.Blk.below c1.out b2 c1.out.lt
  have D2 := Lib.hid (D1.out.trans (b2.mono D1.out.size))
  clear b2
  obtain ⟨k0, k1, k2, k3, k4, k5, k6, k7, k8⟩ := nine m2
  go_wp2_with fail
  refine (H12.out _).mono ?_
  rintro e' wa ⟨a5, c5, rfl, o5, ba⟩
  have m3 := Mem.Blk.below m2 ba m2.lt
  have Da := Lib.hid (D2.out.trans (ba.mono D2.out.size))
  replace o5 := Lib.hid (own_mono o5 D2.out.size)
  clear k0 k1 k2 k3 k4 k5 k6 k7 k8 ba m2
  go_wp2_with fail
  refine (H13.out _ Da.out).mono ?_
  rintro e' w3 ⟨rfl, b3⟩
  have m4 := Mem.Blk.below m3 b3 m3.lt
  have hlt30 := m4.lt
  have D3 := Lib.hid (Da.out.trans (b3.mono Da.out.size))
  have o6 := Lib.hid (own_below o5.out b3)
  clear b3 m3 o5
  go_wp2_with fail
  obtain ⟨w4, hw4⟩ : ∃ w4, w4 = w3.alloc (.cells #[.int .i64 d0, .int .i64 d1, .int .i64 d2, .int .i64 d3, .int .i64 d4, .int .i64 d5, .int .i64 d6, .int .i64 d7, .int .i64 d8] 23) := ⟨_, rfl⟩
  rw [← hw4]
  have n4 : Mem.Blk w4 w3.heap.size 23 #[.int .i64 d0, .int .i64 d1, .int .i64 d2, .int .i64 d3, .int .i64 d4, .int .i64 d5, .int .i64 d6, .int .i64 d7, .int .i64 d8] := by rw [hw4]; exact Mem.Blk.new w3 23 _
  have m5 : Mem.Blk w4 w.heap.size 23 #[.int .i64 b, .int .i64 p, .int .i64 s, .int .i64 u, .int .i64 o, .int .i64 r, .int .i64 g, .int .i64 k, .int .i64 x] := by rw [hw4]; exact m4.alloc _
  have D4 : Hid (Below w.heap.size w w4) := Lib.hid (by rw [hw4]; exact D3.out.alloc D3.out.size _)
  have o7 : Hid (Own w4 w.heap.size (.slice a5 36 c5) en) := Lib.hid (by rw [hw4]; exact o6.out.alloc _)
  replace hw4 := Lib.hid hw4
  clear m4 o6
  go_wp2_with fail
  refine (H14.out _ D4.out).mono ?_
  rintro e' w5 ⟨rfl, b5⟩
  have n6 := Mem.Blk.below n4 b5 n4.lt
  have m6 := Mem.Blk.below m5 b5 m5.lt
  have D5 := Lib.hid (D4.out.trans (b5.mono D4.out.size))
  have o8 := Lib.hid (own_below o7.out b5)
  clear b5 m5 n4 o7
  go_wp2_with fail
  obtain ⟨w6, hw6⟩ : ∃ w6, w6 = w5.alloc (.cells #[.int .i64 d0, .int .i64 d1, .int .i64 d2, .int .i64 d3, .int .i64 d4, .int .i64 d5, .int .i64 d6, .int .i64 d7, .int .i64 d8] 23) := ⟨_, rfl⟩
  rw [← hw6]
  have p7 : Mem.Blk w6 w5.heap.size 23 #[.int .i64 d0, .int .i64 d1, .int .i64 d2, .int .i64 d3, .int .i64 d4, .int .i64 d5, .int .i64 d6, .int .i64 d7, .int .i64 d8] := by rw [hw6]; exact Mem.Blk.new w5 23 _
  have n7 : Mem.Blk w6 w3.heap.size 23 #[.int .i64 d0, .int .i64 d1, .int .i64 d2, .int .i64 d3, .int .i64 d4, .int .i64 d5, .int .i64 d6, .int .i64 d7, .int .i64 d8] := by rw [hw6]; exact n6.alloc _
  have m7 : Mem.Blk w6 w.heap.size 23 #[.int .i64 b, .int .i64 p, .int .i64 s, .int .i64 u, .int .i64 o, .int .i64 r, .int .i64 g, .int .i64 k, .int .i64 x] := by rw [hw6]; exact m6.alloc _
  have D6 : Hid (Below w.heap.size w w6) := Lib.hid (by rw [hw6]; exact D5.out.alloc D5.out.size _)
  have o9 : Hid (Own w6 w.heap.size (.slice a5 36 c5) en) := Lib.hid (by rw [hw6]; exact o8.out.alloc _)
  replace hw6 := Lib.hid hw6
  clear m6 n6 o8
  have AL : Hid (∀ w', Below w6.heap.size w6 w' → ((w'.cell? ⟨w.heap.size, 0, none⟩ = some (.int .i64 b) ∧ w'.cell? ⟨w.heap.size, 1, none⟩ = some (.int .i64 p) ∧ w'.cell? ⟨w.heap.size, 2, none⟩ = some (.int .i64 s) ∧ w'.cell? ⟨w.heap.size, 3, none⟩ = some (.int .i64 u) ∧ w'.cell? ⟨w.heap.size, 4, none⟩ = some (.int .i64 o) ∧ w'.cell? ⟨w.heap.size, 5, none⟩ = some (.int .i64 r) ∧ w'.cell? ⟨w.heap.size, 6, none⟩ = some (.int .i64 g) ∧ w'.cell? ⟨w.heap.size, 7, none⟩ = some (.int .i64 k) ∧ w'.cell? ⟨w.heap.size, 8, none⟩ = some (.int .i64 x)) ∧ (w'.cell? ⟨w3.heap.size, 0, none⟩ = some (.int .i64 d0) ∧ w'.cell? ⟨w3.heap.size, 1, none⟩ = some (.int .i64 d1) ∧ w'.cell? ⟨w3.heap.size, 2, none⟩ = some (.int .i64 d2) ∧ w'.cell? ⟨w3.heap.size, 3, none⟩ = some (.int .i64 d3) ∧ w'.cell? ⟨w3.heap.size, 4, none⟩ = some (.int .i64 d4) ∧ w'.cell? ⟨w3.heap.size, 5, none⟩ = some (.int .i64 d5) ∧ w'.cell? ⟨w3.heap.size, 6, none⟩ = some (.int .i64 d6) ∧ w'.cell? ⟨w3.heap.size, 7, none⟩ = some (.int .i64 d7) ∧ w'.cell? ⟨w3.heap.size, 8, none⟩ = some (.int .i64 d8)) ∧ (w'.cell? ⟨w5.heap.size, 0, none⟩ = some (.int .i64 d0) ∧ w'.cell? ⟨w5.heap.size, 1, none⟩ = some (.int .i64 d1) ∧ w'.cell? ⟨w5.heap.size, 2, none⟩ = some (.int .i64 d2) ∧ w'.cell? ⟨w5.heap.size, 3, none⟩ = some (.int .i64 d3) ∧ w'.cell? ⟨w5.heap.size, 4, none⟩ = some (.int .i64 d4) ∧ w'.cell? ⟨w5.heap.size, 5, none⟩ = some (.int .i64 d5) ∧ w'.cell? ⟨w5.heap.size, 6, none⟩ = some (.int .i64 d6) ∧ w'.cell? ⟨w5.heap.size, 7, none⟩ = some (.int .i64 d7) ∧ w'.cell? ⟨w5.heap.size, 8, none⟩ = some (.int .i64 d8))) ∧ (convert 24 9 (.slice a5 36 c5)).run Try.prog w' = .ok (.string (S en)) w') := Lib.hid fun w' hb => ⟨⟨nine (Mem.Blk.below m7 hb m7.lt), nine (Mem.Blk.below n7 hb n7.lt), nine (Mem.Blk.below p7 hb p7.lt)⟩, CV.out w' a5 c5 (own_below o9.out hb)⟩
  have DD : Hid (Below w6.heap.size w6 w6.drew) := Lib.hid (Below.refl _ _).drew
  replace m7 := Lib.hid m7
  replace n7 := Lib.hid n7
  replace p7 := Lib.hid p7
  try go_wp2_with fail
  have hne := hne.out
  refine wp_region_held_drew (S := fun w' => ((w'.cell? ⟨w.heap.size, 0, none⟩ = some (.int .i64 b) ∧ w'.cell? ⟨w.heap.size, 1, none⟩ = some (.int .i64 p) ∧ w'.cell? ⟨w.heap.size, 2, none⟩ = some (.int .i64 s) ∧ w'.cell? ⟨w.heap.size, 3, none⟩ = some (.int .i64 u) ∧ w'.cell? ⟨w.heap.size, 4, none⟩ = some (.int .i64 o) ∧ w'.cell? ⟨w.heap.size, 5, none⟩ = some (.int .i64 r) ∧ w'.cell? ⟨w.heap.size, 6, none⟩ = some (.int .i64 g) ∧ w'.cell? ⟨w.heap.size, 7, none⟩ = some (.int .i64 k) ∧ w'.cell? ⟨w.heap.size, 8, none⟩ = some (.int .i64 x)) ∧ (w'.cell? ⟨w3.heap.size, 0, none⟩ = some (.int .i64 d0) ∧ w'.cell? ⟨w3.heap.size, 1, none⟩ = some (.int .i64 d1) ∧ w'.cell? ⟨w3.heap.size, 2, none⟩ = some (.int .i64 d2) ∧ w'.cell? ⟨w3.heap.size, 3, none⟩ = some (.int .i64 d3) ∧ w'.cell? ⟨w3.heap.size, 4, none⟩ = some (.int .i64 d4) ∧ w'.cell? ⟨w3.heap.size, 5, none⟩ = some (.int .i64 d5) ∧ w'.cell? ⟨w3.heap.size, 6, none⟩ = some (.int .i64 d6) ∧ w'.cell? ⟨w3.heap.size, 7, none⟩ = some (.int .i64 d7) ∧ w'.cell? ⟨w3.heap.size, 8, none⟩ = some (.int .i64 d8)) ∧ (w'.cell? ⟨w5.heap.size, 0, none⟩ = some (.int .i64 d0) ∧ w'.cell? ⟨w5.heap.size, 1, none⟩ = some (.int .i64 d1) ∧ w'.cell? ⟨w5.heap.size, 2, none⟩ = some (.int .i64 d2) ∧ w'.cell? ⟨w5.heap.size, 3, none⟩ = some (.int .i64 d3) ∧ w'.cell? ⟨w5.heap.size, 4, none⟩ = some (.int .i64 d4) ∧ w'.cell? ⟨w5.heap.size, 5, none⟩ = some (.int .i64 d5) ∧ w'.cell? ⟨w5.heap.size, 6, none⟩ = some (.int .i64 d6) ∧ w'.cell? ⟨w5.heap.size, 7, none⟩ = some (.int .i64 d7) ∧ w'.cell? ⟨w5.heap.size, 8, none⟩ = some (.int .i64 d8))) ∧ (convert 24 9 (.slice a5 36 c5)).run Try.prog w' = .ok (.string (S en)) w') (by kernel_rfl) (AL.out _ DD.out) (fun hS => ?_)
  refine wpAnyH_take (i := 0) (v := ?_) (by simp only [List.getElem?_toArray, List.getElem?_cons_succ, List.getElem?_cons_zero]; rfl) (by kernel_rfl) (by kernel_rfl) (by kernel_rfl) (by exact fun _ _ _ h => h) (Or.inl ⟨by rfl, ?_⟩) hS ?_
  rotate_left
  · intro w hSw
    go_simp
    try with_reducible rfl
  try simp only [Act.put, List.setIfInBounds_toArray, List.set_cons_zero, List.set_cons_succ]
  refine wpAnyH_take (i := 1) (v := ?_) (by simp only [List.getElem?_toArray, List.getElem?_cons_succ, List.getElem?_cons_zero]; rfl) (by kernel_rfl) (by kernel_rfl) (by kernel_rfl) (by exact fun _ _ _ h => h) (Or.inl ⟨by rfl, ?_⟩) hS ?_
  rotate_left
  · intro w hSw
    go_simp
    try with_reducible rfl
  try simp only [Act.put, List.setIfInBounds_toArray, List.set_cons_zero, List.set_cons_succ]
  refine wpAnyH_take (i := 2) (v := ?_) (by simp only [List.getElem?_toArray, List.getElem?_cons_succ, List.getElem?_cons_zero]; rfl) (by kernel_rfl) (by kernel_rfl) (by kernel_rfl) (by exact fun _ _ _ h => h) (Or.inl ⟨by rfl, ?_⟩) hS ?_
  rotate_left
  · intro w hSw
    go_simp
    try with_reducible rfl
  try simp only [Act.put, List.setIfInBounds_toArray, List.set_cons_zero, List.set_cons_succ]
  refine wpAnyH_ready (rs := [3]) (by kernel_rfl) (by simp) ?_
  refine AllReadyH.cons (by simp only [List.getElem?_toArray, List.getElem?_cons_succ, List.getElem?_cons_zero]; rfl) (fun K hK => ?_) AllReadyH.nil
  go_simp
  go_at_call 15
  refine (H15.out _).mono ?_
  rintro e' w7 ⟨ar, cr, rfl, or', b7⟩
  have D7 : Hid (Below w6.heap.size w6 w7) := Lib.hid (DD.out.trans (b7.mono DD.out.size))
  replace or' := own_mono or' (Nat.le_trans D6.out.size DD.out.size)
  refine hK.out _ _ (AL.out w7 D7.out) (fun hS => ?_)
  clear hK K
  try simp only [Act.put, List.setIfInBounds_toArray, List.set_cons_zero, List.set_cons_succ]
  refine Reg.raise (fun w' => (((w'.cell? ⟨w.heap.size, 0, none⟩ = some (.int .i64 b) ∧ w'.cell? ⟨w.heap.size, 1, none⟩ = some (.int .i64 p) ∧ w'.cell? ⟨w.heap.size, 2, none⟩ = some (.int .i64 s) ∧ w'.cell? ⟨w.heap.size, 3, none⟩ = some (.int .i64 u) ∧ w'.cell? ⟨w.heap.size, 4, none⟩ = some (.int .i64 o) ∧ w'.cell? ⟨w.heap.size, 5, none⟩ = some (.int .i64 r) ∧ w'.cell? ⟨w.heap.size, 6, none⟩ = some (.int .i64 g) ∧ w'.cell? ⟨w.heap.size, 7, none⟩ = some (.int .i64 k) ∧ w'.cell? ⟨w.heap.size, 8, none⟩ = some (.int .i64 x)) ∧ (w'.cell? ⟨w3.heap.size, 0, none⟩ = some (.int .i64 d0) ∧ w'.cell? ⟨w3.heap.size, 1, none⟩ = some (.int .i64 d1) ∧ w'.cell? ⟨w3.heap.size, 2, none⟩ = some (.int .i64 d2) ∧ w'.cell? ⟨w3.heap.size, 3, none⟩ = some (.int .i64 d3) ∧ w'.cell? ⟨w3.heap.size, 4, none⟩ = some (.int .i64 d4) ∧ w'.cell? ⟨w3.heap.size, 5, none⟩ = some (.int .i64 d5) ∧ w'.cell? ⟨w3.heap.size, 6, none⟩ = some (.int .i64 d6) ∧ w'.cell? ⟨w3.heap.size, 7, none⟩ = some (.int .i64 d7) ∧ w'.cell? ⟨w3.heap.size, 8, none⟩ = some (.int .i64 d8)) ∧ (w'.cell? ⟨w5.heap.size, 0, none⟩ = some (.int .i64 d0) ∧ w'.cell? ⟨w5.heap.size, 1, none⟩ = some (.int .i64 d1) ∧ w'.cell? ⟨w5.heap.size, 2, none⟩ = some (.int .i64 d2) ∧ w'.cell? ⟨w5.heap.size, 3, none⟩ = some (.int .i64 d3) ∧ w'.cell? ⟨w5.heap.size, 4, none⟩ = some (.int .i64 d4) ∧ w'.cell? ⟨w5.heap.size, 5, none⟩ = some (.int .i64 d5) ∧ w'.cell? ⟨w5.heap.size, 6, none⟩ = some (.int .i64 d6) ∧ w'.cell? ⟨w5.heap.size, 7, none⟩ = some (.int .i64 d7) ∧ w'.cell? ⟨w5.heap.size, 8, none⟩ = some (.int .i64 d8))) ∧ (convert 24 9 (.slice a5 36 c5)).run Try.prog w' = .ok (.string (S en)) w') ∧ (convert 24 9 (.slice ar 36 cr)).run Try.prog w' = .ok (.string (S en)) w') (fun w h => h.1) (⟨hS, CV.out w7 ar cr or'⟩) (fun hS => ?_)
  refine wpAnyH_take (i := 4) (v := ?_) (by simp only [List.getElem?_toArray, List.getElem?_cons_succ, List.getElem?_cons_zero]; rfl) (by kernel_rfl) (by kernel_rfl) (by kernel_rfl) (by exact fun _ _ _ h => h) (Or.inl ⟨by rfl, ?_⟩) hS ?_
  rotate_left
  · intro w hSw
    go_simp
    try with_reducible rfl
  try simp only [Act.put, List.setIfInBounds_toArray, List.set_cons_zero, List.set_cons_succ]
  refine wpAnyH_take (i := 5) (v := ?_) (by simp only [List.getElem?_toArray, List.getElem?_cons_succ, List.getElem?_cons_zero]; rfl) (by kernel_rfl) (by kernel_rfl) (by kernel_rfl) (by exact fun _ _ _ h => h) (Or.inl ⟨by rfl, ?_⟩) hS ?_
  rotate_left
  · intro w hSw
    go_simp
    try with_reducible rfl
  try simp only [Act.put, List.setIfInBounds_toArray, List.set_cons_zero, List.set_cons_succ]
  refine wpAnyH_take (i := 6) (v := ?_) (by simp only [List.getElem?_toArray, List.getElem?_cons_succ, List.getElem?_cons_zero]; rfl) (by kernel_rfl) (by kernel_rfl) (by kernel_rfl) (by exact fun _ _ _ h => h) (Or.inl ⟨by rfl, ?_⟩) hS ?_
  rotate_left
  · intro w hSw
    go_simp
    try with_reducible rfl
  try simp only [Act.put, List.setIfInBounds_toArray, List.set_cons_zero, List.set_cons_succ]
  refine wpAnyH_take (i := 7) (v := ?_) (by simp only [List.getElem?_toArray, List.getElem?_cons_succ, List.getElem?_cons_zero]; rfl) (by kernel_rfl) (by kernel_rfl) (by kernel_rfl) (by exact fun _ _ _ h => h) (Or.inl ⟨by rfl, ?_⟩) hS ?_
  rotate_left
  · intro w hSw
    go_simp
    try with_reducible rfl
  try simp only [Act.put, List.setIfInBounds_toArray, List.set_cons_zero, List.set_cons_succ]
  refine wpAnyH_take (i := 8) (v := ?_) (by simp only [List.getElem?_toArray, List.getElem?_cons_succ, List.getElem?_cons_zero]; rfl) (by kernel_rfl) (by kernel_rfl) (by kernel_rfl) (by exact fun _ _ _ h => h) (Or.inl ⟨by rfl, ?_⟩) hS ?_
  rotate_left
  · intro w hSw
    go_simp
    try with_reducible rfl
  try simp only [Act.put, List.setIfInBounds_toArray, List.set_cons_zero, List.set_cons_succ]
  refine wpAnyH_take (i := 9) (v := ?_) (by simp only [List.getElem?_toArray, List.getElem?_cons_succ, List.getElem?_cons_zero]; rfl) (by kernel_rfl) (by kernel_rfl) (by kernel_rfl) (by exact fun _ _ _ h => h) (Or.inl ⟨by rfl, ?_⟩) hS ?_
  rotate_left
  · intro w hSw
    go_simp
    try with_reducible rfl
  try simp only [Act.put, List.setIfInBounds_toArray, List.set_cons_zero, List.set_cons_succ]
  refine wpAnyH_take (i := 10) (v := ?_) (by simp only [List.getElem?_toArray, List.getElem?_cons_succ, List.getElem?_cons_zero]; rfl) (by kernel_rfl) (by kernel_rfl) (by kernel_rfl) (by exact fun _ _ _ h => h) (Or.inl ⟨by rfl, ?_⟩) hS ?_
  rotate_left
  · intro w hSw
    go_simp
    try with_reducible rfl
  try simp only [Act.put, List.setIfInBounds_toArray, List.set_cons_zero, List.set_cons_succ]
  refine wpAnyH_take (i := 11) (v := ?_) (by simp only [List.getElem?_toArray, List.getElem?_cons_succ, List.getElem?_cons_zero]; rfl) (by kernel_rfl) (by kernel_rfl) (by kernel_rfl) (by exact fun _ _ _ h => h) (Or.inl ⟨by rfl, ?_⟩) hS ?_
  rotate_left
  · intro w hSw
    go_simp
    try with_reducible rfl
  try simp only [Act.put, List.setIfInBounds_toArray, List.set_cons_zero, List.set_cons_succ]
  refine wpAnyH_take (i := 12) (v := ?_) (by simp only [List.getElem?_toArray, List.getElem?_cons_succ, List.getElem?_cons_zero]; rfl) (by kernel_rfl) (by kernel_rfl) (by kernel_rfl) (by exact fun _ _ _ h => h) (Or.inl ⟨by rfl, ?_⟩) hS ?_
  rotate_left
  · intro w hSw
    go_simp
    try with_reducible rfl
  try simp only [Act.put, List.setIfInBounds_toArray, List.set_cons_zero, List.set_cons_succ]
  refine wpAnyH_take (i := 13) (v := ?_) (by simp only [List.getElem?_toArray, List.getElem?_cons_succ, List.getElem?_cons_zero]; rfl) (by kernel_rfl) (by kernel_rfl) (by kernel_rfl) (by exact fun _ _ _ h => h) (Or.inl ⟨by rfl, ?_⟩) hS ?_
  rotate_left
  · intro w hSw
    go_simp
    try with_reducible rfl
  try simp only [Act.put, List.setIfInBounds_toArray, List.set_cons_zero, List.set_cons_succ]
  refine wpAnyH_take (i := 14) (v := ?_) (by simp only [List.getElem?_toArray, List.getElem?_cons_succ, List.getElem?_cons_zero]; rfl) (by kernel_rfl) (by kernel_rfl) (by kernel_rfl) (by exact fun _ _ _ h => h) (Or.inl ⟨by rfl, ?_⟩) hS ?_
  rotate_left
  · intro w hSw
    go_simp
    try with_reducible rfl
  try simp only [Act.put, List.setIfInBounds_toArray, List.set_cons_zero, List.set_cons_succ]
  refine wpAnyH_take (i := 15) (v := ?_) (by simp only [List.getElem?_toArray, List.getElem?_cons_succ, List.getElem?_cons_zero]; rfl) (by kernel_rfl) (by kernel_rfl) (by kernel_rfl) (by exact fun _ _ _ h => h) (Or.inl ⟨by rfl, ?_⟩) hS ?_
  rotate_left
  · intro w hSw
    go_simp
    try with_reducible rfl
  try simp only [Act.put, List.setIfInBounds_toArray, List.set_cons_zero, List.set_cons_succ]
  refine wpAnyH_done (by kernel_rfl) ?_ _
  have D8 := Lib.hid (D6.out.trans (D7.out.mono D6.out.size))
  have o10 := own_below o9.out D7.out
  go_wp2_with fail
  refine (HX.out _ _ _ o10).mono ?_
  rintro e' w8 ⟨rfl, b8⟩
  have D9 := Lib.hid (D8.out.trans (b8.mono D8.out.size))
  have hbb := D7.out.trans (b8.mono D7.out.size)
  have n9 := Lib.hid (Mem.Blk.below n7.out hbb n7.out.lt)
  have m9 := Mem.Blk.below m7.out hbb m7.out.lt
  have hlt3 : w.heap.size < w3.heap.size := hlt30
  go_wp2_with (first | ((with_reducible show wpList _ _ _ (Oper.mk _ (Op.store 23 (.tmp 6) (.tmp 46)) _ _ _ _ :: _) _ _); refine Mem.storeBlk 23 (.tmp 6) (.tmp 46) rfl w3.heap.size rfl _ #[.int .i64 e0, .int .i64 e1, .int .i64 e2, .int .i64 e3, .int .i64 e4, .int .i64 e5, .int .i64 e6, .int .i64 e7, .int .i64 e8] rfl 23 n9.out i23 rfl (by kernel_rfl) w3.heap.size w8 (Below.refl _ _) (Nat.le_refl _) rfl ?_; intro w9 hB9 hb9; have m10 := Mem.Blk.below m9 hb9 hlt3; have D10 := Lib.hid (D9.out.trans (hb9.mono D3.out.size)); obtain ⟨k0, k1, k2, k3, k4, k5, k6, k7, k8⟩ := nine m10))
  refine (H16.out _).mono ?_
  rintro e' wz ⟨rfl, bz⟩
  go_wp2
  go_ret
  exact ⟨rfl, D10.out.trans (bz.mono D10.out.size)⟩

set_option maxRecDepth 100000 in
theorem lawB (b p s u o r g k x : Int) (a : Option Addr) (l : List Y8) (n c : Nat) (w : World) (hn : l.length = n) (hr : Rd w a l) (ha : ∀ x, 0 < l.length → a = some x → x.block < w.heap.size) (hk : check ⟨b, p, s, u, o, r, g, k, x⟩ = true) (hle : n ≤ 1000) :
    Calls Try.prog 3 #[.agg #[.int .i64 b, .int .i64 p, .int .i64 s, .int .i64 u, .int .i64 o, .int .i64 r, .int .i64 g, .int .i64 k, .int .i64 x], .slice a n c] w fun e w' => e = .returned (.bool true) ∧ Below w.heap.size w w' := by
  obtain ⟨w1, hw1⟩ : ∃ w1, w1 = w.alloc (.cells #[.int .i64 b, .int .i64 p, .int .i64 s, .int .i64 u, .int .i64 o, .int .i64 r, .int .i64 g, .int .i64 k, .int .i64 x] 23) := ⟨_, rfl⟩
  have c1 : Mem.Blk w1 w.heap.size 23 #[.int .i64 b, .int .i64 p, .int .i64 s, .int .i64 u, .int .i64 o, .int .i64 r, .int .i64 g, .int .i64 k, .int .i64 x] := by rw [hw1]; exact Mem.Blk.new w 23 _
  have D1 : Below w.heap.size w w1 := by rw [hw1]; exact (Below.refl _ _).alloc (Nat.le_refl _) _
  have H12 := Lib.hid (fun w => encW ⟨b, p, s, u, o, r, g, k, x⟩ w)
  have H15 := Lib.hid (fun w => encR ⟨b, p, s, u, o, r, g, k, x⟩ w)
  have H16 := Lib.hid (fun w => checkW ⟨b, p, s, u, o, r, g, k, x⟩ w)
  have H13 : Hid (∀ w', Below w.heap.size w w' → Calls Try.prog 13 #[.slice a n c] w' fun e w'' => e = .returned (.tuple #[cv (dec l).1, .int .i64 (dec l).2]) ∧ Below w'.heap.size w' w'') := Lib.hid fun w' hb => decW a l n c w' hn (Rd.below hr hb ha) (fun x h e => Nat.lt_of_lt_of_le (ha x h e) hb.size)
  have H14 : Hid (∀ w', Below w.heap.size w w' → Calls Try.prog 14 #[.slice a n c] w' fun e w'' => e = .returned (.tuple #[cv (dec l).1, .int .i64 (dec l).2]) ∧ Below w'.heap.size w' w'') := Lib.hid fun w' hb => decR a l n c w' hn (Rd.below hr hb ha) (fun x h e => Nat.lt_of_lt_of_le (ha x h e) hb.size)
  have HX : Hid (∀ w' a5 c5, Own w' w.heap.size (.slice a5 36 c5) (encTo ⟨b, p, s, u, o, r, g, k, x⟩ 9) → Calls Try.prog 13 #[.slice a5 36 c5] w' fun e w'' => e = .returned (.tuple #[cv (dec (encTo ⟨b, p, s, u, o, r, g, k, x⟩ 9)).1, .int .i64 (dec (encTo ⟨b, p, s, u, o, r, g, k, x⟩ 9)).2]) ∧ Below w'.heap.size w' w'') := Lib.hid fun w' a5 c5 h => decW a5 _ 36 c5 w' (encTo_length _ 9 (by omega)) h.rd.1 (fun x _ e => own_lt h x e)
  have hde := dec_enc ⟨b, p, s, u, o, r, g, k, x⟩ hk
  rw [hde] at HX
  rw [show errOf ⟨b, p, s, u, o, r, g, k, x⟩ = 0 from if_pos hk] at H16
  have hlen : (encTo ⟨b, p, s, u, o, r, g, k, x⟩ 9).length = 36 := encTo_length _ 9 (by omega)
  have hne : ∀ (d0 d1 d2 d3 d4 d5 d6 d7 d8 : Int) (w : World), (binOp .neq 23 (.agg #[.int .i64 d0, .int .i64 d1, .int .i64 d2, .int .i64 d3, .int .i64 d4, .int .i64 d5, .int .i64 d6, .int .i64 d7, .int .i64 d8]) (.agg #[.int .i64 d0, .int .i64 d1, .int .i64 d2, .int .i64 d3, .int .i64 d4, .int .i64 d5, .int .i64 d6, .int .i64 d7, .int .i64 d8])).run Try.prog w = .ok (.bool false) w := fun d0 d1 d2 d3 d4 d5 d6 d7 d8 w => by
    have := neq23 ⟨d0, d1, d2, d3, d4, d5, d6, d7, d8⟩ ⟨d0, d1, d2, d3, d4, d5, d6, d7, d8⟩ w
    simpa [cc] using this
  have heq : ∀ w : World, (binOp .eql 23 (.agg #[.int .i64 b, .int .i64 p, .int .i64 s, .int .i64 u, .int .i64 o, .int .i64 r, .int .i64 g, .int .i64 k, .int .i64 x]) (.agg #[.int .i64 b, .int .i64 p, .int .i64 s, .int .i64 u, .int .i64 o, .int .i64 r, .int .i64 g, .int .i64 k, .int .i64 x])).run Try.prog w = .ok (.bool true) w := fun w => by
    have := eql23 ⟨b, p, s, u, o, r, g, k, x⟩ ⟨b, p, s, u, o, r, g, k, x⟩ w
    simpa [cc] using this
  obtain ⟨⟨⟨d0, d1, d2, d3, d4, d5, d6, d7, d8⟩, DE⟩, hDE⟩ : ∃ q, q = dec l := ⟨_, rfl⟩
  rw [← hDE] at H13 H14
  have hne := hne d0 d1 d2 d3 d4 d5 d6 d7 d8
  generalize encTo ⟨b, p, s, u, o, r, g, k, x⟩ 9 = en at *
  unfold cv at H12 H13 H14 H15 H16 HX
  unfold cc at H12 H13 H14 H15 H16 HX
  simp only at H12 H13 H14 H15 H16 HX
  have CV : Hid (∀ (w' : World) a5 c5, Own w' w.heap.size (.slice a5 36 c5) en → (convert 24 9 (.slice a5 36 c5)).run Try.prog w' = .ok (.string (strB en)) w') := Lib.hid fun w' a5 c5 h => conv w' a5 en 36 c5 hlen h.rd.1
  generalize strB = S at CV
  have hgt : ¬ (1000 : Int) < (n : Int) := by omega
  replace c1 := Lib.hid c1
  replace D1 := Lib.hid D1
  replace hne := Lib.hid hne
  replace heq := Lib.hid heq
  clear hDE hk hn hr ha hlen hde
  go_enter Try.func3, Try.ntmps3
  go_wp2_with fail
  rw [← hw1]
  replace hw1 := Lib.hid hw1
  refine (GeoH.knownW _).mono ?_
  rintro e' w2 ⟨rfl, b2⟩
  have m2 := Mem.Blk.below c1.out b2 c1.out.lt
  have D2 := Lib.hid (D1.out.trans (b2.mono D1.out.size))
  clear b2
  obtain ⟨k0, k1, k2, k3, k4, k5, k6, k7, k8⟩ := nine m2
  go_wp2_with fail
  refine (H12.out _).mono ?_
  rintro e' wa ⟨a5, c5, rfl, o5, ba⟩
  have m3 := Mem.Blk.below m2 ba m2.lt
  have Da := Lib.hid (D2.out.trans (ba.mono D2.out.size))
  replace o5 := Lib.hid (own_mono o5 D2.out.size)
  clear k0 k1 k2 k3 k4 k5 k6 k7 k8 ba m2
  go_wp2_with fail
  refine (H13.out _ Da.out).mono ?_
  rintro e' w3 ⟨rfl, b3⟩
  have m4 := Mem.Blk.below m3 b3 m3.lt
  have hlt30 := m4.lt
  have D3 := Lib.hid (Da.out.trans (b3.mono Da.out.size))
  have o6 := Lib.hid (own_below o5.out b3)
  clear b3 m3 o5
  go_wp2_with fail
  obtain ⟨w4, hw4⟩ : ∃ w4, w4 = w3.alloc (.cells #[.int .i64 d0, .int .i64 d1, .int .i64 d2, .int .i64 d3, .int .i64 d4, .int .i64 d5, .int .i64 d6, .int .i64 d7, .int .i64 d8] 23) := ⟨_, rfl⟩
  rw [← hw4]
  have n4 : Mem.Blk w4 w3.heap.size 23 #[.int .i64 d0, .int .i64 d1, .int .i64 d2, .int .i64 d3, .int .i64 d4, .int .i64 d5, .int .i64 d6, .int .i64 d7, .int .i64 d8] := by rw [hw4]; exact Mem.Blk.new w3 23 _
  have m5 : Mem.Blk w4 w.heap.size 23 #[.int .i64 b, .int .i64 p, .int .i64 s, .int .i64 u, .int .i64 o, .int .i64 r, .int .i64 g, .int .i64 k, .int .i64 x] := by rw [hw4]; exact m4.alloc _
  have D4 : Hid (Below w.heap.size w w4) := Lib.hid (by rw [hw4]; exact D3.out.alloc D3.out.size _)
  have o7 : Hid (Own w4 w.heap.size (.slice a5 36 c5) en) := Lib.hid (by rw [hw4]; exact o6.out.alloc _)
  replace hw4 := Lib.hid hw4
  clear m4 o6
  go_wp2_with fail
  refine (H14.out _ D4.out).mono ?_
  rintro e' w5 ⟨rfl, b5⟩
  have n6 := Mem.Blk.below n4 b5 n4.lt
  have m6 := Mem.Blk.below m5 b5 m5.lt
  have D5 := Lib.hid (D4.out.trans (b5.mono D4.out.size))
  have o8 := Lib.hid (own_below o7.out b5)
  clear b5 m5 n4 o7
  go_wp2_with fail
  obtain ⟨w6, hw6⟩ : ∃ w6, w6 = w5.alloc (.cells #[.int .i64 d0, .int .i64 d1, .int .i64 d2, .int .i64 d3, .int .i64 d4, .int .i64 d5, .int .i64 d6, .int .i64 d7, .int .i64 d8] 23) := ⟨_, rfl⟩
  rw [← hw6]
  have p7 : Mem.Blk w6 w5.heap.size 23 #[.int .i64 d0, .int .i64 d1, .int .i64 d2, .int .i64 d3, .int .i64 d4, .int .i64 d5, .int .i64 d6, .int .i64 d7, .int .i64 d8] := by rw [hw6]; exact Mem.Blk.new w5 23 _
  have n7 : Mem.Blk w6 w3.heap.size 23 #[.int .i64 d0, .int .i64 d1, .int .i64 d2, .int .i64 d3, .int .i64 d4, .int .i64 d5, .int .i64 d6, .int .i64 d7, .int .i64 d8] := by rw [hw6]; exact n6.alloc _
  have m7 : Mem.Blk w6 w.heap.size 23 #[.int .i64 b, .int .i64 p, .int .i64 s, .int .i64 u, .int .i64 o, .int .i64 r, .int .i64 g, .int .i64 k, .int .i64 x] := by rw [hw6]; exact m6.alloc _
  have D6 : Hid (Below w.heap.size w w6) := Lib.hid (by rw [hw6]; exact D5.out.alloc D5.out.size _)
  have o9 : Hid (Own w6 w.heap.size (.slice a5 36 c5) en) := Lib.hid (by rw [hw6]; exact o8.out.alloc _)
  replace hw6 := Lib.hid hw6
  clear m6 n6 o8
  have AL : Hid (∀ w', Below w6.heap.size w6 w' → ((w'.cell? ⟨w.heap.size, 0, none⟩ = some (.int .i64 b) ∧ w'.cell? ⟨w.heap.size, 1, none⟩ = some (.int .i64 p) ∧ w'.cell? ⟨w.heap.size, 2, none⟩ = some (.int .i64 s) ∧ w'.cell? ⟨w.heap.size, 3, none⟩ = some (.int .i64 u) ∧ w'.cell? ⟨w.heap.size, 4, none⟩ = some (.int .i64 o) ∧ w'.cell? ⟨w.heap.size, 5, none⟩ = some (.int .i64 r) ∧ w'.cell? ⟨w.heap.size, 6, none⟩ = some (.int .i64 g) ∧ w'.cell? ⟨w.heap.size, 7, none⟩ = some (.int .i64 k) ∧ w'.cell? ⟨w.heap.size, 8, none⟩ = some (.int .i64 x)) ∧ (w'.cell? ⟨w3.heap.size, 0, none⟩ = some (.int .i64 d0) ∧ w'.cell? ⟨w3.heap.size, 1, none⟩ = some (.int .i64 d1) ∧ w'.cell? ⟨w3.heap.size, 2, none⟩ = some (.int .i64 d2) ∧ w'.cell? ⟨w3.heap.size, 3, none⟩ = some (.int .i64 d3) ∧ w'.cell? ⟨w3.heap.size, 4, none⟩ = some (.int .i64 d4) ∧ w'.cell? ⟨w3.heap.size, 5, none⟩ = some (.int .i64 d5) ∧ w'.cell? ⟨w3.heap.size, 6, none⟩ = some (.int .i64 d6) ∧ w'.cell? ⟨w3.heap.size, 7, none⟩ = some (.int .i64 d7) ∧ w'.cell? ⟨w3.heap.size, 8, none⟩ = some (.int .i64 d8)) ∧ (w'.cell? ⟨w5.heap.size, 0, none⟩ = some (.int .i64 d0) ∧ w'.cell? ⟨w5.heap.size, 1, none⟩ = some (.int .i64 d1) ∧ w'.cell? ⟨w5.heap.size, 2, none⟩ = some (.int .i64 d2) ∧ w'.cell? ⟨w5.heap.size, 3, none⟩ = some (.int .i64 d3) ∧ w'.cell? ⟨w5.heap.size, 4, none⟩ = some (.int .i64 d4) ∧ w'.cell? ⟨w5.heap.size, 5, none⟩ = some (.int .i64 d5) ∧ w'.cell? ⟨w5.heap.size, 6, none⟩ = some (.int .i64 d6) ∧ w'.cell? ⟨w5.heap.size, 7, none⟩ = some (.int .i64 d7) ∧ w'.cell? ⟨w5.heap.size, 8, none⟩ = some (.int .i64 d8))) ∧ (convert 24 9 (.slice a5 36 c5)).run Try.prog w' = .ok (.string (S en)) w') := Lib.hid fun w' hb => ⟨⟨nine (Mem.Blk.below m7 hb m7.lt), nine (Mem.Blk.below n7 hb n7.lt), nine (Mem.Blk.below p7 hb p7.lt)⟩, CV.out w' a5 c5 (own_below o9.out hb)⟩
  have DD : Hid (Below w6.heap.size w6 w6.drew) := Lib.hid (Below.refl _ _).drew
  replace m7 := Lib.hid m7
  replace n7 := Lib.hid n7
  replace p7 := Lib.hid p7
  try go_wp2_with fail
  have hne := hne.out
  refine wp_region_held_drew (S := fun w' => ((w'.cell? ⟨w.heap.size, 0, none⟩ = some (.int .i64 b) ∧ w'.cell? ⟨w.heap.size, 1, none⟩ = some (.int .i64 p) ∧ w'.cell? ⟨w.heap.size, 2, none⟩ = some (.int .i64 s) ∧ w'.cell? ⟨w.heap.size, 3, none⟩ = some (.int .i64 u) ∧ w'.cell? ⟨w.heap.size, 4, none⟩ = some (.int .i64 o) ∧ w'.cell? ⟨w.heap.size, 5, none⟩ = some (.int .i64 r) ∧ w'.cell? ⟨w.heap.size, 6, none⟩ = some (.int .i64 g) ∧ w'.cell? ⟨w.heap.size, 7, none⟩ = some (.int .i64 k) ∧ w'.cell? ⟨w.heap.size, 8, none⟩ = some (.int .i64 x)) ∧ (w'.cell? ⟨w3.heap.size, 0, none⟩ = some (.int .i64 d0) ∧ w'.cell? ⟨w3.heap.size, 1, none⟩ = some (.int .i64 d1) ∧ w'.cell? ⟨w3.heap.size, 2, none⟩ = some (.int .i64 d2) ∧ w'.cell? ⟨w3.heap.size, 3, none⟩ = some (.int .i64 d3) ∧ w'.cell? ⟨w3.heap.size, 4, none⟩ = some (.int .i64 d4) ∧ w'.cell? ⟨w3.heap.size, 5, none⟩ = some (.int .i64 d5) ∧ w'.cell? ⟨w3.heap.size, 6, none⟩ = some (.int .i64 d6) ∧ w'.cell? ⟨w3.heap.size, 7, none⟩ = some (.int .i64 d7) ∧ w'.cell? ⟨w3.heap.size, 8, none⟩ = some (.int .i64 d8)) ∧ (w'.cell? ⟨w5.heap.size, 0, none⟩ = some (.int .i64 d0) ∧ w'.cell? ⟨w5.heap.size, 1, none⟩ = some (.int .i64 d1) ∧ w'.cell? ⟨w5.heap.size, 2, none⟩ = some (.int .i64 d2) ∧ w'.cell? ⟨w5.heap.size, 3, none⟩ = some (.int .i64 d3) ∧ w'.cell? ⟨w5.heap.size, 4, none⟩ = some (.int .i64 d4) ∧ w'.cell? ⟨w5.heap.size, 5, none⟩ = some (.int .i64 d5) ∧ w'.cell? ⟨w5.heap.size, 6, none⟩ = some (.int .i64 d6) ∧ w'.cell? ⟨w5.heap.size, 7, none⟩ = some (.int .i64 d7) ∧ w'.cell? ⟨w5.heap.size, 8, none⟩ = some (.int .i64 d8))) ∧ (convert 24 9 (.slice a5 36 c5)).run Try.prog w' = .ok (.string (S en)) w') (by kernel_rfl) (AL.out _ DD.out) (fun hS => ?_)
  refine wpAnyH_take (i := 0) (v := ?_) (by simp only [List.getElem?_toArray, List.getElem?_cons_succ, List.getElem?_cons_zero]; rfl) (by kernel_rfl) (by kernel_rfl) (by kernel_rfl) (by exact fun _ _ _ h => h) (Or.inl ⟨by rfl, ?_⟩) hS ?_
  rotate_left
  · intro w hSw
    go_simp
    try with_reducible rfl
  try simp only [Act.put, List.setIfInBounds_toArray, List.set_cons_zero, List.set_cons_succ]
  refine wpAnyH_take (i := 1) (v := ?_) (by simp only [List.getElem?_toArray, List.getElem?_cons_succ, List.getElem?_cons_zero]; rfl) (by kernel_rfl) (by kernel_rfl) (by kernel_rfl) (by exact fun _ _ _ h => h) (Or.inl ⟨by rfl, ?_⟩) hS ?_
  rotate_left
  · intro w hSw
    go_simp
    try with_reducible rfl
  try simp only [Act.put, List.setIfInBounds_toArray, List.set_cons_zero, List.set_cons_succ]
  refine wpAnyH_take (i := 2) (v := ?_) (by simp only [List.getElem?_toArray, List.getElem?_cons_succ, List.getElem?_cons_zero]; rfl) (by kernel_rfl) (by kernel_rfl) (by kernel_rfl) (by exact fun _ _ _ h => h) (Or.inl ⟨by rfl, ?_⟩) hS ?_
  rotate_left
  · intro w hSw
    go_simp
    try with_reducible rfl
  try simp only [Act.put, List.setIfInBounds_toArray, List.set_cons_zero, List.set_cons_succ]
  refine wpAnyH_ready (rs := [3]) (by kernel_rfl) (by simp) ?_
  refine AllReadyH.cons (by simp only [List.getElem?_toArray, List.getElem?_cons_succ, List.getElem?_cons_zero]; rfl) (fun K hK => ?_) AllReadyH.nil
  go_simp
  go_at_call 15
  refine (H15.out _).mono ?_
  rintro e' w7 ⟨ar, cr, rfl, or', b7⟩
  have D7 : Hid (Below w6.heap.size w6 w7) := Lib.hid (DD.out.trans (b7.mono DD.out.size))
  replace or' := own_mono or' (Nat.le_trans D6.out.size DD.out.size)
  refine hK.out _ _ (AL.out w7 D7.out) (fun hS => ?_)
  clear hK K
  try simp only [Act.put, List.setIfInBounds_toArray, List.set_cons_zero, List.set_cons_succ]
  refine Reg.raise (fun w' => (((w'.cell? ⟨w.heap.size, 0, none⟩ = some (.int .i64 b) ∧ w'.cell? ⟨w.heap.size, 1, none⟩ = some (.int .i64 p) ∧ w'.cell? ⟨w.heap.size, 2, none⟩ = some (.int .i64 s) ∧ w'.cell? ⟨w.heap.size, 3, none⟩ = some (.int .i64 u) ∧ w'.cell? ⟨w.heap.size, 4, none⟩ = some (.int .i64 o) ∧ w'.cell? ⟨w.heap.size, 5, none⟩ = some (.int .i64 r) ∧ w'.cell? ⟨w.heap.size, 6, none⟩ = some (.int .i64 g) ∧ w'.cell? ⟨w.heap.size, 7, none⟩ = some (.int .i64 k) ∧ w'.cell? ⟨w.heap.size, 8, none⟩ = some (.int .i64 x)) ∧ (w'.cell? ⟨w3.heap.size, 0, none⟩ = some (.int .i64 d0) ∧ w'.cell? ⟨w3.heap.size, 1, none⟩ = some (.int .i64 d1) ∧ w'.cell? ⟨w3.heap.size, 2, none⟩ = some (.int .i64 d2) ∧ w'.cell? ⟨w3.heap.size, 3, none⟩ = some (.int .i64 d3) ∧ w'.cell? ⟨w3.heap.size, 4, none⟩ = some (.int .i64 d4) ∧ w'.cell? ⟨w3.heap.size, 5, none⟩ = some (.int .i64 d5) ∧ w'.cell? ⟨w3.heap.size, 6, none⟩ = some (.int .i64 d6) ∧ w'.cell? ⟨w3.heap.size, 7, none⟩ = some (.int .i64 d7) ∧ w'.cell? ⟨w3.heap.size, 8, none⟩ = some (.int .i64 d8)) ∧ (w'.cell? ⟨w5.heap.size, 0, none⟩ = some (.int .i64 d0) ∧ w'.cell? ⟨w5.heap.size, 1, none⟩ = some (.int .i64 d1) ∧ w'.cell? ⟨w5.heap.size, 2, none⟩ = some (.int .i64 d2) ∧ w'.cell? ⟨w5.heap.size, 3, none⟩ = some (.int .i64 d3) ∧ w'.cell? ⟨w5.heap.size, 4, none⟩ = some (.int .i64 d4) ∧ w'.cell? ⟨w5.heap.size, 5, none⟩ = some (.int .i64 d5) ∧ w'.cell? ⟨w5.heap.size, 6, none⟩ = some (.int .i64 d6) ∧ w'.cell? ⟨w5.heap.size, 7, none⟩ = some (.int .i64 d7) ∧ w'.cell? ⟨w5.heap.size, 8, none⟩ = some (.int .i64 d8))) ∧ (convert 24 9 (.slice a5 36 c5)).run Try.prog w' = .ok (.string (S en)) w') ∧ (convert 24 9 (.slice ar 36 cr)).run Try.prog w' = .ok (.string (S en)) w') (fun w h => h.1) (⟨hS, CV.out w7 ar cr or'⟩) (fun hS => ?_)
  refine wpAnyH_take (i := 4) (v := ?_) (by simp only [List.getElem?_toArray, List.getElem?_cons_succ, List.getElem?_cons_zero]; rfl) (by kernel_rfl) (by kernel_rfl) (by kernel_rfl) (by exact fun _ _ _ h => h) (Or.inl ⟨by rfl, ?_⟩) hS ?_
  rotate_left
  · intro w hSw
    go_simp
    try with_reducible rfl
  try simp only [Act.put, List.setIfInBounds_toArray, List.set_cons_zero, List.set_cons_succ]
  refine wpAnyH_take (i := 5) (v := ?_) (by simp only [List.getElem?_toArray, List.getElem?_cons_succ, List.getElem?_cons_zero]; rfl) (by kernel_rfl) (by kernel_rfl) (by kernel_rfl) (by exact fun _ _ _ h => h) (Or.inl ⟨by rfl, ?_⟩) hS ?_
  rotate_left
  · intro w hSw
    go_simp
    try with_reducible rfl
  try simp only [Act.put, List.setIfInBounds_toArray, List.set_cons_zero, List.set_cons_succ]
  refine wpAnyH_take (i := 6) (v := ?_) (by simp only [List.getElem?_toArray, List.getElem?_cons_succ, List.getElem?_cons_zero]; rfl) (by kernel_rfl) (by kernel_rfl) (by kernel_rfl) (by exact fun _ _ _ h => h) (Or.inl ⟨by rfl, ?_⟩) hS ?_
  rotate_left
  · intro w hSw
    go_simp
    try with_reducible rfl
  try simp only [Act.put, List.setIfInBounds_toArray, List.set_cons_zero, List.set_cons_succ]
  refine wpAnyH_take (i := 7) (v := ?_) (by simp only [List.getElem?_toArray, List.getElem?_cons_succ, List.getElem?_cons_zero]; rfl) (by kernel_rfl) (by kernel_rfl) (by kernel_rfl) (by exact fun _ _ _ h => h) (Or.inl ⟨by rfl, ?_⟩) hS ?_
  rotate_left
  · intro w hSw
    go_simp
    try with_reducible rfl
  try simp only [Act.put, List.setIfInBounds_toArray, List.set_cons_zero, List.set_cons_succ]
  refine wpAnyH_take (i := 8) (v := ?_) (by simp only [List.getElem?_toArray, List.getElem?_cons_succ, List.getElem?_cons_zero]; rfl) (by kernel_rfl) (by kernel_rfl) (by kernel_rfl) (by exact fun _ _ _ h => h) (Or.inl ⟨by rfl, ?_⟩) hS ?_
  rotate_left
  · intro w hSw
    go_simp
    try with_reducible rfl
  try simp only [Act.put, List.setIfInBounds_toArray, List.set_cons_zero, List.set_cons_succ]
  refine wpAnyH_take (i := 9) (v := ?_) (by simp only [List.getElem?_toArray, List.getElem?_cons_succ, List.getElem?_cons_zero]; rfl) (by kernel_rfl) (by kernel_rfl) (by kernel_rfl) (by exact fun _ _ _ h => h) (Or.inl ⟨by rfl, ?_⟩) hS ?_
  rotate_left
  · intro w hSw
    go_simp
    try with_reducible rfl
  try simp only [Act.put, List.setIfInBounds_toArray, List.set_cons_zero, List.set_cons_succ]
  refine wpAnyH_take (i := 10) (v := ?_) (by simp only [List.getElem?_toArray, List.getElem?_cons_succ, List.getElem?_cons_zero]; rfl) (by kernel_rfl) (by kernel_rfl) (by kernel_rfl) (by exact fun _ _ _ h => h) (Or.inl ⟨by rfl, ?_⟩) hS ?_
  rotate_left
  · intro w hSw
    go_simp
    try with_reducible rfl
  try simp only [Act.put, List.setIfInBounds_toArray, List.set_cons_zero, List.set_cons_succ]
  refine wpAnyH_take (i := 11) (v := ?_) (by simp only [List.getElem?_toArray, List.getElem?_cons_succ, List.getElem?_cons_zero]; rfl) (by kernel_rfl) (by kernel_rfl) (by kernel_rfl) (by exact fun _ _ _ h => h) (Or.inl ⟨by rfl, ?_⟩) hS ?_
  rotate_left
  · intro w hSw
    go_simp
    try with_reducible rfl
  try simp only [Act.put, List.setIfInBounds_toArray, List.set_cons_zero, List.set_cons_succ]
  refine wpAnyH_take (i := 12) (v := ?_) (by simp only [List.getElem?_toArray, List.getElem?_cons_succ, List.getElem?_cons_zero]; rfl) (by kernel_rfl) (by kernel_rfl) (by kernel_rfl) (by exact fun _ _ _ h => h) (Or.inl ⟨by rfl, ?_⟩) hS ?_
  rotate_left
  · intro w hSw
    go_simp
    try with_reducible rfl
  try simp only [Act.put, List.setIfInBounds_toArray, List.set_cons_zero, List.set_cons_succ]
  refine wpAnyH_take (i := 13) (v := ?_) (by simp only [List.getElem?_toArray, List.getElem?_cons_succ, List.getElem?_cons_zero]; rfl) (by kernel_rfl) (by kernel_rfl) (by kernel_rfl) (by exact fun _ _ _ h => h) (Or.inl ⟨by rfl, ?_⟩) hS ?_
  rotate_left
  · intro w hSw
    go_simp
    try with_reducible rfl
  try simp only [Act.put, List.setIfInBounds_toArray, List.set_cons_zero, List.set_cons_succ]
  refine wpAnyH_take (i := 14) (v := ?_) (by simp only [List.getElem?_toArray, List.getElem?_cons_succ, List.getElem?_cons_zero]; rfl) (by kernel_rfl) (by kernel_rfl) (by kernel_rfl) (by exact fun _ _ _ h => h) (Or.inl ⟨by rfl, ?_⟩) hS ?_
  rotate_left
  · intro w hSw
    go_simp
    try with_reducible rfl
  try simp only [Act.put, List.setIfInBounds_toArray, List.set_cons_zero, List.set_cons_succ]
  refine wpAnyH_take (i := 15) (v := ?_) (by simp only [List.getElem?_toArray, List.getElem?_cons_succ, List.getElem?_cons_zero]; rfl) (by kernel_rfl) (by kernel_rfl) (by kernel_rfl) (by exact fun _ _ _ h => h) (Or.inl ⟨by rfl, ?_⟩) hS ?_
  rotate_left
  · intro w hSw
    go_simp
    try with_reducible rfl
  try simp only [Act.put, List.setIfInBounds_toArray, List.set_cons_zero, List.set_cons_succ]
  refine wpAnyH_done (by kernel_rfl) ?_ _
  have D8 := Lib.hid (D6.out.trans (D7.out.mono D6.out.size))
  have o10 := own_below o9.out D7.out
  go_wp2_with fail
  refine (HX.out _ _ _ o10).mono ?_
  rintro e' w8 ⟨rfl, b8⟩
  have D9 := Lib.hid (D8.out.trans (b8.mono D8.out.size))
  have hbb := D7.out.trans (b8.mono D7.out.size)
  have n9 := Lib.hid (Mem.Blk.below n7.out hbb n7.out.lt)
  have m9 := Mem.Blk.below m7.out hbb m7.out.lt
  have hlt3 : w.heap.size < w3.heap.size := hlt30
  go_wp2_with (first | ((with_reducible show wpList _ _ _ (Oper.mk _ (Op.store 23 (.tmp 6) (.tmp 46)) _ _ _ _ :: _) _ _); refine Mem.storeBlk 23 (.tmp 6) (.tmp 46) rfl w3.heap.size rfl _ #[.int .i64 b, .int .i64 p, .int .i64 s, .int .i64 u, .int .i64 o, .int .i64 r, .int .i64 g, .int .i64 k, .int .i64 x] rfl 23 n9.out i23 rfl (by kernel_rfl) w3.heap.size w8 (Below.refl _ _) (Nat.le_refl _) rfl ?_; intro w9 hB9 hb9; have m10 := Mem.Blk.below m9 hb9 hlt3; have D10 := Lib.hid (D9.out.trans (hb9.mono D3.out.size)); obtain ⟨k0, k1, k2, k3, k4, k5, k6, k7, k8⟩ := nine m10))
  refine (H16.out _).mono ?_
  rintro e' wz ⟨rfl, bz⟩
  have m11 := Mem.Blk.below m10 bz m10.lt
  have n11 := Mem.Blk.below hB9 bz hB9.lt
  clear k0 k1 k2 k3 k4 k5 k6 k7 k8
  obtain ⟨k0, k1, k2, k3, k4, k5, k6, k7, k8⟩ := nine m11
  obtain ⟨i0, i1, i2, i3, i4, i5, i6, i7, i8⟩ := nine n11
  have heq := heq.out
  go_wp2
  go_ret
  exact ⟨rfl, D10.out.trans (bz.mono D10.out.size)⟩

set_option maxRecDepth 100000 in
theorem lawC (b p s u o r g k x : Int) (a : Option Addr) (n c : Nat) (w : World) (hgt : 1000 < n) :
    Calls Try.prog 3 #[.agg #[.int .i64 b, .int .i64 p, .int .i64 s, .int .i64 u, .int .i64 o, .int .i64 r, .int .i64 g, .int .i64 k, .int .i64 x], .slice a n c] w fun e w' => e = .returned (.bool true) ∧ Below w.heap.size w w' := by
  obtain ⟨w1, hw1⟩ : ∃ w1, w1 = w.alloc (.cells #[.int .i64 b, .int .i64 p, .int .i64 s, .int .i64 u, .int .i64 o, .int .i64 r, .int .i64 g, .int .i64 k, .int .i64 x] 23) := ⟨_, rfl⟩
  have D1 : Below w.heap.size w w1 := by rw [hw1]; exact (Below.refl _ _).alloc (Nat.le_refl _) _
  have hg : (1000 : Int) < (n : Int) := by omega
  go_enter Try.func3, Try.ntmps3
  go_wp2_with fail
  rw [← hw1]
  refine (GeoH.knownW _).mono ?_
  rintro e' w2 ⟨rfl, b2⟩
  go_wp2
  go_ret
  exact ⟨rfl, D1.trans (b2.mono D1.size)⟩
theorem law (b p s u o r g k x : Int) (a : Option Addr) (n c : Nat) (zs : List Int) (w : World) (h : IsRow .u8 w a n c zs) :
    Calls Try.prog 3 #[.agg #[.int .i64 b, .int .i64 p, .int .i64 s, .int .i64 u, .int .i64 o, .int .i64 r, .int .i64 g, .int .i64 k, .int .i64 x], .slice a n c] w fun e w' => e = .returned (.bool true) ∧ Below w.heap.size w w' := by
  obtain ⟨l, hn, hr, _, ha⟩ := h.bytes
  by_cases hle : n ≤ 1000
  · by_cases hk : check ⟨b, p, s, u, o, r, g, k, x⟩ = true
    · exact lawB b p s u o r g k x a l n c w hn hr (fun x h e => ha x (by omega) e) hk hle
    · exact lawA b p s u o r g k x a l n c w hn hr (fun x h e => ha x (by omega) e) hk hle
  · exact lawC b p s u o r g k x a n c w (by omega)

end Go.Proofs.Ytbnjijlpbeplmaa.GeoV
