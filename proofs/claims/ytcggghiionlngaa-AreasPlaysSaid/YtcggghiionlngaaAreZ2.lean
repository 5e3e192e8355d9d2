/- The document's geom: whether areas fit. -/
import Derived.Test.YtcggghiionlngaaAreZ1
namespace Go.Proofs.Ytcggghiionlngaa.AreZ2
open Go.ChangeShapes Go.WideShapes Go.ChangeAt Go.RowKit
open Mem GeoM GeoC GeoD GeoE GeoF AreA AreB AreC AreD AreF AreG AreH AreI AreJ AreK AreL AreZ1
set_option linter.unusedVariables false
set_option maxHeartbeats 4000000

theorem e14 (e : Int) (h : 0 ≤ e ∧ e ≤ 255) : bits .and .u8 e 14 = bits .andNot .u8 e 241 := by
  obtain ⟨n, rfl⟩ := Int.eq_ofNat_of_zero_le h.1
  have H : ∀ n : Fin 256, bits .and .u8 ((n.val : Nat) : Int) 14 = bits .andNot .u8 ((n.val : Nat) : Int) 241 := by decide +kernel
  exact H ⟨n, by omega⟩
def psum (a : Stt) : Nat → Int
  | 0 => 0
  | k + 1 => psum a k + (zl a).getD k 0
theorem psum_all (a : Stt) : psum a 4 = a.z0 + a.z1 + a.z2 + a.z3 := by
  simp [psum, zl]
theorem psum_bd (a : Stt) : ∀ k : Nat, (∀ j, j < k → 0 ≤ (zl a).getD j 0 ∧ (zl a).getD j 0 ≤ 32) → 0 ≤ psum a k ∧ psum a k ≤ 32 * (k : Int)
  | 0, _ => ⟨by simp [psum], by simp [psum]⟩
  | k + 1, h => by
    have h1 := psum_bd a k (fun j hj => h j (by omega))
    have h2 := h k (by omega)
    simp only [psum]
    omega

theorem fitsRA (c : Cfg) (a : Stt) (e : Int) (hk : ¬ check c = true) (w : World) : Calls Try.prog 30 #[cv c, .agg (zs a), .int .u8 e] w fun e' w' => e' = .returned (.bool false) ∧ Below w.heap.size w w' := by
  have HC := Lib.hid (fun w => by have := GeoR.checkRW c w; rw [show errOf c = 1 from if_neg hk] at this; exact this)
  obtain ⟨b, p, q, u, o, r, gg, kk, x⟩ := c
  obtain ⟨z0, z1, z2, z3, ee, dd⟩ := a
  have HC' : Hid (∀ w, Calls Try.prog 21 #[.agg #[.int .i64 b, .int .i64 p, .int .i64 q, .int .i64 u, .int .i64 o, .int .i64 r, .int .i64 gg, .int .i64 kk, .int .i64 x]] w fun e w' => e = .returned (.int .i64 1) ∧ Below w.heap.size w w') := Lib.hid HC.out
  clear HC
  have Dz : Hid (Below w.heap.size w ((w.alloc (.cells #[.int .i64 b, .int .i64 p, .int .i64 q, .int .i64 u, .int .i64 o, .int .i64 r, .int .i64 gg, .int .i64 kk, .int .i64 x] 23)).alloc (.cells #[.int .i64 z0, .int .i64 z1, .int .i64 z2, .int .i64 z3] 24))) := Lib.hid (((Below.refl _ _).alloc (Nat.le_refl _) _).alloc (by simp) _)
  show Calls Try.prog 30 #[.agg #[.int .i64 b, .int .i64 p, .int .i64 q, .int .i64 u, .int .i64 o, .int .i64 r, .int .i64 gg, .int .i64 kk, .int .i64 x], .agg #[.int .i64 z0, .int .i64 z1, .int .i64 z2, .int .i64 z3], .int .u8 e] w _
  go_enter Try.func30, Try.ntmps30
  go_wp2_with fail
  refine (HC'.out _).mono ?_
  rintro e' w1 ⟨rfl, b1⟩
  have d1 := Lib.hid (Dz.out.trans (b1.mono Dz.out.size))
  clear b1
  go_wp2
  go_ret
  exact ⟨rfl, d1.out⟩
theorem fitsRB (c : Cfg) (a : Stt) (e : Int) (hk : check c = true) (he : (bits .and .u8 e 14 != 0) = true) (w : World) : Calls Try.prog 30 #[cv c, .agg (zs a), .int .u8 e] w fun e' w' => e' = .returned (.bool false) ∧ Below w.heap.size w w' := by
  have HC := Lib.hid (fun w => by have := GeoR.checkRW c w; rw [show errOf c = 0 from if_pos hk] at this; exact this)
  obtain ⟨b, p, q, u, o, r, gg, kk, x⟩ := c
  obtain ⟨z0, z1, z2, z3, ee, dd⟩ := a
  have HC' : Hid (∀ w, Calls Try.prog 21 #[.agg #[.int .i64 b, .int .i64 p, .int .i64 q, .int .i64 u, .int .i64 o, .int .i64 r, .int .i64 gg, .int .i64 kk, .int .i64 x]] w fun e w' => e = .returned (.int .i64 0) ∧ Below w.heap.size w w') := Lib.hid HC.out
  clear HC
  have Dz : Hid (Below w.heap.size w ((w.alloc (.cells #[.int .i64 b, .int .i64 p, .int .i64 q, .int .i64 u, .int .i64 o, .int .i64 r, .int .i64 gg, .int .i64 kk, .int .i64 x] 23)).alloc (.cells #[.int .i64 z0, .int .i64 z1, .int .i64 z2, .int .i64 z3] 24))) := Lib.hid (((Below.refl _ _).alloc (Nat.le_refl _) _).alloc (by simp) _)
  show Calls Try.prog 30 #[.agg #[.int .i64 b, .int .i64 p, .int .i64 q, .int .i64 u, .int .i64 o, .int .i64 r, .int .i64 gg, .int .i64 kk, .int .i64 x], .agg #[.int .i64 z0, .int .i64 z1, .int .i64 z2, .int .i64 z3], .int .u8 e] w _
  go_enter Try.func30, Try.ntmps30
  go_wp2_with fail
  refine (HC'.out _).mono ?_
  rintro e' w1 ⟨rfl, b1⟩
  have d1 := Lib.hid (Dz.out.trans (b1.mono Dz.out.size))
  clear b1
  go_wp2
  go_ret
  exact ⟨rfl, d1.out⟩
set_option maxRecDepth 100000 in
theorem fitsRC (b p q u o r gg kk x z0 z1 z2 z3 e : Int) (hk : check ⟨b, p, q, u, o, r, gg, kk, x⟩ = true) (he : (bits .and .u8 e 14 != 0) = false) (he' : (bits BinOp.andNot IntKind.u8 e 241 != 0) = false) (w : World) : Calls Try.prog 30 #[cv ⟨b, p, q, u, o, r, gg, kk, x⟩, .agg (zs ⟨z0, z1, z2, z3, 0, false⟩), .int .u8 e] w fun e' w' => e' = .returned (.bool (fitsV ⟨b, p, q, u, o, r, gg, kk, x⟩ z0 z1 z2 z3 e)) ∧ Below w.heap.size w w' := by
  have HC : Hid (∀ w, Calls Try.prog 21 #[.agg #[.int .i64 b, .int .i64 p, .int .i64 q, .int .i64 u, .int .i64 o, .int .i64 r, .int .i64 gg, .int .i64 kk, .int .i64 x]] w fun e w' => e = .returned (.int .i64 0) ∧ Below w.heap.size w w') := Lib.hid (fun w => by have := GeoR.checkRW ⟨b, p, q, u, o, r, gg, kk, x⟩ w; rw [show errOf ⟨b, p, q, u, o, r, gg, kk, x⟩ = 0 from if_pos hk] at this; exact this)
  have hck := check_plain hk
  have hp := Lib.hid hck.1
  have hgl := hck.2.2.1
  have hpp := hp.out
  unfold Plain at hpp
  simp only at hpp
  have HG : Hid (∀ w, Calls Try.prog 44 #[.agg #[.int .i64 b, .int .i64 p, .int .i64 q, .int .i64 u, .int .i64 o, .int .i64 r, .int .i64 gg, .int .i64 kk, .int .i64 x]] w fun e w' => e = .returned (.int .i64 (groups ⟨b, p, q, u, o, r, gg, kk, x⟩)) ∧ Below w.heap.size w w') := Lib.hid (fun w => groupsR ⟨b, p, q, u, o, r, gg, kk, x⟩ (by show 1 ≤ gg; omega) ⟨by show 1 ≤ u; omega, by show u ≤ 16384; omega⟩ w)
  have HV1 := Lib.hid (fun (hz : 0 ≤ z0 ∧ 0 ≤ z1 ∧ 0 ≤ z2 ∧ 0 ≤ z3) => fitsV_eq ⟨b, p, q, u, o, r, gg, kk, x⟩ z0 z1 z2 z3 e hk hz he')
  have HV0 : Hid (¬ ((0 ≤ z0 ∧ 0 ≤ z1 ∧ 0 ≤ z2 ∧ 0 ≤ z3) ∧ z0 + z1 + z2 + z3 < groups ⟨b, p, q, u, o, r, gg, kk, x⟩) → fitsV ⟨b, p, q, u, o, r, gg, kk, x⟩ z0 z1 z2 z3 e = false) := Lib.hid fun h => by
    cases hf : fitsV ⟨b, p, q, u, o, r, gg, kk, x⟩ z0 z1 z2 z3 e with
    | false => rfl
    | true =>
      unfold fitsV at hf
      simp only [Bool.and_eq_true, decide_eq_true_eq] at hf
      exact absurd ⟨hf.1.1.2, hf.1.2⟩ h
  have HSZ : Hid (∀ (hS : Sm ⟨z0, z1, z2, z3, 0, false⟩) w, Calls Try.prog 45 #[.agg #[.int .i64 b, .int .i64 p, .int .i64 q, .int .i64 u, .int .i64 o, .int .i64 r, .int .i64 gg, .int .i64 kk, .int .i64 x], .agg #[.int .i64 z0, .int .i64 z1, .int .i64 z2, .int .i64 z3]] w fun e w' => e = .returned (.agg (szV ⟨b, p, q, u, o, r, gg, kk, x⟩ ⟨z0, z1, z2, z3, 0, false⟩)) ∧ Below w.heap.size w w') := Lib.hid fun hS w => sizesR ⟨b, p, q, u, o, r, gg, kk, x⟩ ⟨z0, z1, z2, z3, 0, false⟩ ⟨⟨by show 1 ≤ u; omega, by show u ≤ 16384; omega⟩, ⟨by show 1 ≤ gg; omega, by show gg ≤ 16384; omega⟩, hS, ⟨by show 1 ≤ o; omega, by show o ≤ 256; omega⟩, ⟨by show 1 ≤ r; omega, by show r ≤ 256; omega⟩⟩ w
  have HGD : Hid (Sm ⟨z0, z1, z2, z3, 0, false⟩ → Gd ⟨b, p, q, u, o, r, gg, kk, x⟩ ⟨z0, z1, z2, z3, 0, false⟩) := Lib.hid fun hS => ⟨⟨by show 1 ≤ u; omega, by show u ≤ 16384; omega⟩, ⟨by show 1 ≤ gg; omega, by show gg ≤ 16384; omega⟩, hS, ⟨by show 1 ≤ o; omega, by show o ≤ 256; omega⟩, ⟨by show 1 ≤ r; omega, by show r ≤ 256; omega⟩⟩
  generalize groups ⟨b, p, q, u, o, r, gg, kk, x⟩ = gr at *
  generalize fitsV ⟨b, p, q, u, o, r, gg, kk, x⟩ z0 z1 z2 z3 e = FV at *
  obtain ⟨w0, hw0⟩ : ∃ w0, w0 = w.alloc (.cells #[.int .i64 b, .int .i64 p, .int .i64 q, .int .i64 u, .int .i64 o, .int .i64 r, .int .i64 gg, .int .i64 kk, .int .i64 x] 23) := ⟨_, rfl⟩
  obtain ⟨wz, hwz⟩ : ∃ wz, wz = w0.alloc (.cells #[.int .i64 z0, .int .i64 z1, .int .i64 z2, .int .i64 z3] 24) := ⟨_, rfl⟩
  have s0 : w0.heap.size = w.heap.size + 1 := by rw [hw0]; simp
  have c1' : Mem.Blk w0 w.heap.size 23 #[.int .i64 b, .int .i64 p, .int .i64 q, .int .i64 u, .int .i64 o, .int .i64 r, .int .i64 gg, .int .i64 kk, .int .i64 x] := by rw [hw0]; exact Mem.Blk.new w 23 _
  have cz : Hid (Mem.Blk wz w.heap.size 23 #[.int .i64 b, .int .i64 p, .int .i64 q, .int .i64 u, .int .i64 o, .int .i64 r, .int .i64 gg, .int .i64 kk, .int .i64 x]) := Lib.hid (by rw [hwz]; exact c1'.alloc _)
  have ez : Hid (Mem.Blk wz (w.heap.size + 1) 24 #[.int .i64 z0, .int .i64 z1, .int .i64 z2, .int .i64 z3]) := Lib.hid (by rw [hwz, ← s0]; exact Mem.Blk.new w0 24 _)
  have Dz : Hid (Below w.heap.size w wz) := Lib.hid (by rw [hwz, hw0]; exact ((Below.refl _ _).alloc (Nat.le_refl _) _).alloc (by simp) _)
  clear c1' s0 hk hck hpp he'
  show Calls Try.prog 30 #[.agg #[.int .i64 b, .int .i64 p, .int .i64 q, .int .i64 u, .int .i64 o, .int .i64 r, .int .i64 gg, .int .i64 kk, .int .i64 x], .agg #[.int .i64 z0, .int .i64 z1, .int .i64 z2, .int .i64 z3], .int .u8 e] w _
  go_enter Try.func30, Try.ntmps30
  go_wp2_with fail
  rw [← hw0, ← hwz]
  replace hw0 := Lib.hid hw0
  replace hwz := Lib.hid hwz
  refine (HC.out _).mono ?_
  rintro e' w1 ⟨rfl, b1⟩
  have d1 := Lib.hid (Dz.out.trans (b1.mono Dz.out.size))
  have hm1 := Lib.hid (cz.out.below b1 cz.out.lt)
  have em1 := Lib.hid (ez.out.below b1 ez.out.lt)
  clear b1 cz ez Dz
  have HZ : Hid (∀ k, k < 4 → w1.cell? ⟨w.heap.size + 1, k, none⟩ = some (.int .i64 ((zl ⟨z0, z1, z2, z3, 0, false⟩).getD k 0))) := Lib.hid fun k hk => (em1.out.cell k).trans (zs_cell ⟨z0, z1, z2, z3, 0, false⟩ k hk)
  go_wp2_with fail
  go_loop [7, 8] (fun al i => ∃ k : Nat, k ≤ 4 ∧ i = .int .i64 (k : Int) ∧ al = .int .i64 (psum ⟨z0, z1, z2, z3, 0, false⟩ k) ∧ ∀ j, j < k → 0 ≤ (zl ⟨z0, z1, z2, z3, 0, false⟩).getD j 0 ∧ (zl ⟨z0, z1, z2, z3, 0, false⟩).getD j 0 ≤ 32) (fun _ i => 4 - (intOf i).toNat)
  case atStart => exact ⟨0, by omega, rfl, rfl, fun j hj => absurd hj (by omega)⟩
  case round =>
    obtain ⟨k, hk, rfl, rfl, hall⟩ := hrel
    have hpb := psum_bd ⟨z0, z1, z2, z3, 0, false⟩ k hall
    by_cases hlt : k < 4
    · have hlt' : (k : Int) < 4 := by omega
      have hc := HZ.out k hlt
      have hps : Hid (psum ⟨z0, z1, z2, z3, 0, false⟩ (k + 1) = psum ⟨z0, z1, z2, z3, 0, false⟩ k + (zl ⟨z0, z1, z2, z3, 0, false⟩).getD k 0) := Lib.hid rfl
      have hbad : Hid (¬ (0 ≤ (zl ⟨z0, z1, z2, z3, 0, false⟩).getD k 0 ∧ (zl ⟨z0, z1, z2, z3, 0, false⟩).getD k 0 ≤ 32) → ¬ ((0 ≤ z0 ∧ 0 ≤ z1 ∧ 0 ≤ z2 ∧ 0 ≤ z3) ∧ z0 + z1 + z2 + z3 < gr)) := Lib.hid fun h hh => by
        apply h
        obtain rfl | rfl | rfl | rfl := AreZ1.four_of hlt
        · show 0 ≤ z0 ∧ z0 ≤ 32; omega
        · show 0 ≤ z1 ∧ z1 ≤ 32; omega
        · show 0 ≤ z2 ∧ z2 ≤ 32; omega
        · show 0 ≤ z3 ∧ z3 ≤ 32; omega
      replace hall := Lib.hid hall
      obtain ⟨V, hV⟩ : ∃ V, V = (zl ⟨z0, z1, z2, z3, 0, false⟩).getD k 0 := ⟨_, rfl⟩
      rw [← hV] at hc hps hbad
      obtain ⟨PS, hPS⟩ : ∃ PS, PS = psum ⟨z0, z1, z2, z3, 0, false⟩ k := ⟨_, rfl⟩
      rw [← hPS] at hpb hps ⊢
      replace hV := Lib.hid hV
      replace hPS := Lib.hid hPS
      by_cases h1 : V < 0
      · have hf := Lib.hid (HV0.out (hbad.out (by omega)))
        go_wp2
        go_ret
        exact ⟨by rw [hf.out]; rfl, d1.out⟩
      · by_cases h2 : 32 < V
        · have hf := Lib.hid (HV0.out (hbad.out (by omega)))
          go_wp2
          go_ret
          exact ⟨by rw [hf.out]; rfl, d1.out⟩
        · have hws : IntKind.i64.wrap (PS + V) = PS + V := by rw [IntKind.wrap_i64]; omega
          go_wp2_with fail
          go_round
          case rel => exact ⟨k + 1, by omega, by go_num, by rw [hps.out], fun j hj => if ej : j = k then by subst ej; rw [← hV.out]; omega else hall.out j (by omega)⟩
          case measure => simp [intOf]; omega
    · obtain rfl : k = 4 := by omega
      have hlt' : ¬ ((4 : Nat) : Int) < 4 := by omega
      have hS : Sm ⟨z0, z1, z2, z3, 0, false⟩ := ⟨hall 0 (by omega), hall 1 (by omega), hall 2 (by omega), hall 3 (by omega)⟩
      have hS' : (0 ≤ z0 ∧ 0 ≤ z1 ∧ 0 ≤ z2 ∧ 0 ≤ z3) := ⟨hS.1.1, hS.2.1.1, hS.2.2.1.1, hS.2.2.2.1⟩
      have hps : psum ⟨z0, z1, z2, z3, 0, false⟩ 4 = z0 + z1 + z2 + z3 := psum_all ⟨z0, z1, z2, z3, 0, false⟩
      rw [hps] at hpb ⊢
      have HVV := Lib.hid (HV1.out hS')
      have HSW := Lib.hid (HSZ.out hS)
      have hGd := Lib.hid (HGD.out hS)
      clear hall hS hS' hps HZ HV1 HSZ HGD
      obtain ⟨j0, j1, j2, j3, j4, j5, j6, j7, j8⟩ := nine hm1.out
      go_wp2_with fail
      refine (HG.out _).mono ?_
      rintro e' w2 ⟨rfl, b2⟩
      have d2 := Lib.hid (d1.out.trans (b2.mono d1.out.size))
      have hm2 := Lib.hid (hm1.out.below b2 hm1.out.lt)
      have em2 := Lib.hid (em1.out.below b2 em1.out.lt)
      clear j0 j1 j2 j3 j4 j5 j6 j7 j8 b2 hm1 em1 d1
      by_cases hsum : gr ≤ z0 + z1 + z2 + z3
      · have hf := Lib.hid (HV0.out (fun h => by omega))
        go_wp2
        go_ret
        exact ⟨by rw [hf.out]; rfl, d2.out⟩
      · have hsl : Hid (z0 + z1 + z2 + z3 < gr) := Lib.hid (by omega)
        obtain ⟨j0, j1, j2, j3, j4, j5, j6, j7, j8⟩ := nine hm2.out
        have q0 := em2.out.cell 0
        have q1 := em2.out.cell 1
        have q2 := em2.out.cell 2
        have q3 := em2.out.cell 3
        simp only [List.getElem?_toArray, List.getElem?_cons_succ, List.getElem?_cons_zero] at q0 q1 q2 q3
        unfold szV at HSW
        simp only at HSW
        go_wp2_with fail
        refine (HSW.out _).mono ?_
        rintro e' w3 ⟨rfl, b3⟩
        have d3 := Lib.hid (d2.out.trans (b3.mono d2.out.size))
        have hm3' := hm2.out.below b3 hm2.out.lt
        clear j0 j1 j2 j3 j4 j5 j6 j7 j8 q0 q1 q2 q3 b3 hm2 em2 d2
        go_wp2_with fail
        obtain ⟨w5, hw5⟩ : ∃ w5, w5 = w3.alloc (.cells (szV ⟨b, p, q, u, o, r, gg, kk, x⟩ ⟨z0, z1, z2, z3, 0, false⟩) 76) := ⟨_, rfl⟩
        have hm3 : Hid (Mem.Blk w5 w.heap.size 23 #[.int .i64 b, .int .i64 p, .int .i64 q, .int .i64 u, .int .i64 o, .int .i64 r, .int .i64 gg, .int .i64 kk, .int .i64 x]) := Lib.hid (by rw [hw5]; exact hm3'.alloc _)
        have hz5 : Hid (Mem.Blk w5 w3.heap.size 76 (szV ⟨b, p, q, u, o, r, gg, kk, x⟩ ⟨z0, z1, z2, z3, 0, false⟩)) := Lib.hid (by rw [hw5]; exact Mem.Blk.new w3 76 _)
        have d5 : Hid (Below w.heap.size w w5) := Lib.hid (by rw [hw5]; exact d3.out.alloc d3.out.size _)
        unfold szV at hw5
        simp only at hw5
        rw [← hw5]
        replace hw5 := Lib.hid hw5
        clear hm3' d3
        have HEC : Hid (∀ k, k < 8 → w5.cell? ⟨w3.heap.size, k, none⟩ = some (.int .i64 ((sz ⟨b, p, q, u, o, r, gg, kk, x⟩ ⟨z0, z1, z2, z3, 0, false⟩).getD k 0))) := Lib.hid fun k hk => by
          have h := hz5.out.cell k
          rw [h]
          have h2 := szV_at ⟨b, p, q, u, o, r, gg, kk, x⟩ ⟨z0, z1, z2, z3, 0, false⟩ k hk
          rw [← h2, ← Array.getElem?_toList]
        have hEB := Lib.hid (fun k => enN_bd (e := e) hGd.out k)
        have hES := Lib.hid (fun k => enN_succ ⟨b, p, q, u, o, r, gg, kk, x⟩ ⟨z0, z1, z2, z3, 0, false⟩ e k)
        have hSB := Lib.hid (fun k => hGd.out.bd k)
        go_loop [10, 11] (fun v i => ∃ k : Nat, k ≤ 8 ∧ i = .int .i64 (k : Int) ∧ v = .int .i64 (enN ⟨b, p, q, u, o, r, gg, kk, x⟩ ⟨z0, z1, z2, z3, 0, false⟩ e k)) (fun _ i => 8 - (intOf i).toNat)
        case atStart => exact ⟨0, by omega, rfl, rfl⟩
        case round =>
          obtain ⟨k, hk, rfl, rfl⟩ := hrel
          by_cases hlt : k < 8
          · have hlt' : (k : Int) < 8 := by omega
            have hc := HEC.out k hlt
            have hs := hSB.out k
            have hn := hEB.out k
            have hes := hES.out k
            obtain ⟨N, hN⟩ : ∃ N, N = enN ⟨b, p, q, u, o, r, gg, kk, x⟩ ⟨z0, z1, z2, z3, 0, false⟩ e k := ⟨_, rfl⟩
            obtain ⟨N2, hN2⟩ : ∃ N2, N2 = enN ⟨b, p, q, u, o, r, gg, kk, x⟩ ⟨z0, z1, z2, z3, 0, false⟩ e (k + 1) := ⟨_, rfl⟩
            obtain ⟨S, hS⟩ : ∃ S, S = (sz ⟨b, p, q, u, o, r, gg, kk, x⟩ ⟨z0, z1, z2, z3, 0, false⟩).getD k 0 := ⟨_, rfl⟩
            rw [← hN] at hn hes ⊢
            rw [← hN2] at hes
            rw [← hS] at hc hs hes
            replace hN := Lib.hid hN
            replace hN2 := Lib.hid hN2
            replace hS := Lib.hid hS
            have hwr : IntKind.i64.wrap (N + S) = N + S := by rw [IntKind.wrap_i64]; omega
            have hwu : IntKind.u64.wrap (k : Int) = (k : Int) := by rw [IntKind.wrap_u64]; omega
            cases htb : tb e k with
            | true =>
              rw [htb, if_pos rfl] at hes
              unfold tb at htb
              go_wp2_with fail
              go_round
              case rel => exact ⟨k + 1, by omega, by go_num, by rw [← hes, ← hN2.out]⟩
              case measure => simp [intOf]; omega
            | false =>
              rw [htb, if_neg (by decide), Int.add_zero] at hes
              unfold tb at htb
              go_wp2_with fail
              go_round
              case rel => exact ⟨k + 1, by omega, by go_num, by rw [← hes, ← hN2.out]⟩
              case measure => simp [intOf]; omega
          · obtain rfl : k = 8 := by omega
            have hlt' : ¬ ((8 : Nat) : Int) < 8 := by omega
            have HN := Lib.hid (fun w => GeoR.needR ⟨b, p, q, u, o, r, gg, kk, x⟩ hp.out (enN ⟨b, p, q, u, o, r, gg, kk, x⟩ ⟨z0, z1, z2, z3, 0, false⟩ e 8) w)
            unfold cv at HN
            unfold cc at HN
            generalize enN ⟨b, p, q, u, o, r, gg, kk, x⟩ ⟨z0, z1, z2, z3, 0, false⟩ e 8 = y at HN HVV ⊢
            generalize need ⟨b, p, q, u, o, r, gg, kk, x⟩ y = N at HN HVV
            have D3 : Hid (Below w5.heap.size w5 w5.drew) := Lib.hid (Below.refl _ _).drew
            go_wp2_with fail
            refine wp_region_held_drew (S := fun w' => w'.cell? ⟨w.heap.size, 0, none⟩ = some (.int .i64 b) ∧ w'.cell? ⟨w.heap.size, 1, none⟩ = some (.int .i64 p) ∧ w'.cell? ⟨w.heap.size, 2, none⟩ = some (.int .i64 q) ∧ w'.cell? ⟨w.heap.size, 3, none⟩ = some (.int .i64 u) ∧ w'.cell? ⟨w.heap.size, 4, none⟩ = some (.int .i64 o) ∧ w'.cell? ⟨w.heap.size, 5, none⟩ = some (.int .i64 r) ∧ w'.cell? ⟨w.heap.size, 6, none⟩ = some (.int .i64 gg) ∧ w'.cell? ⟨w.heap.size, 7, none⟩ = some (.int .i64 kk) ∧ w'.cell? ⟨w.heap.size, 8, none⟩ = some (.int .i64 x)) (by kernel_rfl) (nine (Mem.Blk.below hm3.out D3.out hm3.out.lt)) (fun hS => ?_)
            try simp only [List.size_toArray, List.length_cons, List.length_nil, Nat.reduceAdd]
            refine wpAnyH_take (i := 0) (v := ?_) (by simp only [List.getElem?_toArray, List.getElem?_cons_succ, List.getElem?_cons_zero]; rfl) (by kernel_rfl) (by kernel_rfl) (by kernel_rfl) (by exact fun _ _ _ h => h) (Or.inl ⟨by rfl, ?_⟩) hS ?_
            rotate_left
            · intro w hSw
              go_simp
              try with_reducible rfl
            try simp only [Act.put, List.setIfInBounds_toArray, List.set_cons_zero, List.set_cons_succ]
            refine wpAnyH_take (i := 1) (v := ?_) (by simp only [List.getElem?_toArray, List.getElem?_cons_succ, List.getElem?_cons_zero]; rfl) (by kernel_rfl) (by kernel_rfl) (by kernel_rfl) (by exact fun _ _ _ h => h) (Or.inl ⟨by rfl, ?_⟩) hS ?_
            rotate_left
            · intro w hSw
              go_simp
              try with_reducible rfl
            try simp only [Act.put, List.setIfInBounds_toArray, List.set_cons_zero, List.set_cons_succ]
            refine wpAnyH_take (i := 3) (v := ?_) (by simp only [List.getElem?_toArray, List.getElem?_cons_succ, List.getElem?_cons_zero]; rfl) (by kernel_rfl) (by kernel_rfl) (by kernel_rfl) (by exact fun _ _ _ h => h) (Or.inl ⟨by rfl, ?_⟩) hS ?_
            rotate_left
            · intro w hSw
              go_simp
              try with_reducible rfl
            try simp only [Act.put, List.setIfInBounds_toArray, List.set_cons_zero, List.set_cons_succ]
            refine wpAnyH_take (i := 4) (v := ?_) (by simp only [List.getElem?_toArray, List.getElem?_cons_succ, List.getElem?_cons_zero]; rfl) (by kernel_rfl) (by kernel_rfl) (by kernel_rfl) (by exact fun _ _ _ h => h) (Or.inl ⟨by rfl, ?_⟩) hS ?_
            rotate_left
            · intro w hSw
              go_simp
              try with_reducible rfl
            try simp only [Act.put, List.setIfInBounds_toArray, List.set_cons_zero, List.set_cons_succ]
            refine wpAnyH_ready (rs := [2]) (by kernel_rfl) (by simp) ?_
            refine AllReadyH.cons (by simp only [List.getElem?_toArray, List.getElem?_cons_succ, List.getElem?_cons_zero]; rfl) (fun K hK => ?_) AllReadyH.nil
            go_simp
            go_at_call 37
            refine (HN.out _).mono ?_
            rintro e' w4 ⟨rfl, b4⟩
            refine hK.out _ _ (nine (Mem.Blk.below hm3.out (D3.out.trans (b4.mono D3.out.size)) hm3.out.lt)) (fun hS => ?_)
            clear hK K
            try simp only [Act.put, List.setIfInBounds_toArray, List.set_cons_zero, List.set_cons_succ]
            refine wpAnyH_take (i := 5) (v := ?_) (by simp only [List.getElem?_toArray, List.getElem?_cons_succ, List.getElem?_cons_zero]; rfl) (by kernel_rfl) (by kernel_rfl) (by kernel_rfl) (by exact fun _ _ _ h => h) (Or.inl ⟨by rfl, ?_⟩) hS ?_
            rotate_left
            · intro w hSw
              go_simp
              try with_reducible rfl
            try simp only [Act.put, List.setIfInBounds_toArray, List.set_cons_zero, List.set_cons_succ]
            refine wpAnyH_take (i := 6) (v := ?_) (by simp only [List.getElem?_toArray, List.getElem?_cons_succ, List.getElem?_cons_zero]; rfl) (by kernel_rfl) (by kernel_rfl) (by kernel_rfl) (by exact fun _ _ _ h => h) (Or.inl ⟨by rfl, ?_⟩) hS ?_
            rotate_left
            · intro w hSw
              go_simp
              try with_reducible rfl
            try simp only [Act.put, List.setIfInBounds_toArray, List.set_cons_zero, List.set_cons_succ]
            refine wpAnyH_done (by kernel_rfl) ?_ _
            go_wp2
            go_ret
            exact ⟨by rw [HVV.out, decide_eq_true hsl.out]; simp, d5.out.trans ((D3.out.trans (b4.mono D3.out.size)).mono d5.out.size)⟩
/-- Whether areas fit, as the document has it. -/
theorem fitsR (c : Cfg) (z0 z1 z2 z3 e : Int) (hE : 0 ≤ e ∧ e ≤ 255) (w : World) : Calls Try.prog 30 #[cv c, .agg #[.int .i64 z0, .int .i64 z1, .int .i64 z2, .int .i64 z3], .int .u8 e] w fun e' w' => e' = .returned (.bool (fitsV c z0 z1 z2 z3 e)) ∧ Below w.heap.size w w' := by
  have h14 := e14 e hE
  by_cases hk : check c = true
  · cases he : (bits BinOp.andNot IntKind.u8 e 241 != 0) with
    | true =>
      have hv : fitsV c z0 z1 z2 z3 e = false := by
        have he' : (bits BinOp.andNot IntKind.u8 e 241 == 0) = false := by simpa using he
        unfold fitsV; rw [he']; simp
      rw [hv]
      exact fitsRB c ⟨z0, z1, z2, z3, 0, false⟩ e hk (by rw [h14]; exact he) w
    | false =>
      obtain ⟨b, p, q, u, o, r, gg, kk, x⟩ := c
      exact fitsRC b p q u o r gg kk x z0 z1 z2 z3 e hk (by rw [h14]; exact he) he w
  · have hv : fitsV c z0 z1 z2 z3 e = false := by unfold fitsV; rw [Bool.eq_false_iff.2 hk]; rfl
    rw [hv]
    exact fitsRA c ⟨z0, z1, z2, z3, 0, false⟩ e hk w
end Go.Proofs.Ytcggghiionlngaa.AreZ2
