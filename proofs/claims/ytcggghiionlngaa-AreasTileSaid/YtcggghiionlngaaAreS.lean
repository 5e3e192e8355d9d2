/- Areas: each place is one sector of one area. -/
import Derived.Test.YtcggghiionlngaaAreR
import Derived.Test.YtcggghiionlngaaGeoRC
namespace Go.Proofs.Ytcggghiionlngaa.AreS
open Go.ChangeShapes Go.WideShapes Go.ChangeAt Go.RowKit
open Mem GeoM GeoC GeoD GeoE GeoF AreA AreB AreC AreD AreF AreG AreH AreI AreJ AreK AreL AreN AreO AreP AreQ0 AreR
set_option linter.unusedVariables false
set_option maxHeartbeats 4000000

theorem sm_bd {c : Cfg} {a : Stt} (h : Gd c a) : ∀ k : Nat, -10000000 * (k : Int) ≤ sm c a k ∧ sm c a k ≤ 10000000 * (k : Int)
  | 0 => ⟨by simp [sm], by simp [sm]⟩
  | k + 1 => by
    have := sm_bd h k
    have := szA_bd h ((k : Int) - 1)
    show _ ≤ sm c a k + szA c a ((k : Int) - 1) ∧ sm c a k + szA c a ((k : Int) - 1) ≤ _
    omega
theorem szA_nat {c : Cfg} {a : Stt} (k : Nat) (h : k < 8) : szA c a (k : Int) = (sz c a).getD k 0 := by unfold szA; rw [if_pos (by omega)]; rfl
theorem place_in {c : Cfg} {a : Stt} (k : Nat) (hk : k < 8) (p : Int) (h : In c a k p) : plR c a (k : Int) (p - fs c a k) = .tuple #[.int .i64 p, .bool true] := by
  obtain ⟨h1, h2⟩ := h
  unfold plR
  rw [szA_nat k hk, if_pos (by omega), Int.toNat_natCast, show fs c a k + (p - fs c a k) = p by omega]

set_option maxRecDepth 100000 in
theorem law (c : Cfg) (s : Stt) (w : World) : Calls Try.prog 5 #[cv c, sv s] w fun e w' => e = .returned (.bool true) ∧ Below w.heap.size w w' := by
  have HN := Lib.hid (fun w => newW c s w)
  have HK := Lib.hid (okay c s)
  have HZ := Lib.hid (fun g hG x w h => sizeW g c s (force s) hG x w h)
  have HF := Lib.hid (fun g hG x w h => ofW g c s (force s) hG x w h)
  have HL := Lib.hid (fun g hG x y w h => placeW g c s (force s) hG x y w h)
  have HC := Lib.hid (fun (h : check c = true) w => by have := GeoR.checkRW c w; rw [show errOf c = 0 from if_pos h] at this; exact this)
  obtain ⟨A, hA⟩ : ∃ A, A = force s := ⟨_, rfl⟩
  rw [← hA] at HN HK HZ HF HL
  obtain ⟨b, p, q, u, o, r, gg, k, x⟩ := c
  obtain ⟨z0, z1, z2, z3, e, d⟩ := s
  have HN' : Hid (∀ w, Calls Try.prog 8 #[.agg #[.int .i64 b, .int .i64 p, .int .i64 q, .int .i64 u, .int .i64 o, .int .i64 r, .int .i64 gg, .int .i64 k, .int .i64 x], .agg #[.int .i64 z0, .int .i64 z1, .int .i64 z2, .int .i64 z3, .int .u8 e, .bool d]] w fun e_1 w' => Below w.heap.size w w' ∧ ((okV ⟨b, p, q, u, o, r, gg, k, x⟩ ⟨z0, z1, z2, z3, e, d⟩ = true ∧ ∃ g', w.heap.size ≤ g' ∧ e_1 = .returned (.tuple #[.pointer (some ⟨g', 0, none⟩), .int .i64 0]) ∧ Nb w' g' ⟨b, p, q, u, o, r, gg, k, x⟩ ⟨z0, z1, z2, z3, e, d⟩ A) ∨ (okV ⟨b, p, q, u, o, r, gg, k, x⟩ ⟨z0, z1, z2, z3, e, d⟩ = false ∧ e_1 = .returned (.tuple #[.pointer none, .int .i64 1])))) := Lib.hid HN.out
  have HC' : Hid (∀ (h : check ⟨b, p, q, u, o, r, gg, k, x⟩ = true) w, Calls Try.prog 21 #[.agg #[.int .i64 b, .int .i64 p, .int .i64 q, .int .i64 u, .int .i64 o, .int .i64 r, .int .i64 gg, .int .i64 k, .int .i64 x]] w fun e w' => e = .returned (.int .i64 0) ∧ Below w.heap.size w w') := Lib.hid HC.out
  clear HN HC
  show Calls Try.prog 5 #[.agg #[.int .i64 b, .int .i64 p, .int .i64 q, .int .i64 u, .int .i64 o, .int .i64 r, .int .i64 gg, .int .i64 k, .int .i64 x], .agg #[.int .i64 z0, .int .i64 z1, .int .i64 z2, .int .i64 z3, .int .u8 e, .bool d]] w _
  obtain ⟨w0, hw0⟩ : ∃ w0, w0 = w.alloc (.cells #[.int .i64 b, .int .i64 p, .int .i64 q, .int .i64 u, .int .i64 o, .int .i64 r, .int .i64 gg, .int .i64 k, .int .i64 x] 23) := ⟨_, rfl⟩
  obtain ⟨wz, hwz⟩ : ∃ wz, wz = w0.alloc (.cells #[.int .i64 z0, .int .i64 z1, .int .i64 z2, .int .i64 z3, .int .u8 e, .bool d] 26) := ⟨_, rfl⟩
  have s0 : w0.heap.size = w.heap.size + 1 := by rw [hw0]; simp
  have sz0 : wz.heap.size = w.heap.size + 2 := by rw [hwz]; simp [s0]
  have c1' : Mem.Blk w0 w.heap.size 23 #[.int .i64 b, .int .i64 p, .int .i64 q, .int .i64 u, .int .i64 o, .int .i64 r, .int .i64 gg, .int .i64 k, .int .i64 x] := by rw [hw0]; exact Mem.Blk.new w 23 _
  have cz : Hid (Mem.Blk wz w.heap.size 23 #[.int .i64 b, .int .i64 p, .int .i64 q, .int .i64 u, .int .i64 o, .int .i64 r, .int .i64 gg, .int .i64 k, .int .i64 x]) := Lib.hid (by rw [hwz]; exact c1'.alloc _)
  have ez : Hid (Mem.Blk wz (w.heap.size + 1) 26 #[.int .i64 z0, .int .i64 z1, .int .i64 z2, .int .i64 z3, .int .u8 e, .bool d]) := Lib.hid (by rw [hwz, ← s0]; exact Mem.Blk.new w0 26 _)
  have Dz : Hid (Below w.heap.size w wz) := Lib.hid (by rw [hwz, hw0]; exact ((Below.refl _ _).alloc (Nat.le_refl _) _).alloc (by simp) _)
  clear c1' s0
  go_enter Try.func5, Try.ntmps5
  go_wp2_with fail
  rw [← hw0, ← hwz]
  replace hw0 := Lib.hid hw0
  replace hwz := Lib.hid hwz
  refine (knownW _).mono ?_
  rintro e' w1 ⟨rfl, b1⟩
  have D1 := Lib.hid (Dz.out.trans (b1.mono Dz.out.size))
  have cz1 := cz.out.below b1 cz.out.lt
  have ez1 := ez.out.below b1 ez.out.lt
  have h12 := Lib.hid (show w.heap.size + 2 ≤ w1.heap.size by have := b1.size; omega)
  clear b1 cz ez Dz sz0
  obtain ⟨j0, j1, j2, j3, j4, j5, j6, j7, j8⟩ := nine cz1
  obtain ⟨i0, i1, i2, i3, i4, i5⟩ := six ez1
  clear ez1
  go_wp2_with fail
  refine (HN'.out _).mono ?_
  rintro e' w2 ⟨b2, hres⟩
  have D2 := Lib.hid (D1.out.trans (b2.mono D1.out.size))
  have cz2 := cz1.below b2 cz1.lt
  clear j0 j1 j2 j3 j4 j5 j6 j7 j8 b2 cz1 D1 i0 i1 i2 i3 i4 i5
  rcases hres with ⟨hok, g, hg, rfl, hNb⟩ | ⟨_, rfl⟩
  · obtain ⟨hck, hG, hnn, hu0⟩ := HK.out hok
    have hgw := Lib.hid (show w.heap.size ≤ g by have := h12.out; omega)
    obtain ⟨hGu, hGg, hGs, hGo, hGr⟩ := hG
    simp only at hGu hGg hGo hGr
    have hG : Hid (Gd ⟨b, p, q, u, o, r, gg, k, x⟩ A) := Lib.hid ⟨hGu, hGg, hGs, hGo, hGr⟩
    have O2 := Lib.hid hNb.ob
    have hw1 : IntKind.i64.wrap (2 * o) = 2 * o := by rw [IntKind.wrap_i64]; omega
    have hw2 : IntKind.i64.wrap (u + 2 * o) = u + 2 * o := by rw [IntKind.wrap_i64]; omega
    have hw3 : IntKind.i64.wrap (u + 2 * o + r) = u + 2 * o + r := by rw [IntKind.wrap_i64]; omega
    have hN0 : 0 ≤ u + 2 * o + r := by omega
    replace hnn := Lib.hid hnn
    have hSA : Hid (sm ⟨b, p, q, u, o, r, gg, k, x⟩ A 10 = u + 2 * o + r) := Lib.hid sm_all
    have hIE : Hid (∀ pp, 0 ≤ pp → pp < u + 2 * o + r → ∃ kk, kk < 8 ∧ In ⟨b, p, q, u, o, r, gg, k, x⟩ A kk pp) := Lib.hid fun pp h0 h1 => In_ex pp h0 h1
    have hIB : Hid (∀ kk, kk < 8 → ∀ pp, In ⟨b, p, q, u, o, r, gg, k, x⟩ A kk pp → 0 ≤ pp ∧ pp < u + 2 * o + r) := Lib.hid fun kk hk pp h => In_bd hnn.out kk hk pp h
    clear hNb hg h12 hGu hGg hGs hGo hGr hu0 hok
    obtain ⟨j0, j1, j2, j3, j4, j5, j6, j7, j8⟩ := nine cz2
    replace cz2 := Lib.hid cz2
    go_wp2_with fail
    refine (HC'.out hck _).mono ?_
    rintro e' w3 ⟨rfl, b3⟩
    have D3 := Lib.hid (D2.out.trans (b3.mono D2.out.size))
    have O3 := Lib.hid (O2.out.below b3 O2.out.tt.lt)
    have cz3 := cz2.out.below b3 cz2.out.lt
    clear j0 j1 j2 j3 j4 j5 j6 j7 j8 b3 cz2 O2 hck D2
    have j3 := cz3.cell 3
    have j4 := cz3.cell 4
    have j5 := cz3.cell 5
    simp only [List.getElem?_toArray, List.getElem?_cons_succ, List.getElem?_cons_zero] at j3 j4 j5
    clear cz3
    by_cases hbig : 2000 < u + 2 * o + r
    · go_wp2_with fail
      go_ret
      exact ⟨rfl, D3.out⟩
    · go_wp2_with fail
      clear j3 j4 j5 hw1 hw2 hw3
      generalize hNN : u + 2 * o + r = N at hSA hIE hIB hN0 hbig ⊢
      clear hNN
      go_loopw [8, 9] (fun all i wr => ∃ (kk : Nat) (y : Int), kk ≤ 10 ∧ y = (kk : Int) - 1 ∧ i = .int .i64 y ∧ all = .int .i64 (sm ⟨b, p, q, u, o, r, gg, k, x⟩ A kk) ∧ Ob wr g ⟨b, p, q, u, o, r, gg, k, x⟩ ⟨z0, z1, z2, z3, e, d⟩ A ∧ Below w.heap.size w wr) (fun _ i _ => 10 - (intOf i + 1).toNat)
      case atStart => exact ⟨0, -1, by omega, rfl, rfl, rfl, O3.out, D3.out⟩
      case round =>
        clear O3 D3
        obtain ⟨kk, y, hkk, hy, rfl, rfl, hO, hB⟩ := hrel
        replace hO := Lib.hid hO
        replace hB := Lib.hid hB
        by_cases hlt : kk < 10
        · have hle : y ≤ 8 := by omega
          have hwy : IntKind.i64.wrap (y + 1) = y + 1 := by rw [IntKind.wrap_i64]; omega
          have hb1 := sm_bd hG.out kk
          have hb2 := szA_bd hG.out y
          have hsu : Hid (sm ⟨b, p, q, u, o, r, gg, k, x⟩ A (kk + 1) = sm ⟨b, p, q, u, o, r, gg, k, x⟩ A kk + szA ⟨b, p, q, u, o, r, gg, k, x⟩ A y) := Lib.hid (by rw [hy]; rfl)
          obtain ⟨S1, hS1⟩ : ∃ S1, S1 = sm ⟨b, p, q, u, o, r, gg, k, x⟩ A kk := ⟨_, rfl⟩
          obtain ⟨S2, hS2⟩ : ∃ S2, S2 = szA ⟨b, p, q, u, o, r, gg, k, x⟩ A y := ⟨_, rfl⟩
          rw [← hS1] at hb1 hsu ⊢
          rw [← hS2] at hb2 hsu
          have hws : IntKind.i64.wrap (S1 + S2) = S1 + S2 := by rw [IntKind.wrap_i64]; omega
          replace hS1 := Lib.hid hS1
          replace hS2 := Lib.hid hS2
          replace hy := Lib.hid hy
          go_wp2_with fail
          refine (HZ.out _ hG.out _ _ hO.out).mono ?_
          rintro e' w4 ⟨rfl, O4, b4⟩
          rw [← hS2.out]
          have D4 := Lib.hid (bgb hB.out hgw.out hB.out.size b4)
          replace O4 := Lib.hid O4.ob
          clear b4
          go_wp2_with fail
          go_roundw
          case rel => exact ⟨kk + 1, y + 1, by omega, by have := hy.out; omega, rfl, by rw [hsu.out], O4.out, D4.out⟩
          case measure => have := hy.out; simp [intOf]; omega
        · have hle : ¬ y ≤ 8 := by omega
          obtain rfl : kk = 10 := by omega
          rw [hSA.out]
          clear hle
          have hle : ¬ y ≤ 8 := by omega
          go_wp2_with fail
          go_loopw [10, 11, 12, 13, 14, 15] (fun i _ _ _ _ _ wr => ∃ (y : Int), 0 ≤ y ∧ y ≤ N ∧ i = .int .i64 y ∧ Ob wr g ⟨b, p, q, u, o, r, gg, k, x⟩ ⟨z0, z1, z2, z3, e, d⟩ A ∧ Below w.heap.size w wr) (fun i _ _ _ _ _ _ => (N - intOf i).toNat)
          case atStart => exact ⟨0, by omega, hN0, rfl, hO.out, hB.out⟩
          case round =>
            clear hO hB hle hy hkk hlt
            obtain ⟨y, hy0, hyN, rfl, hO, hB⟩ := hrel
            replace hO := Lib.hid hO
            replace hB := Lib.hid hB
            by_cases hlt : y < N
            · have hwy : IntKind.i64.wrap (y + 1) = y + 1 := by rw [IntKind.wrap_i64]; omega
              go_wp2_with fail
              refine (HF.out _ hG.out _ _ hO.out).mono ?_
              rintro e' w4 ⟨v, rfl, hOf, O4, b4⟩
              have D4 := Lib.hid (bgb hB.out hgw.out hB.out.size b4)
              replace O4 := Lib.hid O4
              clear b4
              obtain ⟨kk, hkk, hin, _, rfl⟩ | ⟨hno, _⟩ := hOf
              · have hpl := place_in kk hkk y hin
                have hs1 := szA_nat (c := ⟨b, p, q, u, o, r, gg, k, x⟩) (a := A) kk hkk
                have hx1 : ¬ y - fs ⟨b, p, q, u, o, r, gg, k, x⟩ A kk < 0 := by have := hin.1; omega
                have hx2 : ¬ szA ⟨b, p, q, u, o, r, gg, k, x⟩ A (kk : Int) ≤ y - fs ⟨b, p, q, u, o, r, gg, k, x⟩ A kk := by have := hin.2; omega
                generalize y - fs ⟨b, p, q, u, o, r, gg, k, x⟩ A kk = X at hpl hx1 hx2 ⊢
                generalize hSZ : szA ⟨b, p, q, u, o, r, gg, k, x⟩ A (kk : Int) = S at hx2
                replace hSZ := Lib.hid hSZ
                clear hin hs1
                go_wp2_with fail
                refine (HL.out _ hG.out _ _ _ O4.out).mono ?_
                rintro e' w5 ⟨rfl, O5, b5⟩
                rw [hpl]
                have D5 := Lib.hid (bgb D4.out hgw.out D4.out.size b5)
                replace O5 := Lib.hid O5
                clear b5 hpl
                go_wp2_with fail
                refine (HZ.out _ hG.out _ _ O5.out).mono ?_
                rintro e' w6 ⟨rfl, O6, b6⟩
                rw [hSZ.out]
                have D6 := Lib.hid (bgb D5.out hgw.out D5.out.size b6)
                replace O6 := Lib.hid O6.ob
                clear b6
                go_wp2_with fail
                go_roundw
                case rel => exact ⟨y + 1, by omega, by omega, rfl, O6.out, D6.out⟩
                case measure => simp [intOf]; omega
              · exfalso
                obtain ⟨k1, hk1, h2⟩ := hIE.out y hy0 hlt
                exact hno k1 hk1 h2
            · go_wp2_with fail
              refine (HF.out _ hG.out _ _ hO.out).mono ?_
              rintro e' w4 ⟨v, rfl, hOf, O4, b4⟩
              have D4 := Lib.hid (bgb hB.out hgw.out hB.out.size b4)
              replace O4 := Lib.hid O4
              clear b4
              obtain ⟨kk, hkk, hin, _, _⟩ | ⟨_, rfl⟩ := hOf
              · exfalso
                have := hIB.out kk hkk _ hin
                omega
              · go_wp2_with fail
                refine (HF.out _ hG.out _ _ O4.out).mono ?_
                rintro e' w5 ⟨v, rfl, hOf, O5, b5⟩
                have D5 := Lib.hid (bgb D4.out hgw.out D4.out.size b5)
                clear b5 O5
                obtain ⟨kk, hkk, hin, _, _⟩ | ⟨_, rfl⟩ := hOf
                · exfalso
                  have := hIB.out kk hkk _ hin
                  omega
                · go_wp2
                  go_ret
                  exact ⟨rfl, D5.out⟩
  · go_wp2
    go_ret
    exact ⟨rfl, D2.out⟩
theorem all (c : Cfg) (s : Stt) (w : World) : Calls Try.prog 5 #[cv c, sv s] w fun e w' => e = .returned (.bool true) ∧ Below w.heap.size w w' := law c s w
end Go.Proofs.Ytcggghiionlngaa.AreS
