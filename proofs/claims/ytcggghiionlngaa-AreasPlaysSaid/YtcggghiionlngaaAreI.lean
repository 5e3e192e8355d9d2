/- Areas: where sectors lie, what lies where. -/
import Derived.Test.YtcggghiionlngaaAreH
namespace Go.Proofs.Ytcggghiionlngaa.AreI
open Go.ChangeShapes Go.WideShapes Go.ChangeAt Go.RowKit
open Mem GeoM GeoC GeoD GeoF AreA AreB AreC AreD AreE AreF AreG AreH
set_option linter.unusedVariables false
set_option maxHeartbeats 2000000

def inv (k : Nat) : Nat := match k with | 0 => 0 | 1 => 5 | 2 => 6 | 3 => 7 | 4 => 1 | 5 => 2 | 6 => 3 | _ => 4
theorem ord_inv (k : Nat) (h : k < 8) : ordN (inv k) = k := by
  have H : ∀ k : Fin 8, ordN (inv k.val) = k.val := by decide +kernel
  exact H ⟨k, h⟩
theorem inv_lt (k : Nat) : inv k < 8 := by unfold inv; split <;> omega
/-- The place of an area's first sector. -/
def fs (c : Cfg) (a : Stt) (k : Nat) : Int := nx c a (inv k)
theorem fs_bd {c : Cfg} {a : Stt} (h : Gd c a) (k : Nat) : -80000000 ≤ fs c a k ∧ fs c a k ≤ 80000000 := by
  have := nx_le c a h.bd (inv k)
  have := inv_lt k
  unfold fs
  omega
theorem firstOf {w : World} {g : Nat} {c : Cfg} {l a : Stt} (h : Od w g c l a) (k : Nat) (hk : k < 8) : w.cell? ⟨g, 32 + k, none⟩ = some (.int .i64 (fs c a k)) := by
  have := h.kn.2 (inv k) (inv_lt k)
  rwa [ord_inv k hk] at this
theorem sizeOf' {w : World} {g : Nat} {c : Cfg} {l a : Stt} (h : Od w g c l a) (k : Nat) (hk : k < 8) : w.cell? ⟨g, 24 + k, none⟩ = some (.int .i64 ((sz c a).getD k 0)) := h.kn.1 k _ (szV_at c a k hk)
/-- A place of an area's sector. -/
def plR (c : Cfg) (a : Stt) (x y : Int) : Value := if 0 ≤ y ∧ y < szA c a x then .tuple #[.int .i64 (fs c a x.toNat + y), .bool true] else .tuple #[.int .i64 0, .bool false]
theorem szA_pos {c : Cfg} {a : Stt} {x : Int} (h : 0 < szA c a x) : 0 ≤ x ∧ x < 8 := by
  unfold szA at h
  split at h
  · assumption
  · omega
theorem szA_bd {c : Cfg} {a : Stt} (hG : Gd c a) (x : Int) : -10000000 ≤ szA c a x ∧ szA c a x ≤ 10000000 := by
  unfold szA
  split
  · exact hG.bd _
  · omega

theorem placeW (g : Nat) (c : Cfg) (l a : Stt) (hG : Gd c a) (x y : Int) (w : World) (h : Ob w g c l a) :
    Calls Try.prog 24 #[.pointer (some ⟨g, 0, none⟩), .int .i64 x, .int .i64 y] w fun e w' => e = .returned (plR c a x y) ∧ Ob w' g c l a ∧ w.grownBy w' (some g) := by
  have HZ := Lib.hid (fun w h => sizeW g c l a hG x w h)
  have hsb := szA_bd hG x
  have hps := @szA_pos c a x
  have hfb := fs_bd hG x.toNat
  have e1 : Hid (0 ≤ y ∧ y < szA c a x → plR c a x y = .tuple #[.int .i64 (fs c a x.toNat + y), .bool true]) := Lib.hid fun h => if_pos h
  have e0 : Hid (¬ (0 ≤ y ∧ y < szA c a x) → plR c a x y = .tuple #[.int .i64 0, .bool false]) := Lib.hid fun h => if_neg h
  generalize plR c a x y = R at e1 e0 ⊢
  generalize szA c a x = S at *
  replace h := Lib.hid h
  clear hG
  by_cases h1 : y < 0
  · have hd : decide (y < 0) = true := by simpa using h1
    replace e0 := Lib.hid (e0.out (by omega))
    clear e1 HZ
    go_enter Try.func24, Try.ntmps24
    go_wp2
    go_returns
    exact ⟨by rw [e0.out]; rfl, h.out, gb_refl _ _⟩
  · have hd : decide (y < 0) = false := by simpa using h1
    by_cases h2 : S ≤ y
    · have hd2 : decide (S ≤ y) = true := by simpa using h2
      replace e0 := Lib.hid (e0.out (by omega))
      clear e1
      go_enter Try.func24, Try.ntmps24
      go_wp2_with fail
      refine (HZ.out _ h.out).mono ?_
      rintro e w1 ⟨rfl, hD, hg⟩
      replace hD := Lib.hid hD
      replace hg := Lib.hid hg
      go_wp2
      go_returns
      exact ⟨by rw [e0.out]; rfl, hD.out.ob, hg.out⟩
    · have hd2 : decide (S ≤ y) = false := by simpa using h2
      replace e1 := Lib.hid (e1.out (by omega))
      clear e0
      have hx := hps (by omega)
      obtain ⟨k, rfl⟩ : ∃ k : Nat, x = (k : Int) := ⟨x.toNat, by omega⟩
      have hk8 : k < 8 := by omega
      rw [Int.toNat_natCast] at e1 hfb
      have hk8' : (k : Int) < 8 := by omega
      generalize hF : fs c a k = F at e1 hfb
      replace hF := Lib.hid hF
      have hw : IntKind.i64.wrap (F + y) = F + y := by rw [IntKind.wrap_i64]; omega
      go_enter Try.func24, Try.ntmps24
      go_wp2_with fail
      refine (HZ.out _ h.out).mono ?_
      rintro e w1 ⟨rfl, hD, hg⟩
      have hc := firstOf hD k hk8
      rw [hF.out] at hc
      replace hD := Lib.hid hD
      replace hg := Lib.hid hg
      go_wp2
      go_returns
      exact ⟨by rw [e1.out]; rfl, hD.out.ob, hg.out⟩

/-- Does an area hold a place? -/
def In (c : Cfg) (a : Stt) (k : Nat) (p : Int) : Prop := fs c a k ≤ p ∧ p < fs c a k + (sz c a).getD k 0
instance (c : Cfg) (a : Stt) (k : Nat) (p : Int) : Decidable (In c a k p) := by unfold In; infer_instance
/-- What lies at a place. -/
def OfR (c : Cfg) (a : Stt) (p : Int) (v : Value) : Prop :=
  (∃ k : Nat, k < 8 ∧ In c a k p ∧ (∀ j, j < k → ¬ In c a j p) ∧ v = .tuple #[.int .i64 (k : Int), .int .i64 (p - fs c a k), .bool true]) ∨ ((∀ j, j < 8 → ¬ In c a j p) ∧ v = .tuple #[.int .i64 0, .int .i64 0, .bool false])

set_option maxRecDepth 100000 in
theorem ofW (g : Nat) (c : Cfg) (l a : Stt) (hG : Gd c a) (p : Int) (w : World) (h : Ob w g c l a) :
    Calls Try.prog 23 #[.pointer (some ⟨g, 0, none⟩), .int .i64 p] w fun e w' => ∃ v, e = .returned v ∧ OfR c a p v ∧ Ob w' g c l a ∧ w.grownBy w' (some g) := by
  have HZ := Lib.hid (fun k w h => sizeW g c l a hG k w h)
  have hsb := Lib.hid hG.bd
  have hfb := Lib.hid (fs_bd hG)
  clear hG
  have hb0 := Lib.hid h
  clear h
  go_enter Try.func23, Try.ntmps23
  go_wp2_with fail
  go_loopw [7, 8, 9] (fun _ _ i wr => ∃ k : Nat, k ≤ 8 ∧ i = .int .i64 (k : Int) ∧ (∀ j, j < k → ¬ In c a j p) ∧ Ob wr g c l a ∧ w.grownBy wr (some g)) (fun _ _ i _ => 8 - (intOf i).toNat)
  case atStart => exact ⟨0, by omega, rfl, fun j hj => absurd hj (by omega), hb0.out, gb_refl _ _⟩
  case round =>
    obtain ⟨k, hk, rfl, hno, hO, hg⟩ := hrel
    replace hno := Lib.hid hno
    replace hO := Lib.hid hO
    replace hg := Lib.hid hg
    by_cases hlt : k < 8
    · have hlt' : (k : Int) < 8 := by omega
      have hS := hsb.out k
      have hF := hfb.out k
      have hzz : szA c a (k : Int) = (sz c a).getD k 0 := by unfold szA; rw [if_pos (by omega)]; rfl
      have HIn : Hid (In c a k p ↔ fs c a k ≤ p ∧ p < fs c a k + (sz c a).getD k 0) := Lib.hid Iff.rfl
      generalize hSS : (sz c a).getD k 0 = S at hS hzz HIn
      generalize hFF : fs c a k = F at hF HIn
      replace hSS := Lib.hid hSS
      replace hFF := Lib.hid hFF
      have hw : IntKind.i64.wrap (F + S) = F + S := by rw [IntKind.wrap_i64]; omega
      go_wp2_with fail
      refine (HZ.out _ _ hO.out).mono ?_
      rintro e w1 ⟨rfl, hD, hg1⟩
      have hc := firstOf hD k hlt
      rw [hFF.out] at hc
      rw [hzz]
      replace hD := Lib.hid hD
      replace hg1 := Lib.hid (gb_trans hg.out hg1)
      by_cases h1 : F ≤ p
      · by_cases h2 : p < F + S
        · have hw2 : IntKind.i64.wrap (p - F) = p - F := by rw [IntKind.wrap_i64]; omega
          go_wp2_with (go_quiet (fail))
          go_returns
          exact ⟨_, rfl, .inl ⟨k, hlt, HIn.out.2 ⟨h1, h2⟩, hno.out, by rw [hFF.out]; rfl⟩, hD.out.ob.below (Mem.below_drewN (Below.refl w1.heap.size w1) _) hD.out.tt.lt, gb_trans hg1.out (gb_below (B := 0) (Mem.below_drewN (Below.refl w1.heap.size w1) _))⟩
        · have hn := Lib.hid (fun hi => h2 (HIn.out.1 hi).2)
          go_wp2_with fail
          go_roundw
          case rel => exact ⟨k + 1, by omega, by go_num, fun j hj => if e : j = k then e ▸ hn.out else hno.out j (by omega), hD.out.ob, hg1.out⟩
          case measure => simp [intOf]; omega
      · have hn := Lib.hid (fun hi => h1 (HIn.out.1 hi).1)
        go_wp2_with fail
        go_roundw
        case rel => exact ⟨k + 1, by omega, by go_num, fun j hj => if e : j = k then e ▸ hn.out else hno.out j (by omega), hD.out.ob, hg1.out⟩
        case measure => simp [intOf]; omega
    · have hlt' : ¬ (k : Int) < 8 := by omega
      obtain rfl : k = 8 := by omega
      go_wp2
      go_returns
      exact ⟨_, rfl, .inr ⟨hno.out, rfl⟩, hO.out, hg.out⟩
end Go.Proofs.Ytcggghiionlngaa.AreI
