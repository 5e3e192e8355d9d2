/- Areas: a table in order; the size of an area. -/
import Derived.Test.YtcggghiionlngaaAreG
namespace Go.Proofs.Ytcggghiionlngaa.AreH
open Go.ChangeShapes Go.WideShapes Go.ChangeAt Go.RowKit
open Mem GeoM GeoC GeoD GeoF AreA AreB AreC AreD AreE AreF AreG
set_option linter.unusedVariables false
set_option maxHeartbeats 2000000

theorem gb_trans {w w1 w2 : World} {o : Option Nat} (h : w.grownBy w1 o) (h2 : w1.grownBy w2 o) : w.grownBy w2 o :=
  ⟨h2.os.trans h.os, h2.tape.trans h.tape, h2.output.trans h.output, Nat.le_trans h.size h2.size, fun q hq hne => (h2.block q (Nat.lt_of_lt_of_le hq h.size) hne).trans (h.block q hq hne)⟩
theorem gb_refl (w : World) (o : Option Nat) : w.grownBy w o := ⟨rfl, rfl, rfl, Nat.le_refl _, fun _ _ _ => rfl⟩
theorem gb_drew (w : World) (o : Option Nat) : w.grownBy w.drew o := ⟨rfl, rfl, rfl, Nat.le_refl _, fun _ _ _ => rfl⟩
theorem gb_put (w : World) (g i : Nat) (v : Value) : w.grownBy (w.setCell ⟨g, i, none⟩ v) (some g) := by
  have b := below_setCells (B := 0) (Nat.zero_le g) [v] i w (Below.refl 0 w)
  exact ⟨b.os, b.tape, b.output, b.size, fun q hq hne => Below.heap_setCell _ _ _ _ (by intro e; exact hne (by rw [e]))⟩
theorem gb_below {B : Nat} {w w1 : World} {o : Option Nat} (h : Below w.heap.size w w1) : w.grownBy w1 o := ⟨h.os, h.tape, h.output, h.size, fun q hq _ => h.block q hq⟩

/-- Where the areas lie is found out. -/
def Kn (w : World) (g : Nat) (c : Cfg) (a : Stt) : Prop :=
  w.rangeAt g 24 (szV c a).toList ∧ ∀ j, j < 8 → w.cell? ⟨g, 32 + ordN j, none⟩ = some (.int .i64 (nx c a j))
theorem Kn.below {B : Nat} {w w' : World} {g : Nat} {c : Cfg} {a : Stt} (h : Kn w g c a) (hb : Below B w w') (hg : g < B) : Kn w' g c a :=
  ⟨range_below h.1 hb hg, fun j hj => by rw [hb.cell (p := ⟨g, 32 + ordN j, none⟩) hg]; exact h.2 j hj⟩
theorem Kn.put {w : World} {g : Nat} {c : Cfg} {a : Stt} (h : Kn w g c a) (i : Nat) (hi : i < 24) (v : Value) : Kn (w.setCell ⟨g, i, none⟩ v) g c a :=
  ⟨World.rangeAt_setCells_apart h.1 g i [v] (.inr (.inr (by simp; omega))), fun j hj => by
    rw [World.cell?_setCell_other _ ⟨g, i, none⟩ ⟨g, 32 + ordN j, none⟩ _ (by intro e; injection e with _ e2; omega)]
    exact h.2 j hj⟩
/-- A table in order: where the areas lie is not looked for yet, or found out. -/
structure Ob (w : World) (g : Nat) (c : Cfg) (l a : Stt) : Prop where
  tt : Tt w g c l a
  once : (w.cell? ⟨g, 21, none⟩ = some (.int .u32 0) ∧ w.cell? ⟨g, 22, none⟩ = some (.int .i32 0)) ∨ (w.cell? ⟨g, 21, none⟩ = some (.int .u32 1) ∧ Kn w g c a)
/-- The same, found out. -/
structure Od (w : World) (g : Nat) (c : Cfg) (l a : Stt) : Prop where
  tt : Tt w g c l a
  once : w.cell? ⟨g, 21, none⟩ = some (.int .u32 1)
  kn : Kn w g c a
theorem Od.ob {w : World} {g : Nat} {c : Cfg} {l a : Stt} (h : Od w g c l a) : Ob w g c l a := ⟨h.tt, .inr ⟨h.once, h.kn⟩⟩
theorem Ob.below {B : Nat} {w w' : World} {g : Nat} {c : Cfg} {l a : Stt} (h : Ob w g c l a) (hb : Below B w w') (hg : g < B) : Ob w' g c l a :=
  ⟨h.tt.below hb hg, h.once.imp (fun h => ⟨by rw [hb.cell (p := ⟨g, 21, none⟩) hg]; exact h.1, by rw [hb.cell (p := ⟨g, 22, none⟩) hg]; exact h.2⟩) (fun h => ⟨by rw [hb.cell (p := ⟨g, 21, none⟩) hg]; exact h.1, h.2.below hb hg⟩)⟩
theorem Od.below {B : Nat} {w w' : World} {g : Nat} {c : Cfg} {l a : Stt} (h : Od w g c l a) (hb : Below B w w') (hg : g < B) : Od w' g c l a :=
  ⟨h.tt.below hb hg, by rw [hb.cell (p := ⟨g, 21, none⟩) hg]; exact h.once, h.kn.below hb hg⟩
/-- Numbers that may be. -/
def Gd (c : Cfg) (a : Stt) : Prop := (1 ≤ c.user ∧ c.user ≤ 16384) ∧ (1 ≤ c.group ∧ c.group ≤ 16384) ∧ Sm a ∧ (1 ≤ c.boot ∧ c.boot ≤ 256) ∧ (1 ≤ c.rpa ∧ c.rpa ≤ 256)
theorem Gd.bd {c : Cfg} {a : Stt} (h : Gd c a) (j : Nat) : -10000000 ≤ (sz c a).getD j 0 ∧ (sz c a).getD j 0 ≤ 10000000 := by
  obtain ⟨hu, hg, ⟨h0, h1, h2, h3⟩, ho, hr⟩ := h
  have m0 := mul_bd h0 hg
  have m1 := mul_bd h1 hg
  have m2 := mul_bd h2 hg
  have m3 := mul_bd h3 hg
  unfold sz
  match j with
  | 0 => simp only [List.getD_cons_zero]; omega
  | 1 => simp only [List.getD_cons_succ, List.getD_cons_zero]; omega
  | 2 => simp only [List.getD_cons_succ, List.getD_cons_zero]; omega
  | 3 => simp only [List.getD_cons_succ, List.getD_cons_zero]; omega
  | 4 => simp only [List.getD_cons_succ, List.getD_cons_zero]; omega
  | 5 => simp only [List.getD_cons_succ, List.getD_cons_zero]; omega
  | 6 => simp only [List.getD_cons_succ, List.getD_cons_zero]; omega
  | 7 => simp only [List.getD_cons_succ, List.getD_cons_zero]; omega
  | j + 8 => simp
/-- How many sectors an area has. -/
def szA (c : Cfg) (a : Stt) (x : Int) : Int := if 0 ≤ x ∧ x < 8 then (sz c a).getD x.toNat 0 else 0

/-- Once, whatever it was. -/
theorem onceW (g : Nat) (c : Cfg) (l a : Stt) (hG : Gd c a) (w : World) (h : Ob w g c l a) :
    Calls Try.prog 38 #[.pointer (some ⟨g, 21, none⟩), .func (.func 39) #[.pointer (some ⟨g, 0, none⟩)] #[]] w fun e w' => e = .returned (.tuple #[]) ∧ Od w' g c l a ∧ w.grownBy w' (some g) := by
  rcases h.once with ⟨h0, h1⟩ | ⟨h0, hk⟩
  · have ht := h.tt.put 22 (by omega) (.int .i32 1)
    refine (doFirst g 21 ⟨g, 0, none⟩ w h0 h1 (h.tt.free 22 (by omega)) (fun w2 => Rk (w.setCell ⟨g, 22, none⟩ (.int .i32 1)) w2 g c l a 8) (reckonW g c l a hG.1 hG.2.1 hG.2.2.1 hG.bd _ ht) (fun w2 hR => ⟨?_, ?_, hR.1.free 21 (by omega), hR.1.free 22 (by omega)⟩)).mono ?_
    · rw [hR.2.2.2.1 21 (by omega), World.cell?_setCell_other _ ⟨g, 22, none⟩ ⟨g, 21, none⟩ _ (by intro e; injection e with _ e2; omega)]
      exact h0
    · rw [hR.2.2.2.1 22 (by omega)]
      exact World.cell?_setCell_same _ _ _ h1
    · rintro e w' ⟨rfl, w2, ⟨r1, r2, r3, r4, r5⟩, rfl⟩
      have k0 : Kn w2.drew g c a := ⟨r2, r3⟩
      obtain ⟨v, hv⟩ := r1.drew.some 21 (by omega)
      refine ⟨rfl, ⟨(r1.drew.put 21 (by omega) _).put 22 (by omega) _, ?_, (k0.put 21 (by omega) _).put 22 (by omega) _⟩, ?_⟩
      · rw [World.cell?_setCell_other _ ⟨g, 22, none⟩ ⟨g, 21, none⟩ _ (by intro e; injection e with _ e2; omega)]
        exact World.cell?_setCell_same _ _ _ hv
      · exact gb_trans (gb_put w g 22 _) (gb_trans r5 (gb_trans (gb_drew w2 _) (gb_trans (gb_put _ g 21 _) (gb_put _ g 22 _))))
  · refine (doDone g 21 1 (by omega) _ w h0).mono ?_
    rintro e w' ⟨rfl, rfl⟩
    exact ⟨rfl, ⟨h.tt, h0, hk⟩, gb_refl _ _⟩

theorem sizeW (g : Nat) (c : Cfg) (l a : Stt) (hG : Gd c a) (x : Int) (w : World) (h : Ob w g c l a) :
    Calls Try.prog 22 #[.pointer (some ⟨g, 0, none⟩), .int .i64 x] w fun e w' => e = .returned (.int .i64 (szA c a x)) ∧ Od w' g c l a ∧ w.grownBy w' (some g) := by
  have hmf : ∀ w', (Instr.makeFunc (.func 39) #[.pointer (some ⟨g, 0, none⟩)] #[]).run Try.prog w' = .ok (.func (.func 39) #[.pointer (some ⟨g, 0, none⟩)] #[]) w' := fun _ => rfl
  have HO := Lib.hid (onceW g c l a hG w h)
  have SZ : ∀ k : Nat, x = (k : Int) → k < 8 → szA c a x = (sz c a).getD k 0 := fun k e hk => by
    subst e; unfold szA; rw [if_pos (by omega)]; rfl
  have SZ0 : ¬ (0 ≤ x ∧ x < 8) → szA c a x = 0 := fun hn => by unfold szA; rw [if_neg hn]
  generalize szA c a x = S at SZ SZ0 ⊢
  clear h hG
  by_cases h1 : x < 0
  · have e0 := Lib.hid (SZ0 (by omega))
    clear SZ SZ0
    have hd : decide (x < 0) = true := by simpa using h1
    go_enter Try.func22, Try.ntmps22
    go_wp2_with fail
    refine HO.out.mono ?_
    rintro e w1 ⟨rfl, hD, hg⟩
    replace hD := Lib.hid hD
    replace hg := Lib.hid hg
    go_wp2
    go_ret
    exact ⟨by rw [e0.out]; rfl, hD.out, hg.out⟩
  · have hd : decide (x < 0) = false := by simpa using h1
    by_cases h2 : 8 ≤ x
    · have e0 := Lib.hid (SZ0 (by omega))
      clear SZ SZ0
      have hd2 : decide (8 ≤ x) = true := by simpa using h2
      go_enter Try.func22, Try.ntmps22
      go_wp2_with fail
      refine HO.out.mono ?_
      rintro e w1 ⟨rfl, hD, hg⟩
      replace hD := Lib.hid hD
      replace hg := Lib.hid hg
      go_wp2
      go_ret
      exact ⟨by rw [e0.out]; rfl, hD.out, hg.out⟩
    · have hd2 : decide (8 ≤ x) = false := by simpa using h2
      obtain ⟨k, hk⟩ : ∃ k : Nat, x = (k : Int) := ⟨x.toNat, by omega⟩
      have hk8 : k < 8 := by omega
      have e0 := Lib.hid (SZ k hk hk8)
      clear SZ SZ0
      subst hk
      have hk8' : (k : Int) < 8 := by omega
      go_enter Try.func22, Try.ntmps22
      go_wp2_with fail
      refine HO.out.mono ?_
      rintro e w1 ⟨rfl, hD, hg⟩
      have hc := hD.kn.1 k _ (szV_at c a k hk8)
      replace hD := Lib.hid hD
      replace hg := Lib.hid hg
      go_wp2
      go_ret
      exact ⟨by rw [e0.out]; simp, hD.out, hg.out⟩
end Go.Proofs.Ytcggghiionlngaa.AreH
