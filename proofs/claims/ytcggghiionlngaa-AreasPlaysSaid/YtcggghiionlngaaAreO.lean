/- Areas: the example. -/
import Derived.Test.YtcggghiionlngaaAreN
namespace Go.Proofs.Ytcggghiionlngaa.AreO
open Go.ChangeShapes Go.WideShapes Go.ChangeAt Go.RowKit
open Mem GeoM GeoC GeoD GeoE GeoF AreA AreB AreC AreD AreF AreG AreH AreI AreJ AreK AreL AreN
open AreE (K K_check shapeW)
set_option linter.unusedVariables false
set_option maxHeartbeats 2000000

theorem bgb {B g : Nat} {w w1 w2 : World} (h : Below B w w1) (hB : B ≤ g) (hs : B ≤ w1.heap.size) (h2 : w1.grownBy w2 (some g)) : Below B w w2 :=
  ⟨h2.os.trans h.os, h2.tape.trans h.tape, h2.output.trans h.output, Nat.le_trans h.size h2.size, fun q hq => (h2.block q (Nat.lt_of_lt_of_le hq hs) (fun e => by injection e with e; omega)).trans (h.block q hq)⟩
theorem gbb {g : Nat} {w1 w2 : World} (hs : g ≤ w1.heap.size) (h2 : w1.grownBy w2 (some g)) : Below g w1 w2 :=
  ⟨h2.os, h2.tape, h2.output, h2.size, fun q hq => h2.block q (Nat.lt_of_lt_of_le hq hs) (fun e => by injection e with e; omega)⟩
theorem ob_kept {w w' : World} {g1 g2 : Nat} {c : Cfg} {l a : Stt} (h : Ob w g2 c l a) (hb : w.grownBy w' (some g1)) (hne : g2 ≠ g1) : Ob w' g2 c l a := by
  have hq : w'.heap[g2]? = w.heap[g2]? := hb.block g2 h.tt.lt (fun e => by injection e with e; exact hne e)
  have hc : ∀ i, w'.cell? ⟨g2, i, none⟩ = w.cell? ⟨g2, i, none⟩ := fun i => World.cell?_of_block hq
  have hf : ∀ i, w'.frozen? ⟨g2, i, none⟩ = w.frozen? ⟨g2, i, none⟩ := fun i => World.frozen?_of_block hq
  refine ⟨⟨Nat.lt_of_lt_of_le h.tt.lt hb.size, fun j v hv => (hc _).trans (h.tt.cfg j v hv), fun j v hv => (hc _).trans (h.tt.last j v hv), fun j v hv => (hc _).trans (h.tt.act j v hv), fun j hj => ?_⟩, h.once.imp (fun h => ⟨(hc _).trans h.1, (hc _).trans h.2⟩) (fun h => ⟨(hc _).trans h.1, fun j v hv => (hc _).trans (h.2.1 j v hv), fun j hj => (hc _).trans (h.2.2 j hj)⟩)⟩
  obtain ⟨h1, h2⟩ := h.tt.there j hj
  exact ⟨by rw [hc]; exact h1, by rw [hf]; exact h2⟩
def s2 : Stt := ⟨2, 0, 0, 0, 0, true⟩
theorem K_ok : okV K zeroS = true := by decide +kernel
theorem K_may : mayV K s2 = true := by decide +kernel
theorem G0 : Gd K zeroS := by unfold Gd Sm K zeroS; decide
theorem G2 : Gd K s2 := by unfold Gd Sm K s2; decide
theorem newK (w : World) : Calls Try.prog 8 #[cv K, sv zeroS] w fun e w' => ∃ g, Below w.heap.size w w' ∧ w.heap.size ≤ g ∧ e = .returned (.tuple #[.pointer (some ⟨g, 0, none⟩), .int .i64 0]) ∧ Ob w' g K zeroS zeroS := by
  refine (newW K zeroS w).mono ?_
  rintro e w' ⟨hb, ⟨_, g, hg, rfl, hN⟩ | ⟨h, _⟩⟩
  · exact ⟨g, hb, hg, rfl, hN.ob⟩
  · rw [K_ok] at h; cases h

set_option maxRecDepth 100000 in
theorem knownW (w : World) : Calls Try.prog 7 #[] w fun e w' => e = .returned (.bool true) ∧ Below w.heap.size w w' := by
  have HS := Lib.hid (fun w => shapeW w)
  have HN := Lib.hid (fun w => newK w)
  have HZ0 := Lib.hid (fun g x w h => sizeW g K zeroS zeroS G0 x w h)
  have HZ1 := Lib.hid (fun g x w h => sizeW g K s2 zeroS G0 x w h)
  have HZ2 := Lib.hid (fun g x w h => sizeW g K s2 s2 G2 x w h)
  have HT := Lib.hid (fun g w h => setW g K zeroS zeroS s2 w h)
  have HP := Lib.hid (fun g w h => powerW g K s2 zeroS w h)
  have HL := Lib.hid (fun g w h => placeW g K s2 s2 G2 4 3 w h)
  have HA := Lib.hid (fun g w h => activeT g K s2 s2 w h)
  have a1 : szA K zeroS 0 = 256 := by decide +kernel
  have a2 : szA K zeroS 4 = 0 := by decide +kernel
  have a3 : szA K s2 4 = 32 := by decide +kernel
  have a4 : szA K s2 0 = 224 := by decide +kernel
  have a5 : plR K s2 4 3 = .tuple #[.int .i64 227, .bool true] := by rw [plR, a3]; rfl
  have a6 : setE K zeroS s2 = 0 := by unfold setE; rw [if_neg (by decide), if_pos K_may]
  have a7 : setL K zeroS s2 = s2 := by unfold setL; rw [if_neg (by decide), if_pos K_may]
  have a8 : force s2 = s2 := rfl
  rw [a6, a7] at HT
  rw [a5] at HL
  rw [a8] at HP
  go_enter Try.func7, Try.ntmps7
  go_wp2_with fail
  refine (HS.out _).mono ?_
  rintro e w1 ⟨rfl, b1⟩
  have D1 := Lib.hid b1
  unfold cv cc K
  simp only
  go_wp2_with fail
  have D1' : Hid (Below w.heap.size w (w1.alloc (.cells #[.int .i64 70, .int .i64 16, .int .i64 128, .int .i64 256, .int .i64 8, .int .i64 8, .int .i64 16, .int .i64 8, .int .i64 2] 23))) := Lib.hid (D1.out.alloc D1.out.size _)
  generalize w1.alloc (.cells #[.int .i64 70, .int .i64 16, .int .i64 128, .int .i64 256, .int .i64 8, .int .i64 8, .int .i64 16, .int .i64 8, .int .i64 2] 23) = w1' at D1' ⊢
  clear b1 D1
  refine (HN.out _).mono ?_
  rintro e w2 ⟨g1, b2, hg1, rfl, O2⟩
  have D2 := Lib.hid (D1'.out.trans (b2.mono D1'.out.size))
  replace O2 := Lib.hid O2
  have hg1' := Lib.hid (Nat.le_trans D1'.out.size hg1)
  clear b2 hg1
  go_wp2_with fail
  refine (HZ0.out _ _ _ O2.out).mono ?_
  rintro e w3 ⟨rfl, O3, b3⟩
  have D3 := Lib.hid (bgb D2.out hg1'.out D2.out.size b3)
  replace O3 := Lib.hid O3
  clear b3 O2
  rw [a1]
  go_wp2_with fail
  refine (HT.out _ _ O3.out.ob).mono ?_
  rintro e w4 ⟨rfl, O4, b4⟩
  have D4 := Lib.hid (bgb D3.out hg1'.out D3.out.size b4)
  replace O4 := Lib.hid O4
  clear b4 O3
  go_wp2_with fail
  refine (HP.out _ _ O4.out).mono ?_
  rintro e w5 ⟨b5, g2, hg2, rfl, N5⟩
  have D5 := Lib.hid (D4.out.trans (b5.mono D4.out.size))
  have O5 := Lib.hid (O4.out.below b5 O4.out.tt.lt)
  have U5 := Lib.hid N5.ob
  have hg2' := Lib.hid (Nat.le_trans D4.out.size hg2)
  have hlt := Lib.hid (Nat.lt_of_lt_of_le O4.out.tt.lt hg2)
  have hl5 := Lib.hid (Nat.le_of_lt N5.tt.lt)
  clear b5 O4 N5 hg2
  go_wp2_with fail
  refine (HL.out _ _ U5.out).mono ?_
  rintro e w6 ⟨rfl, U6, b6⟩
  have D6 := Lib.hid (bgb D5.out hg2'.out D5.out.size b6)
  have O6 := Lib.hid (O5.out.below (gbb hl5.out b6) hlt.out)
  replace U6 := Lib.hid U6
  clear b6 O5 U5
  go_wp2_with fail
  refine (HZ1.out _ _ _ O6.out).mono ?_
  rintro e w7 ⟨rfl, O7, b7⟩
  have D7 := Lib.hid (bgb D6.out hg1'.out D6.out.size b7)
  have hne : g2 ≠ g1 := by have := hlt.out; omega
  have U7 := Lib.hid (ob_kept U6.out b7 hne)
  clear b7 O6 U6 O7 hne
  rw [a2]
  go_wp2_with fail
  refine (HZ2.out _ _ _ U7.out).mono ?_
  rintro e w8 ⟨rfl, O8, b8⟩
  have D8 := Lib.hid (bgb D7.out hg2'.out D7.out.size b8)
  replace O8 := Lib.hid O8
  clear b8 U7
  rw [a3]
  go_wp2_with fail
  refine (HZ2.out _ _ _ O8.out.ob).mono ?_
  rintro e w9 ⟨rfl, O9, b9⟩
  have D9 := Lib.hid (bgb D8.out hg2'.out D8.out.size b9)
  replace O9 := Lib.hid O9
  clear b9 O8
  rw [a4]
  go_wp2_with fail
  refine (HA.out _ _ O9.out.tt).mono ?_
  rintro e w10 ⟨rfl, rfl⟩
  go_wp2
  go_ret
  exact ⟨rfl, D9.out⟩
end Go.Proofs.Ytcggghiionlngaa.AreO
