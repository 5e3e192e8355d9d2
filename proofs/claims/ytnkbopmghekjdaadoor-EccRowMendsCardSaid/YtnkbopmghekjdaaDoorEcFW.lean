/- Rows with turned bits: the walks. -/
import Derived.Test.YtnkbopmghekjdaaDoorEcFM
import Derived.Test.YtnkbopmghekjdaaDoorEcWP
import Derived.Test.YtnkbopmghekjdaaDoorEcE
namespace Go.Proofs.YtnkbopmghekjdaaDoor.EcFW
open Go.ChangeShapes Go.WideShapes Go.ChangeAt Go.RowKit
open EcM EcA EcB EcC EcT EcX EcY EcZ EcWM EcFM
set_option linter.unusedVariables false
set_option maxHeartbeats 1000000

theorem own_far {w : World} {base g j : Nat} {v : Value} {xs : List B8} (h : Own w base v xs) (hne : v.ownBlock ≠ some g) (u : Value) : Own (w.setCell ⟨g, j, none⟩ u) base v xs :=
  World.ownsRow.kept (row := some g) h ⟨rfl, rfl, rfl, by simp, fun k _ hk => Below.heap_setCell w ⟨g, j, none⟩ u k (fun e => hk (congrArg some e))⟩ (.inr hne)

/-- Both rows, and that nothing below has changed. -/
def Two (W : World) (bx bc gx gc n m cx cc : Nat) (xs cs : List B8) : Prop := Own W bx (.slice (some ⟨gx, 0, none⟩) n cx) xs ∧ Own W bc (.slice (some ⟨gc, 0, none⟩) m cc) cs

theorem xorB (x y : B8) : bits BinOp.xor IntKind.u8 (x.toNat : Int) (y.toNat : Int) = ((x ^^^ y).toNat : Int) := by
  have := xor8 ⟨x.toNat, x.isLt⟩ ⟨y.toNat, y.isLt⟩
  simpa [BitVec.toNat_xor] using this

theorem xorP (x : B8) (r : Nat) (hr : r < 8) : bits BinOp.xor IntKind.u8 (x.toNat : Int) (IntKind.u8.wrap ((2 : Int) ^ r)) = ((x ^^^ BitVec.ofNat 8 (2 ^ r)).toNat : Int) := by
  rw [← xorB]
  congr 1

set_option maxRecDepth 100000 in
theorem flipW (bx bc gx gc cx cc n m i bit : Nat) (xs cs : List B8) (W : World) (h : Two W bx bc gx gc n m cx cc xs cs) (hne : gx ≠ gc) (hn : n = 8 * m) (hi : i < m) (hb : bit < 72) (hm : m ≤ 1000) :
    Calls Tryd.prog 21 #[.slice (some ⟨gx, 0, none⟩) n cx, .slice (some ⟨gc, 0, none⟩) m cc, .int .i64 (i : Int), .int .i64 (bit : Int)] W fun e w' => e = .returned (.tuple #[]) ∧ Two w' bx bc gx gc n m cx cc (flipX xs i bit) (flipC cs i bit) ∧ ∀ B w0, B ≤ gx → B ≤ gc → Below B w0 W → Below B w0 w' := by
  obtain ⟨hx, hc⟩ := h
  have lx : xs.length = n := hx.rd.2.1
  have lc : cs.length = m := hc.rd.2.1
  by_cases h64 : bit < 64
  · have hd : decide ((bit : Int) < 64) = true := by simp; omega
    obtain ⟨b', off', e, hcl⟩ := hx.rd.1.2 (8 * i + bit / 8) (by omega)
    injection e with e
    injection e with e4 e5
    subst e4 e5
    rw [Nat.zero_add] at hcl
    have hz := EcT.Own.free hx (8 * i + bit / 8)
    have H := Lib.hid (EcT.Own.put hx (8 * i + bit / 8) (by omega) (xs.getD (8 * i + bit / 8) 0 ^^^ BitVec.ofNat 8 (2 ^ (bit % 8))))
    have H2 := Lib.hid (fun u => own_far (g := gx) (j := 8 * i + bit / 8) hc (by simp [Value.ownBlock]; omega) u)
    have e1 : flipX xs i bit = xs.set (8 * i + bit / 8) (xs.getD (8 * i + bit / 8) 0 ^^^ BitVec.ofNat 8 (2 ^ (bit % 8))) := by unfold flipX; rw [if_pos h64]
    have e2 : flipC cs i bit = cs := by unfold flipC; rw [if_pos h64]
    rw [e1, e2]
    clear e1 e2 hx hc
    generalize xs.getD (8 * i + bit / 8) 0 = x at *
    have hbn : (bit : Int) / 8 < 8 := by omega
    have hin : 8 * (i : Int) + (bit : Int) / 8 < (n : Int) := by omega
    replace hn := Lib.hid hn
    replace lx := Lib.hid lx
    replace lc := Lib.hid lc
    obtain ⟨r, hr⟩ : ∃ r, r = bit % 8 := ⟨_, rfl⟩
    rw [← hr] at H ⊢
    have hr8 : r < 8 := by omega
    have hr' : (bit : Int) % 8 = (r : Int) := by omega
    replace hr := Lib.hid hr
    go_enter Tryd.func21, Tryd.ntmps21
    have hv := Lib.hid (xorP x r hr8)
    go_wp2
    go_end0
    refine ⟨rfl, ⟨?_, H2.out _⟩, fun B w0 h1 h2 hb => hb.setCell (p := ⟨gx, 8 * i + bit / 8, none⟩) h1 _⟩
    first | (rw [hv.out]; exact H.out) | (show Own (W.setCell _ (.int .u8 (bits BinOp.xor IntKind.u8 (x.toNat : Int) (IntKind.u8.wrap ((2 : Int) ^ r))))) _ _ _; rw [hv.out]; exact H.out)
  · obtain ⟨j, rfl⟩ : ∃ j, bit = 64 + j := ⟨bit - 64, by omega⟩
    have hd : decide (((64 + j : Nat) : Int) < 64) = false := by simp; omega
    obtain ⟨b', off', e, hcl⟩ := hc.rd.1.2 i (by omega)
    injection e with e
    injection e with e4 e5
    subst e4 e5
    rw [Nat.zero_add] at hcl
    have hz := EcT.Own.free hc i
    have H := Lib.hid (EcT.Own.put hc i (by omega) (cs.getD i 0 ^^^ BitVec.ofNat 8 (2 ^ j)))
    have H2 := Lib.hid (fun u => own_far (g := gc) (j := i) hx (by simp [Value.ownBlock]; omega) u)
    have e1 : flipX xs i (64 + j) = xs := by unfold flipX; rw [if_neg h64]
    have e2 : flipC cs i (64 + j) = cs.set i (cs.getD i 0 ^^^ BitVec.ofNat 8 (2 ^ j)) := by unfold flipC; rw [if_neg h64, show 64 + j - 64 = j by omega]
    rw [e1, e2]
    clear e1 e2 hx hc
    generalize cs.getD i 0 = x at *
    replace hn := Lib.hid hn
    replace lx := Lib.hid lx
    replace lc := Lib.hid lc
    have hv := Lib.hid (xorP x j (by omega))
    have him : (i : Int) < (m : Int) := by omega
    have hs : ((64 + j : Nat) : Int) - 64 = (j : Int) := by omega
    have hj8 : j < 8 := by omega
    clear h64 hb
    generalize 64 + j = bit at hd hs ⊢
    go_enter Tryd.func21, Tryd.ntmps21
    go_wp2
    go_end0
    refine ⟨rfl, ⟨H2.out _, ?_⟩, fun B w0 h1 h2 hb => hb.setCell (p := ⟨gc, i, none⟩) h2 _⟩
    first | (rw [hv.out]; exact H.out) | (show Own (W.setCell _ (.int .u8 (bits BinOp.xor IntKind.u8 (x.toNat : Int) (IntKind.u8.wrap ((2 : Int) ^ j))))) _ _ _; rw [hv.out]; exact H.out)
end Go.Proofs.YtnkbopmghekjdaaDoor.EcFW
