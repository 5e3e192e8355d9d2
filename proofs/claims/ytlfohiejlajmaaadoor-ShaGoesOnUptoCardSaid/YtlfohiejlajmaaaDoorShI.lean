/- Digests: Equal. -/
import Derived.Test.YtlfohiejlajmaaaDoorShH
namespace Go.Proofs.YtlfohiejlajmaaaDoor.ShI
open Go.ChangeShapes Go.WideShapes Go.ChangeAt Go.RowKit
open ShM ShA ShB ShC ShD ShE ShF ShG ShH Mem
set_option linter.unusedVariables false
set_option maxHeartbeats 2000000

theorem i28 : (Tryd.prog.info? 28).map (·.size) = some 32 := by kernel_rfl
theorem eqlW {ops : Array Oper} {rest : List Oper} {op : Oper} {a : Act} {w : World} {Q : Exit → Act → World → Prop} (x y : List ShM.B8) (A B : Array Value) (hA : A = b32 x) (hB : B = b32 y) (r : Bool) (hr : r = decide (∀ i ∈ List.range 32, x.getD i 0 = y.getD i 0)) (ho : op.op = .binOp .eql 28 (.tmp 5) (.tmp 6) 28) (hgd : op.guard = none) (h1 : a.eval (.tmp 5) = .agg A) (h2 : a.eval (.tmp 6) = .agg B)
    (h : wpList Tryd.prog ops Q rest (a.put op.dst (.bool r)) w) : wpList Tryd.prog ops Q (op :: rest) a w :=
  wpList_plain hgd fun _ hK => by
    subst hA hB hr
    have HG : (eqGuard .eql 28 (.tmp 5) (.tmp 6) (.agg (b32 x)) (.agg (b32 y))).run Tryd.prog w = .ok () w := by kernel_rfl
    unfold Oper.wp execOp
    simp only [ho, Sem.run_bind, Sem.run_pure, Result.andThen_ok, h1, h2, HG, eql28]
    exact hK _ _ h
set_option maxRecDepth 100000 in
theorem equalW (x y : List ShM.B8) (w : World) : Calls Tryd.prog 18 #[.agg (b32 x), .agg (b32 y)] w fun e w' => e = .returned (.bool (decide (∀ i ∈ List.range 32, x.getD i 0 = y.getD i 0))) ∧ Below w.heap.size w w' := by
  obtain ⟨A, hA⟩ : ∃ A, A = b32 x := ⟨_, rfl⟩
  obtain ⟨B, hB⟩ : ∃ B, B = b32 y := ⟨_, rfl⟩
  have e1 : Hid (((w.alloc (.cells A 28)).alloc (.cells B 28)).rangeAt w.heap.size 0 A.toList) := Lib.hid ((Mem.Blk.new w 28 A).alloc _).range
  have e2 : Hid (((w.alloc (.cells A 28)).alloc (.cells B 28)).rangeAt (w.heap.size + 1) 0 B.toList) := Lib.hid (by
    have := (Mem.Blk.new (w.alloc (.cells A 28)) 28 B).range
    rwa [show (w.alloc (.cells A 28)).heap.size = w.heap.size + 1 by simp] at this)
  have D2 : Hid (Below w.heap.size w ((w.alloc (.cells A 28)).alloc (.cells B 28))) := Lib.hid (((Below.refl _ _).alloc (Nat.le_refl _) _).alloc (by simp) _)
  have iA : Hid ((Tryd.prog.info? 28).map (·.size) = some A.size) := Lib.hid (by rw [hA, b32_size]; exact i28)
  have iB : Hid ((Tryd.prog.info? 28).map (·.size) = some B.size) := Lib.hid (by rw [hB, b32_size]; exact i28)
  obtain ⟨r, hr⟩ : ∃ r, r = decide (∀ i ∈ List.range 32, x.getD i 0 = y.getD i 0) := ⟨_, rfl⟩
  rw [← hA, ← hB, ← hr]
  replace hr := Lib.hid hr
  replace hA := Lib.hid hA
  replace hB := Lib.hid hB
  go_enter Tryd.func18, Tryd.ntmps18
  go_wp2_with (first
    | ((with_reducible show wpList _ _ _ (Oper.mk _ (Op.load 28 (.tmp 2)) _ _ _ _ :: _) _ _); refine Mem.loadMid 28 (.tmp 2) rfl w.heap.size 0 rfl A e1.out _ Tryd.underlying28 rfl iA.out rfl ?_)
    | ((with_reducible show wpList _ _ _ (Oper.mk _ (Op.load 28 (.tmp 3)) _ _ _ _ :: _) _ _); refine Mem.loadMid 28 (.tmp 3) rfl (w.heap.size + 1) 0 rfl B e2.out _ Tryd.underlying28 rfl iB.out rfl ?_)
    | ((with_reducible show wpList _ _ _ (Oper.mk _ (Op.binOp .eql 28 _ _ _) _ _ _ _ :: _) _ _); refine ShI.eqlW x y A B hA.out hB.out r hr.out rfl rfl rfl rfl ?_))
  go_ret
  exact ⟨rfl, D2.out⟩
end Go.Proofs.YtlfohiejlajmaaaDoor.ShI
