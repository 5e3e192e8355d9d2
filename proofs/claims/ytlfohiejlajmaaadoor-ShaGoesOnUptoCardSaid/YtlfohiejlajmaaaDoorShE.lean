/- Digests: a new one. -/
import Derived.Test.YtlfohiejlajmaaaDoorShD
namespace Go.Proofs.YtlfohiejlajmaaaDoor.ShE
open Go.ChangeShapes Go.WideShapes Go.ChangeAt Go.RowKit
open ShM ShA ShB ShC ShD Mem
set_option linter.unusedVariables false
set_option maxHeartbeats 2000000

def zb : List Value := [Value.int .u32 0, Value.int .u32 0, Value.int .u32 0, Value.int .u32 0, Value.int .u32 0, Value.int .u32 0, Value.int .u32 0, Value.int .u32 0, Value.int .u8 0, Value.int .u8 0, Value.int .u8 0, Value.int .u8 0, Value.int .u8 0, Value.int .u8 0, Value.int .u8 0, Value.int .u8 0, Value.int .u8 0, Value.int .u8 0, Value.int .u8 0, Value.int .u8 0, Value.int .u8 0, Value.int .u8 0, Value.int .u8 0, Value.int .u8 0, Value.int .u8 0, Value.int .u8 0, Value.int .u8 0, Value.int .u8 0, Value.int .u8 0, Value.int .u8 0, Value.int .u8 0, Value.int .u8 0, Value.int .u8 0, Value.int .u8 0, Value.int .u8 0, Value.int .u8 0, Value.int .u8 0, Value.int .u8 0, Value.int .u8 0, Value.int .u8 0, Value.int .u8 0, Value.int .u8 0, Value.int .u8 0, Value.int .u8 0, Value.int .u8 0, Value.int .u8 0, Value.int .u8 0, Value.int .u8 0, Value.int .u8 0, Value.int .u8 0, Value.int .u8 0, Value.int .u8 0, Value.int .u8 0, Value.int .u8 0, Value.int .u8 0, Value.int .u8 0, Value.int .u8 0, Value.int .u8 0, Value.int .u8 0, Value.int .u8 0, Value.int .u8 0, Value.int .u8 0, Value.int .u8 0, Value.int .u8 0, Value.int .u8 0, Value.int .u8 0, Value.int .u8 0, Value.int .u8 0, Value.int .u8 0, Value.int .u8 0, Value.int .u8 0, Value.int .u8 0, Value.int .i64 0, Value.int .u64 0]
/-- The cells of a digest of no bytes: its block, the block as it was made, one of zeros, no key. -/
def newV : Array Value := (freshV.toList ++ (freshV.toList ++ (zb ++ [Value.bool false]))).toArray
theorem build63 (w : World) : (Instr.build 63 #[(0, Value.agg freshV), (1, Value.agg freshV)]).run Tryd.prog w = .ok (.agg newV) w := by kernel_rfl
theorem buildNW {ops : Array Oper} {rest : List Oper} {op : Oper} {a : Act} {w : World} {Q : Exit → Act → World → Prop} (ho : op.op = .build 63 #[(0, .tmp 1), (1, .tmp 2)]) (hgd : op.guard = none) (FR : Array Value) (hFR : FR = freshV) (h1 : a.eval (.tmp 1) = .agg FR) (h2 : a.eval (.tmp 2) = .agg FR) (NV : Array Value) (hNV : NV = newV)
    (h : wpList Tryd.prog ops Q rest (a.put op.dst (.agg NV)) w) : wpList Tryd.prog ops Q (op :: rest) a w :=
  wpList_plain hgd fun _ hK => by
    subst hFR hNV
    unfold Oper.wp execOp
    simp only [ho, Sem.run_bind, Sem.run_pure, Result.andThen_ok, List.map_toArray, List.map_cons, List.map_nil, h1, h2, build63]
    exact hK _ _ h

set_option maxRecDepth 100000 in
theorem newW (w : World) (hl : Laid w) : Calls Tryd.prog 13 #[] w fun e w' => ∃ g, w.heap.size ≤ g ∧ e = .returned (.pointer (some ⟨g, 0, none⟩)) ∧ Mem.Blk w' g 63 newV ∧ Below w.heap.size w w' := by
  obtain ⟨FR, hFR⟩ : ∃ FR, FR = freshV := ⟨_, rfl⟩
  obtain ⟨NV, hNV⟩ : ∃ NV, NV = newV := ⟨_, rfl⟩
  have HF : Hid (∀ w, Laid w → Calls Tryd.prog 23 #[] w fun e w' => e = .returned (.agg FR) ∧ Below w.heap.size w w') := Lib.hid fun w h => by rw [hFR]; exact freshW w h
  replace hFR := Lib.hid hFR
  replace hNV := Lib.hid hNV
  replace hl := Lib.hid hl
  go_enter Tryd.func13, Tryd.ntmps13
  go_wp2_with fail
  refine (HF.out _ hl.out).mono ?_
  rintro e w1 ⟨rfl, b1⟩
  have l1 := Lib.hid (hl.out.below b1)
  replace b1 := Lib.hid b1
  go_wp2_with fail
  refine (HF.out _ l1.out).mono ?_
  rintro e w2 ⟨rfl, b2⟩
  have D2 := Lib.hid (b1.out.trans (b2.mono b1.out.size))
  clear b2
  go_wp2_with ((with_reducible show wpList _ _ _ (Oper.mk _ (Op.build 63 _) _ _ _ _ :: _) _ _); refine ShE.buildNW rfl rfl FR hFR.out rfl rfl NV hNV.out ?_)
  go_ret
  exact ⟨_, D2.out.size, rfl, by rw [← hNV.out]; exact Mem.Blk.new w2 63 _, D2.out.alloc D2.out.size _⟩
end Go.Proofs.YtlfohiejlajmaaaDoor.ShE
