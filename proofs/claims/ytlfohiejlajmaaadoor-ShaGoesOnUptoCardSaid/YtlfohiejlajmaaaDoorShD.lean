/- Digests: a fresh one. -/
import Derived.Test.YtlfohiejlajmaaaDoorShC
import Derived.Deep.CutRange
namespace Go.Proofs.YtlfohiejlajmaaaDoor.ShD
open Go.ChangeShapes Go.WideShapes Go.ChangeAt Go.RowKit
open ShM ShA ShB ShC Mem
set_option linter.unusedVariables false
set_option maxHeartbeats 2000000

def freshV : Array Value := #[.int .u32 1779033703, .int .u32 3144134277, .int .u32 1013904242, .int .u32 2773480762, .int .u32 1359893119, .int .u32 2600822924, .int .u32 528734635, .int .u32 1541459225, .int .u8 0, .int .u8 0, .int .u8 0, .int .u8 0, .int .u8 0, .int .u8 0, .int .u8 0, .int .u8 0, .int .u8 0, .int .u8 0, .int .u8 0, .int .u8 0, .int .u8 0, .int .u8 0, .int .u8 0, .int .u8 0, .int .u8 0, .int .u8 0, .int .u8 0, .int .u8 0, .int .u8 0, .int .u8 0, .int .u8 0, .int .u8 0, .int .u8 0, .int .u8 0, .int .u8 0, .int .u8 0, .int .u8 0, .int .u8 0, .int .u8 0, .int .u8 0, .int .u8 0, .int .u8 0, .int .u8 0, .int .u8 0, .int .u8 0, .int .u8 0, .int .u8 0, .int .u8 0, .int .u8 0, .int .u8 0, .int .u8 0, .int .u8 0, .int .u8 0, .int .u8 0, .int .u8 0, .int .u8 0, .int .u8 0, .int .u8 0, .int .u8 0, .int .u8 0, .int .u8 0, .int .u8 0, .int .u8 0, .int .u8 0, .int .u8 0, .int .u8 0, .int .u8 0, .int .u8 0, .int .u8 0, .int .u8 0, .int .u8 0, .int .u8 0, .int .i64 0, .int .u64 0]
theorem start_cells : s8c ShM.start = #[.int .u32 1779033703, .int .u32 3144134277, .int .u32 1013904242, .int .u32 2773480762, .int .u32 1359893119, .int .u32 2600822924, .int .u32 528734635, .int .u32 1541459225] := by kernel_rfl
theorem ev0 (a : Act) : a.eval (Operand.global 0) = .pointer (some ⟨0, 0, none⟩) := rfl
theorem loadS {op : Oper} {a : Act} {w : World} {K : Act → World → Prop} {Q : Exit → Act → World → Prop} (ho : op.op = .load 52 (.global 0)) (hl : Laid w)
    (h : K (a.put op.dst (.agg #[.int .u32 1779033703, .int .u32 3144134277, .int .u32 1013904242, .int .u32 2773480762, .int .u32 1359893119, .int .u32 2600822924, .int .u32 528734635, .int .u32 1541459225])) w) : Oper.wp Tryd.prog op a w K Q := by
  obtain ⟨⟨tt, zz, hg⟩, _⟩ := hl
  rw [start_cells] at hg
  unfold Oper.wp execOp
  simp only [ho, ev0, Instr.loadAt, Instr.sureAddr, Sem.run_bind, Sem.run_pure, Result.andThen_ok, run_loadVar_row w 0 tt 52 #[.int .u32 1779033703, .int .u32 3144134277, .int .u32 1013904242, .int .u32 2773480762, .int .u32 1359893119, .int .u32 2600822924, .int .u32 528734635, .int .u32 1541459225] zz _ hg Tryd.underlying52 rfl i52]
  exact h
theorem loadSW {ops : Array Oper} {rest : List Oper} {op : Oper} {a : Act} {w : World} {Q : Exit → Act → World → Prop} (ho : op.op = .load 52 (.global 0)) (hgd : op.guard = none) (hl : Laid w)
    (h : wpList Tryd.prog ops Q rest (a.put op.dst (.agg #[.int .u32 1779033703, .int .u32 3144134277, .int .u32 1013904242, .int .u32 2773480762, .int .u32 1359893119, .int .u32 2600822924, .int .u32 528734635, .int .u32 1541459225])) w) : wpList Tryd.prog ops Q (op :: rest) a w :=
  wpList_plain hgd fun _ hK => loadS ho hl (hK _ _ h)
theorem i60 : (Tryd.prog.info? 60).map (·.size) = some 74 := by kernel_rfl

theorem buildRun (w : World) : (Instr.build 60 #[(0, Value.agg #[.int .u32 1779033703, .int .u32 3144134277, .int .u32 1013904242, .int .u32 2773480762, .int .u32 1359893119, .int .u32 2600822924, .int .u32 528734635, .int .u32 1541459225])]).run Tryd.prog w = .ok (.agg freshV) w := by kernel_rfl
theorem buildW {ops : Array Oper} {rest : List Oper} {op : Oper} {a : Act} {w : World} {Q : Exit → Act → World → Prop} (ho : op.op = .build 60 #[(0, .tmp 1)]) (hgd : op.guard = none) (h1 : a.eval (.tmp 1) = .agg #[.int .u32 1779033703, .int .u32 3144134277, .int .u32 1013904242, .int .u32 2773480762, .int .u32 1359893119, .int .u32 2600822924, .int .u32 528734635, .int .u32 1541459225]) (FR : Array Value) (hFR : FR = freshV)
    (h : wpList Tryd.prog ops Q rest (a.put op.dst (.agg FR)) w) : wpList Tryd.prog ops Q (op :: rest) a w :=
  wpList_plain hgd fun _ hK => by
    subst hFR
    unfold Oper.wp execOp
    simp only [ho, Sem.run_bind, Sem.run_pure, Result.andThen_ok, List.map_toArray, List.map_cons, List.map_nil, h1, buildRun]
    exact hK _ _ h
theorem zero60 (w : World) : (zeroValue 60).run Tryd.prog w = .ok (.agg #[.int .u32 0, .int .u32 0, .int .u32 0, .int .u32 0, .int .u32 0, .int .u32 0, .int .u32 0, .int .u32 0, .int .u8 0, .int .u8 0, .int .u8 0, .int .u8 0, .int .u8 0, .int .u8 0, .int .u8 0, .int .u8 0, .int .u8 0, .int .u8 0, .int .u8 0, .int .u8 0, .int .u8 0, .int .u8 0, .int .u8 0, .int .u8 0, .int .u8 0, .int .u8 0, .int .u8 0, .int .u8 0, .int .u8 0, .int .u8 0, .int .u8 0, .int .u8 0, .int .u8 0, .int .u8 0, .int .u8 0, .int .u8 0, .int .u8 0, .int .u8 0, .int .u8 0, .int .u8 0, .int .u8 0, .int .u8 0, .int .u8 0, .int .u8 0, .int .u8 0, .int .u8 0, .int .u8 0, .int .u8 0, .int .u8 0, .int .u8 0, .int .u8 0, .int .u8 0, .int .u8 0, .int .u8 0, .int .u8 0, .int .u8 0, .int .u8 0, .int .u8 0, .int .u8 0, .int .u8 0, .int .u8 0, .int .u8 0, .int .u8 0, .int .u8 0, .int .u8 0, .int .u8 0, .int .u8 0, .int .u8 0, .int .u8 0, .int .u8 0, .int .u8 0, .int .u8 0, .int .i64 0, .int .u64 0]) w := by kernel_rfl
theorem fresh_size : freshV.size = 74 := rfl
theorem fresh_one : freshV.all (·.oneCell') = true := by kernel_rfl

set_option maxRecDepth 100000 in
theorem freshW (w : World) (hl : Laid w) : Calls Tryd.prog 23 #[] w fun e w' => e = .returned (.agg freshV) ∧ Below w.heap.size w w' := by
  have HL : Hid (∀ w', Below w.heap.size w w' → Laid w') := Lib.hid fun w' hb => hl.below hb
  have hz := zero60
  obtain ⟨FR, hFR⟩ : ∃ FR, FR = freshV := ⟨_, rfl⟩
  have iF : Hid ((Tryd.prog.info? 60).map (·.size) = some FR.size) := Lib.hid (by rw [hFR, fresh_size]; exact i60)
  have oF : Hid (FR.all (·.oneCell') = true) := Lib.hid (by rw [hFR]; exact fresh_one)
  replace hFR := Lib.hid hFR
  clear hl
  go_enter Tryd.func23, Tryd.ntmps23
  go_upto_region 1 with fail
  obtain ⟨OV, hOV⟩ : ∃ OV : Array Value, OV = #[.int .u32 0, .int .u32 0, .int .u32 0, .int .u32 0, .int .u32 0, .int .u32 0, .int .u32 0, .int .u32 0, .int .u8 0, .int .u8 0, .int .u8 0, .int .u8 0, .int .u8 0, .int .u8 0, .int .u8 0, .int .u8 0, .int .u8 0, .int .u8 0, .int .u8 0, .int .u8 0, .int .u8 0, .int .u8 0, .int .u8 0, .int .u8 0, .int .u8 0, .int .u8 0, .int .u8 0, .int .u8 0, .int .u8 0, .int .u8 0, .int .u8 0, .int .u8 0, .int .u8 0, .int .u8 0, .int .u8 0, .int .u8 0, .int .u8 0, .int .u8 0, .int .u8 0, .int .u8 0, .int .u8 0, .int .u8 0, .int .u8 0, .int .u8 0, .int .u8 0, .int .u8 0, .int .u8 0, .int .u8 0, .int .u8 0, .int .u8 0, .int .u8 0, .int .u8 0, .int .u8 0, .int .u8 0, .int .u8 0, .int .u8 0, .int .u8 0, .int .u8 0, .int .u8 0, .int .u8 0, .int .u8 0, .int .u8 0, .int .u8 0, .int .u8 0, .int .u8 0, .int .u8 0, .int .u8 0, .int .u8 0, .int .u8 0, .int .u8 0, .int .u8 0, .int .u8 0, .int .i64 0, .int .u64 0] := ⟨_, rfl⟩
  obtain ⟨w1, hw1⟩ : ∃ w1, w1 = w.alloc (.cells OV 60) := ⟨_, rfl⟩
  have q1 : Hid (Mem.Blk w1 w.heap.size 60 OV) := Lib.hid (by rw [hw1]; exact Mem.Blk.new w 60 _)
  have D1 : Hid (Below w.heap.size w w1) := Lib.hid (by rw [hw1]; exact (Below.refl _ _).alloc (Nat.le_refl _) _)
  have sF : Hid (OV.size = FR.size) := Lib.hid (by rw [hFR.out, fresh_size, hOV]; rfl)
  rw [← hOV, ← hw1]
  replace hw1 := Lib.hid hw1
  replace hOV := Lib.hid hOV
  clear hz
  go_wp2_with (first
    | ((with_reducible show wpList _ _ _ (Oper.mk _ (Op.load 52 (.global 0)) _ _ _ _ :: _) _ _); refine ShD.loadSW rfl rfl (HL.out _ D1.out) ?_)
    | ((with_reducible show wpList _ _ _ (Oper.mk _ (Op.build 60 _) _ _ _ _ :: _) _ _); refine ShD.buildW rfl rfl rfl FR hFR.out ?_)
    | ((with_reducible show wpList _ _ _ (Oper.mk _ (Op.store 60 (.tmp 0) (.tmp 2)) _ _ _ _ :: _) _ _); refine Mem.storeBlk 60 (.tmp 0) (.tmp 2) rfl w.heap.size rfl OV FR rfl 60 q1.out iF.out sF.out oF.out w.heap.size w D1.out (Nat.le_refl _) rfl ?_; intro w5 hB5 hb5))
  exact bodyPost_ret (results_cell_row Tryd.results23 _ _ w.heap.size 60 _ (0, 0) _ rfl hB5 Tryd.underlying60 rfl iF.out) rfl ⟨by rw [hFR.out], hb5⟩
end Go.Proofs.YtlfohiejlajmaaaDoor.ShD
