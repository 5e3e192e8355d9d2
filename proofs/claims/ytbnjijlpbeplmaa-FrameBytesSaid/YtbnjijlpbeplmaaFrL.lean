/- Contracts of frames: the long answers. -/
import Derived.Test.YtbnjijlpbeplmaaFrR
import Derived.Deep.WholeRow
import Derived.Laws.CopyOwn
namespace Go.Proofs.Ytbnjijlpbeplmaa.FrL
open Go.ChangeShapes Go.WideShapes Go.ChangeAt Go.RowKit
open CrcM CrcB CrcL CrcQ FrA FrB FrT FrD FrR
set_option linter.unusedVariables false
set_option maxHeartbeats 1000000

theorem i91 : (Try.prog.info? 85).map (·.size) = some 17 := by kernel_rfl
theorem s5 : (Try.prog.info? 5).map (·.size) = some 1 := by kernel_rfl

theorem loadRow {ops : Array Oper} {rest : List Oper} {op : Oper} {a : Act} {w : World} {Q : Exit → Act → World → Prop} (hgd : op.guard = none) (x : Operand) (ho : op.op = .load 85 x)
    (g : Nat) (hx : a.eval x = .pointer (some ⟨g, 0, none⟩)) (cs : Array Value) (t : TypeId) (hg : w.heap[g]? = some (.cells cs t (0, 0))) (hn : cs.size = 17)
    (h : wpList Try.prog ops Q rest (a.put op.dst (.agg cs)) w) : wpList Try.prog ops Q (op :: rest) a w :=
  wpList_plain hgd fun _ hK => by
    unfold Oper.wp execOp
    simp only [ho, hx, Instr.loadAt, Instr.sureAddr, Sem.run_bind, Sem.run_pure, Result.andThen_ok, run_loadVar_row w g t 85 cs (0, 0) _ hg Try.underlying85 rfl (by rw [hn]; exact i91)]
    exact hK _ _ h

theorem storeRow {ops : Array Oper} {rest : List Oper} {op : Oper} {a : Act} {w : World} {Q : Exit → Act → World → Prop} (hgd : op.guard = none) (x y : Operand) (ho : op.op = .store 85 x y)
    (g : Nat) (hx : a.eval x = .pointer (some ⟨g, 0, none⟩)) (old cs : Array Value) (hy : a.eval y = .agg cs) (t : TypeId) (hg : w.heap[g]? = some (.cells old t (0, 0))) (hn : cs.size = 17) (ho' : old.size = 17) (h1 : cs.all (·.oneCell') = true)
    (B : Nat) (w0 : World) (hb : Below B w0 w) (hBg : B ≤ g)
    (h : ∀ w', w'.heap[g]? = some (.cells cs t (0, 0)) → Below B w0 w' → wpList Try.prog ops Q rest (a.put op.dst undef) w') : wpList Try.prog ops Q (op :: rest) a w :=
  wpList_plain hgd fun _ hK => by
    unfold Oper.wp execOp
    simp only [ho, hx, hy, Instr.storeAt, Instr.sureAddr, Sem.run_bind, Sem.run_pure, Result.andThen_ok, run_storeVar_row w g t 85 old cs hg (by rw [hn]; exact i91) (by omega) h1]
    exact hK _ _ (h _ (setRow_heap w g _ _ t _ hg) (below_setRow hb hBg _))

def Row91 (w : World) (g : Nat) (l : List B8) : Prop := w.heap[g]? = some (.cells (vals l).toArray 85 (0, 0))
theorem Row91.cell {w g l} (h : Row91 w g l) (i : Nat) (hi : i < l.length) : w.cell? ⟨g, i, none⟩ = some (.int .u8 (l.getD i 0).toNat) := by
  rw [cell_of_row w g i _ 85 _ h]; simp [vals, hi]
theorem Row91.free {w g l} (h : Row91 w g l) (i : Nat) : w.frozen? ⟨g, i, none⟩ = false := by
  unfold Row91 at h; simp [World.frozen?, h]
theorem Row91.put {w g l} (h : Row91 w g l) (i : Nat) (y : B8) : Row91 (w.setCell ⟨g, i, none⟩ (.int .u8 y.toNat)) g (l.set i y) := by
  unfold Row91 at h ⊢
  simp [World.setCell, Array.getElem?_modify, h, vals, List.map_set]
theorem vals_all (l : List B8) : (vals l).toArray.all (·.oneCell') = true := by
  rw [Array.all_eq_true_iff_forall_mem]
  intro v hv
  exact vals_one l v (by simpa using hv)

theorem or1 (y : B8) : bits BinOp.or IntKind.u8 (y.toNat : Int) 1 = ((y ||| 1#8).toNat : Int) := by
  rw [← o8]; rfl

set_option maxRecDepth 100000 in
theorem long (b : Nat) (l : List B8) (c : Nat) (w : World) (hl : l.length = 16) (hb : b < w.heap.size) (hr : Rd w (some ⟨b, 0, none⟩) l) :
    Calls Try.prog 47 #[.slice (some ⟨b, 0, none⟩) 16 c] w fun e w' => e = .returned (.agg (vals (longOf l)).toArray) ∧ Below w.heap.size w w' := by
  have HT : Hid (∀ w', Below w.heap.size w w' → Rd w' (some ⟨b, 0, none⟩) l) := Lib.hid fun w' hb' => Rd.below hr hb' (fun x _ hx => by injection hx with hx; subst hx; exact hb)
  have HL := Lib.hid hl
  clear hr hl
  go_enter Try.func47, Try.ntmps47
  obtain ⟨y, hy⟩ : ∃ y, y = l.getD 15 0 := ⟨_, rfl⟩
  have HY := Lib.hid hy
  clear hy
  have hb1 : Below (w.heap.size + 1) (w.alloc (.cells #[.int .u8 0, .int .u8 0, .int .u8 0, .int .u8 0, .int .u8 0, .int .u8 0, .int .u8 0, .int .u8 0, .int .u8 0, .int .u8 0, .int .u8 0, .int .u8 0, .int .u8 0, .int .u8 0, .int .u8 0, .int .u8 0, .int .u8 0] 85)) ((w.alloc (.cells #[.int .u8 0, .int .u8 0, .int .u8 0, .int .u8 0, .int .u8 0, .int .u8 0, .int .u8 0, .int .u8 0, .int .u8 0, .int .u8 0, .int .u8 0, .int .u8 0, .int .u8 0, .int .u8 0, .int .u8 0, .int .u8 0, .int .u8 0] 85)).alloc (.cells (vals (63#8 :: List.replicate 16 0#8)).toArray 85)) := (Below.refl _ _).alloc (by simp) _
  have HB1 := Lib.hid hb1
  have HG1 := Lib.hid (heap_alloc2_new w (.cells #[.int .u8 0, .int .u8 0, .int .u8 0, .int .u8 0, .int .u8 0, .int .u8 0, .int .u8 0, .int .u8 0, .int .u8 0, .int .u8 0, .int .u8 0, .int .u8 0, .int .u8 0, .int .u8 0, .int .u8 0, .int .u8 0, .int .u8 0] 85) (.cells (vals (63#8 :: List.replicate 16 0#8)).toArray 85))
  clear hb1
  have HSRC : Hid (∀ j v, (vals l)[j]? = some v → ((w.alloc (.cells #[.int .u8 0, .int .u8 0, .int .u8 0, .int .u8 0, .int .u8 0, .int .u8 0, .int .u8 0, .int .u8 0, .int .u8 0, .int .u8 0, .int .u8 0, .int .u8 0, .int .u8 0, .int .u8 0, .int .u8 0, .int .u8 0, .int .u8 0] 85)).alloc (.cells (vals (63#8 :: List.replicate 16 0#8)).toArray 85)).cell? ((⟨b, 0, none⟩ : Addr).add j) = some v) := Lib.hid fun j v hj => by
    have hj' : j < l.length := by have := (List.getElem?_eq_some_iff.1 hj).1; simpa [vals_length] using this
    have h3 := Rd.at (HT.out ((w.alloc (.cells #[.int .u8 0, .int .u8 0, .int .u8 0, .int .u8 0, .int .u8 0, .int .u8 0, .int .u8 0, .int .u8 0, .int .u8 0, .int .u8 0, .int .u8 0, .int .u8 0, .int .u8 0, .int .u8 0, .int .u8 0, .int .u8 0, .int .u8 0] 85)).alloc (.cells (vals (63#8 :: List.replicate 16 0#8)).toArray 85)) (((Below.refl _ w).alloc (Nat.le_refl _) _).alloc (by simp) _)) j hj'
    rw [Addr.add_lit, h3, ← hj]; simp [vals, hj']
  have HVL : Hid ((vals l).length = Nat.min 16 16) := Lib.hid (by rw [vals_length, HL.out]; rfl)
  go_wp2_with (first
    | (refine wpList_copy_splice rfl (.tmp 5) (.tmp 6) 24 24 rfl 5 Try.underlying24 s5 _ _ 16 16 16 c rfl rfl (w.heap.size + 1) 1 (vals (63#8 :: List.replicate 16 0#8)) 85 HG1.out (vals l) HVL.out (fun _ => ⟨rfl, ⟨b, 0, none⟩, rfl, HSRC.out⟩) (by simp [vals_length, HL.out]) (vals_one l) (w.heap.size + 1) (w.alloc (.cells #[.int .u8 0, .int .u8 0, .int .u8 0, .int .u8 0, .int .u8 0, .int .u8 0, .int .u8 0, .int .u8 0, .int .u8 0, .int .u8 0, .int .u8 0, .int .u8 0, .int .u8 0, .int .u8 0, .int .u8 0, .int .u8 0, .int .u8 0] 85)) HB1.out (Nat.le_refl _) ?_
       intro w5 hg5 hb5
       have HR5 : Hid (Row91 w5 (w.heap.size + 1) (63#8 :: l)) := Lib.hid (by
         have := hg5.out
         have e : splice (vals (63#8 :: List.replicate 16 0#8)) 1 (vals l) = vals (63#8 :: l) := by
           unfold splice
           rw [List.drop_of_length_le (by simp [vals_length, HL.out])]
           simp [vals]
         rw [e] at this
         exact this)
       have c16 : w5.cell? ⟨w.heap.size + 1, 16, none⟩ = some (.int .u8 y.toNat) := by
         have := Row91.cell HR5.out 16 (by simp [HL.out])
         rw [this, HY.out]; rfl
       have z16 := Row91.free HR5.out 16
       have HP : Hid ((w5.setCell ⟨w.heap.size + 1, 16, none⟩ (.int .u8 (bits .or .u8 (y.toNat : Int) 1))).heap[w.heap.size + 1]? = some (.cells (vals (longOf l)).toArray 85 (0, 0))) := Lib.hid (by
         rw [or1]
         have := Row91.put HR5.out 16 (y ||| 1#8)
         unfold longOf
         rw [← HY.out]; exact this)
       have HQ := Lib.hid (hb5.setCell (p := ⟨w.heap.size + 1, 16, none⟩) (Nat.le_refl _) (.int .u8 (bits .or .u8 (y.toNat : Int) 1)))
       have HZ : Hid ((w5.setCell ⟨w.heap.size + 1, 16, none⟩ (.int .u8 (bits .or .u8 (y.toNat : Int) 1))).heap[w.heap.size]? = some (.cells #[.int .u8 0, .int .u8 0, .int .u8 0, .int .u8 0, .int .u8 0, .int .u8 0, .int .u8 0, .int .u8 0, .int .u8 0, .int .u8 0, .int .u8 0, .int .u8 0, .int .u8 0, .int .u8 0, .int .u8 0, .int .u8 0, .int .u8 0] 85 (0, 0))) := Lib.hid ((HQ.out.block w.heap.size (by omega)).trans (heap_alloc_new _ _))
       have HB9 := Lib.hid (((Below.refl _ w).alloc (Nat.le_refl _) (.cells #[.int .u8 0, .int .u8 0, .int .u8 0, .int .u8 0, .int .u8 0, .int .u8 0, .int .u8 0, .int .u8 0, .int .u8 0, .int .u8 0, .int .u8 0, .int .u8 0, .int .u8 0, .int .u8 0, .int .u8 0, .int .u8 0, .int .u8 0] 85)).trans (HQ.out.mono (by omega)))
       clear hg5 hb5)
    | (refine loadRow rfl (.tmp 3) rfl (w.heap.size + 1) rfl (vals (longOf l)).toArray 85 HP.out (by simp [vals, longOf, HL.out]) ?_)
    | (refine storeRow rfl (.tmp 2) (.tmp 12) rfl w.heap.size rfl #[.int .u8 0, .int .u8 0, .int .u8 0, .int .u8 0, .int .u8 0, .int .u8 0, .int .u8 0, .int .u8 0, .int .u8 0, .int .u8 0, .int .u8 0, .int .u8 0, .int .u8 0, .int .u8 0, .int .u8 0, .int .u8 0, .int .u8 0] (vals (longOf l)).toArray rfl 85 HZ.out (by simp [vals, longOf, HL.out]) rfl (vals_all _) w.heap.size w HB9.out (Nat.le_refl _) ?_
       intro w9 hg9 hb9))
  refine bodyPost_ret (results_cell_row Try.results47 _ _ w.heap.size 85 _ (0, 0) _ rfl hg9 Try.underlying85 rfl (by rw [show (vals (longOf l)).toArray.size = 17 by simp [vals, longOf, HL.out]]; exact i91)) rfl ⟨rfl, hb9⟩

/-- What is read of a long answer. -/
def backOf (l : List B8) : List B8 := l.set 15 (l.getD 15 0 &&& 254#8)

theorem andNot1 (y : B8) : bits BinOp.andNot IntKind.u8 (y.toNat : Int) 1 = ((y &&& 254#8).toNat : Int) := by
  have h : ∀ y : B8, bits BinOp.andNot IntKind.u8 (y.toNat : Int) 1 = ((y &&& 254#8).toNat : Int) := by decide +kernel
  exact h y
theorem orNot (y : B8) : (y ||| 1#8) &&& 254#8 = y &&& 254#8 := by
  have h : ∀ y : B8, (y ||| 1#8) &&& 254#8 = y &&& 254#8 := by decide +kernel
  exact h y
theorem orAnd (y : B8) : (y ||| 1#8) &&& 1#8 = 1#8 := by
  have h : ∀ y : B8, (y ||| 1#8) &&& 1#8 = 1#8 := by decide +kernel
  exact h y

set_option maxRecDepth 100000 in
theorem readLong (g : Nat) (l : List B8) (w : World) (hl : l.length = 16) (hg : g < w.heap.size) (hr : Rd w (some ⟨g, 0, none⟩) (longOf l)) :
    Calls Try.prog 41 #[.slice (some ⟨g, 0, none⟩) 17 17] w fun e w' => ∃ g5 c', e = .returned (.tuple #[.slice (some ⟨g5, 0, none⟩) 16 c', .int .i64 0]) ∧ w.heap.size ≤ g5 ∧ Rd w' (some ⟨g5, 0, none⟩) (backOf l) ∧ Below w.heap.size w w' := by
  obtain ⟨y, hy⟩ : ∃ y, y = l.getD 15 0 := ⟨_, rfl⟩
  have hll : (longOf l).length = 17 := by simp [longOf, hl]
  have c0 : w.cell? ⟨g, 0, none⟩ = some (.int .u8 63) := by
    have := Rd.at hr 0 (by omega)
    simpa [longOf] using this
  have c16 : w.cell? ⟨g, 16, none⟩ = some (.int .u8 (y ||| 1#8).toNat) := by
    have := Rd.at hr 16 (by omega)
    rw [Nat.zero_add] at this
    rw [this, hy]
    simp [longOf, hl]
  obtain ⟨v, hv⟩ : ∃ v, v = y ||| 1#8 := ⟨_, rfl⟩
  rw [← hv] at c16
  have q := last v false (by rw [hv]; simp [orAnd])
  have hv8 := v.isLt
  obtain ⟨m, hm⟩ : ∃ m, m = l.set 15 v := ⟨_, rfl⟩
  have hml : m.length = 16 := by rw [hm]; simp [hl]
  have HT : Hid (∀ w', Below w.heap.size w w' → Rd w' (some ⟨g, 1, none⟩) m) := Lib.hid fun w' hb' => by
    have h1 := Rd.below hr hb' (fun x _ hx => by injection hx with hx; subst hx; exact hg)
    have e : longOf l = 63#8 :: m := by rw [hm, hv, hy]; rfl
    rw [e] at h1
    exact Rd.tail h1
  have hm15 : m.getD 15 0 = v := by rw [hm]; simp [hl]
  have HM15 := Lib.hid hm15
  have HBK : Hid (m.set 15 (v &&& 254#8) = backOf l) := Lib.hid (by
    rw [hm, hv, orNot, hy]; unfold backOf; simp)
  have HML := Lib.hid hml
  have hn := andNot1 v
  have hb1 := (Below.refl w.heap.size w).alloc (Nat.le_refl _) (.cells #[] 5)
  have HO := Lib.hid (Own.made w w.heap.size (Nat.le_refl _) #[] 0 [] rfl (Nat.zero_le _) rfl)
  clear hr hy hv hm hml hm15 hll
  go_enter Try.func41, Try.ntmps41
  go_wp2_with (first
    | (at_builtin
       refine wpList_app rfl (.tmp 24) (.tmp 26) rfl w.heap.size (.slice (some ⟨w.heap.size, 0, none⟩) 0 0) [] rfl HO.out (some ⟨g, 1, none⟩) m 16 16 rfl HML.out (HT.out _ hb1) m 16 rfl HML.out (by omega) hb1.size ?_
       intro a5 c5 w5 hv5 hr5 hg5 hn5
       have HB5 := Lib.hid (hb1.grown hg5 hb1.size (HO.out.blocks · · |>.1))
       obtain ⟨g5, o5, e5, _⟩ := (Own.rd hv5).1.2 0 (by rw [HML.out]; omega)
       subst e5
       have ho : o5 = 0 := by
         obtain ⟨a2, c2, e, _, _, _, hz, _⟩ := hv5.shape
         injection e with e1
         have := hz _ (e1.symm.trans rfl)
         injection this
       subst ho
       have hge : w.heap.size ≤ g5 := (hn5 _ rfl).1
       have c15 : w5.cell? ⟨g5, 15, none⟩ = some (.int .u8 v.toNat) := by
         have := Rd.at (Own.rd hv5).1 15 (by rw [HML.out]; omega)
         rw [Nat.zero_add, HM15.out] at this
         exact this
       have z15 := Own.free hv5 15
       have HP := Lib.hid (Own.put hv5 15 (by rw [HML.out]; omega) (v &&& 254#8))
       clear hv5 hr5 hg5 hn5))
  go_ret2
  refine ⟨_, _, rfl, hge, ?_, HB5.out.setCell hge _⟩
  rw [← HBK.out, show v.toNat &&& 254 = (v &&& 254#8).toNat by rw [BitVec.toNat_and]; rfl]
  exact (Own.rd HP.out).1
end Go.Proofs.Ytbnjijlpbeplmaa.FrL
