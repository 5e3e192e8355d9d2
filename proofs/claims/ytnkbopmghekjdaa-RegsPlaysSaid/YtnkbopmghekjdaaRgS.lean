/- Contracts of registers, both: Set, Bytes, Next, what lasts. -/
import Derived.Test.YtnkbopmghekjdaaRgM
import Derived.Deep.WholeRow
import Derived.Laws.CopyOwn
import Derived.Deep.AppendLies
import Derived.Maps.AppendAt
namespace Go.Proofs.Ytnkbopmghekjdaa.RgS
open Go.ChangeShapes Go.WideShapes Go.ChangeAt Go.RowKit
open RegA Mem RegB RegC RegD RegE RegF RegG RegH RegR RgM
set_option linter.unusedVariables false
set_option maxHeartbeats 1000000

def setS (st : List Int) (n : Int) : Bool := decide (kind n = 3 ∧ reg st n ≠ 0)

theorem setW (g : Nat) (st : List Int) (n : Int) (w : World) (hf : File 57 w g st) :
    Calls Try.prog 31 #[.pointer (some ⟨g, 0, none⟩), .int .i64 n] w fun e w' => e = .returned (.bool (setS st n)) ∧ w = w' := by
  by_cases hk : kind n = 3
  · obtain ⟨h0, h1⟩ := kind_bd (n := n) (by omega)
    obtain ⟨m, rfl⟩ := Int.eq_ofNat_of_zero_le h0
    have HD : Hid (setS st (m : Int) = (st.getD m 0 != 0)) := Lib.hid (by
      unfold setS reg
      rw [Int.toNat_natCast, Bool.eq_iff_iff, decide_eq_true_iff, bne_iff_ne]
      exact ⟨fun h => h.2, fun h => ⟨hk, h⟩⟩)
    have c := hf.cell m (by omega)
    obtain ⟨y, hy⟩ : ∃ y, y = st.getD m 0 := ⟨_, rfl⟩
    rw [← hy] at c HD
    rw [HD.out]
    have HK := Lib.hid (kindW 3 m hk)
    clear hk hf HD hy
    go_enter Try.func31, Try.ntmps31
    go_wp2_with (go_at_call 22; refine (HK.out _).mono ?_; rintro e w' ⟨rfl, rfl⟩)
    go_ret
    exact ⟨rfl, rfl⟩
  · have HD : Hid (setS st n = false) := Lib.hid (by unfold setS; exact decide_eq_false (fun h => hk h.1))
    rw [HD.out]
    obtain ⟨K, hK⟩ : ∃ K, K = kind n := ⟨_, rfl⟩
    have HK := Lib.hid (kindW K n hK.symm)
    have hb : (K == 3) = false := by rw [hK]; simpa using hk
    clear hk HD hK hf
    go_enter Try.func31, Try.ntmps31
    go_wp2_with (go_at_call 22; refine (HK.out _).mono ?_; rintro e w' ⟨rfl, rfl⟩)
    go_ret
    exact ⟨rfl, rfl⟩

theorem setR (g : Nat) (st : List Int) (n : Int) (w : World) (hf : File 29 w g st) :
    Calls Try.prog 32 #[.pointer (some ⟨g, 0, none⟩), .int .i64 n] w fun e w' => e = .returned (.bool (setS st n)) ∧ w = w' := by
  by_cases hk : kind n = 3
  · obtain ⟨h0, h1⟩ := kind_bd (n := n) (by omega)
    obtain ⟨m, rfl⟩ := Int.eq_ofNat_of_zero_le h0
    have HD : Hid (setS st (m : Int) = (st.getD m 0 != 0)) := Lib.hid (by
      unfold setS reg
      rw [Int.toNat_natCast, Bool.eq_iff_iff, decide_eq_true_iff, bne_iff_ne]
      exact ⟨fun h => h.2, fun h => ⟨hk, h⟩⟩)
    have c := hf.cell m (by omega)
    obtain ⟨y, hy⟩ : ∃ y, y = st.getD m 0 := ⟨_, rfl⟩
    rw [← hy] at c HD
    rw [HD.out]
    have HK := Lib.hid (kindR 3 m hk)
    clear hk hf HD hy
    go_enter Try.func32, Try.ntmps32
    go_wp2_with (go_at_call 26; refine (HK.out _).mono ?_; rintro e w' ⟨rfl, rfl⟩)
    go_ret
    exact ⟨rfl, rfl⟩
  · have HD : Hid (setS st n = false) := Lib.hid (by unfold setS; exact decide_eq_false (fun h => hk h.1))
    rw [HD.out]
    obtain ⟨K, hK⟩ : ∃ K, K = kind n := ⟨_, rfl⟩
    have HK := Lib.hid (kindR K n hK.symm)
    have hb : (K == 3) = false := by rw [hK]; simpa using hk
    clear hk HD hK hf
    go_enter Try.func32, Try.ntmps32
    go_wp2_with (go_at_call 26; refine (HK.out _).mono ?_; rintro e w' ⟨rfl, rfl⟩)
    go_ret
    exact ⟨rfl, rfl⟩

theorem i55 : (Try.prog.info? 55).map (·.size) = some 64 := by kernel_rfl
theorem i27 : (Try.prog.info? 27).map (·.size) = some 64 := by kernel_rfl
theorem vs_size (st : List Int) : (vs st).size = st.length := by simp [vs]
theorem vs_all (l : List Int) : (vs l).all (·.oneCell') = true := by
  rw [Array.all_eq_true_iff_forall_mem]
  intro v hv
  simp [vs] at hv
  obtain ⟨y, _, rfl⟩ := hv
  rfl

theorem loadArr (T : TypeId) (m : Nat) (e : TypeId) (hd : Try.prog.underlying T = some (.array m e)) (n : Nat) (hi : (Try.prog.info? T).map (·.size) = some n) {ops : Array Oper} {rest : List Oper} {op : Oper} {a : Act} {w : World} {Q : Exit → Act → World → Prop} (hgd : op.guard = none) (x : Operand) (ho : op.op = .load T x)
    (g : Nat) (hx : a.eval x = .pointer (some ⟨g, 0, none⟩)) (cs : Array Value) (t : TypeId) (hg : w.heap[g]? = some (.cells cs t (0, 0))) (hn : cs.size = n)
    (h : wpList Try.prog ops Q rest (a.put op.dst (.agg cs)) w) : wpList Try.prog ops Q (op :: rest) a w :=
  wpList_plain hgd fun _ hK => by
    unfold Oper.wp execOp
    simp only [ho, hx, Instr.loadAt, Instr.sureAddr, Sem.run_bind, Sem.run_pure, Result.andThen_ok, run_loadVar_row w g t T cs (0, 0) _ hg hd rfl (by rw [hn]; exact hi)]
    exact hK _ _ h
theorem storeArr (T : TypeId) (n : Nat) (hi : (Try.prog.info? T).map (·.size) = some n) {ops : Array Oper} {rest : List Oper} {op : Oper} {a : Act} {w : World} {Q : Exit → Act → World → Prop} (hgd : op.guard = none) (x y : Operand) (ho : op.op = .store T x y)
    (g : Nat) (hx : a.eval x = .pointer (some ⟨g, 0, none⟩)) (old cs : Array Value) (hy : a.eval y = .agg cs) (t : TypeId) (hg : w.heap[g]? = some (.cells old t (0, 0))) (hn : cs.size = n) (ho' : old.size = n) (h1 : cs.all (·.oneCell') = true)
    (B : Nat) (w0 : World) (hb : Below B w0 w) (hBg : B ≤ g)
    (h : ∀ w', w'.heap[g]? = some (.cells cs t (0, 0)) → Below B w0 w' → wpList Try.prog ops Q rest (a.put op.dst undef) w') : wpList Try.prog ops Q (op :: rest) a w :=
  wpList_plain hgd fun _ hK => by
    unfold Oper.wp execOp
    simp only [ho, hx, hy, Instr.storeAt, Instr.sureAddr, Sem.run_bind, Sem.run_pure, Result.andThen_ok, run_storeVar_row w g t T old cs hg (by rw [hn]; exact hi) (by omega) h1]
    exact hK _ _ (h _ (setRow_heap w g _ _ t _ hg) (below_setRow hb hBg _))

def z64 : Array Value := #[.int .u8 0, .int .u8 0, .int .u8 0, .int .u8 0, .int .u8 0, .int .u8 0, .int .u8 0, .int .u8 0, .int .u8 0, .int .u8 0, .int .u8 0, .int .u8 0, .int .u8 0, .int .u8 0, .int .u8 0, .int .u8 0, .int .u8 0, .int .u8 0, .int .u8 0, .int .u8 0, .int .u8 0, .int .u8 0, .int .u8 0, .int .u8 0, .int .u8 0, .int .u8 0, .int .u8 0, .int .u8 0, .int .u8 0, .int .u8 0, .int .u8 0, .int .u8 0, .int .u8 0, .int .u8 0, .int .u8 0, .int .u8 0, .int .u8 0, .int .u8 0, .int .u8 0, .int .u8 0, .int .u8 0, .int .u8 0, .int .u8 0, .int .u8 0, .int .u8 0, .int .u8 0, .int .u8 0, .int .u8 0, .int .u8 0, .int .u8 0, .int .u8 0, .int .u8 0, .int .u8 0, .int .u8 0, .int .u8 0, .int .u8 0, .int .u8 0, .int .u8 0, .int .u8 0, .int .u8 0, .int .u8 0, .int .u8 0, .int .u8 0, .int .u8 0]
set_option maxRecDepth 100000 in
theorem bytesW (g : Nat) (st : List Int) (w : World) (hf : File 57 w g st) :
    Calls Try.prog 33 #[.pointer (some ⟨g, 0, none⟩)] w fun e w' => e = .returned (.agg (vs st)) ∧ Below w.heap.size w w' := by
  have hL := Lib.hid hf.1
  have HA := Lib.hid (hf.2.alloc (.cells z64 55))
  have HZ := Lib.hid (heap_alloc_new w (.cells z64 55))
  have HB := Lib.hid ((Below.refl w.heap.size w).alloc (Nat.le_refl _) (.cells z64 55))
  clear hf
  go_enter Try.func33, Try.ntmps33
  go_wp2_with (first
    | (refine loadArr 55 _ _ Try.underlying55 64 i55 rfl (.tmp 5) rfl g rfl (vs st) 57 HA.out (by rw [vs_size]; exact hL.out) ?_)
    | (refine storeArr 55 64 i55 rfl (.tmp 2) (.tmp 6) rfl w.heap.size rfl z64 (vs st) rfl 55 HZ.out (by rw [vs_size]; exact hL.out) rfl (vs_all _) w.heap.size w HB.out (Nat.le_refl _) ?_
       intro w9 hg9 hb9))
  refine bodyPost_ret (results_cell_row Try.results33 _ _ w.heap.size 55 _ (0, 0) _ rfl hg9 Try.underlying55 rfl (by rw [vs_size, hL.out]; exact i55)) rfl ⟨rfl, hb9⟩

set_option maxRecDepth 100000 in
theorem nextR (g : Nat) (st : List Int) (a : Int) (w : World) (h0 : 0 ≤ a) (h1 : a < 4294967296) (hf : File 29 w g st) (hz : Zer st) :
    Calls Try.prog 12 #[.pointer (some ⟨g, 0, none⟩), .int .u32 a] w fun e w' => e = .returned (.tuple #[.int .i64 (nextS st a).1, .int .u8 (nextS st a).2.1, .int .i64 (nextS st a).2.2]) ∧ w = w' := by
  have HG := Lib.hid (fun n => getR g st n w hf hz)
  clear hf
  have hn0 : 0 ≤ bits .and .u32 (a / 65536) 255 := by rw [and255 _ (by omega) (by omega)]; omega
  have hn1 : bits .and .u32 (a / 65536) 255 ≤ 255 := by rw [and255 _ (by omega) (by omega)]; omega
  have hq := hw_eq a h0 h1
  have hcase : hw a = 0 ∨ hw a = 1 ∨ hw a = 2 ∨ hw a = 3 := by omega
  clear hq
  rcases hcase with hh | hh | hh | hh
  · skip
    have b0 : (bits .and .u32 (a / 16777216) 3 == 0) = true := by rw [show bits .and .u32 (a / 16777216) 3 = 0 from hh]; rfl
    have b1 : (bits .and .u32 (a / 16777216) 3 == 1) = false := by rw [show bits .and .u32 (a / 16777216) 3 = 0 from hh]; rfl
    have b2 : (bits .and .u32 (a / 16777216) 3 == 2) = false := by rw [show bits .and .u32 (a / 16777216) 3 = 0 from hh]; rfl
    have b3 : (bits .and .u32 (a / 16777216) 3 == 3) = false := by rw [show bits .and .u32 (a / 16777216) 3 = 0 from hh]; rfl
    have HD : Hid (nextS st a = (0, 0, 1)) := Lib.hid (by unfold nextS; rw [if_pos (by omega)])
    rw [HD.out]
    clear HD hh
    go_enter Try.func12, Try.ntmps12
    go_wp2
    go_ret3
    exact ⟨rfl, rfl⟩
  · skip
    have b0 : (bits .and .u32 (a / 16777216) 3 == 0) = false := by rw [show bits .and .u32 (a / 16777216) 3 = 1 from hh]; rfl
    have b1 : (bits .and .u32 (a / 16777216) 3 == 1) = true := by rw [show bits .and .u32 (a / 16777216) 3 = 1 from hh]; rfl
    have b2 : (bits .and .u32 (a / 16777216) 3 == 2) = false := by rw [show bits .and .u32 (a / 16777216) 3 = 1 from hh]; rfl
    have b3 : (bits .and .u32 (a / 16777216) 3 == 3) = false := by rw [show bits .and .u32 (a / 16777216) 3 = 1 from hh]; rfl
    have HN : Hid (nextV st a = orr (getS st (nx a)) (bt a)) := Lib.hid (by unfold nextV; rw [hh]; rfl)
    rcases kind_cases (nx a) with hk | hk | hk | hk | hk
    case inl =>
      have HD : Hid (nextS st a = (0, 0, 2)) := Lib.hid (by unfold nextS; rw [if_neg (by omega), if_pos (.inl hk)])
      have HK := Lib.hid (kindR 0 _ hk)
      rw [HD.out]
      clear HD hk hh HN
      go_enter Try.func12, Try.ntmps12
      go_wp2_with (first | (go_at_call 26; refine (HK.out _).mono ?_; rintro e w' ⟨rfl, rfl⟩) | (go_at_call 28; refine (HG.out _).mono ?_; rintro e w' ⟨rfl, rfl⟩))
      go_ret3
      exact ⟨rfl, rfl⟩
    case inr.inr.inr.inr =>
      have HD : Hid (nextS st a = (0, 0, 2)) := Lib.hid (by unfold nextS; rw [if_neg (by omega), if_pos (.inr hk)])
      have HK := Lib.hid (kindR 4 _ hk)
      rw [HD.out]
      clear HD hk hh HN
      go_enter Try.func12, Try.ntmps12
      go_wp2_with (first | (go_at_call 26; refine (HK.out _).mono ?_; rintro e w' ⟨rfl, rfl⟩) | (go_at_call 28; refine (HG.out _).mono ?_; rintro e w' ⟨rfl, rfl⟩))
      go_ret3
      exact ⟨rfl, rfl⟩
    all_goals
      have HD : Hid (nextS st a = (nx a, nextV st a, 0)) := Lib.hid (by unfold nextS; rw [if_neg (by omega), if_neg (by omega)])
      have HK := Lib.hid (kindR _ _ hk)
      rw [HD.out, HN.out]
      clear HD hk hh HN
      go_enter Try.func12, Try.ntmps12
      go_wp2_with (first | (go_at_call 26; refine (HK.out _).mono ?_; rintro e w' ⟨rfl, rfl⟩) | (go_at_call 28; refine (HG.out _).mono ?_; rintro e w' ⟨rfl, rfl⟩))
      go_ret3
      exact ⟨rfl, rfl⟩
  · skip
    have b0 : (bits .and .u32 (a / 16777216) 3 == 0) = false := by rw [show bits .and .u32 (a / 16777216) 3 = 2 from hh]; rfl
    have b1 : (bits .and .u32 (a / 16777216) 3 == 1) = false := by rw [show bits .and .u32 (a / 16777216) 3 = 2 from hh]; rfl
    have b2 : (bits .and .u32 (a / 16777216) 3 == 2) = true := by rw [show bits .and .u32 (a / 16777216) 3 = 2 from hh]; rfl
    have b3 : (bits .and .u32 (a / 16777216) 3 == 3) = false := by rw [show bits .and .u32 (a / 16777216) 3 = 2 from hh]; rfl
    have HN : Hid (nextV st a = an (getS st (nx a)) (bt a)) := Lib.hid (by unfold nextV; rw [hh]; rfl)
    rcases kind_cases (nx a) with hk | hk | hk | hk | hk
    case inl =>
      have HD : Hid (nextS st a = (0, 0, 2)) := Lib.hid (by unfold nextS; rw [if_neg (by omega), if_pos (.inl hk)])
      have HK := Lib.hid (kindR 0 _ hk)
      rw [HD.out]
      clear HD hk hh HN
      go_enter Try.func12, Try.ntmps12
      go_wp2_with (first | (go_at_call 26; refine (HK.out _).mono ?_; rintro e w' ⟨rfl, rfl⟩) | (go_at_call 28; refine (HG.out _).mono ?_; rintro e w' ⟨rfl, rfl⟩))
      go_ret3
      exact ⟨rfl, rfl⟩
    case inr.inr.inr.inr =>
      have HD : Hid (nextS st a = (0, 0, 2)) := Lib.hid (by unfold nextS; rw [if_neg (by omega), if_pos (.inr hk)])
      have HK := Lib.hid (kindR 4 _ hk)
      rw [HD.out]
      clear HD hk hh HN
      go_enter Try.func12, Try.ntmps12
      go_wp2_with (first | (go_at_call 26; refine (HK.out _).mono ?_; rintro e w' ⟨rfl, rfl⟩) | (go_at_call 28; refine (HG.out _).mono ?_; rintro e w' ⟨rfl, rfl⟩))
      go_ret3
      exact ⟨rfl, rfl⟩
    all_goals
      have HD : Hid (nextS st a = (nx a, nextV st a, 0)) := Lib.hid (by unfold nextS; rw [if_neg (by omega), if_neg (by omega)])
      have HK := Lib.hid (kindR _ _ hk)
      rw [HD.out, HN.out]
      clear HD hk hh HN
      go_enter Try.func12, Try.ntmps12
      go_wp2_with (first | (go_at_call 26; refine (HK.out _).mono ?_; rintro e w' ⟨rfl, rfl⟩) | (go_at_call 28; refine (HG.out _).mono ?_; rintro e w' ⟨rfl, rfl⟩))
      go_ret3
      exact ⟨rfl, rfl⟩
  · skip
    have b0 : (bits .and .u32 (a / 16777216) 3 == 0) = false := by rw [show bits .and .u32 (a / 16777216) 3 = 3 from hh]; rfl
    have b1 : (bits .and .u32 (a / 16777216) 3 == 1) = false := by rw [show bits .and .u32 (a / 16777216) 3 = 3 from hh]; rfl
    have b2 : (bits .and .u32 (a / 16777216) 3 == 2) = false := by rw [show bits .and .u32 (a / 16777216) 3 = 3 from hh]; rfl
    have b3 : (bits .and .u32 (a / 16777216) 3 == 3) = true := by rw [show bits .and .u32 (a / 16777216) 3 = 3 from hh]; rfl
    have HN : Hid (nextV st a = bt a) := Lib.hid (by unfold nextV; rw [hh]; rfl)
    rcases kind_cases (nx a) with hk | hk | hk | hk | hk
    case inl =>
      have HD : Hid (nextS st a = (0, 0, 2)) := Lib.hid (by unfold nextS; rw [if_neg (by omega), if_pos (.inl hk)])
      have HK := Lib.hid (kindR 0 _ hk)
      rw [HD.out]
      clear HD hk hh HN
      go_enter Try.func12, Try.ntmps12
      go_wp2_with (first | (go_at_call 26; refine (HK.out _).mono ?_; rintro e w' ⟨rfl, rfl⟩) | (go_at_call 28; refine (HG.out _).mono ?_; rintro e w' ⟨rfl, rfl⟩))
      go_ret3
      exact ⟨rfl, rfl⟩
    case inr.inr.inr.inr =>
      have HD : Hid (nextS st a = (0, 0, 2)) := Lib.hid (by unfold nextS; rw [if_neg (by omega), if_pos (.inr hk)])
      have HK := Lib.hid (kindR 4 _ hk)
      rw [HD.out]
      clear HD hk hh HN
      go_enter Try.func12, Try.ntmps12
      go_wp2_with (first | (go_at_call 26; refine (HK.out _).mono ?_; rintro e w' ⟨rfl, rfl⟩) | (go_at_call 28; refine (HG.out _).mono ?_; rintro e w' ⟨rfl, rfl⟩))
      go_ret3
      exact ⟨rfl, rfl⟩
    all_goals
      have HD : Hid (nextS st a = (nx a, nextV st a, 0)) := Lib.hid (by unfold nextS; rw [if_neg (by omega), if_neg (by omega)])
      have HK := Lib.hid (kindR _ _ hk)
      rw [HD.out, HN.out]
      clear HD hk hh HN
      go_enter Try.func12, Try.ntmps12
      go_wp2_with (first | (go_at_call 26; refine (HK.out _).mono ?_; rintro e w' ⟨rfl, rfl⟩) | (go_at_call 28; refine (HG.out _).mono ?_; rintro e w' ⟨rfl, rfl⟩))
      go_ret3
      exact ⟨rfl, rfl⟩

def Ord (w : World) (q : Nat) : Prop := q < w.heap.size ∧ ∀ i, i < 7 → w.cell? ⟨q, i, none⟩ = some (.int .i64 (lk i : Int))
theorem Ord.below {w w' : World} {q : Nat} (h : Ord w q) (hb : Below w.heap.size w w') : Ord w' q := ⟨Nat.lt_of_lt_of_le h.1 hb.size, fun i hi => (hb.cell (p := ⟨q, i, none⟩) h.1).trans (h.2 i hi)⟩
theorem orderR (w : World) : Calls Try.prog 30 #[] w fun e w' => e = .returned (.slice (some ⟨w.heap.size, 0, none⟩) 7 7) ∧ Ord w' w.heap.size ∧ Below w.heap.size w w' := by
  have HO : Hid (∀ i, i < 7 → (w.alloc (.cells #[.int .i64 6, .int .i64 8, .int .i64 9, .int .i64 10, .int .i64 11, .int .i64 12, .int .i64 13] 3)).cell? ⟨w.heap.size, i, none⟩ = some (.int .i64 (lk i : Int))) := Lib.hid fun i hi => by
    match i, hi with
    | 0, _ => simp; rfl
    | 1, _ => simp; rfl
    | 2, _ => simp; rfl
    | 3, _ => simp; rfl
    | 4, _ => simp; rfl
    | 5, _ => simp; rfl
    | 6, _ => simp; rfl
  go_enter Try.func30, Try.ntmps30
  go_wp2
  go_ret
  exact ⟨rfl, ⟨by simp, HO.out⟩, (Below.refl _ w).alloc (Nat.le_refl _) _⟩

theorem step_app {ops : Array Oper} {o : Oper} {a : Act} {w : World} {K : Act → World → Prop} {Q : Exit → Act → World → Prop} {E : Prop} (hgd : o.guard = none) (s x : Operand)
    (ho : o.op = .call { callee := .builtin .append, args := #[s, x], argTypes := #[43, 43] }) (base : Nat) (v : Value) (n : Nat) (xs : List Value) (hs : a.eval s = v) (h : w.ownsRow base 5 1 v n xs) (ad : Addr) (y : Int) (c : Nat) (hx : a.eval x = .slice (some ad) 1 c)
    (hy : w.cell? (ad.add 0) = some (.int .u8 y)) (hroom : n ≤ 1000) (hbase : base ≤ w.heap.size)
    (hK : ∀ v' w', w'.ownsRow base 5 1 v' (n + 1) (xs ++ [.int .u8 y]) → w.grownBy w' v.ownBlock → K (a.put o.dst v') w') : if Region.wanted o (yielded ops a.tmps) = true then Oper.wp Try.prog o a w K Q else E := by
  obtain ⟨i0, hi, hz0, hz1, hz2⟩ := info_parts info5
  have hw : Region.wanted o (yielded ops a.tmps) = true := by simp [Region.wanted, hgd]
  rw [if_pos hw]
  obtain ⟨v', w', h1, h2, h3, _, h5⟩ := run_append_own_at (P := Try.prog) w base 43 o.type 5 i0 (.int .u8 0) 1 1 Try.underlying43 hi hz0 hz1 hz2 rfl (by omega) v n xs h ad 1 c [.int .u8 y] rfl (by
    intro j u hj
    match j, hj with
    | 0, hj => simp at hj; subst hj; exact hy) (by intro u hu; simp at hu; subst hu; rfl) (by simp only [maxLen]; omega) (by omega) hbase
  unfold Oper.wp execOp
  simp only [ho, resolve, invoke, builtin, Sem.run_bind, Sem.run_pure, Result.andThen_ok, List.map_toArray, List.map_cons, List.map_nil, hs, hx, h1]
  exact hK v' w' h2 h3

set_option maxRecDepth 100000 in
theorem lastingR (g : Nat) (st : List Int) (w : World) (hf : File 29 w g st) :
    Calls Try.prog 20 #[.pointer (some ⟨g, 0, none⟩)] w fun e w' => ∃ a c, e = .returned (.slice a 7 c) ∧ w'.ownsRow w.heap.size 5 1 (.slice a 7 c) 7 (bys (lastK st 7)) ∧ Below w.heap.size w w' := by
  obtain ⟨i0, hi, hz0, hz1, hz2⟩ := info_parts info5
  have HF := Lib.hid hf
  have hgl := hf.2.lt
  clear hf
  go_enter Try.func20, Try.ntmps20
  go_wp2_with fail
  refine (orderR _).mono ?_
  rintro e w1 ⟨rfl, ho1, hb1⟩
  replace ho1 := Lib.hid ho1
  have hq := hb1.size
  go_wp2
  go_loopw [5, 3] (fun i v wr => ∃ (k : Nat) (v' : Value), v' = v ∧ k ≤ 7 ∧ i = .int .i64 k ∧ wr.ownsRow w1.heap.size 5 1 v' k (bys (lastK st k)) ∧ Below w1.heap.size w1 wr) (fun i _ _ => 7 - (intOf i).toNat)
  case atStart => exact ⟨0, _, rfl, by omega, rfl, World.ownsRow_nil _ _ _ _, Below.refl _ _⟩
  case round =>
    obtain ⟨k, v, rfl, hk, rfl, hown, hbel⟩ := hrel
    by_cases hlt : k < 7
    · have hlt' : (k : Int) < 7 := by omega
      have hlk := lk_bd k hlt
      have hlk' : (lk k : Int) < 64 := by omega
      have DD : Hid (Below w1.heap.size w1 wr.drew) := Lib.hid hbel.drew
      have hcD := (HF.out.below (hb1.trans (DD.out.mono hb1.size)) hgl).cell (lk k) (by omega)
      have hoD := (ho1.out.below DD.out).2 k hlt
      have hoC := (ho1.out.below hbel).2 k hlt
      obtain ⟨y, hy⟩ : ∃ y, y = st.getD (lk k) 0 := ⟨_, rfl⟩
      rw [← hy] at hcD
      have HS : Hid (lastK st (k + 1) = lastK st k ++ [y]) := Lib.hid (by rw [hy]; exact lastK_succ st k)
      obtain ⟨L, hL⟩ : ∃ L, L = lk k := ⟨_, rfl⟩
      rw [← hL] at hcD hoD hoC hlk hlk'
      have HE : Hid (Below w1.heap.size w1 (wr.alloc (.cells #[.int .u8 y] 5)).drew) := Lib.hid (hbel.alloc hbel.size _).drew
      have HO : Hid ((wr.alloc (.cells #[.int .u8 y] 5)).drew.ownsRow w1.heap.size 5 1 v k (bys (lastK st k))) := Lib.hid (hown.alloc _)
      have HY : Hid ((wr.alloc (.cells #[.int .u8 y] 5)).drew.cell? ⟨wr.heap.size, 0, none⟩ = some (.int .u8 y)) := Lib.hid (Mem.Blk.new wr 5 #[.int .u8 y] |>.cell 0)
      have HSA : Hid (∀ w', Below w1.heap.size w1 w' → w'.cell? ⟨g, L, none⟩ = some (.int .u8 y) ∧ w'.cell? ⟨w.heap.size, k, none⟩ = some (.int .i64 (L : Int))) := Lib.hid fun w' hb' => by
        refine ⟨?_, ?_⟩
        · have := (HF.out.below (hb1.trans (hb'.mono hb1.size)) hgl).cell (lk k) (by omega)
          rw [hy, hL]; exact this
        · have := (ho1.out.below hb').2 k hlt
          rw [hL]; exact this
      have hsz := DD.out.size
      clear hy hL hown hbel
      go_wp2_with fail
      refine wp_region_held_drew (S := fun w' => w'.cell? ⟨g, L, none⟩ = some (.int .u8 y) ∧ w'.cell? ⟨w.heap.size, k, none⟩ = some (.int .i64 (L : Int))) (by kernel_rfl) ⟨hcD, hoD⟩ (fun hS => ?_)
      try simp only [List.size_toArray, List.length_cons, List.length_nil, Nat.reduceAdd]
      refine wpAnyH_take (i := 0) (v := ?_) (by simp only [List.getElem?_toArray, List.getElem?_cons_succ, List.getElem?_cons_zero]; rfl) (by kernel_rfl) (by kernel_rfl) (by kernel_rfl) (by exact fun _ _ _ h => h) (Or.inl ⟨by rfl, ?_⟩) hS ?_
      rotate_left
      · intro w hSw
        go_simp
        try with_reducible rfl
      try simp only [Act.put, List.setIfInBounds_toArray, List.set_cons_zero, List.set_cons_succ]
      refine wpAnyH_take (i := 1) (v := ?_) (by simp only [List.getElem?_toArray, List.getElem?_cons_succ, List.getElem?_cons_zero]; rfl) (by kernel_rfl) (by kernel_rfl) (by kernel_rfl) (by exact fun _ _ _ h => h) (Or.inl ⟨by rfl, ?_⟩) hS ?_
      rotate_left
      · intro w hSw
        go_simp
        try with_reducible rfl
      try simp only [Act.put, List.setIfInBounds_toArray, List.set_cons_zero, List.set_cons_succ]
      refine wpAnyH_take (i := 2) (v := ?_) (by simp only [List.getElem?_toArray, List.getElem?_cons_succ, List.getElem?_cons_zero]; rfl) (by kernel_rfl) (by kernel_rfl) (by kernel_rfl) (by exact fun _ _ _ h => h) (Or.inl ⟨by rfl, ?_⟩) hS ?_
      rotate_left
      · intro w hSw
        go_simp
        try with_reducible rfl
      try simp only [Act.put, List.setIfInBounds_toArray, List.set_cons_zero, List.set_cons_succ]
      refine wpAnyH_take (i := 3) (v := ?_) (by simp only [List.getElem?_toArray, List.getElem?_cons_succ, List.getElem?_cons_zero]; rfl) (by kernel_rfl) (by kernel_rfl) (by kernel_rfl) (by exact fun _ _ _ h => h) (Or.inl ⟨by rfl, ?_⟩) hS ?_
      rotate_left
      · intro w hSw
        go_simp
        try with_reducible rfl
      try simp only [Act.put, List.setIfInBounds_toArray, List.set_cons_zero, List.set_cons_succ]
      refine wpAnyH_take (i := 4) (v := ?_) (by simp only [List.getElem?_toArray, List.getElem?_cons_succ, List.getElem?_cons_zero]; rfl) (by kernel_rfl) (by kernel_rfl) (by kernel_rfl) (by exact fun _ _ _ h => h) (Or.inl ⟨by rfl, ?_⟩) hS ?_
      rotate_left
      · intro w hSw
        go_simp
        try with_reducible rfl
      try simp only [Act.put, List.setIfInBounds_toArray, List.set_cons_zero, List.set_cons_succ]
      refine wpAnyH_take (i := 5) (v := ?_) (by simp only [List.getElem?_toArray, List.getElem?_cons_succ, List.getElem?_cons_zero]; rfl) (by kernel_rfl) (by kernel_rfl) (by kernel_rfl) (by exact fun _ _ _ h => h) (Or.inl ⟨by rfl, ?_⟩) hS ?_
      rotate_left
      · intro w hSw
        go_simp
        try with_reducible rfl
      try simp only [Act.put, List.setIfInBounds_toArray, List.set_cons_zero, List.set_cons_succ]
      refine wpAnyH_take (i := 6) (v := ?_) (by simp only [List.getElem?_toArray, List.getElem?_cons_succ, List.getElem?_cons_zero]; rfl) (by kernel_rfl) (by kernel_rfl) (by kernel_rfl) (by exact fun _ _ _ h => h) (Or.inl ⟨by rfl, ?_⟩) hS ?_
      rotate_left
      · intro w hSw
        go_simp
        try with_reducible rfl
      try simp only [Act.put, List.setIfInBounds_toArray, List.set_cons_zero, List.set_cons_succ]
      refine wpAnyH_take (i := 7) (v := ?_) (by simp only [List.getElem?_toArray, List.getElem?_cons_succ, List.getElem?_cons_zero]; rfl) (by kernel_rfl) (by kernel_rfl) (by kernel_rfl) (by exact fun _ _ _ h => h) (Or.inl ⟨by rfl, ?_⟩) hS ?_
      rotate_left
      · intro w hSw
        go_simp
        try with_reducible rfl
      try simp only [Act.put, List.setIfInBounds_toArray, List.set_cons_zero, List.set_cons_succ]
      refine wpAnyH_take (i := 8) (v := ?_) (by simp only [List.getElem?_toArray, List.getElem?_cons_succ, List.getElem?_cons_zero]; rfl) (by kernel_rfl) (by kernel_rfl) (by kernel_rfl) (by exact fun _ _ _ h => h) (Or.inl ⟨by rfl, ?_⟩) hS ?_
      rotate_left
      · intro w hSw
        go_simp
        try with_reducible rfl
      try simp only [Act.put, List.setIfInBounds_toArray, List.set_cons_zero, List.set_cons_succ]
      refine wpAnyH_take (i := 9) (v := ?_) (by simp only [List.getElem?_toArray, List.getElem?_cons_succ, List.getElem?_cons_zero]; rfl) (by kernel_rfl) (by kernel_rfl) (by kernel_rfl) (by exact fun _ _ _ h => h) (Or.inl ⟨by rfl, ?_⟩) hS ?_
      rotate_left
      · intro w hSw
        go_simp
        try with_reducible rfl
      try simp only [Act.put, List.setIfInBounds_toArray, List.set_cons_zero, List.set_cons_succ]
      refine wpAnyH_ready (rs := [10]) (by kernel_rfl) (by simp) ?_
      refine AllReadyH.cons (by simp only [List.getElem?_toArray, List.getElem?_cons_succ, List.getElem?_cons_zero]; rfl) (fun K hK => ?_) AllReadyH.nil
      go_simp
      refine hK.out _ _ (HSA.out _ HE.out) (fun hS => ?_)
      clear hK K
      refine wpAnyH_ready (rs := [11]) (by kernel_rfl) (by simp) ?_
      refine AllReadyH.cons (by simp only [List.getElem?_toArray, List.getElem?_cons_succ, List.getElem?_cons_zero]; rfl) (fun K hK => ?_) AllReadyH.nil
      refine step_app rfl (.tmp 13) (.tmp 23) rfl w1.heap.size v k (bys (lastK st k)) rfl HO.out ⟨wr.heap.size, 0, none⟩ y 1 rfl HY.out (by omega) HE.out.size ?_
      intro v' w2 hown' hgrow
      have HO2 : Hid (w2.ownsRow w1.heap.size 5 1 v' (k + 1) (bys (lastK st (k + 1)))) := Lib.hid (by rw [HS.out]; simpa [bys] using hown')
      have HB2 := Lib.hid (HE.out.grown hgrow HE.out.size (fun j hj => (World.ownsRow.lt (HO.out) j hj).1))
      clear hown' hgrow
      refine hK.out _ _ (HSA.out _ HB2.out) (fun hS => ?_)
      clear hK K
      try simp only [Act.put, List.setIfInBounds_toArray, List.set_cons_zero, List.set_cons_succ]
      refine wpAnyH_take (i := 12) (v := ?_) (by simp only [List.getElem?_toArray, List.getElem?_cons_succ, List.getElem?_cons_zero]; rfl) (by kernel_rfl) (by kernel_rfl) (by kernel_rfl) (by exact fun _ _ _ h => h) (Or.inl ⟨by rfl, ?_⟩) hS ?_
      rotate_left
      · intro w hSw
        go_simp
        try with_reducible rfl
      try simp only [Act.put, List.setIfInBounds_toArray, List.set_cons_zero, List.set_cons_succ]
      refine wpAnyH_done (by kernel_rfl) ?_ _
      go_wp2
      go_roundw
      case rel => exact ⟨k + 1, v', rfl, by omega, by go_num, HO2.out, HB2.out⟩
      case measure => simp [intOf]; omega
    · obtain rfl : k = 7 := by omega
      have HO := Lib.hid hown
      obtain ⟨g', cap, hv, _⟩ := World.ownsRow.form hown (by omega)
      subst hv
      clear hown
      have HE := Lib.hid (hb1.trans (hbel.mono hb1.size))
      go_wp2
      go_ret
      refine ⟨_, _, rfl, ?_, HE.out⟩
      obtain ⟨e1, e2⟩ := HO.out
      refine ⟨e1, ?_⟩
      rcases e2 with e2 | ⟨g2, cp, cur, h1, h2, h3⟩
      · exact .inl e2
      · exact .inr ⟨g2, cp, cur, h1, by omega, h3⟩
end Go.Proofs.Ytnkbopmghekjdaa.RgS
