/- Contracts of sums and of rows of bytes. -/
import Derived.Test.YtlfohiejlajmaaaDoorRows
import Derived.Test.YtlfohiejlajmaaaDoorMem
import Derived.WalkKit
import Derived.ProofKit
import Derived.OpenShut
import Derived.ShutString
import Derived.ChangeOld
import Derived.Below
import Derived.Outline
import Derived.Laws.BitsAllLaws
import Derived.Lib.Hide
import Derived.Deep.OwnRows
import Derived.Laws.OwnMore
import Derived.Deep.Draws
import Derived.Laws.Rows
import Derived.Maps.AppendAt
import Derived.Deep.AppendLies
import Derived.RegionTactic
import Derived.OwnWalk
import Derived.Deep.RegionHeld3
import Derived.Deep.QuietTactic
import Derived.BigQuiet
import Derived.Laws.BytesArg
namespace Go.Proofs.YtlfohiejlajmaaaDoor.ShT
open Go.ChangeShapes Go.WideShapes Go.ChangeAt Go.RowKit
open Go.ChangeMaps (open_string shut_string)
abbrev B8 := BitVec 8
abbrev B16 := BitVec 16
abbrev Y8 := BitVec 8
set_option linter.unusedVariables false
set_option maxHeartbeats 1000000

theorem ret_int {k : IntKind} {a b : Int} (h : a = b) : Ending.returned (.int k a) = .returned (.int k b) := by rw [h]

theorem x16 (a b : B16) : bits .xor .u16 (a.toNat : Int) (b.toNat : Int) = ((a ^^^ b).toNat : Int) := by
  rw [u16_xor_nat _ _ a.isLt b.isLt, BitVec.toNat_xor]
theorem x8 (a b : B8) : bits .xor .u8 (a.toNat : Int) (b.toNat : Int) = ((a ^^^ b).toNat : Int) := by
  rw [u8_xor_nat _ _ a.isLt b.isLt, BitVec.toNat_xor]
theorem sr16 (a : B16) (n : Nat) (m : Int) (h : m = 2 ^ n) : (a.toNat : Int) / m = ((a >>> n).toNat : Int) := by
  subst h; simp [BitVec.toNat_ushiftRight, Nat.shiftRight_eq_div_pow]
theorem sl16 (a : B16) (n : Nat) (m : Int) (h : m = 2 ^ n) : IntKind.u16.wrap ((a.toNat : Int) * m) = ((a <<< n).toNat : Int) := by
  subst h
  rw [IntKind.wrap_u16]
  simp [BitVec.toNat_shiftLeft, Nat.shiftLeft_eq]
theorem sr8 (a : B8) (n : Nat) (m : Int) (h : m = 2 ^ n) : (a.toNat : Int) / m = ((a >>> n).toNat : Int) := by
  subst h; simp [BitVec.toNat_ushiftRight, Nat.shiftRight_eq_div_pow]
theorem sl8 (a : B8) (n : Nat) (m : Int) (h : m = 2 ^ n) : IntKind.u8.wrap ((a.toNat : Int) * m) = ((a <<< n).toNat : Int) := by
  subst h
  rw [IntKind.wrap_u8']
  simp [BitVec.toNat_shiftLeft, Nat.shiftLeft_eq]
theorem w16 (x : B8) : (x.toNat : Int) = ((x.setWidth 16 : B16).toNat : Int) := by
  have := x.isLt
  simp [BitVec.toNat_setWidth]; omega

/-- The first cells of a slice's row read as these bytes. -/
def Rd (w : World) (a : Option Addr) (l : List B8) : Prop :=
  l.length ≤ maxLen ∧ ∀ i, i < l.length → ∃ b off, a = some ⟨b, off, none⟩ ∧ w.cell? ⟨b, off + i, none⟩ = some (.int .u8 (l.getD i 0).toNat)

theorem Rd.cells {w : World} {a : Option Addr} {l : List B8} (h : Rd w a l) :
    l = [] ∨ ∃ b off, a = some ⟨b, off, none⟩ ∧ ∀ i, i < l.length → w.cell? ⟨b, off + i, none⟩ = some (.int .u8 (l.getD i 0).toNat) := by
  by_cases h0 : l.length = 0
  · exact .inl (List.length_eq_zero_iff.1 h0)
  · right
    obtain ⟨b, off, ha, hc⟩ := h.2 0 (by omega)
    refine ⟨b, off, ha, fun i hi => ?_⟩
    obtain ⟨b', off', ha', hc'⟩ := h.2 i hi
    rw [ha] at ha'
    injection ha' with ha'
    injection ha' with e1 e2
    subst e1 e2
    exact hc'

theorem info5 : (Tryd.prog.info? 5).map (fun i => (i.zero, i.size, i.bytes)) = some (some (.int .u8 0), 1, 1) := by kernel_rfl

/-- A block that is known whole. -/
def Whole (w : World) (g : Nat) (cs : Array Value) : Prop := w.heap[g]? = some (.cells cs 5 (0, 0))
theorem Whole.lt {w g cs} (h : Whole w g cs) : g < w.heap.size := by
  rcases Nat.lt_or_ge g w.heap.size with hlt | hge
  · exact hlt
  · unfold Whole at h; rw [Array.getElem?_eq_none hge] at h; cases h
theorem Whole.cell {w g cs} (h : Whole w g cs) (i : Nat) : w.cell? ⟨g, i, none⟩ = cs[i]? := cell_of_row w g i cs 5 (0, 0) h
theorem Whole.free {w g cs} (h : Whole w g cs) (i : Nat) : w.frozen? ⟨g, i, none⟩ = false := by
  unfold Whole at h; simp [World.frozen?, h]
theorem Whole.put {w g cs} (h : Whole w g cs) (i : Nat) (u : Value) : Whole (w.setCell ⟨g, i, none⟩ u) g (cs.setIfInBounds i u) := by
  unfold Whole at h ⊢
  simp [World.setCell, Array.getElem?_modify, h]
theorem Whole.made (w : World) (cs : Array Value) : Whole (w.alloc (.cells cs 5)) w.heap.size cs := heap_alloc_new w _
theorem Whole.below {w w' g cs B} (h : Whole w g cs) (hb : Below B w w') (hg : g < B) : Whole w' g cs := (hb.block g hg).trans h

theorem Rd.of_whole {w : World} {g : Nat} {cs : Array Value} {l : List B8} (h : Whole w g cs) (hl : l.length ≤ maxLen)
    (hc : ∀ i, i < l.length → cs[i]? = some (.int .u8 (l.getD i 0).toNat)) : Rd w (some ⟨g, 0, none⟩) l :=
  ⟨hl, fun i hi => ⟨g, 0, rfl, by rw [Nat.zero_add, h.cell i, hc i hi]⟩⟩

def vals (l : List B8) : List Value := l.map fun x => Value.int .u8 x.toNat
theorem vals_append (a b : List B8) : vals (a ++ b) = vals a ++ vals b := by simp [vals]
theorem vals_length (l : List B8) : (vals l).length = l.length := by simp [vals]
theorem vals_one (l : List B8) : ∀ u ∈ vals l, u.oneCell' = true := by
  intro u hu
  obtain ⟨x, _, rfl⟩ := List.mem_map.1 hu
  rfl

/-- The slice value owns a row from block `base` on that reads as these bytes. -/
def Own (w : World) (base : Nat) (v : Value) (xs : List B8) : Prop := w.ownsRow base 5 1 v xs.length (vals xs)

theorem Own.nil (w : World) (base : Nat) : Own w base (.slice none 0 0) [] := by
  unfold Own; exact World.ownsRow_nil w base 5 1

theorem Own.shape {w : World} {base : Nat} {v : Value} {xs : List B8} (h : Own w base v xs) :
    ∃ a c, v = .slice a xs.length c ∧ Rd w a xs ∧ xs.length ≤ c ∧ (∀ x, a = some x → base ≤ x.block ∧ x.block < w.heap.size) ∧ (∀ x, a = some x → x = ⟨x.block, 0, none⟩) ∧ c ≤ maxLen := by
  have h0 := h
  obtain ⟨hl, h2⟩ := h
  rcases h2 with ⟨rfl, hn⟩ | ⟨g, cap, cur, rfl, hg, hh, hnc, hcm, hcs, ht⟩
  · have : xs = [] := List.eq_nil_of_length_eq_zero hn
    subst this
    exact ⟨none, 0, rfl, ⟨by simp [maxLen], fun i hi => absurd hi (by simp)⟩, Nat.zero_le _, (fun x hx => by cases hx), (fun x hx => by cases hx), by simp [maxLen]⟩
  · refine ⟨some ⟨g, 0, none⟩, cap, rfl, ⟨by omega, fun i hi => ⟨g, 0, rfl, ?_⟩⟩, hnc, fun x hx => ?_, fun x hx => ?_, hcm⟩
    · have hc := World.ownsRow.cells h0 (g := g) rfl i (.int .u8 (xs.getD i 0).toNat) (by simp [vals, hi])
      simpa [Addr.add_lit] using hc
    · injection hx with hx; subst hx; exact ⟨hg, lt_of_heap hh⟩
    · injection hx with hx; subst hx; rfl
where
  lt_of_heap {w : World} {g : Nat} {o : Obj} (h : w.heap[g]? = some o) : g < w.heap.size := by
    rcases Nat.lt_or_ge g w.heap.size with h' | h'
    · exact h'
    · rw [Array.getElem?_eq_none h'] at h; cases h

theorem i5 : ∃ i, Tryd.prog.info? 5 = some i ∧ i.zero = some (.int .u8 0) ∧ i.size = 1 ∧ i.bytes = 1 := by
  obtain ⟨i, h1, h2, h3, h4⟩ := info_parts info5
  exact ⟨i, h1, h2, h3, h4⟩

theorem run_nil (w : World) (ty : TypeId) (base : Nat) (v : Value) (xs : List B8) (h : Own w base v xs) (c : Nat) :
    (Builtin.append_ #[22, 22] ty #[v, .slice none 0 c]).run Tryd.prog w = .ok v w := by
  obtain ⟨i, hi, _, _, _⟩ := i5
  rcases h.2 with ⟨rfl, _⟩ | ⟨g, cap, cur, rfl, _, _, hnc, _⟩
  · simp [Builtin.append_, run_underlying Tryd.underlying22, sizeOf, typeInfo, hi, Builtin.lenOf, Builtin.firstCells]
  · simp [Builtin.append_, run_underlying Tryd.underlying22, sizeOf, typeInfo, hi, Builtin.lenOf, Builtin.firstCells, hnc, storeCells]

/-- Bytes behind bytes. -/
theorem run_app (w : World) (ty : TypeId) (base : Nat) (v : Value) (xs : List B8) (h : Own w base v xs) (A : Option Addr) (l : List B8) (m c : Nat) (hm : l.length = m) (hr : Rd w A l)
    (hroom : xs.length + m ≤ 1000000) (hbase : base ≤ w.heap.size) :
    ∃ v' w', (Builtin.append_ #[22, 22] ty #[v, .slice A m c]).run Tryd.prog w = .ok v' w' ∧ Own w' base v' (xs ++ l) ∧ w.grownBy w' v.ownBlock ∧ (v'.ownBlock = v.ownBlock ∨ v'.ownBlock = some w.heap.size) := by
  obtain ⟨i, hi, hz, hs, hb⟩ := i5
  subst hm
  have key : ∀ ad : Addr, A = some ad → (∀ j u, (vals l)[j]? = some u → w.cell? (ad.add j) = some u) →
      ∃ v' w', (Builtin.append_ #[22, 22] ty #[v, .slice A l.length c]).run Tryd.prog w = .ok v' w' ∧ Own w' base v' (xs ++ l) ∧ w.grownBy w' v.ownBlock ∧ (v'.ownBlock = v.ownBlock ∨ v'.ownBlock = some w.heap.size) := by
    intro ad hA hc
    subst hA
    obtain ⟨v', w', h1, h2, h3, _, h5⟩ := run_append_own_at (P := Tryd.prog) w base 22 ty 5 i (.int .u8 0) 1 1 Tryd.underlying22 hi hz hs hb rfl (by omega) v xs.length (vals xs) h ad l.length c (vals l) (by rw [vals_length]; omega) hc (vals_one l) (by simp only [maxLen]; omega) (by omega) hbase
    exact ⟨v', w', h1, by unfold Own; rw [vals_append, List.length_append]; exact h2, h3, h5⟩
  rcases hr.cells with rfl | ⟨b, off, rfl, hc⟩
  · cases A with
    | none => exact ⟨v, w, run_nil w ty base v xs h c, by simpa using h, World.grownBy.refl w _, .inl rfl⟩
    | some ad => exact key ad rfl (fun j u hu => by simp [vals] at hu)
  · refine key _ rfl fun j u hu => ?_
    have hj : j < l.length := by have := (List.getElem?_eq_some_iff.1 hu).1; simpa [vals_length] using this
    rw [Addr.add_lit, hc j hj]
    rw [← hu]; simp [vals, hj]

/-- The same, at a length and a row that are named. -/
theorem run_app' (w : World) (ty : TypeId) (base : Nat) (v : Value) (xs : List B8) (h : Own w base v xs) (A : Option Addr) (l : List B8) (m c : Nat) (hm : l.length = m) (hr : Rd w A l)
    (ys : List B8) (N : Nat) (hy : xs ++ l = ys) (hN : ys.length = N) (hroom : N ≤ 1000000) (hbase : base ≤ w.heap.size) :
    ∃ a' c' w', (Builtin.append_ #[22, 22] ty #[v, .slice A m c]).run Tryd.prog w = .ok (.slice a' N c') w' ∧ Own w' base (.slice a' N c') ys ∧ Rd w' a' ys ∧ w.grownBy w' v.ownBlock ∧ (∀ x, a' = some x → base ≤ x.block ∧ x.block < w'.heap.size) := by
  subst hy hN
  obtain ⟨v', w', h1, h2, h3, h4⟩ := run_app w ty base v xs h A l m c hm hr (by rw [List.length_append] at hroom; omega) hbase
  obtain ⟨a', c', rfl, h5, h6, h7, h8, h9⟩ := h2.shape
  exact ⟨a', c', w', h1, h2, h5, h3, h7⟩

theorem wp_app {o : Oper} {a : Act} {w : World} {K : Act → World → Prop} {Q : Exit → Act → World → Prop} (s x : Operand)
    (ho : o.op = .call { callee := .builtin .append, args := #[s, x], argTypes := #[22, 22] })
    (base : Nat) (v : Value) (xs : List B8) (hs : a.eval s = v) (h : Own w base v xs) (A : Option Addr) (l : List B8) (m c : Nat) (hx : a.eval x = .slice A m c) (hm : l.length = m) (hr : Rd w A l)
    (ys : List B8) (N : Nat) (hy : xs ++ l = ys) (hN : ys.length = N) (hroom : N ≤ 1000000) (hbase : base ≤ w.heap.size)
    (hK : ∀ a' c' w', Own w' base (.slice a' N c') ys → Rd w' a' ys → w.grownBy w' v.ownBlock → (∀ x, a' = some x → base ≤ x.block ∧ x.block < w'.heap.size) → K (a.put o.dst (.slice a' N c')) w') : o.wp Tryd.prog a w K Q := by
  obtain ⟨a', c', w', hrun, h2, h3, h4, h5⟩ := run_app' w o.type base v xs h A l m c hm hr ys N hy hN hroom hbase
  unfold Oper.wp execOp
  simp only [ho, resolve, invoke, builtin, Sem.run_bind, Sem.run_pure, Result.andThen_ok, List.map_toArray, List.map_cons, List.map_nil, hs, hx, hrun]
  exact hK a' c' w' h2 h3 h4 h5

theorem wpList_app {ops : Array Oper} {rest : List Oper} {o : Oper} {a : Act} {w : World} {Q : Exit → Act → World → Prop} (hgd : Region.wanted o (yielded ops a.tmps) = true) (s x : Operand)
    (ho : o.op = .call { callee := .builtin .append, args := #[s, x], argTypes := #[22, 22] })
    (base : Nat) (v : Value) (xs : List B8) (hs : a.eval s = v) (h : Own w base v xs) (A : Option Addr) (l : List B8) (m c : Nat) (hx : a.eval x = .slice A m c) (hm : l.length = m) (hr : Rd w A l)
    (ys : List B8) (N : Nat) (hy : xs ++ l = ys) (hN : ys.length = N) (hroom : N ≤ 1000000) (hbase : base ≤ w.heap.size)
    (hK : ∀ a' c' w', Own w' base (.slice a' N c') ys → Rd w' a' ys → w.grownBy w' v.ownBlock → (∀ x, a' = some x → base ≤ x.block ∧ x.block < w'.heap.size) → wpList Tryd.prog ops Q rest (a.put o.dst (.slice a' N c')) w') : wpList Tryd.prog ops Q (o :: rest) a w :=
  BigFrame.wpList_want hgd fun _ hK' => wp_app s x ho base v xs hs h A l m c hx hm hr ys N hy hN hroom hbase fun a' c' w' h2 h3 h4 h5 => hK' _ _ (hK a' c' w' h2 h3 h4 h5)

theorem Own.made (w : World) (base : Nat) (hb : base ≤ w.heap.size) (cs : Array Value) (n : Nat) (l : List B8) (hl : l.length = n) (hn : n ≤ maxLen) (hc : cs.toList = vals l) :
    Own (w.alloc (.cells cs 5)) base (.slice (some ⟨w.heap.size, 0, none⟩) n n) l := by
  subst hl
  have hs : cs.size = l.length := by rw [← Array.length_toList, hc, vals_length]
  refine ⟨by rw [vals_length]; omega, .inr ⟨w.heap.size, l.length, cs, rfl, hb, heap_alloc_new w _, Nat.le_refl _, hn, by omega, ?_⟩⟩
  rw [hc, List.take_of_length_le (by rw [vals_length]; omega)]
theorem Own.rd {w : World} {base : Nat} {a : Option Addr} {n c : Nat} {xs : List B8} (h : Own w base (.slice a n c) xs) : Rd w a xs ∧ xs.length = n ∧ n ≤ c ∧ c ≤ maxLen := by
  obtain ⟨a', c', e, h1, h2, _, _, h3⟩ := h.shape
  injection e with e1 e2 e3
  subst e1 e2 e3
  exact ⟨h1, rfl, h2, h3⟩
theorem Own.alloc {w : World} {base : Nat} {v : Value} {xs : List B8} (h : Own w base v xs) (o : Obj) : Own (w.alloc o) base v xs := World.ownsRow.alloc h o
theorem Own.blocks {w : World} {base : Nat} {v : Value} {xs : List B8} (h : Own w base v xs) : ∀ k, v.ownBlock = some k → base ≤ k ∧ k < w.heap.size := World.ownsRow.lt h

theorem Rd.below {w w' : World} {a : Option Addr} {l : List B8} {B : Nat} (h : Rd w a l) (hb : Below B w w') (ha : ∀ x, 0 < l.length → a = some x → x.block < B) : Rd w' a l :=
  ⟨h.1, fun i hi => by
    obtain ⟨b, off, e, hc⟩ := h.2 i hi
    exact ⟨b, off, e, (hb.cell (p := ⟨b, off + i, none⟩) (ha ⟨b, off, none⟩ (by omega) e)).trans hc⟩⟩

theorem two (w : World) (x y : B8) (n m : Int) (g : Nat) (hg : g = w.heap.size) (hn : n = (x.toNat : Int)) (hm : m = (y.toNat : Int)) : Rd (w.alloc (.cells #[.int .u8 n, .int .u8 m] 5)) (some ⟨g, 0, none⟩) [x, y] := by
  subst hn hm hg
  refine Rd.of_whole (Whole.made w _) (by simp [maxLen]) fun i hi => ?_
  have hi5 : i < 2 := hi
  match i, hi5 with
  | 0, _ => rfl
  | 1, _ => rfl

/-- What came in, as bytes. -/
def IsRow (k : IntKind) (w : World) (a : Option Addr) (len cap : Nat) (zs : List Int) : Prop :=
  (a = none ∧ len = 0 ∧ cap = 0 ∧ zs = []) ∨
  ∃ x, a = some x ∧ len ≤ cap ∧ cap ≤ maxLen ∧ zs.length = cap ∧ (∀ i, i < zs.length → w.cell? (x.add i) = some (.int k (zs.getD i 0))) ∧ ∀ n ∈ zs, (Lit.int k n).wf = true

theorem IsRow.bytes {w : World} {a : Option Addr} {len cap : Nat} {zs : List Int} (h : IsRow .u8 w a len cap zs) :
    ∃ l : List B8, l.length = len ∧ Rd w a l ∧ len ≤ cap ∧ (∀ x, 0 < len → a = some x → x.block < w.heap.size) := by
  rcases h with ⟨rfl, rfl, rfl, rfl⟩ | ⟨x, rfl, hl, hm, hz, hc, hw⟩
  · exact ⟨[], rfl, ⟨by simp [maxLen], fun i hi => absurd hi (by simp)⟩, by omega, fun x h0 => absurd h0 (by omega)⟩
  · obtain ⟨b, off, spot⟩ := x
    refine ⟨(zs.take len).map fun n => BitVec.ofNat 8 n.toNat, by simp; omega, ⟨by simp; omega, fun i hi => ?_⟩, hl, ?_⟩
    · have hi' : i < len := by simp at hi; omega
      have h1 := hc i (by omega)
      have hspot : spot = none := by simpa [Addr.add] using World.cell?_spot (hc 0 (by omega))
      subst hspot
      refine ⟨b, off, rfl, ?_⟩
      rw [Addr.add_lit] at h1
      rw [h1]
      have hwf := hw (zs[i]'(by omega)) (List.getElem_mem _)
      have hb : 0 ≤ zs[i]'(by omega) ∧ zs[i]'(by omega) ≤ 255 := by
        simpa [Lit.wf, IntKind.min, IntKind.max, IntKind.signed, IntKind.bits] using hwf
      have e1 : zs.getD i 0 = zs[i]'(by omega) := by simp [show i < zs.length by omega]
      have e2 : ((zs.take len).map fun n => BitVec.ofNat 8 n.toNat).getD i 0 = BitVec.ofNat 8 (zs[i]'(by omega)).toNat := by
        simp [hi', show i < zs.length by omega]
      rw [e1, e2, BitVec.toNat_ofNat]
      congr 2
      omega
    · intro x h0 hx
      injection hx with hx; subst hx
      have h1 := hc 0 (by omega)
      exact World.block_lt_of_cell? w ⟨b, off, spot⟩ (by simpa [Addr.add] using h1)
theorem u8_low (s : B16) : IntKind.u8.wrap (s.toNat : Int) = ((s.setWidth 8 : B8).toNat : Int) := by
  rw [IntKind.wrap_u8']; simp [BitVec.toNat_setWidth]
theorem u8_high (s : B16) : (s.toNat : Int) / 256 = (((s >>> 8).setWidth 8 : B8).toNat : Int) := by
  have := s.isLt
  simp [BitVec.toNat_setWidth, BitVec.toNat_ushiftRight, Nat.shiftRight_eq_div_pow]; omega

theorem Own.put {w : World} {base g c n : Nat} {xs : List B8} (h : Own w base (.slice (some ⟨g, 0, none⟩) n c) xs) (j : Nat) (hj : j < xs.length) (y : B8) :
    Own (w.setCell ⟨g, j, none⟩ (.int .u8 y.toNat)) base (.slice (some ⟨g, 0, none⟩) n c) (xs.set j y) := by
  have hn := h.rd.2.1
  obtain ⟨hl, h2⟩ := h
  rcases h2 with ⟨hv, _⟩ | ⟨g', cap, cur, hv, hg, hh, hnc, hcm, hcs, ht⟩
  · cases hv
  · injection hv with e1 e2 e3
    injection e1 with e1
    injection e1 with e1
    subst e1 e3
    refine ⟨by rw [vals_length, List.length_set]; omega, .inr ⟨g, c, cur.setIfInBounds j (.int .u8 y.toNat), by rw [List.length_set, hn], hg, Whole.put hh j _, by rw [List.length_set]; omega, hcm, by simpa using hcs, ?_⟩⟩
    rw [List.length_set, Array.toList_setIfInBounds]
    have hv : vals (xs.set j y) = (vals xs).set j (.int .u8 y.toNat) := by simp [vals, List.map_set]
    rw [hv, ← ht, List.take_set]
theorem Own.free {w : World} {base g c n : Nat} {xs : List B8} (h : Own w base (.slice (some ⟨g, 0, none⟩) n c) xs) (j : Nat) : w.frozen? ⟨g, j, none⟩ = false := by
  obtain ⟨hl, h2⟩ := h
  rcases h2 with ⟨hv, _⟩ | ⟨g', cap, cur, hv, hg, hh, hnc, hcm, hcs, ht⟩
  · cases hv
  · injection hv with e1 e2 e3
    injection e1 with e1
    injection e1 with e1
    subst e1
    exact Whole.free hh j

theorem Rd.take {w : World} {a : Option Addr} {l : List B8} (h : Rd w a l) (k : Nat) : Rd w a (l.take k) :=
  ⟨by have := h.1; simp; omega, fun i hi => by
    have hi' : i < k ∧ i < l.length := by simp at hi; omega
    obtain ⟨b, off, e, hc⟩ := h.2 i hi'.2
    exact ⟨b, off, e, by rw [hc]; simp [List.getD, hi'.1]⟩⟩

theorem Below.drewN' {B : Nat} {a w : World} (h : Below B a w) (n : Nat) : Below B a (w.drewN n) := ⟨h.os, h.tape, h.output, h.size, h.block⟩
theorem one (w : World) (x : B8) (n : Int) (g : Nat) (hg : g = w.heap.size) (hn : n = (x.toNat : Int)) : Rd (w.alloc (.cells #[.int .u8 n] 5)) (some ⟨g, 0, none⟩) [x] := by
  subst hn hg
  refine Rd.of_whole (Whole.made w _) (by simp [maxLen]) fun i hi => ?_
  have hi5 : i < 1 := hi
  match i, hi5 with
  | 0, _ => rfl

def strB (l : List B8) : ByteArray := strOfNums (l.map fun x => (x.toNat : Int))
theorem strB_inj (a b : List B8) (h : strB a = strB b) : a = b := by
  have h1 := congrArg (fun s : ByteArray => s.data.toList) h
  simp only [strB, strOfNums_data, List.map_map] at h1
  refine (List.map_inj_right ?_).1 h1
  intro x y hxy
  apply BitVec.eq_of_toNat_eq
  have := congrArg UInt8.toNat hxy
  have hx := x.isLt
  have hy := y.isLt
  simp at this
  omega

theorem conv (w : World) (a : Option Addr) (l : List B8) (n c : Nat) (hn : l.length = n) (hr : Rd w a l) : (convert 22 9 (.slice a n c)).run Tryd.prog w = .ok (.string (strB l)) w := by
  subst hn
  have key : ∀ b off, a = some ⟨b, off, none⟩ → (∀ i, i < l.length → w.cell? ⟨b, off + i, none⟩ = some (.int .u8 (l.getD i 0).toNat)) → (convert 22 9 (.slice a l.length c)).run Tryd.prog w = .ok (.string (strB l)) w := by
    intro b off e hc
    subst e
    refine run_convert_bytes_arg w 22 5 Tryd.underlying22 Tryd.underlying5 b off l.length c (l.map fun x => (x.toNat : Int)) (by simp) (fun i hi => ?_) 9 Tryd.underlying9
    rw [hc i hi]; simp [hi]
  rcases hr.cells with rfl | ⟨b, off, e, hc⟩
  · cases a with
    | none => exact run_convert_bytes_nil w 22 5 Tryd.underlying22 Tryd.underlying5 0 c 9 Tryd.underlying9
    | some ad =>
      show (convert 22 9 (.slice (some ad) 0 c)).run Tryd.prog w = _
      rw [run_convert_bytes_string w 22 9 5 _ 0 c Tryd.underlying22 Tryd.underlying5 Tryd.underlying9]
      rw [run_bytesToString w ad 0 c [] (by simp [loadCells, loadCellsFrom])]
      rfl
  · exact key b off e hc

theorem join (y0 y1 : B8) : bits .or .u16 ((y0.toNat : Int) * 256) (y1.toNat : Int) = ((y0 ++ y1 : BitVec 16).toNat : Int) := by
  have h0 := y0.isLt
  have h1 := y1.isLt
  rw [show ((y0.toNat : Int) * 256) = ((y0.toNat * 256 : Nat) : Int) by omega, u16_or_nat _ _ (by omega) (by omega), BitVec.toNat_append, Nat.shiftLeft_eq]

/-- Two numbers of one width are the same, or not. -/
theorem test {k : Nat} (a b : BitVec k) (B : Bool) (h : a = b ↔ B = true) : (((a.toNat : Int)) == (b.toNat : Int)) = B := by
  cases B with
  | true => rw [h.2 rfl]; simp
  | false =>
    have : ¬ a = b := by simpa using h
    rw [beq_eq_false_iff_ne]
    intro e
    exact this (BitVec.eq_of_toNat_eq (by omega))
theorem testS (x y : List B8) (B : Bool) (h : x = y ↔ B = true) : ((strB x).toList == (strB y).toList) = B := by
  cases B with
  | true => rw [h.2 rfl]; simp
  | false =>
    have : ¬ x = y := by simpa using h
    rw [beq_eq_false_iff_ne]
    intro e
    refine this (strB_inj _ _ ?_)
    have h2 : (strB x).data.toList = (strB y).data.toList := by rw [← ByteArray.toList_eq, ← ByteArray.toList_eq]; exact e
    have h3 := Array.toList_inj.1 h2
    show (⟨(strB x).data⟩ : ByteArray) = ⟨(strB y).data⟩
    rw [h3]

end Go.Proofs.YtlfohiejlajmaaaDoor.ShT
