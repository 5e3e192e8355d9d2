/- The laws of digests: parts, joined. -/
import Derived.Test.YtlfohiejlajmaaaDoorRfG
import Derived.Test.YtlfohiejlajmaaaDoorShW
namespace Go.Proofs.YtlfohiejlajmaaaDoor.RfH
open Go.ChangeShapes Go.WideShapes Go.ChangeAt Go.RowKit
open ShM ShA ShB ShC ShD ShE ShF ShG ShH ShI ShJ ShK ShL ShN ShO ShP ShS RfF RfG Mem
open ShT (Rd vals vals_length vals_one)
set_option linter.unusedVariables false
set_option maxHeartbeats 4000000

/-- Bytes behind bytes, up to two millions. -/
theorem run_app2 (w : World) (ty : TypeId) (base : Nat) (v : Value) (xs : List ShM.B8) (h : ShT.Own w base v xs) (A : Option Addr) (l : List ShM.B8) (m c : Nat) (hm : l.length = m) (hr : Rd w A l)
    (N : Nat) (hN : (xs ++ l).length = N) (hroom : N ≤ 2000000) (hbase : base ≤ w.heap.size) :
    ∃ a' c' w', (Builtin.append_ #[22, 22] ty #[v, .slice A m c]).run Tryd.prog w = .ok (.slice a' N c') w' ∧ ShT.Own w' base (.slice a' N c') (xs ++ l) ∧ w.grownBy w' v.ownBlock := by
  obtain ⟨i, hi, hz, hs, hb⟩ := ShT.i5
  subst hm
  rw [List.length_append] at hN
  have fin : ∀ v' w', ShT.Own w' base v' (xs ++ l) → ∃ a' c', v' = .slice a' N c' := fun v' w' h2 => by
    obtain ⟨a', c', e, _⟩ := ShT.Own.shape h2
    rw [List.length_append, hN] at e
    exact ⟨a', c', e⟩
  have key : ∀ ad : Addr, A = some ad → (∀ j u, (vals l)[j]? = some u → w.cell? (ad.add j) = some u) →
      ∃ v' w', (Builtin.append_ #[22, 22] ty #[v, .slice A l.length c]).run Tryd.prog w = .ok v' w' ∧ ShT.Own w' base v' (xs ++ l) ∧ w.grownBy w' v.ownBlock := by
    intro ad hA hc
    subst hA
    obtain ⟨v', w', h1, h2, h3, _, h5⟩ := run_append_own_at (P := Tryd.prog) w base 22 ty 5 i (.int .u8 0) 1 1 Tryd.underlying22 hi hz hs hb rfl (by omega) v xs.length (vals xs) h ad l.length c (vals l) (by rw [vals_length]; omega) hc (vals_one l) (by simp only [maxLen]; omega) (by omega) hbase
    exact ⟨v', w', h1, by unfold ShT.Own; rw [ShT.vals_append, List.length_append]; exact h2, h3⟩
  have all : ∃ v' w', (Builtin.append_ #[22, 22] ty #[v, .slice A l.length c]).run Tryd.prog w = .ok v' w' ∧ ShT.Own w' base v' (xs ++ l) ∧ w.grownBy w' v.ownBlock := by
    rcases hr.cells with rfl | ⟨b, off, rfl, hc⟩
    · cases A with
      | none => exact ⟨v, w, ShT.run_nil w ty base v xs h c, by simpa using h, World.grownBy.refl w _⟩
      | some ad => exact key ad rfl (fun j u hu => by simp [vals] at hu)
    · refine key _ rfl fun j u hu => ?_
      have hj : j < l.length := by have := (List.getElem?_eq_some_iff.1 hu).1; simpa [vals_length] using this
      rw [Addr.add_lit, hc j hj]
      rw [← hu]; simp [vals, hj]
  obtain ⟨v', w', h1, h2, h3⟩ := all
  obtain ⟨a', c', rfl⟩ := fin v' w' h2
  exact ⟨a', c', w', h1, h2, h3⟩
theorem wpList_app2 {ops : Array Oper} {rest : List Oper} {o : Oper} {a : Act} {w : World} {Q : Exit → Act → World → Prop} (hgd : Region.wanted o (yielded ops a.tmps) = true) (s x : Operand)
    (ho : o.op = .call { callee := .builtin .append, args := #[s, x], argTypes := #[22, 22] })
    (base : Nat) (v : Value) (xs : List ShM.B8) (hs : a.eval s = v) (h : ShT.Own w base v xs) (A : Option Addr) (l : List ShM.B8) (m c : Nat) (hx : a.eval x = .slice A m c) (hm : l.length = m) (hr : Rd w A l)
    (ys : List ShM.B8) (N : Nat) (hy : xs ++ l = ys) (hN : ys.length = N) (hroom : N ≤ 2000000) (hbase : base ≤ w.heap.size)
    (hK : ∀ a' c' w', ShT.Own w' base (.slice a' N c') ys → w.grownBy w' v.ownBlock → wpList Tryd.prog ops Q rest (a.put o.dst (.slice a' N c')) w') : wpList Tryd.prog ops Q (o :: rest) a w :=
  BigFrame.wpList_want hgd fun _ hK' => by
    subst hy
    obtain ⟨a', c', w', h1, h2, h3⟩ := run_app2 w o.type base v xs h A l m c hm hr N hN hroom hbase
    unfold Oper.wp execOp
    simp only [ho, resolve, invoke, builtin, Sem.run_bind, Sem.run_pure, Result.andThen_ok, List.map_toArray, List.map_cons, List.map_nil, hs, hx, h1]
    exact hK' _ _ (hK a' c' w' h2 h3)
theorem flat_take (ps : List (List ShM.B8)) (i : Nat) (h : i < ps.length) : (ps.take i).flatten ++ ps.getD i [] = (ps.take (i + 1)).flatten := by
  rw [List.take_add_one, List.flatten_append]
  congr 1
  simp [List.getD, h]
theorem flat_le (ps : List (List ShM.B8)) (i : Nat) : ((ps.take i).flatten).length ≤ ps.flatten.length := by
  have h : ps.flatten = (ps.take i).flatten ++ (ps.drop i).flatten := by rw [← List.flatten_append, List.take_append_drop]
  rw [h, List.length_append]
  omega

/-- What parts, joined, answer: the bytes behind one another, where they are not too many. -/
def JPost (ps : List (List ShM.B8)) (n : Nat) (e : Ending) (w' : World) : Prop := ∃ v ok, e = .returned (.tuple #[v, .bool ok]) ∧ (ok = true → ∃ a' c', v = .slice a' ps.flatten.length c' ∧ ShN.One w' (.slice a' ps.flatten.length c') ps.flatten ∧ ps.flatten.length ≤ 4096 ∧ n ≤ 500)

set_option maxRecDepth 100000 in
theorem joinedW (ps : List (List ShM.B8)) (a : Option Addr) (n c : Nat) (w : World) (hn : ps.length = n) (ha : Arg w a ps) (hb : ps.flatten.length ≤ 1500000) (hnm : n ≤ 2000000) :
    Calls Tryd.prog 8 #[.slice a n c] w fun e w' => JPost ps n e w' ∧ Below w.heap.size w w' := by
  have HA : Hid (∀ i w', i < n → Below w.heap.size w w' → ∃ b off ax nx cx, a = some ⟨b, off, none⟩ ∧ w'.cell? ⟨b, off + i, none⟩ = some (.slice ax nx cx) ∧ (ps.getD i []).length = nx ∧ Rd w' ax (ps.getD i []) ∧ nx ≤ 1500000) := Lib.hid fun i w' hi hbb => by
    obtain ⟨b, off, u, e, hc, hl', ax, cx, rfl, hr, h1, h2, h3⟩ := ha i (by omega)
    refine ⟨b, off, ax, _, cx, e, (hbb.cell (p := ⟨b, off + i, none⟩) hl').trans hc, rfl, ShT.Rd.below hr hbb h3, ?_⟩
    have := flat_take ps i (by omega)
    have h5 := flat_le ps (i + 1)
    rw [← this, List.length_append] at h5
    omega
  have HFT := Lib.hid (fun i (h : i < n) => flat_take ps i (by omega))
  have HFL := Lib.hid (fun i => flat_le ps i)
  have HAL : Hid ((ps.take n).flatten = ps.flatten) := Lib.hid (by rw [← hn, List.take_length])
  have I0 : Hid (ShT.Own w w.heap.size (.slice none 0 0) ((ps.take 0).flatten)) := Lib.hid (by rw [List.take_zero]; exact ShT.Own.nil _ _)
  have HB := Lib.hid hb
  obtain ⟨T, hT⟩ : ∃ T, T = ps.flatten.length := ⟨_, rfl⟩
  replace hT := Lib.hid hT
  clear ha hb hn
  go_enter Tryd.func8, Tryd.ntmps8
  go_wp2_with fail
  go_loopw [4, 5] (fun v4 v5 wr => ∃ (i m : Nat) (a' : Option Addr) (c' : Nat), i ≤ n ∧ m = ((ps.take i).flatten).length ∧ m ≤ 1500000 ∧ v5 = .int .i64 (i : Int) ∧ v4 = .slice a' m c' ∧ ShT.Own wr w.heap.size (.slice a' m c') ((ps.take i).flatten) ∧ Below w.heap.size w wr) (fun _ v5 _ => 3000000 - (intOf v5).toNat)
  case atStart => exact ⟨0, 0, none, 0, by omega, rfl, by omega, rfl, rfl, I0.out, Below.refl _ _⟩
  case round =>
    clear I0
    obtain ⟨i, m, a', c', hi, hm, hm15, rfl, rfl, hO, hD⟩ := hrel
    by_cases hlt : i < n
    · have hlt' : (i : Int) < (n : Int) := by omega
      obtain ⟨b, off, ax, nx, cx, rfl, hc, hl, hr, hnx⟩ := HA.out i wr hlt hD
      by_cases hbig : 4096 < nx
      · have hbig' : (4096 : Int) < (nx : Int) := by omega
        have DD := Lib.hid hD
        clear hO hD hr
        go_wp2_with fail
        go_ret2
        exact ⟨⟨_, false, rfl, fun h => by simp at h⟩, DD.out⟩
      · have hbig' : ¬ (4096 : Int) < (nx : Int) := by omega
        have hft := Lib.hid (HFT.out i hlt)
        have hml : Hid (((ps.take (i + 1)).flatten).length = m + nx ∧ m + nx ≤ 1500000) := Lib.hid (by
          have h5 := HFL.out (i + 1)
          have h6 := HB.out
          rw [← hft.out, List.length_append, hl, ← hm] at h5 ⊢
          omega)
        have OO := Lib.hid hO
        have DD := Lib.hid hD
        have RR := Lib.hid hr
        have LL := Lib.hid hl
        replace hm := Lib.hid hm
        clear hO hD hr hl
        go_wp2_with (at_builtin; refine RfH.wpList_app2 rfl (.tmp 18) (.tmp 22) rfl w.heap.size (.slice a' m c') _ rfl OO.out ax _ nx cx rfl LL.out RR.out _ (m + nx) hft.out hml.out.1 (by have := hml.out.2; omega) DD.out.size ?_; intro a2 c2 w2 hO2 hg2)
        have D2 := Lib.hid (DD.out.grown hg2 DD.out.size (fun q e => (OO.out.blocks q e).1))
        have O2 := Lib.hid hO2
        clear hO2 hg2
        go_wp2_with fail
        go_roundw
        case rel => exact ⟨i + 1, m + nx, _, _, by omega, hml.out.1.symm, hml.out.2, by go_num, rfl, O2.out, D2.out⟩
        case measure => simp [intOf]; omega
    · obtain rfl : n = i := by omega
      have hlt' : ¬ (n : Int) < (n : Int) := by omega
      rw [HAL.out, ← hT.out] at hm
      rw [HAL.out] at hO
      subst hm
      have OO := Lib.hid (one_own hO)
      have DD := Lib.hid hD
      clear hO hD
      by_cases h1 : m ≤ 4096
      · have h1' : (m : Int) ≤ 4096 := by omega
        by_cases h2 : n ≤ 500
        · have h2' : (n : Int) ≤ 500 := by omega
          go_wp2_with fail
          go_ret2
          exact ⟨⟨_, true, by first | rfl | simp, fun _ => ⟨a', c', by rw [← hT.out]; rfl, by rw [← hT.out]; exact OO.out, by rw [← hT.out]; exact h1, h2⟩⟩, DD.out⟩
        · have h2' : ¬ (n : Int) ≤ 500 := by omega
          go_wp2_with fail
          go_ret2
          exact ⟨⟨_, false, by first | rfl | simp, fun h => by simp at h⟩, DD.out⟩
      · have h1' : ¬ (m : Int) ≤ 4096 := by omega
        go_wp2_with fail
        go_ret2
        exact ⟨⟨_, false, by first | rfl | simp, fun h => by simp at h⟩, DD.out⟩
end Go.Proofs.YtlfohiejlajmaaaDoor.RfH
