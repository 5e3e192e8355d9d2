/- Groups as they last: loaded. -/
import Derived.Test.YtleflegbdnmgeaaGdS
namespace Go.Proofs.Ytleflegbdnmgeaa.GdL
open Go.ChangeShapes Go.WideShapes Go.ChangeAt Go.RowKit
open GdT GdA GdB GdC GdD GdE GdQ GdS
set_option linter.unusedVariables false
set_option maxHeartbeats 1000000

def okB (x : B8) : Bool := x == 0 || (x == 1 || x == 3)
def allOk (l : List B8) : Bool := l.all okB
def loadE (z : Int) (l : List B8) : Int := if z < 1 ∨ 256 < z then 1 else if ¬ (l.length : Int) = z then 24 else if allOk l = true then 0 else 24

theorem wpList_copy_row {ops : Array Oper} {rest : List Oper} {o : Oper} {a : Act} {w : World} {Q : Exit → Act → World → Prop} (hgd : Region.wanted o (yielded ops a.tmps) = true) (d s : Operand)
    (ho : o.op = .call { callee := .builtin .copy, args := #[d, s], argTypes := #[38, 38] }) (q n dCap sCap : Nat) (ad : Addr) (hd : a.eval d = .slice (some ⟨q, 0, none⟩) n dCap) (hs : a.eval s = .slice (some ad) n sCap)
    (cur : Array Value) (hg : w.heap[q]? = some (.cells cur 5 (0, 0))) (cs : List Value) (hn : cs.length = n) (hcur : cur.size = n)
    (hsrc : ∀ j v, cs[j]? = some v → w.cell? (ad.add j) = some v) (h1 : ∀ v ∈ cs, v.oneCell' = true)
    (h : wpList Try.prog ops Q rest (a.put o.dst (goInt cs.length)) (w.setRow q cs.toArray)) : wpList Try.prog ops Q (o :: rest) a w :=
  BigFrame.wpList_want hgd fun _ hK => by
    have hrun := run_copy_row (P := Try.prog) w 38 38 o.type 5 q 0 n dCap ad n sCap cur 5 cs Try.underlying38 s5 hg (by rw [hn]; exact (Nat.min_self n).symm) hsrc (by omega) h1
    have e : (cur.toList.take 0 ++ cs ++ cur.toList.drop (0 + cs.length)).toArray = cs.toArray := by
      rw [List.drop_of_length_le (by simp; omega)]; simp
    rw [e] at hrun
    unfold Oper.wp
    simp [execOp, ho, resolve, invoke, builtin, hd, hs, hrun, Result.andThen]
    exact hK _ _ h

theorem early (z : Int) (a : Option Addr) (l : List B8) (n c : Nat) (w : World) (hn : l.length = n) (h : (z < 1 ∨ 256 < z)) :
    (Calls Try.prog 16 #[.int .i64 z, .slice a n c] w fun e w' => e = .returned (.tuple #[.pointer none, .int .i64 1]) ∧ w' = w) ∧
    (Calls Try.prog 19 #[.int .i64 z, .slice a n c] w fun e w' => e = .returned (.tuple #[.pointer none, .int .i64 1]) ∧ w' = w) := by
  have H1 := Lib.hid (newBad z w h)
  have H2 := Lib.hid (newBadR z w h)
  clear h
  constructor
  · go_enter Try.func16, Try.ntmps16
    go_wp2_with fail
    refine H1.out.mono ?_
    rintro e' w5 ⟨rfl, h5⟩
    obtain rfl := h5.symm
    go_wp2
    go_ret2
    exact ⟨rfl, rfl⟩
  · go_enter Try.func19, Try.ntmps19
    go_wp2_with fail
    refine H2.out.mono ?_
    rintro e' w5 ⟨rfl, h5⟩
    obtain rfl := h5.symm
    go_wp2
    go_ret2
    exact ⟨rfl, rfl⟩

theorem lens (m : Nat) (a : Option Addr) (n c : Nat) (w : World) (h1 : 1 ≤ m) (h2 : m ≤ 256) (h : ¬ n = m) :
    (Calls Try.prog 16 #[.int .i64 m, .slice a n c] w fun e w' => e = .returned (.tuple #[.pointer none, .int .i64 24]) ∧ Below w.heap.size w w') ∧
    (Calls Try.prog 19 #[.int .i64 m, .slice a n c] w fun e w' => e = .returned (.tuple #[.pointer none, .int .i64 24]) ∧ Below w.heap.size w w') := by
  have H1 := Lib.hid (newW m w h1 h2)
  have H2 := Lib.hid (newR m w h1 h2)
  have hne : ¬ ((n : Int) = (m : Int)) := by omega
  clear h
  constructor
  · go_enter Try.func16, Try.ntmps16
    go_wp2_with fail
    refine H1.out.mono ?_
    rintro e' w5 ⟨g, q, rfl, _, _, _, hb⟩
    replace hb := Lib.hid hb
    go_wp2
    go_ret2
    exact ⟨rfl, hb.out⟩
  · go_enter Try.func19, Try.ntmps19
    go_wp2_with fail
    refine H2.out.mono ?_
    rintro e' w5 ⟨g, q, rfl, _, _, _, hb⟩
    replace hb := Lib.hid hb
    go_wp2
    go_ret2
    exact ⟨rfl, hb.out⟩

theorem ok_cases (x : B8) : okB x = true → x = 0 ∨ x = 1 ∨ x = 3 := by
  unfold okB
  simp
theorem ok_not (x : B8) (h : okB x = false) : ¬ ((x.toNat : Int) = 0) ∧ ¬ ((x.toNat : Int) = 1) ∧ ¬ ((x.toNat : Int) = 3) := by
  unfold okB at h
  simp [BitVec.toNat_eq] at h
  omega
theorem all_snoc (l : List B8) (k : Nat) (h : k < l.length) : allOk (l.take (k + 1)) = (allOk (l.take k) && okB (l.getD k 0)) := by
  unfold allOk
  rw [take_snoc' l k h]; simp

def pad (l : List B8) (n k : Nat) : List B8 := l.take k ++ List.replicate (n - k) 0
theorem pad_zero (l : List B8) (n : Nat) : pad l n 0 = List.replicate n 0 := by simp [pad]
theorem pad_all (l : List B8) (n : Nat) (h : l.length = n) : pad l n n = l := by simp [pad, ← h]
theorem pad_set (l : List B8) (n k : Nat) (h : l.length = n) (hk : k < n) : (pad l n k).set k (l.getD k 0) = pad l n (k + 1) := by
  have e : List.replicate (n - k) (0 : B8) = 0 :: List.replicate (n - (k + 1)) 0 := by
    rw [show n - k = (n - (k + 1)) + 1 by omega, List.replicate_succ]
  have hl : (l.take k).length = k := by simp; omega
  unfold pad
  rw [List.set_append_right _ _ (by omega), hl, Nat.sub_self, e, List.set_cons_zero, take_snoc' l k (by omega)]
  simp

def LW (l : List B8) (n B : Nat) (e : Ending) (w' : World) : Prop := (allOk l = false ∧ e = .returned (.tuple #[.pointer none, .int .i64 24]) ∨ allOk l = true ∧ ∃ g q, e = .returned (.tuple #[.pointer (some ⟨g, 0, none⟩), .int .i64 0]) ∧ Gd w' g q n l ∧ B ≤ g ∧ B ≤ q)
def LR (l : List B8) (n B : Nat) (e : Ending) (w' : World) : Prop := (allOk l = false ∧ e = .returned (.tuple #[.pointer none, .int .i64 24]) ∨ allOk l = true ∧ ∃ r s, e = .returned (.tuple #[.pointer (some ⟨r, 0, none⟩), .int .i64 0]) ∧ Rg w' r s n l ∧ B ≤ r ∧ B ≤ s)
set_option maxRecDepth 100000 in
theorem loadW (b off : Nat) (l : List B8) (n c : Nat) (w : World) (hl : l.length = n) (h1 : 1 ≤ n) (h2 : n ≤ 256) (hr : ∀ i, i < n → w.cell? ⟨b, off + i, none⟩ = some (.int .u8 (l.getD i 0).toNat)) (hb : b < w.heap.size) :
    Calls Try.prog 16 #[.int .i64 n, .slice (some ⟨b, off, none⟩) n c] w fun e w' => LW l n w.heap.size e w' ∧ Below w.heap.size w w' := by
  have H1 := Lib.hid (newW n w h1 h2)
  have HR : Hid (∀ w', Below w.heap.size w w' → ∀ i, i < n → w'.cell? ⟨b, off + i, none⟩ = some (.int .u8 (l.getD i 0).toNat)) := Lib.hid fun w' hb' i hi => (hb'.cell (p := ⟨b, off + i, none⟩) hb).trans (hr i hi)
  have hL := Lib.hid hl
  have hbb := Lib.hid hb
  have hall : Hid (allOk l = false ∨ allOk l = true) := Lib.hid (by cases allOk l <;> simp)
  clear hr hl hb
  go_enter Try.func16, Try.ntmps16
  go_wp2_with fail
  refine H1.out.mono ?_
  rintro e' w1 ⟨g, q, rfl, HG, hg, hq, hb⟩
  have HC := Lib.hid (HR.out _ hb)
  replace HG := Lib.hid HG
  replace hb := Lib.hid hb
  go_wp2_with fail
  go_loopw [24] (fun i wr => ∃ k : Nat, k ≤ n ∧ i = .int .i64 k ∧ allOk (l.take k) = true ∧ wr = w1) (fun i _ => n - (intOf i).toNat)
  case atStart => exact ⟨0, by omega, rfl, rfl, rfl⟩
  case round =>
    obtain ⟨k, hk, rfl, hA, hwr⟩ := hrel
    obtain rfl := hwr.symm
    replace hA := Lib.hid hA
    by_cases hlt : k < n
    · have hlt' : (k : Int) < (n : Int) := by omega
      have hkL : k < l.length := by rw [hL.out]; exact hlt
      have ck := HC.out k hlt
      have hsn := Lib.hid (all_snoc l k hkL)
      have hbad : Hid (okB (l.getD k 0) = false → allOk l = false) := Lib.hid fun e => by
        unfold allOk
        rw [← Bool.not_eq_true, List.all_eq_true]
        intro h
        have := h (l.getD k 0) (by simp [List.getD_eq_getElem?_getD, hkL])
        rw [e] at this
        cases this
      obtain ⟨y, hy⟩ : ∃ y, y = l.getD k 0 := ⟨_, rfl⟩
      rw [← hy] at ck hsn hbad
      clear hy
      cases hok : okB y with
      | true =>
        have hA2 : allOk (l.take (k + 1)) = true := by rw [hsn.out, hA.out, hok]; rfl
        replace hA2 := Lib.hid hA2
        rcases ok_cases y hok with rfl | rfl | rfl
        all_goals
          clear hok hbad hsn
        · have e2 : (((0 : B8)).toNat : Int) = 0 := rfl
          rw [e2] at ck
          go_wp2
          go_roundw
          case rel => exact ⟨k + 1, by omega, by go_num, hA2.out, by trivial⟩
          case measure => simp [intOf]; omega
        · have e2 : (((1 : B8)).toNat : Int) = 1 := rfl
          rw [e2] at ck
          go_wp2
          go_roundw
          case rel => exact ⟨k + 1, by omega, by go_num, hA2.out, by trivial⟩
          case measure => simp [intOf]; omega
        · have e2 : (((3 : B8)).toNat : Int) = 3 := rfl
          rw [e2] at ck
          go_wp2
          go_roundw
          case rel => exact ⟨k + 1, by omega, by go_num, hA2.out, by trivial⟩
          case measure => simp [intOf]; omega
      | false =>
        obtain ⟨n0, n1, n3⟩ := ok_not y hok
        have m0 : ((y.toNat : Int) != 0) = true := by simp only [bne_iff_ne, ne_eq]; exact n0
        have m1 : ((y.toNat : Int) != 1) = true := by simp only [bne_iff_ne, ne_eq]; exact n1
        have m3 : ((y.toNat : Int) != 3) = true := by simp only [bne_iff_ne, ne_eq]; exact n3
        have hB : allOk l = false := hbad.out hok
        replace hB := Lib.hid hB
        clear hok hbad hsn
        go_wp2
        go_ret2
        exact ⟨Or.inl ⟨hB.out, rfl⟩, hb.out⟩
    · obtain rfl : k = n := by omega
      have hA2 : allOk l = true := by have := hA.out; rwa [← hL.out, List.take_length] at this
      replace hA2 := Lib.hid hA2
      have hd := HG.out.head
      have HW := Lib.hid (Gd.row HG.out l hL.out)
      have hbl := HG.out.2.1
      have hsz : (vals (List.replicate k 0#8)).toArray.size = k := by simp [vals]
      have HS : Hid (∀ j v, (vals l)[j]? = some v → w1.cell? ((⟨b, off, none⟩ : Addr).add j) = some v) := Lib.hid fun j v hj => by
        have hj' : j < l.length := by have := (List.getElem?_eq_some_iff.1 hj).1; rwa [vals_length] at this
        rw [← hj]
        have := HC.out j (by rw [← hL.out]; exact hj')
        rw [Addr.add_lit, this]
        simp [vals, hj', List.getD_eq_getElem?_getD]
      have HB := Lib.hid hbl
      have HV : Hid ((vals l).length = k) := Lib.hid (by rw [vals_length]; exact hL.out)
      have HZ := Lib.hid hsz
      clear hbl hsz
      go_wp2_with (first
        | ((with_reducible show wpList _ _ _ (Oper.mk _ (Op.call { callee := Callee.builtin Builtin.copy, args := _, argTypes := _ }) _ _ _ _ :: _) _ _)
           refine wpList_copy_row rfl (.tmp 42) (.tmp 43) rfl q k k c ⟨b, off, none⟩ rfl rfl _ HB.out (vals l) HV.out HZ.out HS.out (vals_one _) ?_))
      have HH := HW.out
      go_ret2
      exact ⟨Or.inr ⟨hA2.out, g, q, rfl, HH.1, hg, hq⟩, hb.out.grown HH.2 hb.out.size (fun j e => by cases e; exact hq)⟩

set_option maxRecDepth 100000 in
theorem loadR (b off : Nat) (l : List B8) (n c : Nat) (w : World) (hl : l.length = n) (h1 : 1 ≤ n) (h2 : n ≤ 256) (hr : ∀ i, i < n → w.cell? ⟨b, off + i, none⟩ = some (.int .u8 (l.getD i 0).toNat)) (hb : b < w.heap.size) :
    Calls Try.prog 19 #[.int .i64 n, .slice (some ⟨b, off, none⟩) n c] w fun e w' => LR l n w.heap.size e w' ∧ Below w.heap.size w w' := by
  have H1 := Lib.hid (newR n w h1 h2)
  have HR : Hid (∀ w', Below w.heap.size w w' → ∀ i, i < n → w'.cell? ⟨b, off + i, none⟩ = some (.int .u8 (l.getD i 0).toNat)) := Lib.hid fun w' hb' i hi => (hb'.cell (p := ⟨b, off + i, none⟩) hb).trans (hr i hi)
  have hL := Lib.hid hl
  have hbb := Lib.hid hb
  clear hr hl hb
  go_enter Try.func19, Try.ntmps19
  go_wp2_with fail
  refine H1.out.mono ?_
  rintro e' w1 ⟨r, s, rfl, HG, hg, hq, hb⟩
  have hpos := Lib.hid (And.intro hg hq)
  clear hg hq
  replace HG := Lib.hid HG
  replace hb := Lib.hid hb
  go_wp2_with fail
  go_loopw [8] (fun i wr => ∃ k : Nat, k ≤ n ∧ i = .int .i64 k ∧ allOk (l.take k) = true ∧ Rg wr r s n (pad l n k) ∧ Below w.heap.size w wr) (fun i _ => n - (intOf i).toNat)
  case atStart => exact ⟨0, by omega, rfl, rfl, by rw [pad_zero]; exact HG.out, hb.out⟩
  case round =>
    clear HG hb
    obtain ⟨k, hk, rfl, hA, hR, hb⟩ := hrel
    replace hA := Lib.hid hA
    by_cases hlt : k < n
    · have hlt' : (k : Int) < (n : Int) := by omega
      have hkL : k < l.length := by rw [hL.out]; exact hlt
      have ck0 := HR.out _ hb k hlt
      have DD : Hid (Below w.heap.size w wr.drew) := Lib.hid hb.drew
      have RD := hR.below (Below.refl _ _).drew
      have c := hR.head
      have cD := RD.head
      have zD := RD.frozen k
      have sD := RD.cell k hlt
      have ckD := HR.out _ DD.out k hlt
      have HP := Lib.hid (RD.put k (l.getD k 0))
      have hsn := Lib.hid (all_snoc l k hkL)
      have hset := Lib.hid (pad_set l n k hL.out hlt)
      have hbad : Hid (okB (l.getD k 0) = false → allOk l = false) := Lib.hid fun e => by
        unfold allOk
        rw [← Bool.not_eq_true, List.all_eq_true]
        intro h
        have := h (l.getD k 0) (by simp [List.getD_eq_getElem?_getD, hkL])
        rw [e] at this
        cases this
      obtain ⟨y, hy⟩ : ∃ y, y = l.getD k 0 := ⟨_, rfl⟩
      rw [← hy] at ck0 ckD hsn hbad hset HP
      clear hy
      generalize (pad l n k).getD k 0 = old at sD
      replace hb := Lib.hid hb
      cases hok : okB y with
      | true =>
        have hA2 : allOk (l.take (k + 1)) = true := by rw [hsn.out, hA.out, hok]; rfl
        replace hA2 := Lib.hid hA2
        rcases ok_cases y hok with rfl | rfl | rfl
        all_goals
          clear hok hbad hsn
        · have e2 : (((0 : B8)).toNat : Int) = 0 := rfl
          rw [e2] at ck0 ckD HP
          go_wp2_with fail
          refine wp_region_still_tail 11 (by kernel_rfl) (by kernel_rfl) ?_
          simp only [List.take_succ_cons, List.take_zero, List.drop_succ_cons, List.drop_zero]
          change wpStill _ _ (World.drew wr) (fun a' => wpList _ _ _ _ a' (World.drew wr)) _ _
          generalize World.drew wr = wd at *
          repeat still_step
          try refine wpStill_nil ?_
          change wpList _ _ _ _ _ wd
          go_wp2
          go_roundw
          case rel => exact ⟨k + 1, by omega, by go_num, hA2.out, by rw [← hset.out]; exact HP.out, DD.out.setCell hpos.out.2 _⟩
          case measure => simp [intOf]; omega
        · have e2 : (((1 : B8)).toNat : Int) = 1 := rfl
          rw [e2] at ck0 ckD HP
          go_wp2_with fail
          refine wp_region_still_tail 11 (by kernel_rfl) (by kernel_rfl) ?_
          simp only [List.take_succ_cons, List.take_zero, List.drop_succ_cons, List.drop_zero]
          change wpStill _ _ (World.drew wr) (fun a' => wpList _ _ _ _ a' (World.drew wr)) _ _
          generalize World.drew wr = wd at *
          repeat still_step
          try refine wpStill_nil ?_
          change wpList _ _ _ _ _ wd
          go_wp2
          go_roundw
          case rel => exact ⟨k + 1, by omega, by go_num, hA2.out, by rw [← hset.out]; exact HP.out, DD.out.setCell hpos.out.2 _⟩
          case measure => simp [intOf]; omega
        · have e2 : (((3 : B8)).toNat : Int) = 3 := rfl
          rw [e2] at ck0 ckD HP
          go_wp2_with fail
          refine wp_region_still_tail 11 (by kernel_rfl) (by kernel_rfl) ?_
          simp only [List.take_succ_cons, List.take_zero, List.drop_succ_cons, List.drop_zero]
          change wpStill _ _ (World.drew wr) (fun a' => wpList _ _ _ _ a' (World.drew wr)) _ _
          generalize World.drew wr = wd at *
          repeat still_step
          try refine wpStill_nil ?_
          change wpList _ _ _ _ _ wd
          go_wp2
          go_roundw
          case rel => exact ⟨k + 1, by omega, by go_num, hA2.out, by rw [← hset.out]; exact HP.out, DD.out.setCell hpos.out.2 _⟩
          case measure => simp [intOf]; omega
      | false =>
        obtain ⟨n0, n1, n3⟩ := ok_not y hok
        have m0 : ((y.toNat : Int) != 0) = true := by simp only [bne_iff_ne, ne_eq]; exact n0
        have m1 : ((y.toNat : Int) != 1) = true := by simp only [bne_iff_ne, ne_eq]; exact n1
        have m3 : ((y.toNat : Int) != 3) = true := by simp only [bne_iff_ne, ne_eq]; exact n3
        have hB : allOk l = false := hbad.out hok
        replace hB := Lib.hid hB
        clear hok hbad hsn
        go_wp2
        go_ret2
        exact ⟨Or.inl ⟨hB.out, rfl⟩, hb.out⟩
    · obtain rfl : k = n := by omega
      have hA2 : allOk l = true := by have := hA.out; rwa [← hL.out, List.take_length] at this
      replace hA2 := Lib.hid hA2
      rw [pad_all l k hL.out] at hR
      have c := hR.head
      replace hR := Lib.hid hR
      replace hb := Lib.hid hb
      go_wp2
      go_ret2
      exact ⟨Or.inr ⟨hA2.out, r, s, rfl, hR.out, hpos.out.1, hpos.out.2⟩, hb.out⟩
end Go.Proofs.Ytleflegbdnmgeaa.GdL
