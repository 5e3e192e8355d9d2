/- Digests: bytes are taken in. -/
import Derived.Test.YtlfohiejlajmaaaDoorShI
import Derived.Laws.CopyOwn
import Derived.Laws.IdiomCopy
namespace Go.Proofs.YtlfohiejlajmaaaDoor.ShJ
open Go.ChangeShapes Go.WideShapes Go.ChangeAt Go.RowKit
open ShM ShA ShB ShC ShD ShE ShF ShG ShH ShI Mem
open ShT (Rd vals vals_length vals_one)
set_option linter.unusedVariables false
set_option maxHeartbeats 2000000

theorem s5 : (Tryd.prog.info? 5).map (·.size) = some 1 := by kernel_rfl
/-- A row of bytes that lies in a world, elsewhere than a block. -/
def Sr (w : World) (g : Nat) (a : Option Addr) (l : List ShM.B8) : Prop := Rd w a l ∧ ∀ x, 0 < l.length → a = some x → x.block < w.heap.size ∧ x.block ≠ g
theorem Laid.up {w w' : World} {g : Nat} (h : Laid w) (hu : Upd w w' g) (hg : 2 ≤ g) : Laid w' := by
  obtain ⟨⟨t, z, h0⟩, ⟨t', z', h1⟩⟩ := h
  have l1 : 1 < w.heap.size := by
    rcases Nat.lt_or_ge 1 w.heap.size with hlt | hge
    · exact hlt
    · rw [Array.getElem?_eq_none hge] at h1; cases h1
  exact ⟨⟨t, z, (hu.gb.block 0 (by omega) (by intro e; injection e; omega)).trans h0⟩, ⟨t', z', (hu.gb.block 1 l1 (by intro e; injection e; omega)).trans h1⟩⟩
theorem Sr.cells {w w' : World} {g : Nat} {a : Option Addr} {l : List ShM.B8} (h : Sr w g a l) (hu : Upd w w' g) (c : Nat) (hc : 0 < c) (hl : c ≤ l.length) :
    ∃ b off, a = some ⟨b, off, none⟩ ∧ ∀ j v, (vals (l.take c))[j]? = some v → w'.cell? ((⟨b, off, none⟩ : Addr).add j) = some v := by
  obtain ⟨b, off, ha, _⟩ := h.1.2 0 (by omega)
  refine ⟨b, off, ha, fun j v hv => ?_⟩
  have hj : j < c ∧ j < l.length := by
    have := (List.getElem?_eq_some_iff.1 hv).1
    rw [vals_length, List.length_take] at this
    omega
  obtain ⟨b', off', ha', hcc⟩ := h.1.2 j hj.2
  rw [ha] at ha'
  injection ha' with ha'
  injection ha' with e1 e2
  subst e1 e2
  have hb := h.2 _ (by omega) ha
  rw [Addr.add_lit, hu.gb.cell hcc (by intro e; injection e with e; exact hb.2 e)]
  rw [← hv]
  simp [vals, hj]
theorem Sr.drop {w : World} {g : Nat} {b off : Nat} {l : List ShM.B8} (h : Sr w g (some ⟨b, off, none⟩) l) (c : Nat) : Sr w g (some ⟨b, off + c, none⟩) (l.drop c) := by
  refine ⟨⟨by have := h.1.1; rw [List.length_drop]; omega, fun i hi => ?_⟩, fun x h0 e => ?_⟩
  · rw [List.length_drop] at hi
    obtain ⟨b', off', e, hc⟩ := h.1.2 (c + i) (by omega)
    injection e with e
    injection e with e1 e2
    subst e1 e2
    refine ⟨b, off + c, rfl, ?_⟩
    rw [Nat.add_assoc, hc]
    simp [List.getD]
  · injection e with e
    subst e
    rw [List.length_drop] at h0
    exact h.2 ⟨b, off, none⟩ (by omega) rfl
theorem Sr.nil {w : World} {g : Nat} (a : Option Addr) : Sr w g a [] := ⟨⟨by simp [maxLen], fun i hi => absurd hi (by simp)⟩, fun x h0 => absurd h0 (by simp)⟩

def d64 (f : Nat) : Nat := 64 - f
/-- A block's rest behind bytes that were laid in. -/
def lay (r : List ShM.B8) (f : Nat) (q : List ShM.B8) : List ShM.B8 := r.take f ++ (q ++ r.drop (f + q.length))
theorem lay_len (r : List ShM.B8) (f : Nat) (q : List ShM.B8) (h : f + q.length ≤ r.length) : (lay r f q).length = r.length := by
  unfold lay
  rw [List.length_append, List.length_append, List.length_take, List.length_drop]
  omega
theorem lay_at (r : List ShM.B8) (f : Nat) (q : List ShM.B8) (h : f + q.length ≤ r.length) (i : Nat) : (lay r f q)[i]? = if i < f then r[i]? else if i < f + q.length then q[i - f]? else r[i]? := by
  unfold lay
  have ht : (r.take f).length = f := by rw [List.length_take]; omega
  by_cases h1 : i < f
  · rw [if_pos h1, List.getElem?_append_left (by omega), List.getElem?_take_of_lt h1]
  · rw [if_neg h1, List.getElem?_append_right (by omega), ht]
    by_cases h2 : i < f + q.length
    · rw [if_pos h2, List.getElem?_append_left (by omega)]
    · rw [if_neg h2, List.getElem?_append_right (by omega), List.getElem?_drop]
      congr 1
      omega
theorem Bk.lay {w : World} {g : Nat} {t : St} (h : Bk w g t) (q : List ShM.B8) (hr : t.rest.length = 64) (hq : t.filled + q.length ≤ 64) :
    Bk (w.setCells g (8 + t.filled) (vals q)) g ⟨t.s, ShJ.lay t.rest t.filled q, t.filled, t.len⟩ := by
  have hv := vals_length q
  have hb := below_setCells (B := 0) (Nat.zero_le g) (vals q) (8 + t.filled) w (Below.refl 0 w)
  have hout : ∀ i, (i < 8 + t.filled ∨ 8 + t.filled + q.length ≤ i) → (w.setCells g (8 + t.filled) (vals q)).cell? ⟨g, i, none⟩ = w.cell? ⟨g, i, none⟩ := fun i hi =>
    World.cell?_setCells_out g (vals q) _ w ⟨g, i, none⟩ (fun _ _ => by rw [hv]; exact hi)
  refine ⟨Nat.lt_of_lt_of_le h.lt hb.size, fun j v hj => ?_, fun j v hj => ?_, (hout 72 (by omega)).trans h.fl, (hout 73 (by omega)).trans h.len, World.there_setCells h.there g _ _⟩
  · have h8 : j < 8 := (List.getElem?_eq_some_iff.1 hj).1
    rw [Nat.zero_add, hout j (by omega)]
    have := h.s j v hj
    rwa [Nat.zero_add] at this
  · have h64 : j < 64 := by
      have := (List.getElem?_eq_some_iff.1 hj).1
      rwa [Array.length_toList, bc_size] at this
    rw [Array.getElem?_toList, bc_at _ j h64] at hj
    by_cases h1 : t.filled ≤ j ∧ j < t.filled + q.length
    · have e : (ShJ.lay t.rest t.filled q).getD j 0 = q.getD (j - t.filled) 0 := by
        rw [List.getD_eq_getElem?_getD, lay_at _ _ _ (by omega), if_neg (by omega), if_pos h1.2, List.getD_eq_getElem?_getD]
      rw [e] at hj
      have hs := World.cell?_setCells_in g (vals q) (8 + t.filled) w (fun i hi => by
        have := (h.there (8 + t.filled + i) (by rw [hv] at hi; omega)).1
        rwa [Nat.zero_add] at this) (j - t.filled) (by rw [hv]; omega)
      rw [show 8 + t.filled + (j - t.filled) = 8 + j by omega] at hs
      rw [hs, ← hj]
      simp [vals, List.getD_eq_getElem?_getD, show j - t.filled < q.length by omega]
    · have e : (ShJ.lay t.rest t.filled q).getD j 0 = t.rest.getD j 0 := by
        rw [List.getD_eq_getElem?_getD, lay_at _ _ _ (by omega), List.getD_eq_getElem?_getD]
        by_cases h2 : j < t.filled
        · rw [if_pos h2]
        · rw [if_neg h2, if_neg (by omega)]
      rw [e] at hj
      rw [hout (8 + j) (by omega)]
      exact h.rest j v (by rw [Array.getElem?_toList, bc_at _ j h64]; exact hj)
theorem Bk.fill {w : World} {g : Nat} {t : St} (h : Bk w g t) (f : Nat) : Bk (w.setCell ⟨g, 72, none⟩ (.int .i64 (f : Int))) g ⟨t.s, t.rest, f, t.len⟩ := by
  have hb := below_setCells (B := 0) (Nat.zero_le g) [Value.int .i64 (f : Int)] 72 w (Below.refl 0 w)
  have hne : ∀ i, i ≠ 72 → (w.setCell ⟨g, 72, none⟩ (.int .i64 (f : Int))).cell? ⟨g, i, none⟩ = w.cell? ⟨g, i, none⟩ := fun i hi =>
    World.cell?_setCell_other w ⟨g, 72, none⟩ ⟨g, i, none⟩ _ (by intro e2; injection e2 with _ e3; omega)
  refine ⟨Nat.lt_of_lt_of_le h.lt hb.size, fun j v hj => ?_, fun j v hj => ?_, World.cell?_setCell_same _ _ _ h.fl, (hne 73 (by omega)).trans h.len, World.there_setCells h.there g 72 [_]⟩
  · have h8 : j < 8 := (List.getElem?_eq_some_iff.1 hj).1
    exact (hne (0 + j) (by omega)).trans (h.s j v hj)
  · have h64 : j < 64 := by
      have := (List.getElem?_eq_some_iff.1 hj).1
      rwa [Array.length_toList, bc_size] at this
    exact (hne (8 + j) (by omega)).trans (h.rest j v hj)
theorem Bk.length {w : World} {g : Nat} {t : St} (h : Bk w g t) (L : Nat) : Bk (w.setCell ⟨g, 73, none⟩ (.int .u64 (L : Int))) g ⟨t.s, t.rest, t.filled, L⟩ := by
  have hb := below_setCells (B := 0) (Nat.zero_le g) [Value.int .u64 (L : Int)] 73 w (Below.refl 0 w)
  have hne : ∀ i, i ≠ 73 → (w.setCell ⟨g, 73, none⟩ (.int .u64 (L : Int))).cell? ⟨g, i, none⟩ = w.cell? ⟨g, i, none⟩ := fun i hi =>
    World.cell?_setCell_other w ⟨g, 73, none⟩ ⟨g, i, none⟩ _ (by intro e2; injection e2 with _ e3; omega)
  refine ⟨Nat.lt_of_lt_of_le h.lt hb.size, fun j v hj => ?_, fun j v hj => ?_, (hne 72 (by omega)).trans h.fl, World.cell?_setCell_same _ _ _ h.len, World.there_setCells h.there g 73 [_]⟩
  · have h8 : j < 8 := (List.getElem?_eq_some_iff.1 hj).1
    exact (hne (0 + j) (by omega)).trans (h.s j v hj)
  · have h64 : j < 64 := by
      have := (List.getElem?_eq_some_iff.1 hj).1
      rwa [Array.length_toList, bc_size] at this
    exact (hne (8 + j) (by omega)).trans (h.rest j v hj)

/-- A digest behind the first so many of the bytes that it takes in. -/
structure Inv (w0 w : World) (g : Nat) (m l : List ShM.B8) (k : Nat) (s : S8) (r : List ShM.B8) (f : Nat) : Prop where
  is : Is ⟨s, r, f, (m ++ l.take k).length % 2 ^ 64⟩ (m ++ l.take k)
  bk : Bk w g ⟨s, r, f, (m ++ l).length % 2 ^ 64⟩
  up : Upd w0 w g
theorem Inv.flt {w0 w : World} {g : Nat} {m l : List ShM.B8} {k : Nat} {s : S8} {r : List ShM.B8} {f : Nat} (h : Inv w0 w g m l k s r f) : f < 64 ∧ r.length = 64 := by
  have h1 : f = _ := h.is.fl
  exact ⟨by omega, h.is.rl⟩
theorem take_more (l : List ShM.B8) (k c : Nat) : l.take k ++ (l.drop k).take c = l.take (k + c) := by rw [List.take_add]
/-- Bytes were laid in, fewer than fill the rest. -/
theorem Inv.part {w0 w w' : World} {g : Nat} {m l : List ShM.B8} {k : Nat} {s : S8} {r : List ShM.B8} {f : Nat} (h : Inv w0 w g m l k s r f) (c : Nat) (hc : k + c ≤ l.length) (hf : f + c < 64)
    (hb : Bk w' g ⟨s, lay r f ((l.drop k).take c), f + c, (m ++ l).length % 2 ^ 64⟩) (hu : Upd w0 w' g) : Inv w0 w' g m l (k + c) s (lay r f ((l.drop k).take c)) (f + c) := by
  have hq : ((l.drop k).take c).length = c := by rw [List.length_take, List.length_drop]; omega
  have hrl := h.flt
  refine ⟨?_, hb, hu⟩
  have := h.is.part ((l.drop k).take c) (lay r f ((l.drop k).take c)) c hq hf (by rw [lay_len _ _ _ (by omega)]; exact h.is.rl) (by
    show (lay r f _).take (f + c) = r.take f ++ _
    unfold lay
    rw [← List.append_assoc, List.take_append_of_le_length (by rw [List.length_append, List.length_take]; omega), List.take_of_length_le (by rw [List.length_append, List.length_take]; omega)]) _ rfl
  rw [List.append_assoc, take_more] at this
  exact this
/-- Bytes were laid in that fill the rest, and it was taken in. -/
theorem Inv.full {w0 w w' : World} {g : Nat} {m l : List ShM.B8} {k : Nat} {s : S8} {r : List ShM.B8} {f : Nat} (h : Inv w0 w g m l k s r f) (c : Nat) (hc : k + c ≤ l.length) (hf : f + c = 64)
    (hb : Bk w' g ⟨mix s (lay r f ((l.drop k).take c)), lay r f ((l.drop k).take c), 0, (m ++ l).length % 2 ^ 64⟩) (hu : Upd w0 w' g) : Inv w0 w' g m l (k + c) (mix s (lay r f ((l.drop k).take c))) (lay r f ((l.drop k).take c)) 0 := by
  have hq : ((l.drop k).take c).length = c := by rw [List.length_take, List.length_drop]; omega
  have hrl := h.flt
  refine ⟨?_, hb, hu⟩
  have := h.is.full ((l.drop k).take c) (lay r f ((l.drop k).take c)) c hq hf (by
    show lay r f _ = r.take f ++ _
    unfold lay
    rw [show r.drop (f + (List.take c (List.drop k l)).length) = [] from List.drop_eq_nil_of_le (by omega), List.append_nil]) _ rfl
  rw [List.append_assoc, take_more] at this
  exact this

theorem stepCopy {ops : Array Oper} {o : Oper} {a : Act} {w : World} {K : Act → World → Prop} {Q : Exit → Act → World → Prop} {E : Prop} (hgd : o.guard = none) (d s : Operand)
    (ho : o.op = .call { callee := .builtin .copy, args := #[d, s], argTypes := #[22, 22] }) (b off dLen dCap : Nat) (ad : Addr) (sLen sCap : Nat) (hd : a.eval d = .slice (some ⟨b, off, none⟩) dLen dCap) (hs : a.eval s = .slice (some ad) sLen sCap)
    (q : List ShM.B8) (n : Nat) (hqn : q.length = n) (hn : n = Nat.min sLen dLen) (hsrc : ∀ j v, (vals q)[j]? = some v → w.cell? (ad.add j) = some v) (ht : w.there b off n)
    (h : K (a.put o.dst (.int .i64 (n : Int))) (w.setCells b off (vals q))) : if Region.wanted o (yielded ops a.tmps) = true then o.wp Tryd.prog a w K Q else E := by
  have hw : Region.wanted o (yielded ops a.tmps) = true := by simp [Region.wanted, hgd]
  rw [if_pos hw]
  have hv := vals_length q
  have hrun := run_copy_cells (P := Tryd.prog) w 22 22 o.type 5 b off dLen dCap ad sLen sCap (vals q) Tryd.underlying22 s5 (by rw [hv, hqn, hn]) hsrc (fun j hj => (ht j (by omega)).1) (fun j hj => (ht j (by omega)).2) (vals_one q)
  rw [hv, hqn] at hrun
  unfold Oper.wp
  simp [execOp, ho, resolve, invoke, builtin, hd, hs, hrun, Result.andThen]
  exact h

set_option maxRecDepth 100000 in
theorem addW (g : Nat) (t : St) (m l : List ShM.B8) (a : Option Addr) (n c : Nat) (w : World) (hl : Laid w) (hg : 2 ≤ g) (h : Bk w g t) (hi : Is t m) (hn : l.length = n) (hs : Sr w g a l) (hnc : n ≤ c) (hcm : c ≤ maxLen) :
    Calls Tryd.prog 25 #[.pointer (some ⟨g, 0, none⟩), .slice a n c] w fun e w' => e = .returned (.tuple #[]) ∧ (∃ t', Is t' (m ++ l) ∧ Bk w' g t') ∧ Upd w w' g := by
  have hmax : n ≤ 9223372036854775807 := by simp only [maxLen] at hcm; omega
  have c73 := h.len
  have z73 : w.frozen? ⟨g, 73, none⟩ = false := by have := (h.there 73 (by omega)).2; rwa [Nat.zero_add] at this
  obtain ⟨L, hL⟩ : ∃ L, L = (m ++ l).length % 2 ^ 64 := ⟨_, rfl⟩
  have hLe : IntKind.u64.wrap ((t.len : Int) + (n : Int)) = (L : Int) := by
    have e := hi.len
    rw [List.length_append, hn] at hL
    rw [IntKind.wrap_u64]
    omega
  have q1 : Hid (Inv w (w.setCell ⟨g, 73, none⟩ (.int .u64 (L : Int))) g m l 0 t.s t.rest t.filled) := Lib.hid ⟨by
    have e := hi.len
    rw [List.take_zero, List.append_nil, ← e]
    exact hi, by rw [← hL]; exact Bk.length h L, (Upd.refl w g).setCell 73 _ (by omega)⟩
  have hs0 : Hid (Sr w g a (l.drop 0)) := Lib.hid hs
  have HLD : Hid (∀ w', Upd w w' g → Laid w') := Lib.hid fun w' hu => Laid.up hl hu hg
  have HMX : Hid (∀ t w', Upd w w' g → Bk w' g t → Calls Tryd.prog 30 #[.pointer (some ⟨g, 0, none⟩)] w' fun e w'' => e = .returned (.tuple #[]) ∧ Bk w'' g ⟨mix t.s t.rest, t.rest, t.filled, t.len⟩ ∧ Upd w' w'' g) := Lib.hid fun t w' hu hb => mixW g t w' (HLD.out w' hu) hb
  have hn0 := Lib.hid hn
  replace hL := Lib.hid hL
  clear hl h hi hn hs HLD
  go_enter Tryd.func25, Tryd.ntmps25
  go_wp2_with fail
  clear c73 z73 hLe
  generalize w.setCell ⟨g, 73, none⟩ (.int .u64 (L : Int)) = w1 at q1 ⊢
  go_loopw [1, 4] (fun p _ wr => ∃ (k : Nat) (s : S8) (r : List ShM.B8) (f : Nat) (a' : Option Addr) (c' : Nat), k ≤ n ∧ p = .slice a' (n - k) c' ∧ n - k ≤ c' ∧ c' ≤ maxLen ∧ Sr w g a' (l.drop k) ∧ Inv w wr g m l k s r f) (fun p _ _ => match p with | .slice _ x _ => x | _ => 0)
  case atStart => exact ⟨0, t.s, t.rest, t.filled, a, c, by omega, rfl, by omega, hcm, hs0.out, q1.out⟩
  case round =>
    clear hs0 q1
    obtain ⟨k, s, r, f, a', c', hk, rfl, hkc, hcm', hS, hI⟩ := hrel
    by_cases hlt : k < n
    · obtain ⟨q, hq⟩ : ∃ q, q = n - k := ⟨_, rfl⟩
      rw [← hq] at hkc ⊢
      have hq0 : (0 : Int) < (q : Int) := by omega
      have hfl := hI.flt
      obtain ⟨d, hd⟩ : ∃ d, d = Nat.min q (64 - f) := ⟨_, rfl⟩
      have hd0 : 0 < d ∧ d ≤ q ∧ f + d ≤ 64 := by rw [hd]; simp only [Nat.min_def]; split <;> omega
      have hld : (l.drop k).length = q := by rw [List.length_drop, hn0.out, hq]
      obtain ⟨Q, hQ⟩ : ∃ Q, Q = (l.drop k).take d := ⟨_, rfl⟩
      have hQl : Q.length = d := by rw [hQ, List.length_take, hld]; omega
      have hpart : Hid (∀ w', f + d < 64 → Bk w' g ⟨s, ShJ.lay r f Q, f + d, (m ++ l).length % 2 ^ 64⟩ → Upd w w' g → Inv w w' g m l (k + d) s (ShJ.lay r f Q) (f + d)) := Lib.hid fun w' hf hb hu => by
        have := hI.part (w' := w') d (by have := hn0.out; omega) hf (by rw [← hQ]; exact hb) hu
        rwa [← hQ] at this
      have hfull : Hid (∀ w', f + d = 64 → Bk w' g ⟨mix s (ShJ.lay r f Q), ShJ.lay r f Q, 0, (m ++ l).length % 2 ^ 64⟩ → Upd w w' g → Inv w w' g m l (k + d) (mix s (ShJ.lay r f Q)) (ShJ.lay r f Q) 0) := Lib.hid fun w' hf hb hu => by
        have := hI.full (w' := w') d (by have := hn0.out; omega) hf (by rw [← hQ]; exact hb) hu
        rwa [← hQ] at this
      obtain ⟨ab, ao, rfl, hsrc⟩ := hS.cells hI.up.drew d hd0.1 (by omega)
      rw [← hQ] at hsrc
      replace hsrc := Lib.hid hsrc
      have hS2 : Hid (Sr w g (if c' = d then some ⟨ab, ao, none⟩ else some ⟨ab, ao + d, none⟩) (l.drop (k + d))) := Lib.hid (by
        split
        · rw [List.drop_eq_nil_of_le (by have := hn0.out; omega)]
          exact Sr.nil _
        · have := hS.drop d
          rwa [List.drop_drop] at this)
      have hbk := Lib.hid hI.bk
      have hup := Lib.hid hI.up
      have hbk1 : Hid (Bk (wr.drew.setCells g (8 + f) (vals Q)) g ⟨s, ShJ.lay r f Q, f, (m ++ l).length % 2 ^ 64⟩) := Lib.hid (Bk.lay (w := wr.drew) (t := ⟨s, r, f, (m ++ l).length % 2 ^ 64⟩) ⟨hI.bk.lt, hI.bk.s, hI.bk.rest, hI.bk.fl, hI.bk.len, hI.bk.there⟩ Q hfl.2 (by rw [hQl]; exact hd0.2.2))
      have hup1 : Hid (Upd w (wr.drew.setCells g (8 + f) (vals Q)) g) := Lib.hid (hI.up.drew.setCells _ _ (by rw [vals_length, hQl]; omega))
      have hth : Hid (wr.drew.there g (8 + f) d) := Lib.hid fun j hj => by
        have := hI.bk.there (8 + f + j) (by omega)
        rwa [Nat.zero_add] at this
      have c72 : wr.drew.cell? ⟨g, 72, none⟩ = some (.int .i64 (f : Int)) := hI.bk.fl
      have hf0 : (0 : Int) ≤ (f : Int) := by omega
      have hf1 : (f : Int) ≤ 64 := by omega
      have hf2 : ¬ 64 = f := by omega
      have hds : (ShJ.d64 f) = 64 - f := rfl
      replace hQl := Lib.hid hQl
      replace hQ := Lib.hid hQ
      replace hd := Lib.hid hd
      replace hld := Lib.hid hld
      replace hq := Lib.hid hq
      clear hI hS
      go_wp2_with fail
      refine wp_region_held_drew (S := fun w' => w'.cell? ⟨g, 72, none⟩ = some (.int .i64 (f : Int))) (by kernel_rfl) c72 (fun hS => ?_)
      try simp only [List.size_toArray, List.length_cons, List.length_nil, Nat.reduceAdd]
      refine wpAnyH_take (i := 0) (v := ?_) (by simp only [List.getElem?_toArray, List.getElem?_cons_zero]; rfl) (by kernel_rfl) (by kernel_rfl) (by kernel_rfl) (by exact fun _ _ _ h => h) (Or.inl ⟨by rfl, ?_⟩) hS ?_
      rotate_left
      · intro w hSw
        go_simp
        try with_reducible rfl
      try simp only [Act.put, List.setIfInBounds_toArray, List.set_cons_zero, List.set_cons_succ]
      refine wpAnyH_take (i := 1) (v := ?_) (by simp only [List.getElem?_toArray, List.getElem?_cons_succ, List.getElem?_cons_zero]; rfl) (by kernel_rfl) (by kernel_rfl) (by kernel_rfl) (by exact fun _ _ _ h => h) (Or.inl ⟨by rfl, ?_⟩) hS ?_
      rotate_left
      · intro w hSw
        go_simp
        try with_reducible rfl
      try simp only [Act.put, List.setIfInBounds_toArray, List.set_cons_zero, List.set_cons_succ]
      refine wpAnyH_take (i := 2) (v := ?_) (by simp only [List.getElem?_toArray, List.getElem?_cons_succ, List.getElem?_cons_zero]; rfl) (by kernel_rfl) (by kernel_rfl) (by kernel_rfl) (by exact fun _ _ _ h => h) (Or.inl ⟨by rfl, ?_⟩) hS ?_
      rotate_left
      · intro w hSw
        go_simp
        try with_reducible rfl
      try simp only [Act.put, List.setIfInBounds_toArray, List.set_cons_zero, List.set_cons_succ]
      refine wpAnyH_take (i := 3) (v := ?_) (by simp only [List.getElem?_toArray, List.getElem?_cons_succ, List.getElem?_cons_zero]; rfl) (by kernel_rfl) (by kernel_rfl) (by kernel_rfl) (by exact fun _ _ _ h => h) (Or.inl ⟨by rfl, ?_⟩) hS ?_
      rotate_left
      · intro w hSw
        go_simp
        try with_reducible rfl
      try simp only [Act.put, List.setIfInBounds_toArray, List.set_cons_zero, List.set_cons_succ]
      refine wpAnyH_take (i := 4) (v := ?_) (by simp only [List.getElem?_toArray, List.getElem?_cons_succ, List.getElem?_cons_zero]; rfl) (by kernel_rfl) (by kernel_rfl) (by kernel_rfl) (by exact fun _ _ _ h => h) (Or.inl ⟨by rfl, ?_⟩) hS ?_
      rotate_left
      · intro w hSw
        go_simp
        try with_reducible rfl
      try simp only [Act.put, List.setIfInBounds_toArray, List.set_cons_zero, List.set_cons_succ]
      refine wpAnyH_take (i := 5) (v := ?_) (by simp only [List.getElem?_toArray, List.getElem?_cons_succ, List.getElem?_cons_zero]; rfl) (by kernel_rfl) (by kernel_rfl) (by kernel_rfl) (by exact fun _ _ _ h => h) (Or.inl ⟨by rfl, ?_⟩) hS ?_
      rotate_left
      · intro w hSw
        go_simp
        try with_reducible rfl
      try simp only [Act.put, List.setIfInBounds_toArray, List.set_cons_zero, List.set_cons_succ]
      refine wpAnyH_take (i := 6) (v := ?_) (by simp only [List.getElem?_toArray, List.getElem?_cons_succ, List.getElem?_cons_zero]; rfl) (by kernel_rfl) (by kernel_rfl) (by kernel_rfl) (by exact fun _ _ _ h => h) (Or.inl ⟨by rfl, ?_⟩) hS ?_
      rotate_left
      · intro w hSw
        go_simp
        try with_reducible rfl
      try simp only [Act.put, List.setIfInBounds_toArray, List.set_cons_zero, List.set_cons_succ]
      refine wpAnyH_take (i := 7) (v := ?_) (by simp only [List.getElem?_toArray, List.getElem?_cons_succ, List.getElem?_cons_zero]; rfl) (by kernel_rfl) (by kernel_rfl) (by kernel_rfl) (by exact fun _ _ _ h => h) (Or.inl ⟨by rfl, ?_⟩) hS ?_
      rotate_left
      · intro w hSw
        go_simp
        try with_reducible rfl
      try simp only [Act.put, List.setIfInBounds_toArray, List.set_cons_zero, List.set_cons_succ]
      refine wpAnyH_take (i := 8) (v := ?_) (by simp only [List.getElem?_toArray, List.getElem?_cons_succ, List.getElem?_cons_zero]; rfl) (by kernel_rfl) (by kernel_rfl) (by kernel_rfl) (by exact fun _ _ _ h => h) (Or.inl ⟨by rfl, ?_⟩) hS ?_
      rotate_left
      · intro w hSw
        go_simp
        try with_reducible rfl
      try simp only [Act.put, List.setIfInBounds_toArray, List.set_cons_zero, List.set_cons_succ]
      refine wpAnyH_ready (rs := [9]) (by kernel_rfl) (by simp) ?_
      refine AllReadyH.cons (by simp only [List.getElem?_toArray, List.getElem?_cons_succ, List.getElem?_cons_zero]; rfl) (fun K hK => ?_) AllReadyH.nil
      refine stepCopy rfl (.tmp 25) (.tmp 26) rfl g (8 + f) (64 - f) (64 - f) ⟨ab, ao, none⟩ q c' rfl rfl Q d hQl.out hd.out hsrc.out hth.out ?_
      generalize wr.drew.setCells g (8 + f) (vals Q) = w2 at hbk1 hup1 ⊢
      have hbk2 := Lib.hid (Bk.fill hbk1.out (f + d))
      have hup2 := Lib.hid (hup1.out.setCell 72 (.int .i64 ((f + d : Nat) : Int)) (by omega))
      clear c72 hS hsrc hth hbk hup
      have c72 : w2.cell? ⟨g, 72, none⟩ = some (.int .i64 (f : Int)) := hbk1.out.fl
      have z72 : w2.frozen? ⟨g, 72, none⟩ = false := by have := (hbk1.out.there 72 (by omega)).2; rwa [Nat.zero_add] at this
      refine hK.out _ _ c72 (fun hS => ?_)
      clear hK K
      try simp only [Act.put, List.setIfInBounds_toArray, List.set_cons_zero, List.set_cons_succ]
      refine wpAnyH_take (i := 10) (v := ?_) (by simp only [List.getElem?_toArray, List.getElem?_cons_succ, List.getElem?_cons_zero]; rfl) (by kernel_rfl) (by kernel_rfl) (by kernel_rfl) (by exact fun _ _ _ h => h) (Or.inl ⟨by rfl, ?_⟩) hS ?_
      rotate_left
      · intro w hSw
        go_simp
        try with_reducible rfl
      try simp only [Act.put, List.setIfInBounds_toArray, List.set_cons_zero, List.set_cons_succ]
      refine wpAnyH_done (by kernel_rfl) ?_ _
      have hsum : IntKind.i64.wrap ((f : Int) + (d : Int)) = ((f + d : Nat) : Int) := by rw [IntKind.wrap_i64]; omega
      have hdq : (d : Int) ≤ (q : Int) := by omega
      have hd00 : (0 : Int) ≤ (d : Int) := by omega
      clear hbk1 hup1 hf2 hds
      have hmeas : q - d < q ∧ q - d = n - (k + d) ∧ k + d ≤ n ∧ n - (k + d) ≤ c' - d ∧ c' - d ≤ maxLen := by have := hq.out; omega
      replace hmeas := Lib.hid hmeas
      by_cases hend : f + d = 64
      · have he : ((f + d : Nat) : Int) = 64 := by omega
        rw [he] at hbk2 hup2
        go_wp2_with fail
        all_goals
          refine (HMX.out _ _ hup2.out hbk2.out).mono ?_
          rintro e w3 ⟨rfl, b3, u3⟩
          have c72 : w3.cell? ⟨g, 72, none⟩ = some (.int .i64 ((f + d : Nat) : Int)) := b3.fl
          have z72 : w3.frozen? ⟨g, 72, none⟩ = false := by have := (b3.there 72 (by omega)).2; rwa [Nat.zero_add] at this
          have hE := Lib.hid (hfull.out (w3.setCell ⟨g, 72, none⟩ (.int .i64 0)) hend (Bk.fill b3 0) ((hup2.out.trans u3).setCell 72 _ (by omega)))
          clear b3 u3 hbk2 hup2
          go_wp2_with fail
          go_roundw
          case rel =>
            exact ⟨k + d, _, _, _, _, _, hmeas.out.2.2.1, by rw [hmeas.out.2.1], by have := hmeas.out; omega, by have := hmeas.out; omega, by
              have := hS2.out
              first
                | exact this
                | (split at this
                   · first | exact this | (exfalso; contradiction)
                   · first | exact this | (exfalso; contradiction)), hE.out⟩
          case measure => exact hmeas.out.1
      · have he : ¬ ((f + d : Nat) : Int) = 64 := by omega
        have hE := Lib.hid (hpart.out _ (by omega) hbk2.out hup2.out)
        clear hbk2 hup2
        go_wp2_with fail
        all_goals
          go_roundw
          case rel =>
            exact ⟨k + d, _, _, _, _, _, hmeas.out.2.2.1, by rw [hmeas.out.2.1], by have := hmeas.out; omega, by have := hmeas.out; omega, by
              have := hS2.out
              first
                | exact this
                | (split at this
                   · first | exact this | (exfalso; contradiction)
                   · first | exact this | (exfalso; contradiction)), hE.out⟩
          case measure => exact hmeas.out.1
    · obtain rfl : n = k := by omega
      have hz : n - n = 0 := Nat.sub_self n
      rw [hz]
      have hE := Lib.hid hI
      clear hI hS
      go_wp2
      go_end0
      exact ⟨rfl, ⟨_, by have := hE.out.is; rw [← hn0.out, List.take_length] at this; exact this, hE.out.bk⟩, hE.out.up⟩
end Go.Proofs.YtlfohiejlajmaaaDoor.ShJ
