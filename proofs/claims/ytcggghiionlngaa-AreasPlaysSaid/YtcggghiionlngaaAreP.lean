/- A shape, a setting and a slice of settings that came in, opened. -/
import Derived.Test.YtcggghiionlngaaAreO
import Derived.Deep.Slices
import Derived.Deep.Fields
import Derived.ChangeSame
import Derived.Lib.SmallJoins
namespace Go.Proofs.Ytcggghiionlngaa.AreP
open Go.ChangeShapes Go.WideShapes Go.ChangeAt Go.RowKit Go.Joins Go.Deep
open AreA
set_option linter.unusedVariables false
set_option maxHeartbeats 1000000
theorem okWide_arr {P : Program} {w : World} {r : Reach} {base n : Nat} {t e : TypeId} {v : Value} (ht : P.underlying t = some (.array n e)) (h : Value.okWide P w r base t v) : ∃ cs, v = .agg cs ∧ cs.size = P.cellsOf t := by
  simp only [Value.okWide, ht] at h
  obtain ⟨cs, h1, h2, _⟩ := h
  exact ⟨cs, h1, h2⟩
theorem cells23 : Try.prog.cellsOf 23 = 9 := by kernel_rfl
theorem cells24 : Try.prog.cellsOf 24 = 4 := by kernel_rfl
theorem cells3 : Try.prog.cellsOf 3 = 1 := by kernel_rfl

theorem array9 {α : Type} {cs : Array α} (h : cs.size = 9) : ∃ c0 c1 c2 c3 c4 c5 c6 c7 c8, cs = #[c0, c1, c2, c3, c4, c5, c6, c7, c8] := by
  obtain ⟨l⟩ := cs
  match l, h with
  | [c0, c1, c2, c3, c4, c5, c6, c7, c8], _ => exact ⟨c0, c1, c2, c3, c4, c5, c6, c7, c8, rfl⟩

set_option maxRecDepth 100000 in
theorem open23 {H : Type} {enc : TypeId × Value → H} {w : World} {base b0 : Nat} {r : Reach} {spare : Nat → Bool} {held : Bool} {v : Value} {d : DataW H} {p : List MemPlace}
    (hv : Value.okWide Try.prog w r b0 23 v) (h : DataW.Trod enc Try.prog w base spare held 23 v d p) : ∃ b p s u o r g k x : Int, v = .agg #[.int .i64 b, .int .i64 p, .int .i64 s, .int .i64 u, .int .i64 o, .int .i64 r, .int .i64 g, .int .i64 k, .int .i64 x] := by
  obtain ⟨cs, rfl, hsz⟩ := okWide_struct Try.underlying23 hv
  rw [cells23] at hsz
  obtain ⟨fuel, hf⟩ := h
  obtain ⟨xs, n, _, hx, hl, hlen, hg⟩ := DataW.trod_struct Try.underlying23 hf
  obtain ⟨c0, c1, c2, c3, c4, c5, c6, c7, c8, rfl⟩ := array9 hsz
  have key : ∀ i (hi : i < 9), ∃ n : Int, #[c0, c1, c2, c3, c4, c5, c6, c7, c8][i] = .int .i64 n := by
    intro i hi
    obtain ⟨f, hf1, ho, hty⟩ : ∃ f : Field, (Try.prog.fieldsOf 23)[i]? = some f ∧ f.offset = i ∧ f.type = 3 := by
      have : ∀ i : Fin 9, ∃ f : Field, (Try.prog.fieldsOf 23)[i.val]? = some f ∧ f.offset = i.val ∧ f.type = 3 := by
        intro i
        match i with
        | 0 | 1 | 2 | 3 | 4 | 5 | 6 | 7 | 8 => exact ⟨_, by simp [Program.fieldsOf, Try.underlying23]; rfl, rfl, rfl⟩
      exact this ⟨i, hi⟩
    have hx := hg i f (by simpa [Program.fieldsOf, Try.underlying23] using hf1)
    rw [hty, ho, cells3] at hx
    have hc : ((Value.agg #[c0, c1, c2, c3, c4, c5, c6, c7, c8]).cells.toList.drop i).take 1 = [#[c0, c1, c2, c3, c4, c5, c6, c7, c8][i]] := by
      show (#[c0, c1, c2, c3, c4, c5, c6, c7, c8].toList.drop i).take 1 = _
      rw [List.drop_eq_getElem_cons (by simpa using hi)]
      simp
    rw [hc] at hx
    have hx' : DataW.trod enc Try.prog w base spare held n 3 [#[c0, c1, c2, c3, c4, c5, c6, c7, c8][i]] = some (xs[i]'(by rw [hlen]; exact hi)) := by
      rw [← List.getElem?_eq_getElem]; exact hx
    obtain ⟨n, e1, _, hw⟩ := DataW.trod_int Try.underlying3 hx'
    exact ⟨n, by simpa using e1⟩
  obtain ⟨z0, h0⟩ := key 0 (by omega)
  obtain ⟨z1, h1⟩ := key 1 (by omega)
  obtain ⟨z2, h2⟩ := key 2 (by omega)
  obtain ⟨z3, h3⟩ := key 3 (by omega)
  obtain ⟨z4, h4⟩ := key 4 (by omega)
  obtain ⟨z5, h5⟩ := key 5 (by omega)
  obtain ⟨z6, h6⟩ := key 6 (by omega)
  obtain ⟨z7, h7⟩ := key 7 (by omega)
  obtain ⟨z8, h8⟩ := key 8 (by omega)
  simp at h0 h1 h2 h3 h4 h5 h6 h7 h8
  subst h0 h1 h2 h3 h4 h5 h6 h7 h8
  exact ⟨z0, z1, z2, z3, z4, z5, z6, z7, z8, rfl⟩

def Fine (s : Stt) : Prop := (Lit.int .i64 s.z0).wf = true ∧ (Lit.int .i64 s.z1).wf = true ∧ (Lit.int .i64 s.z2).wf = true ∧ (Lit.int .i64 s.z3).wf = true ∧ (Lit.int .u8 s.e).wf = true
theorem cells26 : Try.prog.cellsOf 26 = 6 := by kernel_rfl
theorem cells5 : Try.prog.cellsOf 5 = 1 := by kernel_rfl
theorem cells4 : Try.prog.cellsOf 4 = 1 := by kernel_rfl

section
variable {H : Type} {enc : TypeId × Value → H} {w : World} {base : Nat} {spare : Nat → Bool} {held : Bool}
theorem trod24 {c0 c1 c2 c3 : Value} {fuel : Nat} {x : DataW H × List MemPlace} (hf : DataW.trod enc Try.prog w base spare held fuel 24 [c0, c1, c2, c3] = some x) :
    ∃ z0 z1 z2 z3 : Int, c0 = .int .i64 z0 ∧ c1 = .int .i64 z1 ∧ c2 = .int .i64 z2 ∧ c3 = .int .i64 z3 ∧ (Lit.int .i64 z0).wf = true ∧ (Lit.int .i64 z1).wf = true ∧ (Lit.int .i64 z2).wf = true ∧ (Lit.int .i64 z3).wf = true := by
  obtain ⟨xs, m, _, _, _, hxl, hg⟩ := DataW.trod_array Try.underlying24 hf
  have key : ∀ i (hi : i < 4), ∃ n : Int, [c0, c1, c2, c3][i] = .int .i64 n ∧ (Lit.int .i64 n).wf = true := by
    intro i hi
    have hx := hg i hi
    rw [cells3, Nat.mul_one] at hx
    have hc : ([c0, c1, c2, c3].drop i).take 1 = [[c0, c1, c2, c3][i]] := by
      rw [List.drop_eq_getElem_cons (by simpa using hi)]
      simp
    have hx' : DataW.trod enc Try.prog w base spare held m 3 [[c0, c1, c2, c3][i]] = some xs[i] := by
      rw [← hc, ← List.getElem?_eq_getElem]; exact hx
    obtain ⟨n, e1, _, hw⟩ := DataW.trod_int Try.underlying3 hx'
    exact ⟨n, by simpa using e1, hw⟩
  obtain ⟨z0, h0, w0⟩ := key 0 (by omega)
  obtain ⟨z1, h1, w1⟩ := key 1 (by omega)
  obtain ⟨z2, h2, w2⟩ := key 2 (by omega)
  obtain ⟨z3, h3, w3⟩ := key 3 (by omega)
  simp at h0 h1 h2 h3
  exact ⟨z0, z1, z2, z3, h0, h1, h2, h3, w0, w1, w2, w3⟩

set_option maxRecDepth 100000 in
theorem trod26 {cs : List Value} {fuel : Nat} {x : DataW H × List MemPlace} (hl : cs.length = 6) (hf : DataW.trod enc Try.prog w base spare held fuel 26 cs = some x) : ∃ s : Stt, cs = (sc s).toList ∧ Fine s := by
  match cs, hl with
  | [c0, c1, c2, c3, c4, c5], _ =>
    obtain ⟨xs, n, _, hx, hl, hlen, hg⟩ := DataW.trod_struct Try.underlying26 hf
    have hlen' : xs.length = 3 := by
      first | exact hlen | (rw [hlen]; rfl)
    obtain ⟨y0, y1, y2, rfl⟩ : ∃ y0 y1 y2, xs = [y0, y1, y2] := by
      match xs, hlen' with
      | [y0, y1, y2], _ => exact ⟨y0, y1, y2, rfl⟩
    have g0 := hg 0 _ rfl
    have g1 := hg 1 _ rfl
    have g2 := hg 2 _ rfl
    have e0 : ([c0, c1, c2, c3, c4, c5].drop 0).take (Try.prog.cellsOf 24) = [c0, c1, c2, c3] := by rw [cells24]; rfl
    have e1 : ([c0, c1, c2, c3, c4, c5].drop 4).take (Try.prog.cellsOf 5) = [c4] := by rw [cells5]; rfl
    have e2 : ([c0, c1, c2, c3, c4, c5].drop 5).take (Try.prog.cellsOf 4) = [c5] := by rw [cells4]; rfl
    have g0' : DataW.trod enc Try.prog w base spare held n 24 [c0, c1, c2, c3] = some y0 := by rw [← e0]; exact g0
    have g1' : DataW.trod enc Try.prog w base spare held n 5 [c4] = some y1 := by rw [← e1]; exact g1
    have g2' : DataW.trod enc Try.prog w base spare held n 4 [c5] = some y2 := by rw [← e2]; exact g2
    obtain ⟨z0, z1, z2, z3, rfl, rfl, rfl, rfl, w0, w1, w2, w3⟩ := trod24 g0'
    obtain ⟨e, he, _, we⟩ := DataW.trod_int Try.underlying5 g1'
    obtain ⟨d, hd, _⟩ := DataW.trod_bool Try.underlying4 g2'
    simp only [List.cons.injEq, and_true] at he hd
    subst he hd
    exact ⟨⟨z0, z1, z2, z3, e, d⟩, rfl, w0, w1, w2, w3, we⟩
set_option maxRecDepth 100000 in
theorem open26 {b0 : Nat} {r : Reach} {v : Value} {d : DataW H} {p : List MemPlace}
    (hv : Value.okWide Try.prog w r b0 26 v) (h : DataW.Trod enc Try.prog w base spare held 26 v d p) : ∃ s : Stt, v = sv s ∧ Fine s := by
  obtain ⟨cs, rfl, hsz⟩ := okWide_struct Try.underlying26 hv
  rw [cells26] at hsz
  obtain ⟨fuel, hf⟩ := h
  obtain ⟨s, hs, hF⟩ := trod26 (cs := cs.toList) (by simpa using hsz) hf
  refine ⟨s, ?_, hF⟩
  unfold sv
  congr 1
  exact Array.toList_inj.1 hs
end
/-- A row of settings. -/
def RdS (w : World) (a : Option Addr) (l : List Stt) : Prop :=
  l.length ≤ maxLen ∧ ∀ i (hi : i < l.length), ∃ b off, a = some ⟨b, off, none⟩ ∧ b < w.heap.size ∧ Fine l[i] ∧ w.rangeAt b (off + i * 6) (sc l[i]).toList
set_option maxRecDepth 100000 in
theorem openS {H : Type} {enc : TypeId × Value → H} {w : World} {base fuel : Nat} {held : Bool} {a : Option Addr} {len cap : Nat} {x : DataW H × List MemPlace}
    (h : DataW.trod enc Try.prog w base (fun _ => true) held fuel 27 [.slice a len cap] = some x) : ∃ l : List Stt, l.length = len ∧ RdS w a l ∧ len ≤ maxLen := by
  rcases open_slice Try.underlying27 h with ⟨hcs, _⟩ | ⟨a', len', cap', m, n, D, Pl, hcs, _, hl, hm, hmm, _, hi⟩
  · simp at hcs
    obtain ⟨rfl, rfl, rfl⟩ := hcs
    exact ⟨[], rfl, ⟨by simp [maxLen], fun i hi => absurd hi (by simp)⟩, by simp [maxLen]⟩
  · simp at hcs
    obtain ⟨rfl, rfl, rfl⟩ := hcs
    have hmc : m = cap := by simpa using hmm
    subst hmc
    obtain ⟨b, off, spot⟩ := a'
    have hspot : 0 < len → spot = none := fun h0 => by
      obtain ⟨cs', hc, ht'⟩ := hi 0 (by omega)
      rw [cells26] at hc
      obtain ⟨_, hcl, hat⟩ := World.cells?_some hc
      have g0 := hat 0 (by omega)
      have hv0 : cs'[0]? = some (cs'[0]'(by omega)) := List.getElem?_eq_getElem (by omega)
      rw [hv0] at g0
      have := World.cell?_spot g0
      simpa [Addr.add] using this
    have key : ∀ i, i < len → ∃ s : Stt, ∃ b' off', (⟨b, off, spot⟩ : Addr) = ⟨b', off', none⟩ ∧ b' < w.heap.size ∧ Fine s ∧ w.rangeAt b' (off' + i * 6) (sc s).toList := by
      intro i hil
      obtain ⟨cs', hc, ht'⟩ := hi i (by omega)
      rw [cells26] at hc
      obtain ⟨_, hcl, hat⟩ := World.cells?_some hc
      obtain ⟨s, hs, hF⟩ := trod26 hcl ht'
      have g0 := hat 0 (by omega)
      have hv0 : cs'[0]? = some (cs'[0]'(by omega)) := List.getElem?_eq_getElem (by omega)
      rw [hv0] at g0
      obtain rfl := hspot (by omega)
      refine ⟨s, b, off, rfl, ?_, hF, fun j v hv => ?_⟩
      · rw [Addr.add_lit, Addr.add_lit] at g0
        exact World.block_lt_of_cell? w _ g0
      · have hj : j < 6 := (List.getElem?_eq_some_iff.1 hv).1
        have gj := hat j hj
        rw [Addr.add_lit, Addr.add_lit] at gj
        rw [gj, hs]
        exact hv
    refine ⟨(List.range len).map fun i => if hi : i < len then Classical.choose (key i hi) else ⟨0, 0, 0, 0, 0, false⟩, by simp, ⟨by simp; omega, fun i hil => ?_⟩, by omega⟩
    have hil' : i < len := by simpa using hil
    obtain ⟨b, off, e, h1, h2, h3⟩ := Classical.choose_spec (key i hil')
    refine ⟨b, off, by rw [e], h1, ?_, ?_⟩
    · simpa [hil'] using h2
    · simpa [hil'] using h3
end Go.Proofs.Ytcggghiionlngaa.AreP
