/- A shape and four sizes that came in, opened. -/
import Derived.Test.YtbnjijlpbeplmaaGeoI
import Derived.ChangeSame
import Derived.Lib.SmallJoins
namespace Go.Proofs.Ytbnjijlpbeplmaa.GeoO
open Go.ChangeShapes Go.WideShapes Go.ChangeAt Go.RowKit Go.Joins
set_option linter.unusedVariables false
theorem okWide_arr {P : Program} {w : World} {r : Reach} {base n : Nat} {t e : TypeId} {v : Value} (ht : P.underlying t = some (.array n e)) (h : Value.okWide P w r base t v) : ∃ cs, v = .agg cs ∧ cs.size = P.cellsOf t := by
  simp only [Value.okWide, ht] at h
  obtain ⟨cs, h1, h2, _⟩ := h
  exact ⟨cs, h1, h2⟩
theorem cells23 : Try.prog.cellsOf 23 = 9 := by kernel_rfl
theorem cells34 : Try.prog.cellsOf 34 = 4 := by kernel_rfl
theorem cells3 : Try.prog.cellsOf 3 = 1 := by kernel_rfl

set_option maxRecDepth 100000 in
theorem open34 {H : Type} {enc : TypeId × Value → H} {w : World} {base b0 : Nat} {r : Reach} {spare : Nat → Bool} {held : Bool} {v : Value} {d : DataW H} {p : List MemPlace}
    (hv : Value.okWide Try.prog w r b0 34 v) (h : DataW.Trod enc Try.prog w base spare held 34 v d p) : ∃ z0 z1 z2 z3 : Int, v = .agg #[.int .i64 z0, .int .i64 z1, .int .i64 z2, .int .i64 z3] := by
  obtain ⟨cs, rfl, hsz⟩ := okWide_arr Try.underlying34 hv
  rw [cells34] at hsz
  obtain ⟨fuel, hf⟩ := h
  obtain ⟨xs, m, _, _, _, hxl, hg⟩ := DataW.trod_array Try.underlying34 hf
  obtain ⟨c0, c1, c2, c3, rfl⟩ := array4 hsz
  have key : ∀ i (hi : i < 4), ∃ n : Int, #[c0, c1, c2, c3][i] = .int .i64 n := by
    intro i hi
    have hx := hg i hi
    rw [cells3, Nat.mul_one] at hx
    have hc : ((Value.agg #[c0, c1, c2, c3]).cells.toList.drop i).take 1 = [#[c0, c1, c2, c3][i]] := by
      show (#[c0, c1, c2, c3].toList.drop i).take 1 = _
      rw [List.drop_eq_getElem_cons (by simpa using hi)]
      simp
    have hx' : DataW.trod enc Try.prog w base spare held m 3 [#[c0, c1, c2, c3][i]] = some xs[i] := by
      rw [← hc, ← List.getElem?_eq_getElem]; exact hx
    obtain ⟨n, e1, _, hw⟩ := DataW.trod_int Try.underlying3 hx'
    exact ⟨n, by simpa using e1⟩
  obtain ⟨z0, h0⟩ := key 0 (by omega)
  obtain ⟨z1, h1⟩ := key 1 (by omega)
  obtain ⟨z2, h2⟩ := key 2 (by omega)
  obtain ⟨z3, h3⟩ := key 3 (by omega)
  simp at h0 h1 h2 h3
  subst h0 h1 h2 h3
  exact ⟨z0, z1, z2, z3, rfl⟩

theorem array9 {α : Type} {cs : Array α} (h : cs.size = 9) : ∃ c0 c1 c2 c3 c4 c5 c6 c7 c8, cs = #[c0, c1, c2, c3, c4, c5, c6, c7, c8] := by
  obtain ⟨l⟩ := cs
  match l, h with
  | [c0, c1, c2, c3, c4, c5, c6, c7, c8], _ => exact ⟨c0, c1, c2, c3, c4, c5, c6, c7, c8, rfl⟩

set_option maxRecDepth 100000 in
theorem open23 {H : Type} {enc : TypeId × Value → H} {w : World} {base b0 : Nat} {r : Reach} {spare : Nat → Bool} {held : Bool} {v : Value} {d : DataW H} {p : List MemPlace}
    (hv : Value.okWide Try.prog w r b0 23 v) (h : DataW.Trod enc Try.prog w base spare held 23 v d p) : ∃ b p s u o r g k x : Int, v = .agg #[.int .i64 b, .int .i64 p, .int .i64 s, .int .i64 u, .int .i64 o, .int .i64 r, .int .i64 g, .int .i64 k, .int .i64 x] := by
  obtain ⟨cs, rfl, hsz⟩ := okWide_struct Try.underlying23 hv
  rw [cells23] at hsz
  obtain ⟨fuel, hf⟩ := h
  obtain ⟨xs, n, _, hx, hl, hlen, hg⟩ := DataW.trod_struct Try.underlying23 hf
  obtain ⟨c0, c1, c2, c3, c4, c5, c6, c7, c8, rfl⟩ := array9 hsz
  have key : ∀ i (hi : i < 9), ∃ n : Int, #[c0, c1, c2, c3, c4, c5, c6, c7, c8][i] = .int .i64 n := by
    intro i hi
    obtain ⟨f, hf1, ho, hty⟩ : ∃ f : Field, (Try.prog.fieldsOf 23)[i]? = some f ∧ f.offset = i ∧ f.type = 3 := by
      have : ∀ i : Fin 9, ∃ f : Field, (Try.prog.fieldsOf 23)[i.val]? = some f ∧ f.offset = i.val ∧ f.type = 3 := by
        intro i
        match i with
        | 0 | 1 | 2 | 3 | 4 | 5 | 6 | 7 | 8 => exact ⟨_, by simp [Program.fieldsOf, Try.underlying23]; rfl, rfl, rfl⟩
      exact this ⟨i, hi⟩
    have hx := hg i f (by simpa [Program.fieldsOf, Try.underlying23] using hf1)
    rw [hty, ho, cells3] at hx
    have hc : ((Value.agg #[c0, c1, c2, c3, c4, c5, c6, c7, c8]).cells.toList.drop i).take 1 = [#[c0, c1, c2, c3, c4, c5, c6, c7, c8][i]] := by
      show (#[c0, c1, c2, c3, c4, c5, c6, c7, c8].toList.drop i).take 1 = _
      rw [List.drop_eq_getElem_cons (by simpa using hi)]
      simp
    rw [hc] at hx
    have hx' : DataW.trod enc Try.prog w base spare held n 3 [#[c0, c1, c2, c3, c4, c5, c6, c7, c8][i]] = some (xs[i]'(by rw [hlen]; exact hi)) := by
      rw [← List.getElem?_eq_getElem]; exact hx
    obtain ⟨n, e1, _, hw⟩ := DataW.trod_int Try.underlying3 hx'
    exact ⟨n, by simpa using e1⟩
  obtain ⟨z0, h0⟩ := key 0 (by omega)
  obtain ⟨z1, h1⟩ := key 1 (by omega)
  obtain ⟨z2, h2⟩ := key 2 (by omega)
  obtain ⟨z3, h3⟩ := key 3 (by omega)
  obtain ⟨z4, h4⟩ := key 4 (by omega)
  obtain ⟨z5, h5⟩ := key 5 (by omega)
  obtain ⟨z6, h6⟩ := key 6 (by omega)
  obtain ⟨z7, h7⟩ := key 7 (by omega)
  obtain ⟨z8, h8⟩ := key 8 (by omega)
  simp at h0 h1 h2 h3 h4 h5 h6 h7 h8
  subst h0 h1 h2 h3 h4 h5 h6 h7 h8
  exact ⟨z0, z1, z2, z3, z4, z5, z6, z7, z8, rfl⟩
end Go.Proofs.Ytbnjijlpbeplmaa.GeoO
