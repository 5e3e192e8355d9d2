/- Sixteen bytes by value, opened. -/
import Derived.Test.YtafcjcpflkelcaaFrBackW
import Derived.ChangeSame
namespace Go.Proofs.Ytafcjcpflkelcaa.FrO
open Go.ChangeShapes Go.WideShapes Go.ChangeAt Go.RowKit
open FrA FrBurstW
set_option linter.unusedVariables false
abbrev B8 := BitVec 8

theorem cells94 : Try.prog.cellsOf 94 = 16 := by kernel_rfl
theorem cells5 : Try.prog.cellsOf 5 = 1 := by kernel_rfl
theorem okWide_arr {P : Program} {w : World} {r : Reach} {base n : Nat} {t e : TypeId} {v : Value} (ht : P.underlying t = some (.array n e)) (h : Value.okWide P w r base t v) : ∃ cs, v = .agg cs ∧ cs.size = P.cellsOf t := by
  simp only [Value.okWide, ht] at h
  obtain ⟨cs, h1, h2, _⟩ := h
  exact ⟨cs, h1, h2⟩

set_option maxRecDepth 100000 in
theorem openBytes {H : Type} {enc : TypeId × Value → H} {w : World} {base b0 : Nat} {r : Reach} {spare : Nat → Bool} {held : Bool} {v : Value} {d : DataW H} {p : List MemPlace}
    (hv : Value.okWide Try.prog w r b0 94 v) (h : DataW.Trod enc Try.prog w base spare held 94 v d p) : ∃ l : List B8, l.length = 16 ∧ v = .agg (vals l).toArray := by
  obtain ⟨cs, rfl, hsz⟩ := okWide_arr Try.underlying94 hv
  rw [cells94] at hsz
  obtain ⟨fuel, hf⟩ := h
  obtain ⟨xs, m, _, _, _, hxl, hg⟩ := DataW.trod_array Try.underlying94 hf
  refine ⟨cs.toList.map fun v => match v with | .int _ n => BitVec.ofNat 8 n.toNat | _ => 0, by simp [hsz], ?_⟩
  congr 1
  apply Array.ext'
  rw [List.toList_toArray]
  refine List.ext_getElem (by simp [vals]) fun i h1 h2 => ?_
  have hi : i < 16 := by simpa [hsz] using h1
  have hx := hg i hi
  rw [cells5, Nat.mul_one] at hx
  have hc : ((Value.agg cs).cells.toList.drop i).take 1 = [cs[i]] := by
    show (cs.toList.drop i).take 1 = _
    rw [List.drop_eq_getElem_cons (by simpa using h1)]
    simp
  have hx' : DataW.trod enc Try.prog w base spare held m 5 [cs[i]] = some xs[i] := by
    rw [← hc, ← List.getElem?_eq_getElem]; exact hx
  obtain ⟨n, e1, _, hw⟩ := DataW.trod_int Try.underlying5 hx'
  have hb := U8.of hw
  have e2 : cs[i] = .int .u8 n := by simpa using e1
  simp only [vals, List.getElem_map, Array.getElem_toList, e2]
  congr 1
  rw [BitVec.toNat_ofNat]
  omega
end Go.Proofs.Ytafcjcpflkelcaa.FrO
