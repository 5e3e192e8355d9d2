/- The law of keys: any arguments. -/
import Derived.Test.YtlfohiejlajmaaaDoorShV
import Derived.Test.YtlfohiejlajmaaaDoorShV1
import Derived.Test.YtlfohiejlajmaaaDoorShV2
import Derived.Test.YtlfohiejlajmaaaDoorShV3
import Derived.ChangeSame
namespace Go.Proofs.YtlfohiejlajmaaaDoor.ShW
open Go.ChangeShapes Go.WideShapes Go.ChangeAt Go.RowKit
open ShM ShA ShB ShC ShD ShE ShF ShG ShH ShI ShJ ShK ShL ShN ShO ShP ShQ ShR ShS ShU Mem
open ShT (Rd vals vals_length vals_one)
set_option linter.unusedVariables false
set_option maxHeartbeats 2000000

theorem one_of {w : World} {a : Option Addr} {len cap : Nat} {zs : List Int} (h : ShT.IsRow .u8 w a len cap zs) : ∃ l : List ShM.B8, l.length = len ∧ ShN.One w (.slice a len cap) l := by
  obtain ⟨l, h1, h2, h3, h4⟩ := h.bytes
  have hc : cap ≤ maxLen := by
    rcases h with ⟨_, _, rfl, _⟩ | ⟨x, _, _, hm, _⟩
    · simp [maxLen]
    · exact hm
  exact ⟨l, h1, a, cap, by rw [h1], h2, by omega, hc, fun y h0 e => h4 y (by omega) e⟩
theorem cells28 : Tryd.prog.cellsOf 28 = 32 := by kernel_rfl
theorem cells5 : Tryd.prog.cellsOf 5 = 1 := by kernel_rfl
theorem okWide_arr {P : Program} {w : World} {r : Reach} {base n : Nat} {t e : TypeId} {v : Value} (ht : P.underlying t = some (.array n e)) (h : Value.okWide P w r base t v) : ∃ cs, v = .agg cs ∧ cs.size = P.cellsOf t := by
  simp only [Value.okWide, ht] at h
  obtain ⟨cs, h1, h2, _⟩ := h
  exact ⟨cs, h1, h2⟩
theorem U8.of {n : Int} (h : (Lit.int .u8 n).wf = true) : 0 ≤ n ∧ n ≤ 255 := by
  simpa [Lit.wf, IntKind.min, IntKind.max, IntKind.signed, IntKind.bits] using h

set_option maxRecDepth 100000 in
theorem openSum {H : Type} {enc : TypeId × Value → H} {w : World} {base b0 : Nat} {r : Reach} {spare : Nat → Bool} {held : Bool} {v : Value} {d : DataW H} {p : List MemPlace}
    (hv : Value.okWide Tryd.prog w r b0 28 v) (h : DataW.Trod enc Tryd.prog w base spare held 28 v d p) : ∃ x : List ShM.B8, v = .agg (b32 x) := by
  obtain ⟨cs, rfl, hsz⟩ := okWide_arr Tryd.underlying28 hv
  rw [cells28] at hsz
  obtain ⟨fuel, hf⟩ := h
  obtain ⟨xs, m, _, _, _, hxl, hg⟩ := DataW.trod_array Tryd.underlying28 hf
  refine ⟨cs.toList.map fun v => match v with | .int _ n => BitVec.ofNat 8 n.toNat | _ => 0, ?_⟩
  congr 1
  apply Array.ext
  · rw [hsz, b32_size]
  · intro i h1 h2
    have hi : i < 32 := by simpa [hsz] using h1
    have hx := hg i hi
    rw [cells5, Nat.mul_one] at hx
    have hc : ((Value.agg cs).cells.toList.drop i).take 1 = [cs[i]] := by
      show (cs.toList.drop i).take 1 = _
      rw [List.drop_eq_getElem_cons (by simpa using h1)]
      simp
    have hx' : DataW.trod enc Tryd.prog w base spare held m 5 [cs[i]] = some xs[i] := by
      rw [← hc, ← List.getElem?_eq_getElem]; exact hx
    obtain ⟨n, e1, _, hw⟩ := DataW.trod_int Tryd.underlying5 hx'
    have hb := U8.of hw
    have e2 : cs[i] = .int .u8 n := by simpa using e1
    have e3 := b32_at (cs.toList.map fun v => match v with | .int _ n => BitVec.ofNat 8 n.toNat | _ => (0 : ShM.B8)) i hi
    rw [Array.getElem?_eq_getElem h2] at e3
    rw [Option.some.inj e3, e2]
    congr 1
    have e4 : ((cs.toList.map fun v => match v with | .int _ n => BitVec.ofNat 8 n.toNat | _ => (0 : ShM.B8)).getD i 0) = BitVec.ofNat 8 n.toNat := by
      simp [List.getD, h1, e2]
    rw [e4, BitVec.toNat_ofNat]
    omega

theorem keysAll (a : Option Addr) (n c : Nat) (zs : List Int) (ab : Option Addr) (nb cb : Nat) (zb : List Int) (z : Int) (x : List ShM.B8) (w : World) (h0 : ShT.IsRow .u8 w a n c zs) (h1 : ShT.IsRow .u8 w ab nb cb zb) (hl : Laid w) :
    Calls Tryd.prog 5 #[.slice a n c, .slice ab nb cb, .int .i64 z, .agg (b32 x)] w fun e w' => e = .returned (.bool true) ∧ Below w.heap.size w w' := by
  obtain ⟨key, hn, hk⟩ := one_of h0
  obtain ⟨bl, hnb, hb⟩ := one_of h1
  have bound : ∀ {a : Option Addr} {n c : Nat} {l : List ShM.B8}, ShN.One w (.slice a n c) l → n ≤ 9223372036854775807 := fun h => by
    obtain ⟨_, _, e, _, h1, h2, _⟩ := h
    injection e with _ e2 e3
    simp only [maxLen] at h2; omega
  by_cases hbig : 4096 < n ∨ 4096 < nb
  · exact ShV.early a ab n c nb cb z (b32 x) w hl (bound hk) (bound hb) hbig
  · by_cases h64 : 64 < n
    · exact ShV.long key bl x a ab n c nb cb z w hl hn hk hnb hb (by omega) (by omega) h64
    · by_cases hz : z < 0
      · exact ShV1.short1 key bl x a ab n c nb cb z w hl hn hk hnb hb (by omega) (by omega) ⟨by omega, hz⟩
      · by_cases hz2 : 64 - (n : Int) < z
        · exact ShV2.short2 key bl x a ab n c nb cb z w hl hn hk hnb hb (by omega) (by omega) ⟨by omega, hz, hz2⟩
        · exact ShV3.short3 key bl x a ab n c nb cb z w hl hn hk hnb hb (by omega) (by omega) ⟨by omega, hz, hz2⟩
end Go.Proofs.YtlfohiejlajmaaaDoor.ShW
