/- What the cards over rows of bytes begin with. -/
import Derived.Test.YtlfohiejlajmaaaDoorRfI
import Derived.Test.YtlfohiejlajmaaaDoorShW
import Derived.ProofKit
import Derived.LaidMore
import Derived.LaidLaws
import Derived.OpenShut
import Derived.Deep.Matrix
import Derived.Deep.DeepHandedRow
import Derived.Lib.LaidTab
namespace Go.Proofs.YtlfohiejlajmaaaDoor.ShZ
open Go.ChangeShapes Go.WideShapes Go.ChangeAt Go.WideMaps Go.WideElems Go.RowKit
open Go.Deep
open ShM ShC
set_option linter.unusedVariables false
set_option maxHeartbeats 1000000

theorem own : ownKnob Tryd.prog.godebug = none := by kernel_rfl
theorem gCol : Tryd.prog.globalNamed "locket/sha.rounds" = some 1 := by kernel_rfl
theorem gMsk : Tryd.prog.globalNamed "locket/sha.start" = some 0 := by kernel_rfl
theorem tCol : (Tryd.prog.globals[1]?).map (·.type) = some 53 := by kernel_rfl
theorem tMsk : (Tryd.prog.globals[0]?).map (·.type) = some 52 := by kernel_rfl
def startL : List Int := [1779033703, 3144134277, 1013904242, 2773480762, 1359893119, 2600822924, 528734635, 1541459225]
/-- An array of whole numbers whose datum is known. -/
theorem ints_of {H : Type} {enc : TypeId × Value → H} {w : World} {base : Nat} {spare : Nat → Bool} {held : Bool} {fuel : Nat} {t e : TypeId} {cs : List Value} {q : List MemPlace} {n : Nat} {k : IntKind} {ns : List Int}
    (ht : Tryd.prog.underlying t = some (.array n e)) (he : Tryd.prog.underlying e = some (.int k)) (c1 : Tryd.prog.cellsOf e = 1) (ct : Tryd.prog.cellsOf t = n) (hn : ns.length = n)
    (h : DataW.trod enc Tryd.prog w base spare held fuel t cs = some (.agg (ns.map fun x => .lit (.int k x)), q)) : cs = ns.map fun x => Value.int k x := by
  obtain ⟨xs, m, _, hx, hl, hxn, hel⟩ := DataW.trod_array ht h
  have hxs : ns.map (fun x => (DataW.lit (.int k x) : DataW H)) = xs.map (·.1) := by simpa using (Prod.mk.inj hx).1
  refine List.ext_getElem (by simp [hl, ct, hn]) fun i h1 h2 => ?_
  have hi : i < n := by rw [hl, ct] at h1; exact h1
  have hh := hel i hi
  rw [c1, Nat.mul_one, List.getElem?_eq_getElem (by omega)] at hh
  obtain ⟨s, e1, e2, _⟩ := DataW.trod_int he hh
  have e3 : (ns.map (fun x => (DataW.lit (.int k x) : DataW H)))[i]? = (xs.map (·.1))[i]? := by rw [hxs]
  rw [List.getElem?_map, List.getElem?_map, List.getElem?_eq_getElem (show i < xs.length by omega), List.getElem?_eq_getElem (show i < ns.length by omega), Option.map_some, Option.map_some, e2] at e3
  have e4 : ns[i] = s := by simpa using e3
  have e5 : (List.drop i cs)[0]? = some (.int k s) := by
    have := congrArg (·[0]?) e1
    simpa using this
  rw [List.getElem?_drop, Nat.add_zero, List.getElem?_eq_getElem h1] at e5
  rw [List.getElem_map, e4]
  exact Option.some.inj e5

theorem heap_of {W : World} {n : String} {g : Nat} {cs : Array Value} (hg : Tryd.prog.globalNamed n = some g) (h : World.var? Tryd.prog W n = some cs) : ∃ t z, W.heap[g]? = some (.cells cs t z) := by
  unfold World.var? at h
  rw [hg, Option.bind_some] at h
  split at h
  · rename_i c t z hh
    obtain rfl := Option.some.inj h
    exact ⟨t, z, hh⟩
  · cases h

theorem of_laid {W : World} (h : laidMetH Tryd.prog Rows.shaSumsUptoRow.laid W) : Laid W := by
  rw [MakeChecks.laidMetH_plain _ _ _ (by kernel_rfl)] at h
  obtain ⟨ps, ⟨g0, t0, cs0, f0, p0, q0, hg0, ht0, hv0, hd0, ⟨g1, t1, cs1, f1, p1, q1, hg1, ht1, hv1, hd1, _, _⟩, _⟩, _, _⟩ := h
  obtain rfl := Option.some.inj (gCol.symm.trans hg0)
  obtain rfl := Option.some.inj (gMsk.symm.trans hg1)
  obtain rfl := Option.some.inj (tCol.symm.trans ht0)
  obtain rfl := Option.some.inj (tMsk.symm.trans ht1)
  have z0 : cs0 = ShC.rndV := by
    have := ints_of (ns := ShM.rounds.map Int.ofNat) Tryd.underlying53 Tryd.underlying51 (by kernel_rfl) (by kernel_rfl) (by kernel_rfl) hd0
    obtain ⟨l⟩ := cs0
    simp only at this
    subst this
    show Array.mk _ = _
    kernel_rfl
  have z1 : cs1 = ShC.s8c ShM.start := by
    have := ints_of (ns := startL) Tryd.underlying52 Tryd.underlying51 (by kernel_rfl) (by kernel_rfl) (by kernel_rfl) hd1
    obtain ⟨l⟩ := cs1
    simp only at this
    subst this
    show Array.mk _ = _
    kernel_rfl
  subst z0
  subst z1
  exact ⟨heap_of hg1 hv1, heap_of hg0 hv0⟩

theorem laidOut : laidOutB Tryd.prog = true := by kernel_rfl

theorem bulk_one {H : Type} (d : DataW H) : 1 ≤ Rows.uptoBulk d := by
  cases d with
  | lit l => cases l <;> simp [Rows.uptoBulk]
  | nil => simp [Rows.uptoBulk]
  | ptr d => simp [Rows.uptoBulk]
  | slice elems spare => simp [Rows.uptoBulk]
  | agg parts => simp [Rows.uptoBulk]
  | iface t d => simp [Rows.uptoBulk]
  | map entries => simp [Rows.uptoBulk]
  | held h => simp [Rows.uptoBulk]
theorem bulk_append {H : Type} (l r : List (DataW H)) : Rows.uptoBulkAll (l ++ r) = Rows.uptoBulkAll l + Rows.uptoBulkAll r := by
  induction l with
  | nil => simp [Rows.uptoBulkAll]
  | cons x l ih => simp only [List.cons_append, Rows.uptoBulkAll, ih]; omega
theorem bulk_length {H : Type} (l : List (DataW H)) : l.length ≤ Rows.uptoBulkAll l := by
  induction l with
  | nil => simp [Rows.uptoBulkAll]
  | cons x r ih => have := bulk_one x; simp only [Rows.uptoBulkAll, List.length_cons]; omega


def bytesOf (zs : List Int) (n : Nat) : List ShM.B8 := (zs.take n).map fun z => BitVec.ofNat 8 z.toNat
def rowsOf (L : Nat → Nat) (Z : Nat → List Int) (n : Nat) : List (List ShM.B8) := (List.range n).map fun r => bytesOf (Z r) (L r)

theorem bulk_rows {H : Type} (A : Nat → Option Addr) (L : Nat → Nat) (Z : Nat → List Int) (n : Nat) (hA : ∀ r, r < n → A r = none → L r = 0) :
    (rowsOf L Z n).flatten.length + n ≤ Rows.uptoBulkAll ((List.range n).map fun r => intRow (H := H) .u8 (A r) (L r) (Z r)) := by
  induction n with
  | zero => simp [rowsOf]
  | succ n ih =>
    have h1 := ih (fun r hr => hA r (by omega))
    have h3 : (rowsOf L Z (n + 1)).flatten.length = (rowsOf L Z n).flatten.length + (bytesOf (Z n) (L n)).length := by
      simp [rowsOf, List.range_succ]
    rw [h3, List.range_succ, List.map_append, bulk_append]
    simp only [List.map_cons, List.map_nil, Rows.uptoBulkAll]
    have h2 : (bytesOf (Z n) (L n)).length + 1 ≤ Rows.uptoBulk (intRow (H := H) .u8 (A n) (L n) (Z n)) := by
      cases hAn : A n with
      | none =>
        rw [hA n (by omega) hAn]
        simp [bytesOf, intRow, Rows.uptoBulk]
      | some a =>
        simp only [intRow, Rows.uptoBulk]
        have := bulk_length (H := H) (lits .u8 ((Z n).take (L n)))
        simp [bytesOf, lits] at this ⊢
        omega
    omega

theorem one_row (w : World) (A : Option Addr) (L C : Nat) (zs : List Int) (hl : L ≤ C) (hc : C ≤ maxLen) (hz : zs.length = C) (hw : ∀ n ∈ zs, (Lit.int .u8 n).wf = true) (hn : A = none → C = 0)
    (hcell : ∀ a', A = some a' → ∀ c, c < C → w.cell? (a'.add c) = some (.int .u8 (zs.getD c 0))) :
    ShN.One w (.slice A L C) (bytesOf zs L) := by
  have hrow : ShT.IsRow .u8 w A L C zs := by
    cases A with
    | none =>
      have := hn rfl
      subst this
      exact .inl ⟨rfl, by omega, rfl, List.length_eq_zero_iff.1 hz⟩
    | some a => exact .inr ⟨a, rfl, hl, hc, hz, fun i hi => hcell a rfl i (by omega), hw⟩
  have hlen : (bytesOf zs L).length = L := by simp [bytesOf]; omega
  obtain ⟨l, h1, h2, h3, h4⟩ := hrow.bytes
  refine ⟨A, C, by rw [hlen], ⟨by rw [hlen, ← h1]; exact h2.1, fun i hi => ?_⟩, by omega, hc, fun x h0 hx => h4 x (by omega) hx⟩
  rw [hlen] at hi
  obtain ⟨b, off, e, hcl⟩ := h2.2 i (by omega)
  refine ⟨b, off, e, ?_⟩
  have h5 := hcell _ e i (by omega)
  rw [Addr.add_lit] at h5
  rw [h5]
  have hwf := hw (zs[i]'(by omega)) (List.getElem_mem _)
  have hb : 0 ≤ zs[i]'(by omega) ∧ zs[i]'(by omega) ≤ 255 := by
    simpa [Lit.wf, IntKind.min, IntKind.max, IntKind.signed, IntKind.bits] using hwf
  have e1 : zs.getD i 0 = zs[i]'(by omega) := by simp [show i < zs.length by omega]
  have e2 : (bytesOf zs L).getD i 0 = BitVec.ofNat 8 (zs[i]'(by omega)).toNat := by
    simp [bytesOf, hi, show i < zs.length by omega]
  rw [e1, e2, BitVec.toNat_ofNat]
  congr 2
  omega

/-- Rows of bytes that are read of a world. -/
theorem openRows {H : Type} {enc : TypeId × Value → H} {w : World} {base : Nat} {held : Bool} {fuel : Nat} {a : Option Addr} {n c : Nat} {d : DataW H} {q : List MemPlace}
    (h : DataW.trod enc Tryd.prog w base (fun _ => true) held fuel 23 [.slice a n c] = some (d, q)) :
    ∃ ps : List (List ShM.B8), ps.length = n ∧ ShN.Arg w a ps ∧ ps.flatten.length + n ≤ Rows.uptoBulk d := by
  rcases open_int_rows Tryd.underlying23 Tryd.underlying22 Tryd.underlying5 (by kernel_rfl) (by kernel_rfl) h with ⟨hcs, hx⟩ | ⟨x, len, cap, A, L, C, Z, hcs, hbb, hlc, hm, hx, hrow⟩
  · simp at hcs
    obtain ⟨rfl, rfl, rfl⟩ := hcs
    exact ⟨[], rfl, fun i hi => absurd hi (by simp), by simp⟩
  · simp at hcs
    obtain ⟨rfl, rfl, rfl⟩ := hcs
    injection hx with hx1 hx2
    subst hx1
    have hz0 : ∀ r, r < n → A r = none → L r = 0 := fun r hr hn => by
      obtain ⟨_, h2, _, _, _, h6, _⟩ := hrow r (by omega)
      have := h6 hn
      omega
    have hsum := bulk_rows (H := H) A L Z n hz0
    refine ⟨rowsOf L Z n, by simp [rowsOf], fun i hi => ?_, by simp only [Rows.uptoBulk]; omega⟩
    have hi' : i < n := by simpa [rowsOf] using hi
    obtain ⟨h1, h2, h3, h4, h5, h6, h7⟩ := hrow i (by omega)
    obtain ⟨b, off, spot⟩ := x
    have hspot : spot = none := by simpa [Addr.add] using World.cell?_spot (hrow 0 (by omega)).1
    subst hspot
    rw [Addr.add_lit] at h1
    have e2 : (rowsOf L Z n).getD i [] = bytesOf (Z i) (L i) := by
      simp [rowsOf, hi']
    rw [e2]
    exact ⟨b, off, _, rfl, h1, World.block_lt_of_cell? w _ h1, one_row w (A i) (L i) (C i) (Z i) h2 h3 h4 h5 h6 (fun a' ha c hc => (h7 a' ha).2 c hc)⟩

/-- A row of bytes that is read of a world. -/
theorem openRow {H : Type} {enc : TypeId × Value → H} {w : World} {base : Nat} {held : Bool} {fuel : Nat} {a : Option Addr} {n c : Nat} {d : DataW H} {q : List MemPlace}
    (h : DataW.trod enc Tryd.prog w base (fun _ => true) held fuel 22 [.slice a n c] = some (d, q)) :
    ∃ l : List ShM.B8, l.length = n ∧ ShN.One w (.slice a n c) l := by
  obtain ⟨z0, w0⟩ : ∃ zs, ShT.IsRow .u8 w a n c zs := by
    rcases open_ints Tryd.underlying22 Tryd.underlying5 (by kernel_rfl) h with ⟨hcs, _⟩ | ⟨x, l, c, zs, hcs, _, hl, hm, hz, _, hcell, hwz⟩
    · simp at hcs
      obtain ⟨rfl, rfl, rfl⟩ := hcs
      exact ⟨[], .inl ⟨rfl, rfl, rfl, rfl⟩⟩
    · simp at hcs
      obtain ⟨rfl, rfl, rfl⟩ := hcs
      exact ⟨zs, .inr ⟨_, rfl, hl, hm, by simpa using hz, hcell, hwz⟩⟩
  exact ShW.one_of w0
end Go.Proofs.YtlfohiejlajmaaaDoor.ShZ
