/-
  CrcSums, where what it reads is of bulk at most 1048576: for every row of rows of bytes the law returns true and its argument reads as it did: any bytes' two sums, plain and by tables, are the document's remainders; how many were told. Condition: the bulk of the argument.
-/
import Derived.Test.YtbblldhlbhoglaaSumsW
import Derived.WalkKit
import Derived.ProofKit
import Derived.OpenShut
import Derived.JoinedCond
import Derived.ShutString
import Derived.ChangeOld
import Derived.Below
import Derived.Deep.Matrix
namespace Go.Proofs.Ytbblldhlbhoglaa.crcSums
open Go.ChangeShapes Go.WideShapes Go.ChangeAt Go.RowKit
open CrcM CrcA CrcP SumsW
open Go.Deep
set_option linter.unusedVariables false

theorem own : ownKnob Try.prog.godebug = none := by kernel_rfl
theorem laidOut : laidOutB Try.prog = true := by kernel_rfl

theorem bulk_one {H : Type} (d : DataW H) : 1 ≤ Rows.uptoBulk d := by
  cases d with
  | lit l => cases l <;> simp [Rows.uptoBulk]
  | nil => simp [Rows.uptoBulk]
  | ptr d => simp [Rows.uptoBulk]
  | slice elems spare => simp [Rows.uptoBulk]
  | agg parts => simp [Rows.uptoBulk]
  | iface t d => simp [Rows.uptoBulk]
  | map entries => simp [Rows.uptoBulk]
  | held h => simp [Rows.uptoBulk]
theorem bulk_append {H : Type} (l r : List (DataW H)) : Rows.uptoBulkAll (l ++ r) = Rows.uptoBulkAll l + Rows.uptoBulkAll r := by
  induction l with
  | nil => simp [Rows.uptoBulkAll]
  | cons x l ih => simp only [List.cons_append, Rows.uptoBulkAll, ih]; omega
theorem bulk_length {H : Type} (l : List (DataW H)) : l.length ≤ Rows.uptoBulkAll l := by
  induction l with
  | nil => simp [Rows.uptoBulkAll]
  | cons x r ih => have := bulk_one x; simp only [Rows.uptoBulkAll, List.length_cons]; omega

def bytesOf (zs : List Int) (n : Nat) : List B8 := (zs.take n).map fun z => BitVec.ofNat 8 z.toNat

theorem bulk_rows {H : Type} (A : Nat → Option Addr) (L : Nat → Nat) (Z : Nat → List Int) (n : Nat) (hA : ∀ r, r < n → A r = none → L r = 0) :
    tot (fun r => bytesOf (Z r) (L r)) n + n ≤ Rows.uptoBulkAll ((List.range n).map fun r => intRow (H := H) .u8 (A r) (L r) (Z r)) := by
  induction n with
  | zero => simp [tot]
  | succ n ih =>
    have h1 := ih (fun r hr => hA r (by omega))
    rw [List.range_succ, List.map_append, bulk_append]
    simp only [tot, List.map_cons, List.map_nil, Rows.uptoBulkAll]
    have h2 : (bytesOf (Z n) (L n)).length + 1 ≤ Rows.uptoBulk (intRow (H := H) .u8 (A n) (L n) (Z n)) := by
      cases hAn : A n with
      | none =>
        rw [hA n (by omega) hAn]
        simp [bytesOf, intRow, Rows.uptoBulk]
      | some a =>
        simp only [intRow, Rows.uptoBulk]
        have := bulk_length (H := H) (lits .u8 ((Z n).take (L n)))
        simp [bytesOf, lits] at this ⊢
        omega
    omega

theorem rd_of (w : World) (A : Option Addr) (L C : Nat) (zs : List Int) (hl : L ≤ C) (hc : C ≤ maxLen) (hz : zs.length = C) (hw : ∀ n ∈ zs, (Lit.int .u8 n).wf = true) (hn : A = none → C = 0)
    (hcell : ∀ a', A = some a' → ∀ c, c < C → w.cell? (a'.add c) = some (.int .u8 (zs.getD c 0))) :
    (bytesOf zs L).length = L ∧ Rd w A (bytesOf zs L) ∧ ∀ x, 0 < (bytesOf zs L).length → A = some x → x.block < w.heap.size := by
  have hrow : IsRow .u8 w A L C zs := by
    cases A with
    | none =>
      have := hn rfl
      subst this
      exact .inl ⟨rfl, by omega, rfl, List.length_eq_zero_iff.1 hz⟩
    | some a => exact .inr ⟨a, rfl, hl, hc, hz, fun i hi => hcell a rfl i (by omega), hw⟩
  have hlen : (bytesOf zs L).length = L := by simp [bytesOf]; omega
  obtain ⟨l, h1, h2, h3, h4⟩ := hrow.bytes
  refine ⟨hlen, ⟨by rw [hlen, ← h1]; exact h2.1, fun i hi => ?_⟩, fun x h0 hx => h4 x (by omega) hx⟩
  rw [hlen] at hi
  obtain ⟨b, off, e, hcl⟩ := h2.2 i (by omega)
  refine ⟨b, off, e, ?_⟩
  have h5 := hcell _ e i (by omega)
  rw [Addr.add_lit] at h5
  rw [h5]
  have hwf := hw (zs[i]'(by omega)) (List.getElem_mem _)
  have hb : 0 ≤ zs[i]'(by omega) ∧ zs[i]'(by omega) ≤ 255 := by
    simpa [Lit.wf, IntKind.min, IntKind.max, IntKind.signed, IntKind.bits] using hwf
  have e1 : zs.getD i 0 = zs[i]'(by omega) := by simp [show i < zs.length by omega]
  have e2 : (bytesOf zs L).getD i 0 = BitVec.ofNat 8 (zs[i]'(by omega)).toNat := by
    simp [bytesOf, hi, show i < zs.length by omega]
  rw [e1, e2, BitVec.toNat_ofNat]
  congr 2
  omega

theorem contract (H : Type) (enc : TypeId × Value → H) (W : World) (base : Nat) (args : Array Value) (ds gs : List (DataW H)) (before : List MemPlace)
    (hval : ∀ (j : Nat) t v, Try.f3.params[j]? = some t → args[j]? = some v → Value.okWide Try.prog W .any base t v)
    (hW : DataW.Whole enc Try.prog Try.f3.params.toList Rows.crcSumsSpec.vars false W args.toList ds gs before) (hk : Rows.uptoSmall H (ds ++ gs) = true) :
    Calls Try.prog 3 args W fun e W' => ∃ v, e = .returned v ∧ Rows.crcSumsSpec.post enc Try.prog Try.f3 false true false false W args v W' := by
  have hW' := hW
  obtain ⟨p, q, hA0, hV, rfl, hfz, hnd⟩ := hW
  have hA : DataW.TrodAll enc Try.prog W 0 (fun _ => true) true Try.f3.params.toList args.toList ds p := hA0
  rw [Try.params3] at hA hval
  obtain ⟨v0, vs0, d0, ds0, p0, q0, hargs, rfl, rfl, h0, r0⟩ := trodAll_cons hA
  obtain ⟨rfl, rfl, rfl⟩ := trodAll_nil r0
  obtain rfl : args = #[v0] := by cases args; simp_all
  obtain ⟨rfl, rfl⟩ := trodVars_none hV
  obtain ⟨a0, len0, cap0, rfl⟩ := okWide_slice Try.underlying22 (hval 0 22 v0 rfl rfl)
  have k0 := h0
  have lt0 : ∀ x ∈ p0, x.block < W.heap.size := by obtain ⟨m, hm⟩ := k0; exact DataW.trod_lt m _ _ _ hm
  have hbulk : Rows.uptoBulk d0 ≤ 1048576 := by
    have h := of_decide_eq_true hk
    simp only [List.append_nil, Rows.uptoBulkAll] at h
    omega
  obtain ⟨L, S, C, hl, ht, hlen⟩ : ∃ (L : Nat → List B8) (S : Nat → Option Addr) (C : Nat → Nat), Lists W a0 len0 L S C ∧ tot L len0 ≤ 1048576 ∧ len0 ≤ 1048576 := by
    obtain ⟨fuel, hf⟩ := h0
    rcases open_int_rows Try.underlying22 Try.underlying24 Try.underlying5 (by kernel_rfl) (by kernel_rfl) hf with ⟨hcs, _⟩ | ⟨x, len, cap, A, L, C, Z, hcs, hbb, hlc, hm, hx, hrow⟩
    · simp [Value.cells] at hcs
      obtain ⟨rfl, rfl, rfl⟩ := hcs
      exact ⟨fun _ => [], fun _ => none, fun _ => 0, fun i hi => absurd hi (by omega), by simp [tot], by omega⟩
    · simp [Value.cells] at hcs
      obtain ⟨rfl, rfl, rfl⟩ := hcs
      injection hx with hx1 hx2
      subst hx1
      simp only [Rows.uptoBulk] at hbulk
      have hz0 : ∀ r, r < len0 → A r = none → L r = 0 := fun r hr hn => by
        obtain ⟨_, h2, _, _, _, h6, _⟩ := hrow r (by omega)
        have := h6 hn
        omega
      have hsum := bulk_rows (H := H) A L Z len0 hz0
      refine ⟨fun r => bytesOf (Z r) (L r), A, C, fun i hi => ?_, by omega, by omega⟩
      obtain ⟨h1, h2, h3, h4, h5, h6, h7⟩ := hrow i (by omega)
      obtain ⟨b, off, spot⟩ := x
      have hspot : spot = none := by simpa [Addr.add] using World.cell?_spot (hrow 0 (by omega)).1
      subst hspot
      rw [Addr.add_lit] at h1
      obtain ⟨g1, g2, g3⟩ := rd_of W (A i) (L i) (C i) (Z i) h2 h3 h4 h5 h6 (fun a' ha c hc => (h7 a' ha).2 c hc)
      exact ⟨b, off, rfl, World.block_lt_of_cell? W _ h1, by rw [g1]; exact h1, g2, g3⟩
  clear hA0
  simp only [List.append_nil] at hW'
  refine (sums a0 len0 cap0 L S C W hl ht hlen).mono fun e W' ⟨he, bel⟩ => ?_
  subst he
  exact ⟨_, rfl, _, _, _, [], _, [], hW', trodAll_mk1 (shut_bool Try.underlying4 _), (trodAll_cons_mk (Below.trod laidOut (by kernel_rfl) (of_decide_eq_true (by kernel_rfl)) k0 bel lt0) trodAll_mk0), rfl, bel.frame _, fun h => by cases h⟩

set_option maxRecDepth 100000 in
theorem lifted (os : Os) (started : os.Started) (H : Type) (enc : TypeId × Value → H) (F : Stop.Interp) :
    ReturnsInHanded {} Try.checked os 3 .any ((Rows.OpenSpec.upto Rows.crcSumsSpec).pre6 enc Try.prog Try.f3 Rows.crcSumsUptoRow.domain false) (((Rows.OpenSpec.upto Rows.crcSumsSpec).at F).post enc Try.prog Try.f3 false true false false) := by
  refine returnsInHanded_of_cond (C := Try.checked) (s := Rows.OpenSpec.upto Rows.crcSumsSpec) (k := Rows.uptoSmall) rfl own started (by kernel_rfl) Try.func3
    (OpenSpec.witness (enc := enc) (C := Try.checked) (s := Rows.OpenSpec.upto Rows.crcSumsSpec) (k := Rows.uptoSmall) rfl false ⟨#[], #[.slice none 0 0], []⟩ 8 (by kernel_rfl) (by kernel_rfl) (by kernel_rfl)
      (x := ([.nil], [], [])) (by kernel_rfl) rfl (by kernel_rfl)) ?_
  intro W base args ds gs before hval hW _ hk _
  exact contract H enc W base args ds gs before hval hW hk

theorem proved : Rows.CrcSumsUptoSaid :=
  OpenClaim.holds_of_cond 3 Try.f3 rfl rfl rfl rfl rfl rfl rfl ⟨rfl, rfl, rfl, rfl, rfl⟩ rfl rfl rfl rfl rfl (by kernel_rfl) Try.func3 (by kernel_rfl)
    (of_decide_eq_true (by kernel_rfl)) (by unfold Func.isWrapper; first | (rw [if_pos (by decide +kernel)]; kernel_rfl) | (rw [if_neg (by decide +kernel)]; exact ⟨rfl, rfl⟩))
    (fun os started H enc _ F => lifted os started H enc F)
#print axioms proved
end Go.Proofs.Ytbblldhlbhoglaa.crcSums
