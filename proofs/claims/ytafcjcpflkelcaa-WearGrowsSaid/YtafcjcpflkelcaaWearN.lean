/- The walk of the law on numbers. -/
import Derived.Test.YtafcjcpflkelcaaWearA
namespace Go.Proofs.Ytafcjcpflkelcaa.WearN
open Go.ChangeShapes Go.WideShapes Go.ChangeAt Go.RowKit
open WearM WearA
set_option linter.unusedVariables false
set_option maxHeartbeats 1000000

/-- What came in, as numbers. -/
def IsRow (k : IntKind) (w : World) (a : Option Addr) (len cap : Nat) (zs : List Int) : Prop :=
  (a = none ∧ len = 0 ∧ cap = 0 ∧ zs = []) ∨
  ∃ x, a = some x ∧ len ≤ cap ∧ cap ≤ maxLen ∧ zs.length = cap ∧ (∀ i, i < zs.length → w.cell? (x.add i) = some (.int k (zs.getD i 0))) ∧ ∀ n ∈ zs, (Lit.int k n).wf = true

theorem I64_of (n : Int) (h : (Lit.int .i64 n).wf = true) : I64 n := by
  unfold I64
  simpa [Lit.wf, IntKind.min, IntKind.max, IntKind.signed, IntKind.bits] using h

theorem IsRow.nums {w : World} {a : Option Addr} {len cap : Nat} {zs : List Int} (h : IsRow .i64 w a len cap zs) :
    ∃ l : List Int, l.length = len ∧ Rd w a l ∧ len ≤ cap ∧ (∀ x, 0 < len → a = some x → x.block < w.heap.size) := by
  rcases h with ⟨rfl, rfl, rfl, rfl⟩ | ⟨x, rfl, hl, hm, hz, hc, hw⟩
  · exact ⟨[], rfl, ⟨by simp [maxLen], fun i hi => absurd hi (by simp), by simp⟩, by omega, fun x h0 => absurd h0 (by omega)⟩
  · obtain ⟨b, off, spot⟩ := x
    refine ⟨zs.take len, by simp; omega, ⟨by simp; omega, fun i hi => ?_, fun x hx => I64_of _ (hw x (List.mem_of_mem_take hx))⟩, hl, ?_⟩
    · have hi' : i < len := by simp at hi; omega
      have h1 := hc i (by omega)
      have hspot : spot = none := by simpa [Addr.add] using World.cell?_spot (hc 0 (by omega))
      subst hspot
      refine ⟨b, off, rfl, ?_⟩
      rw [Addr.add_lit] at h1
      rw [h1]
      simp [List.getD, hi']
    · intro x h0 hx
      injection hx with hx; subst hx
      have h1 := hc 0 (by omega)
      exact World.block_lt_of_cell? w ⟨b, off, spot⟩ (by simpa [Addr.add] using h1)

theorem Rd.below {w w' : World} {a : Option Addr} {l : List Int} {B : Nat} (h : Rd w a l) (hb : Below B w w') (ha : ∀ x, 0 < l.length → a = some x → x.block < B) : Rd w' a l :=
  ⟨h.1, fun i hi => by
    obtain ⟨b, off, e, hc⟩ := h.2.1 i hi
    exact ⟨b, off, e, (hb.cell (p := ⟨b, off + i, none⟩) (ha ⟨b, off, none⟩ (by omega) e)).trans hc⟩, h.2.2⟩

theorem numbers (a : Option Addr) (l : List Int) (n c : Nat) (f t d : Int) (w : World) (hn : l.length = n) (hr : Rd w a l) (ha : ∀ x, 0 < l.length → a = some x → x.block < w.heap.size) (hf : I64 f) (ht : I64 t) :
    Calls Try.prog 6 #[.int .i64 f, .int .i64 t, .int .i64 d, .slice a n c] w fun e w' => e = .returned (.bool true) ∧ Below w.heap.size w w' := by
  have hm := hr.1
  rw [hn] at hm
  unfold maxLen at hm
  have HR : Hid (∀ w', Below w.heap.size w w' → Rd w' a l) := Lib.hid fun w' hb => Rd.below hr hb ha
  have HN := Lib.hid hn
  have HF := Lib.hid hf
  have HT := Lib.hid ht
  clear hr hn ha hf ht
  by_cases h1 : 2000 < n
  · have hd : decide ((2000 : Int) < (n : Int)) = true := by simp; omega
    go_enter Try.func6, Try.ntmps6
    go_wp2_with (go_at_call 24; refine (known_any _).mono ?_; rintro e w' ⟨rfl, hb⟩)
    go_ret
    exact ⟨rfl, hb⟩
  · have hd : decide ((2000 : Int) < (n : Int)) = false := by simp; omega
    go_enter Try.func6, Try.ntmps6
    go_wp2_with fail
    refine Calls.mono (known_any _) ?_
    rintro e w1 ⟨rfl, hb⟩
    go_wp2_with fail
    refine Calls.mono (debtW _ _ HF.out HT.out _) ?_
    rintro e w' ⟨rfl, rfl⟩
    go_wp2_with fail
    refine Calls.mono (debtR _ _ HF.out HT.out _) ?_
    rintro e w' ⟨rfl, rfl⟩
    go_wp2_with fail
    refine Calls.mono (payW _ _) ?_
    rintro e w' ⟨rfl, rfl⟩
    go_wp2_with fail
    refine Calls.mono (payR _ _) ?_
    rintro e w' ⟨rfl, rfl⟩
    go_wp2_with fail
    refine Calls.mono (lifeW a l n c _ HN.out (HR.out _ hb) (by omega)) ?_
    rintro e w' ⟨rfl, rfl⟩
    go_wp2_with fail
    refine Calls.mono (lifeR a l n c _ HN.out (HR.out _ hb) (by omega)) ?_
    rintro e w' ⟨rfl, rfl⟩
    go_wp2
    go_ret
    exact ⟨rfl, hb⟩
end Go.Proofs.Ytafcjcpflkelcaa.WearN
