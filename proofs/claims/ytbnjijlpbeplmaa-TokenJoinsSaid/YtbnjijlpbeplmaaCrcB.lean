/- The two sums bit by bit: shift registers, bursts. No program. -/
import Derived.Test.YtbnjijlpbeplmaaCrcM
namespace Go.Proofs.Ytbnjijlpbeplmaa.CrcB
open CrcM

/-- One bit into a shift register. -/
def reg {w : Nat} (p r : BitVec w) (b : Bool) : BitVec w := (r <<< 1) ^^^ (if r.msb ^^ b then p else 0)
def feed {w : Nat} (p r : BitVec w) (bs : List Bool) : BitVec w := bs.foldl (reg p) r

theorem reg_xor {w : Nat} (p r r' : BitVec w) (b b' : Bool) : reg p (r ^^^ r') (b ^^ b') = reg p r b ^^^ reg p r' b' := by
  unfold reg
  rw [BitVec.shiftLeft_xor_distrib, BitVec.msb_xor]
  cases r.msb <;> cases r'.msb <;> cases b <;> cases b' <;> simp <;> (try ac_rfl)
  all_goals
    apply BitVec.eq_of_getLsbD_eq
    intro i hi
    simp only [BitVec.getLsbD_xor]
    cases (r <<< 1).getLsbD i <;> cases (r' <<< 1).getLsbD i <;> cases p.getLsbD i <;> rfl

theorem feed_xor {w : Nat} (p : BitVec w) (f g : Nat → Bool) (L : List Nat) (r r' : BitVec w) :
    feed p (r ^^^ r') (L.map fun i => f i ^^ g i) = feed p r (L.map f) ^^^ feed p r' (L.map g) := by
  induction L generalizing r r' with
  | nil => rfl
  | cons i L ih =>
    simp only [feed, List.map_cons, List.foldl_cons] at ih ⊢
    rw [reg_xor]; exact ih _ _

theorem feed_append {w : Nat} (p r : BitVec w) (a b : List Bool) : feed p r (a ++ b) = feed p (feed p r a) b := by simp [feed]

theorem reg_zero {w : Nat} (p : BitVec w) : reg p 0 false = 0 := by
  unfold reg; simp
theorem feed_zeros {w : Nat} (p : BitVec w) (L : List Nat) (f : Nat → Bool) (h : ∀ i ∈ L, f i = false) : feed p 0 (L.map f) = 0 := by
  induction L with
  | nil => rfl
  | cons i L ih =>
    simp only [feed, List.map_cons, List.foldl_cons] at ih ⊢
    rw [h i (by simp), reg_zero]
    exact ih fun j hj => h j (by simp [hj])

theorem getMsbD_shl {w : Nat} (r : BitVec w) (i : Nat) : (r <<< 1).getMsbD i = r.getMsbD (i + 1) := by
  simp [BitVec.getMsbD_shiftLeft]

theorem feed_back {w : Nat} (p : BitVec w) (hp : p.getLsbD 0 = true) (hw : 0 < w) (bs : List Bool) (hb : bs.length ≤ w) (r : BitVec w) (h : feed p r bs = 0) :
    ∀ i, r.getMsbD i = bs.getD i false := by
  induction bs generalizing r with
  | nil => intro i; have h' : r = 0 := h; subst h'; simp
  | cons b bs ih =>
    have h' : feed p (reg p r b) bs = 0 := h
    have hl : bs.length + 1 ≤ w := by simpa using hb
    have h1 := ih (by omega) _ h'
    have h2 := h1 (w - 1)
    have h3 : bs.getD (w - 1) false = false := by
      rw [List.getD_eq_getElem?_getD, List.getElem?_eq_none (by omega)]; rfl
    rw [h3] at h2
    have h4 : (reg p r b).getMsbD (w - 1) = (reg p r b).getLsbD 0 := by
      simp only [BitVec.getMsbD]
      simp [show w - 1 < w by omega, show w - 1 - (w - 1) = 0 by omega]
    rw [h4] at h2
    have h5 : (reg p r b).getLsbD 0 = (r.msb ^^ b) := by
      unfold reg
      rw [BitVec.getLsbD_xor]
      cases hm : (r.msb ^^ b)
      · simp
      · simp [hp]
    rw [h5] at h2
    have h6 : r.msb = b := by cases hm : r.msb <;> cases hb' : b <;> simp_all
    have h7 : reg p r b = r <<< 1 := by unfold reg; rw [h6]; simp
    rw [h7] at h1
    intro i
    cases i with
    | zero => rw [← BitVec.msb_eq_getMsbD_zero] ; simpa using h6
    | succ i => rw [← getMsbD_shl, h1 i]; simp

theorem feed_forth {w : Nat} (p : BitVec w) (bs : List Bool) (r : BitVec w) (h : ∀ i, r.getMsbD i = bs.getD i false) : feed p r bs = 0 := by
  induction bs generalizing r with
  | nil =>
    show r = 0
    apply BitVec.eq_of_getMsbD_eq
    intro i hi; rw [h i]; simp
  | cons b bs ih =>
    show feed p (reg p r b) bs = 0
    have h6 : r.msb = b := by rw [BitVec.msb_eq_getMsbD_zero, h 0]; rfl
    have h7 : reg p r b = r <<< 1 := by unfold reg; rw [h6]; simp
    rw [h7]
    apply ih
    intro i
    rw [getMsbD_shl, h (i + 1)]; simp

theorem reg_nonzero {w : Nat} (p : BitVec w) (hp : p.getLsbD 0 = true) (hw : 0 < w) (r : BitVec w) (h : reg p r false = 0) : r = 0 := by
  have := feed_back p hp hw [false] hw r h
  apply BitVec.eq_of_getMsbD_eq
  intro i hi
  rw [this i]
  cases i <;> simp
theorem feed_nonzero {w : Nat} (p : BitVec w) (hp : p.getLsbD 0 = true) (hw : 0 < w) (L : List Nat) (f : Nat → Bool) (hf : ∀ i ∈ L, f i = false) (r : BitVec w) (h : feed p r (L.map f) = 0) : r = 0 := by
  induction L generalizing r with
  | nil => exact h
  | cons i L ih =>
    have h' : feed p (reg p r (f i)) (L.map f) = 0 := h
    rw [hf i (by simp)] at h'
    exact reg_nonzero p hp hw r (ih (fun j hj => hf j (by simp [hj])) _ h')

/-- A burst: bits of a row of N, none but some in [a, a + k), k at most the register's width. -/
theorem burst {w : Nat} (p : BitVec w) (hp : p.getLsbD 0 = true) (hw : 0 < w) (N a k : Nat) (hk : k ≤ w) (hN : a + k ≤ N) (f : Nat → Bool) (hf : ∀ i, i < N → ¬ (a ≤ i ∧ i < a + k) → f i = false)
    (h : feed p 0 ((List.range N).map f) = 0) : ∀ i, i < N → f i = false := by
  have e : List.range N = List.range a ++ (List.range k).map (a + ·) ++ (List.range (N - (a + k))).map (a + k + ·) := by
    rw [← List.range_add, ← List.range_add]; congr 1; omega
  rw [e, List.map_append, List.map_append, feed_append, feed_append] at h
  rw [feed_zeros p (List.range a) f (fun i hi => hf i (by have := List.mem_range.1 hi; omega) (by have := List.mem_range.1 hi; omega))] at h
  have h1 := feed_nonzero p hp hw _ f (fun i hi => by
    obtain ⟨j, hj, rfl⟩ := List.mem_map.1 hi
    have := List.mem_range.1 hj
    exact hf _ (by omega) (by omega)) _ h
  have h2 := feed_back p hp hw _ (by simpa using hk) _ h1
  intro i hi
  by_cases hr : a ≤ i ∧ i < a + k
  · have := h2 (i - a)
    simp [show i - a < k by omega, show a + (i - a) = i by omega] at this
    exact this
  · exact hf i hi hr
end Go.Proofs.Ytbnjijlpbeplmaa.CrcB
