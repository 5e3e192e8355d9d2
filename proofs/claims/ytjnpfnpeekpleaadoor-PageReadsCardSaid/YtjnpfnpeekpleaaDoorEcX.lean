/- Rows of bytes as words: the mathematics. -/
import Derived.Test.YtjnpfnpeekpleaaDoorEcT
namespace Go.Proofs.YtjnpfnpeekpleaaDoor.EcX
open Go.ChangeShapes Go.WideShapes Go.ChangeAt Go.RowKit
open EcM EcA EcT
set_option linter.unusedVariables false
set_option maxHeartbeats 1000000

/-- A number out of its bytes, the lowest first. -/
def le : List Nat → Nat
  | [] => 0
  | x :: r => x + 256 * le r
theorem le_snoc (x : Nat) : ∀ l : List Nat, le (l ++ [x]) = le l + x * 256 ^ l.length
  | [] => by simp [le]
  | y :: r => by
    simp only [List.cons_append, le, le_snoc x r, List.length_cons]
    rw [Nat.pow_succ, Nat.mul_add, Nat.mul_comm (256 ^ r.length) 256, Nat.mul_left_comm]
    omega
theorem le_lt : ∀ l : List Nat, (∀ x ∈ l, x < 256) → le l < 256 ^ l.length
  | [], _ => by simp [le]
  | y :: r, h => by
    have h1 := le_lt r (fun x hx => h x (List.mem_cons_of_mem _ hx))
    have h2 := h y (List.mem_cons_self ..)
    simp only [le, List.length_cons]
    rw [Nat.pow_succ, Nat.mul_comm]
    omega
/-- The eight bytes from a place on, 0 behind the end. -/
def by8 (l : List B8) (p : Nat) : List B8 := (List.range 8).map fun k => l.getD (p + k) 0
theorem by8_len (l : List B8) (p : Nat) : (by8 l p).length = 8 := by simp [by8]
theorem by8_get (l : List B8) (p k : Nat) (h : k < 8) : (by8 l p).getD k 0 = l.getD (p + k) 0 := by
  simp [by8, h]
def num (q : List B8) : Nat := le (q.map (·.toNat))
def low (q : List B8) (k : Nat) : Nat := num (q.take k)
def hig (q : List B8) (k : Nat) : Nat := num (q.drop k)
theorem nums_lt (q : List B8) : ∀ x ∈ q.map (·.toNat), x < 256 := by
  intro x hx
  obtain ⟨y, _, rfl⟩ := List.mem_map.1 hx
  exact y.isLt
theorem num_lt (q : List B8) : num q < 256 ^ q.length := by
  have := le_lt _ (nums_lt q)
  simpa [num] using this
theorem low_zero (q : List B8) : low q 0 = 0 := rfl
theorem low_all (q : List B8) (h : q.length = 8) : low q 8 = num q := by unfold low; rw [List.take_of_length_le (by omega)]
theorem low_succ (q : List B8) (k : Nat) (h : k < q.length) : low q (k + 1) = low q k + (q.getD k 0).toNat * 2 ^ (8 * k) := by
  unfold low num
  rw [List.take_succ_eq_append_getElem h, List.map_append, List.map_cons, List.map_nil, le_snoc]
  simp only [List.length_map, List.length_take, Nat.min_eq_left (Nat.le_of_lt h)]
  rw [show (256 : Nat) = 2 ^ 8 by rfl, ← Nat.pow_mul]
  simp [h]
theorem low_lt (q : List B8) (k : Nat) (h : k ≤ q.length) : low q k < 2 ^ (8 * k) := by
  have := num_lt (q.take k)
  rw [List.length_take, Nat.min_eq_left h, show (256 : Nat) = 2 ^ 8 by rfl, ← Nat.pow_mul] at this
  exact this
theorem hig_end (q : List B8) (h : q.length = 8) : hig q 8 = 0 := by unfold hig; rw [List.drop_of_length_le (by omega)]; rfl
theorem hig_zero (q : List B8) : hig q 0 = num q := rfl
theorem hig_step (q : List B8) (k : Nat) (h : k < q.length) : hig q k = hig q (k + 1) * 256 + (q.getD k 0).toNat := by
  unfold hig num
  rw [List.drop_eq_getElem_cons h, List.map_cons, le]
  simp [h]
  omega
theorem hig_lt (q : List B8) (k : Nat) (h : q.length = 8) : hig q k < 2 ^ (8 * (8 - k)) := by
  have := num_lt (q.drop k)
  rw [List.length_drop, h, show (256 : Nat) = 2 ^ 8 by rfl, ← Nat.pow_mul] at this
  exact this
theorem or_up (a b n : Nat) (h : a < 2 ^ n) : a ||| b * 2 ^ n = a + b * 2 ^ n := by
  have := Nat.two_pow_add_eq_or_of_lt h b
  rw [Nat.or_comm, Nat.mul_comm b, ← this]; omega
theorem or64 (a b : Nat) (ha : a < 18446744073709551616) (hb : b < 18446744073709551616) : bits .or .u64 (a : Int) (b : Int) = ((a ||| b : Nat) : Int) := by
  have hx : a ||| b < 2 ^ 64 := Nat.or_lt_two_pow (by omega) (by omega)
  have h1 : (BitVec.ofInt 64 (a : Int)).toNat = a := by
    rw [BitVec.ofInt_natCast, BitVec.toNat_ofNat]; exact Nat.mod_eq_of_lt (by omega)
  have h2 : (BitVec.ofInt 64 (b : Int)).toNat = b := by
    rw [BitVec.ofInt_natCast, BitVec.toNat_ofNat]; exact Nat.mod_eq_of_lt (by omega)
  show IntKind.u64.wrap ((BitVec.ofInt 64 (a : Int) ||| BitVec.ofInt 64 (b : Int)).toNat : Int) = _
  rw [BitVec.toNat_or, h1, h2, IntKind.wrap_u64]
  omega
/-- The eight bytes of a word. -/
def apartL (v : Nat) : List B8 := (List.range 8).map fun k => BitVec.ofNat 8 (v / 2 ^ (8 * k))
theorem apart_len (v : Nat) : (apartL v).length = 8 := by simp [apartL]
theorem apart_get (v k : Nat) (h : k < 8) : (apartL v).getD k 0 = BitVec.ofNat 8 (v / 2 ^ (8 * k)) := by simp [apartL, h]
/-- How many words a row has. -/
def cnt (n : Nat) : Nat := (n + 7) / 8
/-- The word that stands from a place on. -/
def wd (l : List B8) (p : Nat) : Nat := num (by8 l p)
theorem wd_lt (l : List B8) (p : Nat) : wd l p < 18446744073709551616 := by
  have := num_lt (by8 l p)
  rw [by8_len] at this
  exact this
/-- The checks of the first so many words. -/
def wordsTo (l : List B8) (k : Nat) : List B8 := (List.range k).map fun i => BitVec.ofNat 8 (chk (wd l (8 * i)))
theorem wordsTo_succ (l : List B8) (k : Nat) : wordsTo l (k + 1) = wordsTo l k ++ [BitVec.ofNat 8 (chk (wd l (8 * k)))] := by
  simp [wordsTo, List.range_succ]
theorem wordsTo_len (l : List B8) (k : Nat) : (wordsTo l k).length = k := by simp [wordsTo]
end Go.Proofs.YtjnpfnpeekpleaaDoor.EcX
