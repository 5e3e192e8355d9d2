/- Rows with turned bits: the mathematics. -/
import Derived.Test.YtjnpfnpeekpleaaDoorEcWM
namespace Go.Proofs.YtjnpfnpeekpleaaDoor.EcFM
open Go.ChangeShapes Go.WideShapes Go.ChangeAt Go.RowKit
open EcM EcA EcT EcX EcZ EcWM
set_option linter.unusedVariables false
set_option maxHeartbeats 1000000

theorem xor_split (a b c d : Nat) (hb : b < 256) (hd : d < 256) : (b + 256 * a) ^^^ (d + 256 * c) = (b ^^^ d) + 256 * (a ^^^ c) := by
  have hx : b ^^^ d < 2 ^ 8 := Nat.xor_lt_two_pow (by omega) (by omega)
  have e1 : ((b + 256 * a) ^^^ (d + 256 * c)) / 2 ^ 8 = (a ^^^ c) := by
    rw [Nat.xor_div_two_pow, show (b + 256 * a) / 2 ^ 8 = a by omega, show (d + 256 * c) / 2 ^ 8 = c by omega]
  have e2 : ((b + 256 * a) ^^^ (d + 256 * c)) % 2 ^ 8 = (b ^^^ d) := by
    rw [Nat.xor_mod_two_pow, show (b + 256 * a) % 2 ^ 8 = b by omega, show (d + 256 * c) % 2 ^ 8 = d by omega]
  omega
theorem num_cons (x : B8) (r : List B8) : num (x :: r) = x.toNat + 256 * num r := rfl
theorem num_set : ∀ (q : List B8) (k : Nat) (y : B8), k < q.length → num (q.set k (q.getD k 0 ^^^ y)) = num q ^^^ (y.toNat * 2 ^ (8 * k))
  | [], k, y, h => by simp at h
  | x :: r, 0, y, _ => by
    simp only [List.set_cons_zero, List.getD_cons_zero, num_cons, BitVec.toNat_xor, Nat.mul_zero, Nat.pow_zero, Nat.mul_one]
    have := xor_split (num r) x.toNat 0 y.toNat x.isLt y.isLt
    simpa using this.symm
  | x :: r, k + 1, y, h => by
    simp only [List.set_cons_succ, List.getD_cons_succ, num_cons]
    rw [num_set r k y (by simpa using h)]
    have := xor_split (num r) x.toNat (y.toNat * 2 ^ (8 * k)) 0 x.isLt (by omega)
    have e : y.toNat * 2 ^ (8 * (k + 1)) = 0 + 256 * (y.toNat * 2 ^ (8 * k)) := by
      rw [show 8 * (k + 1) = 8 * k + 8 by omega, Nat.pow_add, Nat.zero_add, show (2 : Nat) ^ 8 = 256 by rfl, ← Nat.mul_assoc, Nat.mul_comm]
    rw [e, this]; simp

/-- One bit of a word, or of its check, is turned. -/
def flipX (x : List B8) (i bit : Nat) : List B8 := if bit < 64 then x.set (8 * i + bit / 8) (x.getD (8 * i + bit / 8) 0 ^^^ BitVec.ofNat 8 (2 ^ (bit % 8))) else x
def flipC (c : List B8) (i bit : Nat) : List B8 := if bit < 64 then c else c.set i (c.getD i 0 ^^^ BitVec.ofNat 8 (2 ^ (bit - 64)))
theorem flipX_len (x : List B8) (i bit : Nat) : (flipX x i bit).length = x.length := by unfold flipX; split <;> simp
theorem flipC_len (c : List B8) (i bit : Nat) : (flipC c i bit).length = c.length := by unfold flipC; split <;> simp
theorem by8_set_far (x : List B8) (i p : Nat) (y : B8) (h : p < 8 * i ∨ 8 * i + 8 ≤ p) : by8 (x.set p y) (8 * i) = by8 x (8 * i) := by
  unfold by8
  refine List.map_congr_left fun k hk => ?_
  have hk8 : k < 8 := by simpa using hk
  simp only [List.getD_eq_getElem?_getD]
  rw [List.getElem?_set_ne (by omega)]
theorem by8_set (x : List B8) (i k : Nat) (y : B8) (hk : k < 8) (h : 8 * i + k < x.length) : by8 (x.set (8 * i + k) y) (8 * i) = (by8 x (8 * i)).set k y := by
  refine List.ext_getElem (by simp [by8]) fun j h1 h2 => ?_
  have hj : j < 8 := by simpa [by8] using h1
  rw [List.getElem_set]
  by_cases e : k = j
  · subst e; simp [by8, h]
  · rw [if_neg e]
    simp only [by8, List.getElem_map, List.getElem_range, List.getD_eq_getElem?_getD]
    rw [List.getElem?_set_ne (by omega)]
/-- The i-th word and its check. -/
def pair (x c : List B8) (i : Nat) : Nat × Nat := (wd x (8 * i), (c.getD i 0).toNat)
theorem pow8 : ∀ r : Fin 8, (BitVec.ofNat 8 (2 ^ r.val)).toNat = 2 ^ r.val := by decide +kernel
theorem flip_pair (x c : List B8) (m i bit : Nat) (hx : x.length = 8 * m) (hc : c.length = m) (hi : i < m) (hb : bit < 72) :
    pair (flipX x i bit) (flipC c i bit) i = turned (pair x c i).1 (pair x c i).2 bit := by
  unfold pair turned flipX flipC
  by_cases h : bit < 64
  · simp only [if_pos h]
    refine Prod.ext ?_ rfl
    show wd _ _ = wd x (8 * i) ^^^ 2 ^ bit
    unfold wd
    rw [by8_set _ _ _ _ (by omega) (by omega), ← by8_get x (8 * i) (bit / 8) (by omega), num_set _ _ _ (by rw [by8_len]; omega)]
    congr 1
    rw [show (BitVec.ofNat 8 (2 ^ (bit % 8))).toNat = 2 ^ (bit % 8) from pow8 ⟨bit % 8, by omega⟩, ← Nat.pow_add]
    congr 1
    omega
  · simp only [if_neg h]
    refine Prod.ext rfl ?_
    show ((c.set i _).getD i 0).toNat = (c.getD i 0).toNat ^^^ 2 ^ (bit - 64)
    rw [List.getD_eq_getElem?_getD, List.getElem?_set_self (by omega), Option.getD_some, BitVec.toNat_xor, show (BitVec.ofNat 8 (2 ^ (bit - 64))).toNat = 2 ^ (bit - 64) from pow8 ⟨bit - 64, by omega⟩]
theorem flip_far (x c : List B8) (m i j bit : Nat) (hb : bit < 72) (hij : i ≠ j) : pair (flipX x i bit) (flipC c i bit) j = pair x c j := by
  unfold pair flipX flipC
  by_cases h : bit < 64
  · simp only [if_pos h]
    refine Prod.ext ?_ rfl
    show wd _ _ = wd _ _
    unfold wd
    rw [by8_set_far _ _ _ _ (by omega)]
  · simp only [if_neg h]
    refine Prod.ext rfl ?_
    show ((c.set i _).getD j 0).toNat = (c.getD j 0).toNat
    rw [List.getD_eq_getElem?_getD, List.getElem?_set_ne hij, List.getD_eq_getElem?_getD]
/-- What a word of a row is, where f tells which bit is turned. -/
def Of (l x c : List B8) (m : Nat) (f : Nat → Option Nat) : Prop := x.length = 8 * m ∧ c.length = m ∧ (∀ j b, f j = some b → b < 72) ∧
  ∀ j, j < m → pair x c j = match f j with
    | none => (wd l (8 * j), chk (wd l (8 * j)))
    | some b => turned (wd l (8 * j)) (chk (wd l (8 * j))) b
theorem Of.start (l : List B8) (m : Nat) (hl : l.length = 8 * m) : Of l l (wordsTo l m) m (fun _ => none) := by
  refine ⟨hl, wordsTo_len l m, ?_, fun j hj => ?_⟩
  · intro j b h
    exact absurd h (by simp)
  unfold pair
  refine Prod.ext rfl ?_
  show ((wordsTo l m).getD j 0).toNat = chk (wd l (8 * j))
  simp only [wordsTo, List.getD_eq_getElem?_getD, List.getElem?_map, List.getElem?_range hj, Option.map_some, Option.getD_some, BitVec.toNat_ofNat]
  exact Nat.mod_eq_of_lt (chk_lt _)
theorem Of.flip {l x c : List B8} {m : Nat} {f : Nat → Option Nat} (h : Of l x c m f) (i b : Nat) (hi : i < m) (hb : b < 72) (hf : f i = none) :
    Of l (flipX x i b) (flipC c i b) m (fun j => if j = i then some b else f j) := by
  obtain ⟨hx, hc, h72, hp⟩ := h
  refine ⟨by rw [flipX_len, hx], by rw [flipC_len, hc], fun j b' h => ?_, fun j hj => ?_⟩
  · have h : (if j = i then some b else f j) = some b' := h
    by_cases e : j = i
    · rw [if_pos e] at h; injection h with h; omega
    · rw [if_neg e] at h; exact h72 j b' h
  · by_cases e : j = i
    · subst e
      have := hp j hj
      rw [hf] at this
      simp only [if_true]
      rw [flip_pair x c m j b hx hc hj hb, this]
    · simp only [if_neg e]
      rw [flip_far x c m i j b hb (Ne.symm e), hp j hj]
theorem trip_pair (x c : List B8) (j : Nat) : trip x c j = mend (pair x c j).1 (pair x c j).2 := rfl
theorem mend_zero (w : Nat) : mend w (chk w) = (w, chk w, 0) := by simp [mend]
theorem Of.trip {l x c : List B8} {m : Nat} {f : Nat → Option Nat} (h : Of l x c m f) (j : Nat) (hj : j < m) :
    trip x c j = (wd l (8 * j), chk (wd l (8 * j)), if (f j).isSome then 1 else 0) := by
  obtain ⟨_, _, h72, hp⟩ := h
  rw [trip_pair, hp j hj]
  cases hf : f j with
  | none => simp [mend_zero]
  | some b => simp only [Option.isSome_some, if_true]; exact mend_one _ _ (h72 j b hf)
/-- Where two bits of a word are turned the row is bad. -/
theorem Of.twice {l x c : List B8} {m : Nat} {f : Nat → Option Nat} (h : Of l x c m f) (i b b' : Nat) (hi : i < m) (hf : f i = some b) (hb' : b' < 72) (hne : b ≠ b') :
    ¬ EcWM.Good (flipX x i b') (flipC c i b') := by
  obtain ⟨hx, hc, h72, hp⟩ := h
  intro hG
  obtain ⟨_, hk, _⟩ := hG
  have h1 := hk i (by rw [flipX_len, hx]; unfold cnt; omega)
  have h2 := hp i hi
  rw [hf] at h2
  rw [trip_pair, flip_pair x c m i b' hx hc hi hb', h2] at h1
  have h3 := mend_two (wd l (8 * i)) b b' (h72 i b hf) hb' hne (turned (wd l (8 * i)) (chk (wd l (8 * i))) b).1 (turned (wd l (8 * i)) (chk (wd l (8 * i))) b).2 rfl
  simp only at h1 h3
  rw [h3] at h1
  exact h1 rfl
theorem byte_num (q : List B8) (k : Nat) (h : k < q.length) : BitVec.ofNat 8 (num q / 2 ^ (8 * k)) = q.getD k 0 := by
  have key : ∀ (q : List B8) (k : Nat), k < q.length → num q / 2 ^ (8 * k) % 256 = (q.getD k 0).toNat := by
    intro q
    induction q with
    | nil => intro k h; simp at h
    | cons x r ih =>
      intro k h
      rw [num_cons]
      cases k with
      | zero => simp; have := x.isLt; omega
      | succ k =>
        rw [show 8 * (k + 1) = 8 + 8 * k by omega, Nat.pow_add, ← Nat.div_div_eq_div_mul, show (x.toNat + 256 * num r) / 2 ^ 8 = num r by have := x.isLt; omega]
        simpa using ih k (by simpa using h)
  apply BitVec.eq_of_toNat_eq
  rw [BitVec.toNat_ofNat]
  exact key q k h
theorem Of.out {l x c : List B8} {m : Nat} {f : Nat → Option Nat} (h : Of l x c m f) (hl : l.length = 8 * m) : outTo x c m = l := by
  refine List.ext_getElem (by simp [outTo, hl]) fun t h1 h2 => ?_
  have ht : t < 8 * m := by simpa [outTo] using h1
  simp only [outTo, List.getElem_map, List.getElem_range]
  unfold Bt
  rw [h.trip (t / 8) (by omega)]
  show BitVec.ofNat 8 (wd l (8 * (t / 8)) / 2 ^ (8 * (t % 8))) = _
  unfold wd
  rw [byte_num _ _ (by rw [by8_len]; omega), by8_get _ _ _ (by omega), show 8 * (t / 8) + t % 8 = t by omega]
  simp [h2]
/-- How many bits are turned. -/
def turns (f : Nat → Option Nat) : Nat → Nat
  | 0 => 0
  | k + 1 => turns f k + if (f k).isSome then 1 else 0
theorem Of.cnt {l x c : List B8} {m : Nat} {f : Nat → Option Nat} (h : Of l x c m f) : ∀ k, k ≤ m → cntTo x c k = turns f k
  | 0, _ => rfl
  | k + 1, hk => by
    unfold cntTo turns
    rw [Of.cnt h k (by omega), h.trip k (by omega)]
    cases hf : (f k).isSome <;> simp [hf]
theorem Of.good {l x c : List B8} {m : Nat} {f : Nat → Option Nat} (h : Of l x c m f) : EcWM.Good x c := by
  have hx := h.1
  have hc := h.2.1
  have hm : EcX.cnt x.length = m := by rw [hx]; unfold EcX.cnt; omega
  refine ⟨by rw [hm, hc], fun i hi => ?_, fun t h1 h2 => ?_⟩
  · rw [h.trip i (by omega)]
    simp only
    split <;> omega
  · rw [hm] at h2; omega
/-- The bits that are turned in the first so many words. -/
def bits (z : List Int) (n i : Nat) (j : Nat) : Option Nat := if j < i ∧ j < n ∧ 0 ≤ z.getD j 0 then some ((z.getD j 0).toNat % 72) else none
theorem bits_zero (z : List Int) (n : Nat) : bits z n 0 = fun _ => none := by
  funext j; simp [bits]
theorem bits_yes (z : List Int) (n i : Nat) (hn : i < n) (h : 0 ≤ z.getD i 0) : bits z n (i + 1) = fun j => if j = i then some ((z.getD i 0).toNat % 72) else bits z n i j := by
  funext j
  by_cases e : j = i
  · subst e; simp only [bits, if_true]; rw [if_pos ⟨by omega, hn, h⟩]
  · simp only [if_neg e, bits]
    by_cases h' : j < i ∧ j < n ∧ 0 ≤ z.getD j 0
    · rw [if_pos ⟨by omega, h'.2⟩, if_pos h']
    · rw [if_neg (fun hh => h' ⟨by omega, hh.2⟩), if_neg h']
theorem bits_no (z : List Int) (n i : Nat) (h : z.getD i 0 < 0) : bits z n (i + 1) = bits z n i := by
  funext j
  simp only [bits]
  by_cases e : j = i
  · subst e; rw [if_neg (fun hh => by omega), if_neg (fun hh => by omega)]
  · by_cases h' : j < i ∧ j < n ∧ 0 ≤ z.getD j 0
    · rw [if_pos ⟨by omega, h'.2⟩, if_pos h']
    · rw [if_neg (fun hh => h' ⟨by omega, hh.2⟩), if_neg h']
theorem bits_end (z : List Int) (n i : Nat) (h : n ≤ i) (i' : Nat) (h' : i ≤ i') : bits z n i' = bits z n i := by
  funext j
  simp only [bits]
  by_cases hh : j < i ∧ j < n ∧ 0 ≤ z.getD j 0
  · rw [if_pos ⟨by omega, hh.2⟩, if_pos hh]
  · rw [if_neg (fun hx => hh ⟨by omega, hx.2⟩), if_neg hh]
theorem bits_self (z : List Int) (n i : Nat) : bits z n i i = none := by simp [bits]
theorem turns_mono (f g : Nat → Option Nat) : ∀ k, (∀ j, j < k → f j = g j) → turns f k = turns g k
  | 0, _ => rfl
  | k + 1, h => by unfold turns; rw [turns_mono f g k (fun j hj => h j (by omega)), h k (by omega)]
theorem turns_succ (f : Nat → Option Nat) (k : Nat) : turns f (k + 1) = turns f k + if (f k).isSome then 1 else 0 := rfl
/-- What has been turned so far, counted. -/
def count (z : List Int) (n i : Nat) : Nat := turns (bits z n i) i
theorem count_yes (z : List Int) (n i : Nat) (hn : i < n) (h : 0 ≤ z.getD i 0) : count z n (i + 1) = count z n i + 1 := by
  unfold count
  rw [turns_succ, bits_yes z n i hn h]
  simp only [if_true, Option.isSome_some]
  rw [turns_mono _ (bits z n i) i (fun j hj => by simp [show j ≠ i by omega])]
theorem count_no (z : List Int) (n i : Nat) (h : z.getD i 0 < 0) : count z n (i + 1) = count z n i := by
  unfold count
  rw [turns_succ, bits_no z n i h, bits_self]; simp
theorem turns_beyond (z : List Int) (n i : Nat) : ∀ k, i ≤ k → turns (bits z n i) k = turns (bits z n i) i
  | 0, h => by rw [show i = 0 by omega]
  | k + 1, h => by
    by_cases e : i = k + 1
    · rw [e]
    · rw [turns_succ, turns_beyond z n i k (by omega)]
      rw [show bits z n i k = none by simp only [bits]; rw [if_neg (fun hh => by omega)]]
      simp
theorem turns_le (f : Nat → Option Nat) : ∀ k, turns f k ≤ k
  | 0 => Nat.le_refl _
  | k + 1 => by rw [turns_succ]; have := turns_le f k; split <;> omega
theorem count_le (z : List Int) (n i : Nat) : count z n i ≤ i := turns_le _ i
end Go.Proofs.YtjnpfnpeekpleaaDoor.EcFM
