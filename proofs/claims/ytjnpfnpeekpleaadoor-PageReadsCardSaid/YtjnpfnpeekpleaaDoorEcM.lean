/- Mathematics of the words' checks: the parallel count of bits, parities, columns. -/
import Derived.Lib.BitFns
namespace Go.Proofs.YtjnpfnpeekpleaaDoor.EcM
open Go
set_option linter.unusedVariables false
set_option maxHeartbeats 1000000
def pc (x : Nat) : Nat := Lib.onesCount x

theorem pop_succ (f x : Nat) : Lib.popAux (f + 1) x = x % 2 + Lib.popAux f (x / 2) := rfl
theorem pop_split : ∀ (n f x : Nat), Lib.popAux (n + f) x = Lib.popAux n (x % 2 ^ n) + Lib.popAux f (x / 2 ^ n)
  | 0, f, x => by simp [Lib.popAux]
  | n + 1, f, x => by
    rw [show n + 1 + f = (n + f) + 1 by omega, pop_succ, pop_succ, pop_split n f (x / 2)]
    have e1 : x % 2 ^ (n + 1) % 2 = x % 2 := by rw [Nat.pow_succ, Nat.mul_comm]; exact Nat.mod_mul_right_mod x 2 (2 ^ n)
    have e2 : x % 2 ^ (n + 1) / 2 = x / 2 % 2 ^ n := by rw [Nat.pow_succ, Nat.mul_comm]; exact Nat.mod_mul_right_div_self x 2 (2 ^ n)
    have e3 : x / 2 / 2 ^ n = x / 2 ^ (n + 1) := by rw [Nat.div_div_eq_div_mul, Nat.pow_succ, Nat.mul_comm]
    rw [e1, e2, e3]; omega

def M (m : Nat) : Nat → Nat
  | 0 => 0
  | n + 1 => M m n * 256 + m

theorem M_succ (m n : Nat) : M m (n + 1) = M m n * 256 + m := rfl
theorem and_split (a b c d : Nat) (hb : b < 256) (hd : d < 256) : (a * 256 + b) &&& (c * 256 + d) = (a &&& c) * 256 + (b &&& d) := by
  have e1 : ((a * 256 + b) &&& (c * 256 + d)) / 2 ^ 8 = (a &&& c) := by
    rw [Nat.and_div_two_pow, show (a * 256 + b) / 2 ^ 8 = a by omega, show (c * 256 + d) / 2 ^ 8 = c by omega]
  have e2 : ((a * 256 + b) &&& (c * 256 + d)) % 2 ^ 8 = (b &&& d) := by
    rw [Nat.and_mod_two_pow, show (a * 256 + b) % 2 ^ 8 = b by omega, show (c * 256 + d) % 2 ^ 8 = d by omega]
  omega

def t1 (b : Nat) : Nat := (b / 2 &&& 85) + (b &&& 85)
def t2 (b : Nat) : Nat := (b / 4 &&& 51) + (b &&& 51)
def s1 (n x : Nat) : Nat := (x / 2 &&& M 85 n) + (x &&& M 85 n)
def s2 (n x : Nat) : Nat := (x / 4 &&& M 51 n) + (x &&& M 51 n)
def s3 (n x : Nat) : Nat := (x / 16 + x) &&& M 15 n

theorem f1 : ∀ (b : Fin 256) (c : Fin 2), (b.val / 2 + 128 * c.val) &&& 85 = b.val / 2 &&& 85 := by decide +kernel
theorem f2 : ∀ (b : Fin 256) (c : Fin 4), (b.val / 4 + 64 * c.val) &&& 51 = b.val / 4 &&& 51 := by decide +kernel
theorem g1 : ∀ b : Fin 256, t1 b.val < 256 ∧ t2 b.val < 256 ∧ t2 (t1 b.val) / 16 ≤ 4 ∧ t2 (t1 b.val) % 16 ≤ 4 ∧ t2 (t1 b.val) / 16 + t2 (t1 b.val) % 16 = Lib.popAux 8 b.val ∧ Lib.popAux 8 b.val ≤ 8 := by decide +kernel

theorem s1_split (n x : Nat) : s1 (n + 1) x = s1 n (x / 256) * 256 + t1 (x % 256) := by
  unfold s1 t1
  rw [M_succ]
  have h := f1 ⟨x % 256, by omega⟩ ⟨x / 256 % 2, by omega⟩
  simp only at h
  have e1 : x / 2 = (x / 256 / 2) * 256 + (x % 256 / 2 + 128 * (x / 256 % 2)) := by omega
  have e2 : x = (x / 256) * 256 + x % 256 := by omega
  rw [e1, and_split _ _ _ _ (by omega) (by omega), h]
  conv => lhs; rhs; rw [e2, and_split _ _ _ _ (by omega) (by omega)]
  omega
theorem s2_split (n x : Nat) : s2 (n + 1) x = s2 n (x / 256) * 256 + t2 (x % 256) := by
  unfold s2 t2
  rw [M_succ]
  have h := f2 ⟨x % 256, by omega⟩ ⟨x / 256 % 4, by omega⟩
  simp only at h
  have e1 : x / 4 = (x / 256 / 4) * 256 + (x % 256 / 4 + 64 * (x / 256 % 4)) := by omega
  have e2 : x = (x / 256) * 256 + x % 256 := by omega
  rw [e1, and_split _ _ _ _ (by omega) (by omega), h]
  conv => lhs; rhs; rw [e2, and_split _ _ _ _ (by omega) (by omega)]
  omega
theorem s12_split (n x : Nat) : s2 (n + 1) (s1 (n + 1) x) = s2 n (s1 n (x / 256)) * 256 + t2 (t1 (x % 256)) := by
  have h := g1 ⟨x % 256, by omega⟩
  simp only at h
  rw [s2_split, s1_split, show (s1 n (x / 256) * 256 + t1 (x % 256)) / 256 = s1 n (x / 256) by omega, show (s1 n (x / 256) * 256 + t1 (x % 256)) % 256 = t1 (x % 256) by omega]
theorem s12_low (n x : Nat) : s2 n (s1 n x) % 16 ≤ 4 := by
  cases n with
  | zero => simp [s2, M]
  | succ n =>
    have h := g1 ⟨x % 256, by omega⟩
    simp only at h
    rw [s12_split]; omega
def full (n x : Nat) : Nat := s3 n (s2 n (s1 n x))
theorem full_split (n x : Nat) : full (n + 1) x = full n (x / 256) * 256 + Lib.popAux 8 (x % 256) := by
  unfold full
  rw [s12_split]
  have h := g1 ⟨x % 256, by omega⟩
  simp only at h
  have hl := s12_low n (x / 256)
  generalize s2 n (s1 n (x / 256)) = y at hl ⊢
  generalize t2 (t1 (x % 256)) = b at h ⊢
  unfold s3
  rw [M_succ, show (y * 256 + b) / 16 + (y * 256 + b) = (y / 16 + y) * 256 + (b / 16 + 16 * (y % 16) + b) by omega, and_split _ _ _ _ (by omega) (by omega)]
  have e := Nat.and_two_pow_sub_one_eq_mod (b / 16 + 16 * (y % 16) + b) 4
  rw [show (2 : Nat) ^ 4 - 1 = 15 by rfl] at e
  rw [e]; omega
theorem full0 (x : Nat) : full 0 x = 0 := by simp [full, s3, M]

def ones (x : Nat) : Nat :=
  let a := full 8 x
  let b := a + a / 256
  let c := b + b / 65536
  let d := c + c / 4294967296
  d &&& 127

theorem full_bounds (x : Nat) : full 8 x ≤ 578721382704613384 := by
  have L : ∀ b, Lib.popAux 8 (b % 256) ≤ 8 := fun b => (g1 ⟨b % 256, by omega⟩).2.2.2.2.2
  simp only [full_split, full0]
  have h0 := L x; have h1 := L (x / 256); have h2 := L (x / 256 / 256); have h3 := L (x / 256 / 256 / 256)
  have h4 := L (x / 256 / 256 / 256 / 256); have h5 := L (x / 256 / 256 / 256 / 256 / 256); have h6 := L (x / 256 / 256 / 256 / 256 / 256 / 256)
  have h7 := L (x / 256 / 256 / 256 / 256 / 256 / 256 / 256)
  omega

theorem pc_lanes (x : Nat) : pc x = Lib.popAux 8 (x % 256) + (Lib.popAux 8 (x / 256 % 256) + (Lib.popAux 8 (x / 256 / 256 % 256) + (Lib.popAux 8 (x / 256 / 256 / 256 % 256) + (Lib.popAux 8 (x / 256 / 256 / 256 / 256 % 256) + (Lib.popAux 8 (x / 256 / 256 / 256 / 256 / 256 % 256) + (Lib.popAux 8 (x / 256 / 256 / 256 / 256 / 256 / 256 % 256) + Lib.popAux 8 (x / 256 / 256 / 256 / 256 / 256 / 256 / 256 % 256))))))) := by
  unfold pc Lib.onesCount
  have s := fun (f x : Nat) => pop_split 8 f x
  rw [show (64 : Nat) = 8 + 56 by rfl, s, show (56 : Nat) = 8 + 48 by rfl, s, show (48 : Nat) = 8 + 40 by rfl, s, show (40 : Nat) = 8 + 32 by rfl, s, show (32 : Nat) = 8 + 24 by rfl, s, show (24 : Nat) = 8 + 16 by rfl, s, show (16 : Nat) = 8 + 8 by rfl, s, show Lib.popAux 8 (x / 2 ^ 8 / 2 ^ 8 / 2 ^ 8 / 2 ^ 8 / 2 ^ 8 / 2 ^ 8 / 2 ^ 8) = Lib.popAux (8 + 0) (x / 2 ^ 8 / 2 ^ 8 / 2 ^ 8 / 2 ^ 8 / 2 ^ 8 / 2 ^ 8 / 2 ^ 8) by rfl, s]
  simp [Lib.popAux]

theorem ones_eq (x : Nat) : ones x = pc x := by
  have L : ∀ b, Lib.popAux 8 (b % 256) ≤ 8 := fun b => (g1 ⟨b % 256, by omega⟩).2.2.2.2.2
  rw [pc_lanes]
  unfold ones
  simp only [full_split, full0]
  have h0 := L x; have h1 := L (x / 256); have h2 := L (x / 256 / 256); have h3 := L (x / 256 / 256 / 256)
  have h4 := L (x / 256 / 256 / 256 / 256); have h5 := L (x / 256 / 256 / 256 / 256 / 256); have h6 := L (x / 256 / 256 / 256 / 256 / 256 / 256)
  have h7 := L (x / 256 / 256 / 256 / 256 / 256 / 256 / 256)
  generalize Lib.popAux 8 (x % 256) = n0 at *
  generalize Lib.popAux 8 (x / 256 % 256) = n1 at *
  generalize Lib.popAux 8 (x / 256 / 256 % 256) = n2 at *
  generalize Lib.popAux 8 (x / 256 / 256 / 256 % 256) = n3 at *
  generalize Lib.popAux 8 (x / 256 / 256 / 256 / 256 % 256) = n4 at *
  generalize Lib.popAux 8 (x / 256 / 256 / 256 / 256 / 256 % 256) = n5 at *
  generalize Lib.popAux 8 (x / 256 / 256 / 256 / 256 / 256 / 256 % 256) = n6 at *
  generalize Lib.popAux 8 (x / 256 / 256 / 256 / 256 / 256 / 256 / 256 % 256) = n7 at *
  have e := fun d => Nat.and_two_pow_sub_one_eq_mod d 7
  rw [show (2 : Nat) ^ 7 - 1 = 127 by rfl] at e
  rw [e]
  obtain ⟨b, hb⟩ : ∃ b, b = ((((((((0 * 256 + n7) * 256 + n6) * 256 + n5) * 256 + n4) * 256 + n3) * 256 + n2) * 256 + n1) * 256 + n0) + ((((((((0 * 256 + n7) * 256 + n6) * 256 + n5) * 256 + n4) * 256 + n3) * 256 + n2) * 256 + n1) * 256 + n0) / 256 := ⟨_, rfl⟩
  rw [← hb]
  have hb' : b = n0 + n1 + 256 * (n1 + n2 + 256 * (n2 + n3 + 256 * (n3 + n4 + 256 * (n4 + n5 + 256 * (n5 + n6 + 256 * (n6 + n7 + 256 * n7)))))) := by omega
  clear hb
  obtain ⟨c, hc⟩ : ∃ c, c = b + b / 65536 := ⟨_, rfl⟩
  rw [← hc]
  have hd : b / 65536 = n2 + n3 + 256 * (n3 + n4 + 256 * (n4 + n5 + 256 * (n5 + n6 + 256 * (n6 + n7 + 256 * n7)))) := by omega
  have hc' : c = n0 + n1 + n2 + n3 + 256 * (n1 + n2 + n3 + n4 + 256 * (n2 + n3 + n4 + n5 + 256 * (n3 + n4 + n5 + n6 + 256 * (n4 + n5 + n6 + n7 + 256 * (n5 + n6 + n7 + 256 * (n6 + n7 + 256 * n7)))))) := by omega
  clear hd hc hb'
  have he : c / 4294967296 = n4 + n5 + n6 + n7 + 256 * (n5 + n6 + n7 + 256 * (n6 + n7 + 256 * n7)) := by omega
  omega

/-- Parities mix. -/
theorem pop_xor : ∀ (f a b : Nat), Lib.popAux f (a ^^^ b) % 2 = (Lib.popAux f a + Lib.popAux f b) % 2
  | 0, a, b => by simp [Lib.popAux]
  | f + 1, a, b => by
    rw [pop_succ, pop_succ, pop_succ]
    have h := pop_xor f (a / 2) (b / 2)
    rw [Nat.xor_div_two]
    have e : (a ^^^ b) % 2 = (a % 2 + b % 2) % 2 := by
      have := Nat.xor_mod_two_pow (a := a) (b := b) (n := 1)
      rw [Nat.pow_one] at this
      rw [this]
      rcases Nat.mod_two_eq_zero_or_one a with h | h <;> rcases Nat.mod_two_eq_zero_or_one b with h' | h' <;> simp [h, h']
    omega

def msk : List Nat := [16070007132869700791, 17224092265527530843, 17802880170850556525, 8872392266414089102, 13637495625167602672, 4504690376192293888, 13905989783771938816, 72057559678189568]
def par (w m : Nat) : Nat := pc (w &&& m) % 2
theorem par_lt (w m : Nat) : par w m < 2 := by unfold par; omega
theorem par_xor (a b m : Nat) : par (a ^^^ b) m = (par a m + par b m) % 2 := by
  unfold par pc Lib.onesCount
  rw [Nat.and_xor_distrib_right, pop_xor]; omega
def hor : List Nat → Nat
  | [] => 0
  | p :: l => p + 2 * hor l
def chk (w : Nat) : Nat := hor (msk.map (par w))
theorem xor_two (a b p q : Nat) (hp : p < 2) (hq : q < 2) : (p + 2 * a) ^^^ (q + 2 * b) = (p + q) % 2 + 2 * (a ^^^ b) := by
  have e1 : ((p + 2 * a) ^^^ (q + 2 * b)) / 2 = a ^^^ b := by rw [Nat.xor_div_two, show (p + 2 * a) / 2 = a by omega, show (q + 2 * b) / 2 = b by omega]
  have e2 : ((p + 2 * a) ^^^ (q + 2 * b)) % 2 = (p + q) % 2 := by
    have := Nat.xor_mod_two_pow (a := p + 2 * a) (b := q + 2 * b) (n := 1)
    rw [Nat.pow_one] at this
    rw [this, show (p + 2 * a) % 2 = p by omega, show (q + 2 * b) % 2 = q by omega]
    have h1 : p = 0 ∨ p = 1 := by omega
    have h2 : q = 0 ∨ q = 1 := by omega
    rcases h1 with rfl | rfl <;> rcases h2 with rfl | rfl <;> simp
  omega
theorem hor_xor (a b : Nat) : ∀ l : List Nat, hor (l.map (par (a ^^^ b))) = hor (l.map (par a)) ^^^ hor (l.map (par b))
  | [] => by simp [hor]
  | m :: l => by
    simp only [List.map_cons, hor]
    rw [xor_two _ _ _ _ (par_lt a m) (par_lt b m), hor_xor a b l, par_xor]
theorem chk_xor (a b : Nat) : chk (a ^^^ b) = chk a ^^^ chk b := hor_xor a b msk
theorem chk_lt (w : Nat) : chk w < 256 := by
  unfold chk msk
  simp only [List.map_cons, List.map_nil, hor]
  generalize hq : par w = q
  have := fun m => par_lt w m
  rw [hq] at this
  have h0 := this 16070007132869700791; have h1 := this 17224092265527530843; have h2 := this 17802880170850556525; have h3 := this 8872392266414089102
  have h4 := this 13637495625167602672; have h5 := this 4504690376192293888; have h6 := this 13905989783771938816; have h7 := this 72057559678189568
  omega

def cols : List Nat := [7, 11, 13, 14, 19, 21, 22, 25, 26, 28, 35, 37, 38, 41, 42, 44, 49, 50, 52, 56, 67, 69, 70, 73, 74, 76, 81, 82, 84, 88, 97, 98, 100, 104, 112, 131, 133, 134, 137, 138, 140, 145, 146, 148, 152, 161, 162, 164, 168, 176, 193, 194, 196, 200, 208, 224, 31, 47, 55, 59, 61, 62, 79, 87]
def col (i : Nat) : Nat := cols.getD i 0
theorem col_bit : ∀ i : Fin 64, chk (2 ^ i.val) = col i.val := by decide +kernel
theorem col_eq : ∀ i j : Fin 64, col i.val = col j.val ↔ i = j := by decide +kernel
def oddOf (x : Nat) : Nat := x % 2 + (x / 2 % 2 + (x / 4 % 2 + (x / 8 % 2 + (x / 16 % 2 + (x / 32 % 2 + (x / 64 % 2 + x / 128 % 2))))))
theorem col_odd : ∀ i : Fin 64, oddOf (col i.val) % 2 = 1 ∧ 1 < oddOf (col i.val) := by decide +kernel

/-- The first column that is s. -/
def find (s : Nat) : Option Nat := (List.range 64).find? (fun i => col i == s)
def mend (w c : Nat) : Nat × Nat × Nat :=
  let s := chk w ^^^ c
  if s = 0 then (w, c, 0) else if pc s = 1 then (w, c ^^^ s, 1) else match find s with
    | some i => (w ^^^ 2 ^ i, c, 1)
    | none => (w, c, 2)
def syn (i : Nat) : Nat := if i < 64 then col i else 2 ^ (i - 64)
theorem syn_col : ∀ i : Fin 64, syn i.val ≠ 0 ∧ pc (syn i.val) ≠ 1 ∧ find (syn i.val) = some i.val := by decide +kernel
theorem syn_bit : ∀ j : Fin 8, syn (64 + j.val) = 2 ^ j.val ∧ 2 ^ j.val ≠ 0 ∧ pc (2 ^ j.val) = 1 := by decide +kernel
theorem syn_two : ∀ i j : Fin 72, i ≠ j → syn i.val ^^^ syn j.val ≠ 0 ∧ pc (syn i.val ^^^ syn j.val) ≠ 1 ∧ find (syn i.val ^^^ syn j.val) = none := by decide +kernel
def turned (w c i : Nat) : Nat × Nat := if i < 64 then (w ^^^ 2 ^ i, c) else (w, c ^^^ 2 ^ (i - 64))
theorem turned_syn (w c i : Nat) : chk (turned w c i).1 ^^^ (turned w c i).2 = (chk w ^^^ c) ^^^ syn i := by
  unfold turned syn
  split
  · rename_i h
    rw [chk_xor, show chk (2 ^ i) = col i from col_bit ⟨i, h⟩]
    simp only [Nat.xor_assoc, Nat.xor_comm c]
  · simp only [Nat.xor_assoc]
theorem mend_one (w i : Nat) (hi : i < 72) : mend (turned w (chk w) i).1 (turned w (chk w) i).2 = (w, chk w, 1) := by
  have h := turned_syn w (chk w) i
  rw [Nat.xor_self, Nat.zero_xor] at h
  unfold mend
  simp only [h]
  by_cases h64 : i < 64
  · obtain ⟨a, b, c⟩ := syn_col ⟨i, h64⟩
    simp only at a b c
    rw [if_neg a, if_neg b, c]
    simp [turned, h64, Nat.xor_assoc]
  · obtain ⟨a, b, c⟩ := syn_bit ⟨i - 64, by omega⟩
    simp only [show 64 + (i - 64) = i by omega] at a b c
    rw [a, if_neg b, if_pos c]
    simp [turned, h64, Nat.xor_assoc]
theorem mend_two (w i j : Nat) (hi : i < 72) (hj : j < 72) (hij : i ≠ j) (v d : Nat) (hv : turned w (chk w) i = (v, d)) : mend (turned v d j).1 (turned v d j).2 = ((turned v d j).1, (turned v d j).2, 2) := by
  have h := turned_syn w (chk w) i
  rw [Nat.xor_self, Nat.zero_xor, hv] at h
  have h2 := turned_syn v d j
  simp only at h
  rw [h] at h2
  unfold mend
  obtain ⟨a, b, c⟩ := syn_two ⟨i, hi⟩ ⟨j, hj⟩ (by simpa [Fin.ext_iff] using hij)
  simp only [h2]
  rw [if_neg a, if_neg b, c]
end Go.Proofs.YtjnpfnpeekpleaaDoor.EcM
