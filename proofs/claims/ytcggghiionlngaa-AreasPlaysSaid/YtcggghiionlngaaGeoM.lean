/- Plain facts on shapes. No program. -/
namespace Go.Proofs.Ytcggghiionlngaa.GeoM

structure Cfg where
  (blocks pages sector user boot rpa group cache spare : Int)
deriving DecidableEq

def within (v lo hi : Int) : Int := max lo (min v hi)
def bnd (c : Cfg) : Cfg :=
  ⟨within c.blocks 1 1024, within c.pages 4 256 - within c.pages 4 256 % 2, within c.sector 128 448 / 64 * 64, within c.user 1 16384, within c.boot 1 256, within c.rpa 1 256, within c.group 1 (within c.user 1 16384), within c.cache 0 64, within c.spare 0 (within c.blocks 1 1024)⟩
/-- The numbers alone. -/
def Plain (c : Cfg) : Prop := 1 ≤ c.blocks ∧ c.blocks ≤ 1024 ∧ 4 ≤ c.pages ∧ c.pages ≤ 256 ∧ c.pages % 2 = 0 ∧ 128 ≤ c.sector ∧ c.sector ≤ 448 ∧ c.sector % 64 = 0 ∧ 1 ≤ c.user ∧ c.user ≤ 16384 ∧ 1 ≤ c.boot ∧ c.boot ≤ 256 ∧ 1 ≤ c.rpa ∧ c.rpa ≤ 256 ∧ 1 ≤ c.group ∧ c.group ≤ c.user ∧ 0 ≤ c.cache ∧ c.cache ≤ 64 ∧ 0 ≤ c.spare ∧ c.spare ≤ c.blocks
theorem within_eq {v lo hi : Int} (h : lo ≤ hi) : within v lo hi = v ↔ lo ≤ v ∧ v ≤ hi := by unfold within; omega
theorem within_bd {v lo hi : Int} (h : lo ≤ hi) : lo ≤ within v lo hi ∧ within v lo hi ≤ hi := by unfold within; omega
theorem bnd_plain (c : Cfg) : bnd c = c ↔ Plain c := by
  obtain ⟨b, p, s, u, o, r, g, k, x⟩ := c
  unfold bnd Plain
  simp only [Cfg.mk.injEq]
  have e1 := @within_eq b 1 1024 (by omega)
  have e4 := @within_eq u 1 16384 (by omega)
  have e5 := @within_eq o 1 256 (by omega)
  have e6 := @within_eq r 1 256 (by omega)
  have e8 := @within_eq k 0 64 (by omega)
  have b1 := @within_bd b 1 1024 (by omega)
  have b4 := @within_bd u 1 16384 (by omega)
  constructor
  · rintro ⟨h1, h2, h3, h4, h5, h6, h7, h8, h9⟩
    rw [h4] at h7
    rw [h1] at h9
    have a1 := e1.1 h1
    have a4 := e4.1 h4
    have a5 := e5.1 h5
    have a6 := e6.1 h6
    have a8 := e8.1 h8
    have a7 := (within_eq (by omega)).1 h7
    have a9 := (within_eq (by omega)).1 h9
    have w2 := @within_bd p 4 256 (by omega)
    have w3 := @within_bd s 128 448 (by omega)
    unfold within at h2 h3 w2 w3
    omega
  · rintro ⟨h1, h2, h3, h4, h5, h6, h7, h8, h9, h10, h11, h12, h13, h14, h15, h16, h17, h18, h19, h20⟩
    have a1 := e1.2 ⟨h1, h2⟩
    have a4 := e4.2 ⟨h9, h10⟩
    rw [a1, a4]
    have w2 : within p 4 256 = p := (within_eq (by omega)).2 ⟨h3, h4⟩
    have w3 : within s 128 448 = s := (within_eq (by omega)).2 ⟨h6, h7⟩
    rw [w2, w3]
    exact ⟨rfl, by omega, by omega, rfl, e5.2 ⟨h11, h12⟩, e6.2 ⟨h13, h14⟩, (within_eq (by omega)).2 ⟨h15, h16⟩, e8.2 ⟨h17, h18⟩, (within_eq (by omega)).2 ⟨h19, h20⟩⟩

/-- Divided upwards. -/
def up (n d : Int) : Int := if 0 < n % d then n / d + 1 else n / d
def need (c : Cfg) (n : Int) : Int :=
  let e := max 0 (min n c.user)
  let two := up (c.user - e) c.pages
  let one := up (e + 2 * c.boot + c.rpa) (c.pages / 2)
  two + up two 2 + one + up one 2 + 24 + c.spare
def groups (c : Cfg) : Int := c.user / c.group
def check (c : Cfg) : Bool := decide (bnd c = c) && decide (c.user % c.group = 0) && decide (groups c ≤ 32) && decide (need c 0 ≤ c.blocks)
theorem check_plain {c : Cfg} (h : check c = true) : Plain c ∧ c.user % c.group = 0 ∧ groups c ≤ 32 ∧ need c 0 ≤ c.blocks := by
  unfold check at h
  simp only [Bool.and_eq_true, decide_eq_true_eq] at h
  exact ⟨(bnd_plain c).1 h.1.1.1, h.1.1.2, h.1.2, h.2⟩

theorem up_spec (n d : Int) (hn : 0 ≤ n) (hd : 0 < d) : d * (up n d - 1) < n ∧ n ≤ d * up n d ∧ 0 ≤ up n d ∧ up n d ≤ n := by
  have h1 := Int.emod_add_mul_ediv n d
  have h2 := Int.emod_nonneg n (by omega : d ≠ 0)
  have h3 := Int.emod_lt_of_pos n hd
  have h4 : 0 ≤ n / d := Int.ediv_nonneg hn (by omega)
  have h5 : n / d ≤ d * (n / d) := by
    have := Int.mul_le_mul_of_nonneg_right (show (1 : Int) ≤ d by omega) h4
    rwa [Int.one_mul] at this
  unfold up
  split
  · rename_i hh
    refine ⟨?_, ?_, by omega, by omega⟩
    · rw [show n / d + 1 - 1 = n / d by omega]; omega
    · rw [Int.mul_add, Int.mul_one]; omega
  · rename_i hh
    refine ⟨?_, by omega, h4, by omega⟩
    rw [Int.mul_sub, Int.mul_one]; omega
theorem up_two (n : Int) (_ : 0 ≤ n) : up n 2 = (n + 1) / 2 := by
  unfold up
  split <;> omega

theorem need_mono (c : Cfg) (hc : Plain c) (n m : Int) (h0 : 0 ≤ n) (h1 : n ≤ m) (h2 : m ≤ c.user) : need c n ≤ need c m + 3 := by
  obtain ⟨a1, a2, a3, a4, a5, a6, a7, a8, a9, a10, a11, a12, a13, a14, a15, a16, a17, a18, a19, a20⟩ := hc
  unfold need
  dsimp only
  rw [show max 0 (min n c.user) = n by omega, show max 0 (min m c.user) = m by omega]
  obtain ⟨h, hh⟩ : ∃ h, h = c.pages / 2 := ⟨_, rfl⟩
  have hp : c.pages = 2 * h := by omega
  rw [← hh, hp]
  have hh0 : 0 < h := by omega
  have s1 := up_spec (c.user - n) (2 * h) (by omega) (by omega)
  have s2 := up_spec (c.user - m) (2 * h) (by omega) (by omega)
  have s3 := up_spec (n + 2 * c.boot + c.rpa) h (by omega) hh0
  have s4 := up_spec (m + 2 * c.boot + c.rpa) h (by omega) hh0
  rw [up_two _ s1.2.2.1, up_two _ s2.2.2.1, up_two _ s3.2.2.1, up_two _ s4.2.2.1]
  generalize up (c.user - n) (2 * h) = A at *
  generalize up (c.user - m) (2 * h) = A' at *
  generalize up (n + 2 * c.boot + c.rpa) h = B at *
  generalize up (m + 2 * c.boot + c.rpa) h = B' at *
  obtain ⟨p1, _, _, _⟩ := s1
  obtain ⟨_, p2, _, _⟩ := s2
  obtain ⟨p3, _, _, _⟩ := s3
  obtain ⟨_, p4, _, _⟩ := s4
  have e1 : 2 * h * (A - 1) = h * (2 * (A - 1)) := by rw [Int.mul_comm 2 h, Int.mul_assoc]
  have e2 : 2 * h * A' = h * (2 * A') := by rw [Int.mul_comm 2 h, Int.mul_assoc]
  rw [e1] at p1
  rw [e2] at p2
  have q1 : h * (2 * (A - 1)) - h * (2 * A') < m - n := by omega
  have q2 : m - n < h * B' - h * (B - 1) := by omega
  have q3 : h * (2 * (A - 1) - 2 * A') < h * (B' - (B - 1)) := by
    have t1 := Int.mul_sub h (2 * (A - 1)) (2 * A')
    have t2 := Int.mul_sub h B' (B - 1)
    omega
  have q4 : 2 * (A - 1) - 2 * A' < B' - (B - 1) := Int.lt_of_mul_lt_mul_left q3 (by omega)
  have q5 : 0 < h * (B' - (B - 1)) := by
    have t2 := Int.mul_sub h B' (B - 1)
    omega
  have q6 : 0 < B' - (B - 1) := by
    rcases Int.lt_or_le 0 (B' - (B - 1)) with h' | h'
    · exact h'
    · have := Int.mul_le_mul_of_nonneg_left h' (show 0 ≤ h by omega)
      rw [Int.mul_zero] at this
      omega
  omega

/-- Bounds, for what is added up. -/
theorem need_bd (c : Cfg) (hc : Plain c) (n : Int) : 0 ≤ max 0 (min n c.user) ∧ max 0 (min n c.user) ≤ 16384 := by
  obtain ⟨a1, a2, a3, a4, a5, a6, a7, a8, a9, a10, _⟩ := hc
  omega
end Go.Proofs.Ytcggghiionlngaa.GeoM
