/- SHA-256, as mathematics. No program. -/
namespace Go.Proofs.YtlfohiejlajmaaaDoor.ShM

abbrev W := BitVec 32
abbrev B8 := BitVec 8
structure S8 where
  (a b c d e f g h : W)
deriving DecidableEq
/-- A number turned right. -/
def rr (x : W) (n : Nat) : W := (x >>> n) ||| (x <<< (32 - n))
def rounds : List Nat := [
  0x428a2f98, 0x71374491, 0xb5c0fbcf, 0xe9b5dba5, 0x3956c25b, 0x59f111f1, 0x923f82a4, 0xab1c5ed5,
  0xd807aa98, 0x12835b01, 0x243185be, 0x550c7dc3, 0x72be5d74, 0x80deb1fe, 0x9bdc06a7, 0xc19bf174,
  0xe49b69c1, 0xefbe4786, 0x0fc19dc6, 0x240ca1cc, 0x2de92c6f, 0x4a7484aa, 0x5cb0a9dc, 0x76f988da,
  0x983e5152, 0xa831c66d, 0xb00327c8, 0xbf597fc7, 0xc6e00bf3, 0xd5a79147, 0x06ca6351, 0x14292967,
  0x27b70a85, 0x2e1b2138, 0x4d2c6dfc, 0x53380d13, 0x650a7354, 0x766a0abb, 0x81c2c92e, 0x92722c85,
  0xa2bfe8a1, 0xa81a664b, 0xc24b8b70, 0xc76c51a3, 0xd192e819, 0xd6990624, 0xf40e3585, 0x106aa070,
  0x19a4c116, 0x1e376c08, 0x2748774c, 0x34b0bcb5, 0x391c0cb3, 0x4ed8aa4a, 0x5b9cca4f, 0x682e6ff3,
  0x748f82ee, 0x78a5636f, 0x84c87814, 0x8cc70208, 0x90befffa, 0xa4506ceb, 0xbef9a3f7, 0xc67178f2]
def kk (i : Nat) : W := BitVec.ofNat 32 (rounds.getD i 0)
def start : S8 := ⟨0x6a09e667, 0xbb67ae85, 0x3c6ef372, 0xa54ff53a, 0x510e527f, 0x9b05688c, 0x1f83d9ab, 0x5be0cd19⟩
def word (l : List B8) (i : Nat) : W := ((l.getD (4 * i) 0).setWidth 32 <<< 24) ||| ((l.getD (4 * i + 1) 0).setWidth 32 <<< 16) ||| ((l.getD (4 * i + 2) 0).setWidth 32 <<< 8) ||| ((l.getD (4 * i + 3) 0).setWidth 32)
def nextW (l : List W) : W :=
  l.getD (l.length - 16) 0 + (rr (l.getD (l.length - 15) 0) 7 ^^^ rr (l.getD (l.length - 15) 0) 18 ^^^ ((l.getD (l.length - 15) 0) >>> 3)) + l.getD (l.length - 7) 0 + (rr (l.getD (l.length - 2) 0) 17 ^^^ rr (l.getD (l.length - 2) 0) 19 ^^^ ((l.getD (l.length - 2) 0) >>> 10))
def first (l : List B8) : Nat → List W
  | 0 => []
  | k + 1 => first l k ++ [word l k]
def more : Nat → List W → List W
  | 0, l => l
  | k + 1, l => more k (l ++ [nextW l])
def spread (l : List B8) : List W := more 48 (first l 16)
def t1 (s : S8) (k w : W) : W := s.h + (rr s.e 6 ^^^ rr s.e 11 ^^^ rr s.e 25) + ((s.e &&& s.f) ^^^ (~~~ s.e &&& s.g)) + k + w
def t2 (s : S8) : W := (rr s.a 2 ^^^ rr s.a 13 ^^^ rr s.a 22) + ((s.a &&& s.b) ^^^ (s.a &&& s.c) ^^^ (s.b &&& s.c))
def round (s : S8) (k w : W) : S8 := ⟨t1 s k w + t2 s, s.a, s.b, s.c, s.d + t1 s k w, s.e, s.f, s.g⟩
def go (w : List W) (s : S8) : Nat → S8
  | 0 => s
  | k + 1 => round (go w s k) (kk k) (w.getD k 0)
def plus (s t : S8) : S8 := ⟨s.a + t.a, s.b + t.b, s.c + t.c, s.d + t.d, s.e + t.e, s.f + t.f, s.g + t.g, s.h + t.h⟩
/-- A block is taken in. -/
def mix (s : S8) (l : List B8) : S8 := plus s (go (spread l) s 64)
/-- The first so many blocks of a row are taken in. -/
def absN (m : List B8) : Nat → S8
  | 0 => start
  | k + 1 => mix (absN m k) ((m.drop (64 * k)).take 64)
theorem absN_append (m p : List B8) : ∀ k, 64 * k ≤ m.length → absN (m ++ p) k = absN m k
  | 0, _ => rfl
  | k + 1, h => by
    show mix _ _ = mix _ _
    rw [absN_append m p k (by omega), List.drop_append_of_le_length (by omega), List.take_append_of_le_length (by rw [List.length_drop]; omega)]
/-- A digest's state: what was taken in, the rest's 64 bytes, how many of them count, how many bytes there were. -/
structure St where
  s : S8
  rest : List B8
  filled : Nat
  len : Nat
/-- The state behind a row of bytes. -/
structure Is (t : St) (m : List B8) : Prop where
  s : t.s = absN m (m.length / 64)
  rl : t.rest.length = 64
  fl : t.filled = m.length % 64
  rest : t.rest.take t.filled = m.drop (64 * (m.length / 64))
  len : t.len = m.length % 2 ^ 64
theorem Is.fresh (r : List B8) (h : r.length = 64) : Is ⟨start, r, 0, 0⟩ [] := ⟨rfl, h, rfl, rfl, rfl⟩
/-- Some bytes more, fewer than fill the rest. -/
theorem Is.part {t : St} {m : List B8} (h : Is t m) (q r : List B8) (n : Nat) (hq : q.length = n) (hn : t.filled + n < 64) (hr : r.length = 64) (h1 : r.take (t.filled + n) = t.rest.take t.filled ++ q) (L : Nat) (hL : L = (m ++ q).length % 2 ^ 64) :
    Is ⟨t.s, r, t.filled + n, L⟩ (m ++ q) := by
  have e := h.fl
  have hd : (m ++ q).length / 64 = m.length / 64 := by rw [List.length_append]; omega
  refine ⟨?_, hr, ?_, ?_, hL⟩
  · show t.s = _
    rw [hd, absN_append _ _ _ (by omega)]; exact h.s
  · show t.filled + n = _
    rw [List.length_append]; omega
  · show r.take (t.filled + n) = _
    rw [h1, h.rest, hd, List.drop_append_of_le_length (by omega)]
/-- Some bytes more that fill the rest. -/
theorem Is.full {t : St} {m : List B8} (h : Is t m) (q r : List B8) (n : Nat) (hq : q.length = n) (hn : t.filled + n = 64) (hr : r = t.rest.take t.filled ++ q) (L : Nat) (hL : L = (m ++ q).length % 2 ^ 64) :
    Is ⟨mix t.s r, r, 0, L⟩ (m ++ q) := by
  have e := h.fl
  have hd : (m ++ q).length / 64 = m.length / 64 + 1 := by rw [List.length_append]; omega
  have hrl : r.length = 64 := by rw [hr, List.length_append, List.length_take, h.rl]; omega
  refine ⟨?_, hrl, ?_, ?_, hL⟩
  · show mix t.s r = _
    rw [hd]
    show _ = mix _ _
    rw [absN_append _ _ _ (by omega), ← h.s, List.drop_append_of_le_length (by omega), ← h.rest, ← hr, List.take_of_length_le (by omega)]
  · show 0 = _
    rw [List.length_append]; omega
  · show r.take 0 = _
    rw [List.take_zero, hd, List.drop_eq_nil_of_le (by rw [List.length_append]; omega)]
/-- How many bytes 0 go behind. -/
def zeros (n : Nat) : Nat := (119 - n % 64) % 64
def tail8 (n : Nat) : List B8 := (List.range 8).map fun i => BitVec.ofNat 8 (n / 2 ^ (8 * (7 - i)))
def pad (m : List B8) : List B8 := m ++ ([0x80] ++ (List.replicate (zeros m.length) 0 ++ tail8 (m.length * 8 % 2 ^ 64)))
def bytesW (x : W) : List B8 := [(x >>> 24).setWidth 8, (x >>> 16).setWidth 8, (x >>> 8).setWidth 8, x.setWidth 8]
def bytes (s : S8) : List B8 := bytesW s.a ++ bytesW s.b ++ bytesW s.c ++ bytesW s.d ++ bytesW s.e ++ bytesW s.f ++ bytesW s.g ++ bytesW s.h
/-- A row's digest. -/
def sum (m : List B8) : List B8 := bytes (absN (pad m) ((pad m).length / 64))
theorem sum_nil : (sum []).getD 0 0 = 0xE3 ∧ (sum []).getD 1 0 = 0xB0 ∧ (sum []).getD 30 0 = 0xB8 ∧ (sum []).getD 31 0 = 0x55 := by decide +kernel
theorem zeros_fill (n : Nat) : (n + 1 + zeros n) % 64 = 56 := by unfold zeros; omega
theorem tail8_length (n : Nat) : (tail8 n).length = 8 := rfl
theorem pad_length (m : List B8) : (pad m).length % 64 = 0 := by
  have := zeros_fill m.length
  unfold pad
  rw [List.length_append, List.length_append, List.length_append, List.length_replicate, tail8_length]
  simp only [List.length_cons, List.length_nil]
  omega
end Go.Proofs.YtlfohiejlajmaaaDoor.ShM
