/- Rows of acts; the walk of the law on bits. -/
import Derived.Test.YtnkbopmghekjdaaRegF
import Derived.Deep.RegionHeld3
namespace Go.Proofs.Ytnkbopmghekjdaa.RegG
open Go.ChangeShapes Go.WideShapes Go.ChangeAt Go.RowKit
open RegA Mem RegB RegC RegD RegE RegF
set_option linter.unusedVariables false
set_option maxHeartbeats 2000000

structure Act where
  (op n v arg : Int)
def act0 : Act := ⟨0, 0, 0, 0⟩
def acs (x : Act) : List Value := [.int .i64 x.op, .int .i64 x.n, .int .u8 x.v, .int .u32 x.arg]
def RdA (w : World) (a : Option Addr) (l : List Act) : Prop :=
  l.length ≤ maxLen ∧ ∀ i, i < l.length → ∃ b off, a = some ⟨b, off, none⟩ ∧ b < w.heap.size ∧ w.rangeAt b (off + i * 4) (acs (l.getD i act0))
theorem RdA.below {w w' : World} {a : Option Addr} {l : List Act} (h : RdA w a l) (hb : Below w.heap.size w w') : RdA w' a l :=
  ⟨h.1, fun i hi => by
    obtain ⟨b, off, e, hl, hr⟩ := h.2 i hi
    exact ⟨b, off, e, Nat.lt_of_lt_of_le hl hb.size, range_below hr hb hl⟩⟩
theorem RdA.at {w : World} {b off : Nat} {l : List Act} (h : RdA w (some ⟨b, off, none⟩) l) (i : Nat) (hi : i < l.length) :
    w.cell? ⟨b, off + i * 4, none⟩ = some (.int .i64 (l.getD i act0).op) ∧ w.cell? ⟨b, off + i * 4 + 1, none⟩ = some (.int .i64 (l.getD i act0).n) ∧ w.cell? ⟨b, off + i * 4 + 2, none⟩ = some (.int .u8 (l.getD i act0).v) ∧ w.cell? ⟨b, off + i * 4 + 3, none⟩ = some (.int .u32 (l.getD i act0).arg) := by
  obtain ⟨b', off', e, hl, hr⟩ := h.2 i hi
  injection e with e
  injection e with e1 e2
  subst e1 e2
  exact ⟨hr 0 _ rfl, hr 1 _ rfl, hr 2 _ rfl, hr 3 _ rfl⟩

/-- The registers behind some writes. -/
def writes (l : List Act) (st : List Int) : List Int := l.foldl (fun s x => (writeS s x.n x.v).2) st
theorem writes_snoc (l : List Act) (st : List Int) (k : Nat) (h : k < l.length) : writes (l.take (k + 1)) st = (writeS (writes (l.take k) st) (l.getD k act0).n (l.getD k act0).v).2 := by
  rw [List.take_succ_eq_append_getElem h]
  simp only [writes, List.foldl_append, List.foldl_cons, List.foldl_nil]
  simp [h]

theorem orU (a b k : Nat) (hk : k ≤ 31) (ha : a * 2 ^ k < 4294967296) (hb : b < 2 ^ k) : bits .or .u32 ((a * 2 ^ k : Nat) : Int) (b : Int) = ((a * 2 ^ k + b : Nat) : Int) := by
  have hb' : b < 4294967296 := by
    have := Nat.pow_le_pow_right (n := 2) (by omega) hk
    omega
  rw [u32_or_nat _ _ ha hb', Nat.mul_comm, ← Nat.two_pow_add_eq_or_of_lt hb]

theorem at_eq (n v : Int) (h0 : 0 ≤ n) (h1 : n ≤ 63) (h2 : 0 ≤ v) (h3 : v ≤ 255) : bits .or .u32 (n * 65536) (v * 256) = n * 65536 + v * 256 := by
  obtain ⟨m, rfl⟩ := Int.eq_ofNat_of_zero_le h0
  obtain ⟨u, rfl⟩ := Int.eq_ofNat_of_zero_le h2
  have := orU m (u * 256) 16 (by omega) (by omega) (by omega)
  have e1 : ((m : Int) * 65536) = ((m * 2 ^ 16 : Nat) : Int) := by omega
  have e2 : ((u : Int) * 256) = ((u * 256 : Nat) : Int) := by omega
  rw [e1, e2, this]; omega
theorem by_eq (k : Nat) (x : Int) (hk : k < 256) (h0 : 0 ≤ x) (h1 : x < 16777216) : bits .or .u32 ((k * 16777216 : Nat) : Int) x = (k : Int) * 16777216 + x := by
  obtain ⟨u, rfl⟩ := Int.eq_ofNat_of_zero_le h0
  have := orU k u 24 (by omega) (by omega) (by omega)
  rw [show k * 16777216 = k * 2 ^ 24 by omega, this]; omega

theorem next_at (st : List Int) (k : Nat) (n v : Int) (hk : k < 4) (h0 : 0 ≤ n) (h1 : n ≤ 63) (h2 : 0 ≤ v) (h3 : v ≤ 255) (hn : kind n ≠ 0 ∧ kind n ≠ 4) :
    nextS st ((k : Int) * 16777216 + (n * 65536 + v * 256)) = if k = 0 then (0, 0, 1) else (n, if k = 3 then v else if k = 1 then orr (reg st n) v else an (reg st n) v, 0) := by
  have e1 : hw ((k : Int) * 16777216 + (n * 65536 + v * 256)) = k := by rw [hw_eq _ (by omega) (by omega)]; omega
  have e2 : nx ((k : Int) * 16777216 + (n * 65536 + v * 256)) = n := by rw [nx_eq _ (by omega) (by omega)]; omega
  have e3 : bt ((k : Int) * 16777216 + (n * 65536 + v * 256)) = v := by unfold bt; omega
  have e4 : getS st n = reg st n := by unfold getS; rw [if_neg hn.1]
  unfold nextS nextV
  rw [e1, e2, e3, e4]
  clear e1 e2 e3 e4
  by_cases k0 : k = 0
  · subst k0
    rw [if_pos (by omega), if_pos rfl]
  · rw [if_neg (by omega), if_neg (by rintro (h | h); exact hn.1 h; exact hn.2 h), if_neg k0]
    by_cases k3 : k = 3
    · rw [if_pos (by omega), if_pos k3]
    · rw [if_neg (by omega), if_neg k3]
      by_cases k1 : k = 1
      · rw [if_pos (by omega), if_pos k1]
      · rw [if_neg (by omega), if_neg k1]

set_option maxRecDepth 100000 in
theorem early (a : Option Addr) (len cap : Nat) (n v : Int) (w : World) (hm : len ≤ 9223372036854775807) (h : 300 < len ∨ n < 0 ∨ 63 < n ∨ kind n = 0 ∨ kind n = 4) :
    Calls Try.prog 6 #[.slice a len cap, .int .i64 n, .int .u8 v] w fun e w' => e = .returned (.bool true) ∧ Below w.heap.size w w' := by
  by_cases h1 : 300 < len
  · go_enter Try.func6, Try.ntmps6
    go_wp2_with fail
    refine (knownW _).mono ?_
    rintro e w1 ⟨rfl, hb1⟩
    go_wp2
    go_ret
    exact ⟨rfl, hb1⟩
  · by_cases h2 : n < 0
    · go_enter Try.func6, Try.ntmps6
      go_wp2_with fail
      refine (knownW _).mono ?_
      rintro e w1 ⟨rfl, hb1⟩
      go_wp2
      go_ret
      exact ⟨rfl, hb1⟩
    · by_cases h3 : 63 < n
      · go_enter Try.func6, Try.ntmps6
        go_wp2_with fail
        refine (knownW _).mono ?_
        rintro e w1 ⟨rfl, hb1⟩
        go_wp2
        go_ret
        exact ⟨rfl, hb1⟩
      · rcases (show kind n = 0 ∨ kind n = 4 by omega) with hk | hk
        · have HK := Lib.hid (kindW _ _ hk)
          clear hk h
          go_enter Try.func6, Try.ntmps6
          go_wp2_with fail
          refine (knownW _).mono ?_
          rintro e w1 ⟨rfl, hb1⟩
          go_wp2_with (go_at_call 22; refine (HK.out _).mono ?_; rintro e w' ⟨rfl, rfl⟩)
          go_ret
          exact ⟨rfl, hb1⟩
        · have HK := Lib.hid (kindW _ _ hk)
          clear hk h
          go_enter Try.func6, Try.ntmps6
          go_wp2_with fail
          refine (knownW _).mono ?_
          rintro e w1 ⟨rfl, hb1⟩
          go_wp2_with (go_at_call 22; refine (HK.out _).mono ?_; rintro e w' ⟨rfl, rfl⟩)
          go_ret
          exact ⟨rfl, hb1⟩

theorem addrOf (a : Option Addr) (l : List Act) (w : World) (hr : RdA w a l) : l = [] ∨ ∃ b off, a = some ⟨b, off, none⟩ := by
  by_cases h0 : l.length = 0
  · exact .inl (List.length_eq_zero_iff.1 h0)
  · obtain ⟨b, off, e, _⟩ := hr.2 0 (by omega)
    exact .inr ⟨b, off, e⟩

set_option maxRecDepth 100000 in
theorem bitsW (b off : Nat) (l : List Act) (len cap : Nat) (n v : Int) (w : World) (hl : l.length = len) (hr : RdA w (some ⟨b, off, none⟩) l) (hbw : b < w.heap.size) (h300 : len ≤ 300) (h0 : 0 ≤ n) (h1 : n ≤ 63) (h2 : 0 ≤ v) (h3 : v ≤ 255) (hn : kind n ≠ 0 ∧ kind n ≠ 4) :
    Calls Try.prog 6 #[.slice (some ⟨b, off, none⟩) len cap, .int .i64 n, .int .u8 v] w fun e w' => e = .returned (.bool true) ∧ Below w.heap.size w w' := by
  have HR := Lib.hid hr
  have HL := Lib.hid hl
  obtain ⟨K, hK⟩ : ∃ K, K = kind n := ⟨_, rfl⟩
  have HK := Lib.hid (kindW K n hK.symm)
  have hk0 : (K == 0) = false := by rw [hK]; simpa using hn.1
  have hk4 : (K == 4) = false := by rw [hK]; simpa using hn.2
  have q1 := at_eq n v h0 h1 h2 h3
  have q2 : bits .or .u32 16777216 (n * 65536 + v * 256) = 16777216 + (n * 65536 + v * 256) := by have := by_eq 1 (n * 65536 + v * 256) (by omega) (by omega) (by omega); simpa using this
  have q3 : bits .or .u32 33554432 (n * 65536 + v * 256) = 33554432 + (n * 65536 + v * 256) := by have := by_eq 2 (n * 65536 + v * 256) (by omega) (by omega) (by omega); simpa using this
  have q4 : bits .or .u32 50331648 (n * 65536 + v * 256) = 50331648 + (n * 65536 + v * 256) := by have := by_eq 3 (n * 65536 + v * 256) (by omega) (by omega) (by omega); simpa using this
  have HN : Hid (kind n ≠ 0 ∧ kind n ≠ 4) := Lib.hid hn
  clear hr hl hK hn
  go_enter Try.func6, Try.ntmps6
  go_wp2_with fail
  refine (knownW _).mono ?_
  rintro e w1 ⟨rfl, hb1⟩
  go_wp2_with (first
    | (go_at_call 22; refine (HK.out _).mono ?_; rintro e w' ⟨rfl, rfl⟩)
    | (go_at_call 8
       refine (newW _).mono ?_
       rintro e w2 ⟨rfl, hf2, hb2⟩
       have hbb := hb1.trans (hb2.mono hb1.size)
       have hgs := hb1.size
       clear hb2))
  have hgl := hf2.2.lt
  go_loopw [8] (fun i wr => ∃ k : Nat, k ≤ len ∧ i = .int .i64 k ∧ File 57 wr w1.heap.size (writes (l.take k) zeros) ∧ Below w.heap.size w wr) (fun i _ => len - (intOf i).toNat)
  case atStart => exact ⟨0, by omega, rfl, hf2, hbb⟩
  case round =>
    clear hf2 hbb hgl
    obtain ⟨k, hk, rfl, hfr, hbel⟩ := hrel
    by_cases hlt : k < len
    · have HS := Lib.hid (writes_snoc l zeros k (by rw [HL.out]; exact hlt))
      obtain ⟨_, cN, cV, _⟩ := (HR.out.below hbel).at k (by rw [HL.out]; exact hlt)
      obtain ⟨x, hx⟩ : ∃ x, x = l.getD k act0 := ⟨_, rfl⟩
      rw [← hx] at HS cN cV
      have HC : Hid (∀ w', Below w.heap.size w w' → w'.cell? ⟨b, off + k * 4 + 1, none⟩ = some (.int .i64 x.n) ∧ w'.cell? ⟨b, off + k * 4 + 2, none⟩ = some (.int .u8 x.v)) := Lib.hid fun w' hb' => by
        obtain ⟨_, c1, c2, _⟩ := (HR.out.below hb').at k (by rw [HL.out]; exact hlt)
        rw [← hx] at c1 c2
        exact ⟨c1, c2⟩
      have HF := Lib.hid hfr
      have HB := Lib.hid hbel
      have hgl := hfr.2.lt
      have hbr := hbel.size
      clear hx hfr hbel
      have i0 : (0 : Int) ≤ (k : Int) := Int.natCast_nonneg _
      have i1 : (k : Int) < (len : Int) := by omega
      go_wp2_with fail
      go_region_held3 (fun w' => w'.cell? ⟨b, off + k * 4 + 1, none⟩ = some (.int .i64 x.n) ∧ w'.cell? ⟨b, off + k * 4 + 2, none⟩ = some (.int .u8 x.v))
        (first
          | go_keep
          | exact ⟨d1, d2⟩)
        ((go_at_call 9
          refine (writeW w1.heap.size _ x.n x.v _ (by exact HF.out)).mono ?_
          rintro e w5 ⟨rfl, hf5, hg5⟩
          have hb5 := below_own HB.out.drew hg5 hgs (by simpa using hgl)
          have d := HC.out _ hb5
          have d1 := d.1
          have d2 := d.2
          clear d hg5))
      clear d1 d2 cN cV i0 i1
      go_wp2
      go_roundw
      case rel => exact ⟨k + 1, by omega, by go_num, by rw [HS.out]; exact hf5, hb5⟩
      case measure => simp [intOf]; omega
    · obtain rfl : k = len := by omega
      obtain ⟨st, hst⟩ : ∃ st, st = writes (l.take k) zeros := ⟨_, rfl⟩
      rw [← hst] at hfr
      obtain ⟨W, hW⟩ : ∃ W, W = reg st n := ⟨_, rfl⟩
      have hgv : getS st n = W := by rw [hW]; unfold getS; rw [if_neg HN.out.1]
      have x0 : nextS st (n * 65536 + v * 256) = (0, 0, 1) := by
        have h := next_at st 0 n v (by omega) h0 h1 h2 h3 HN.out
        rw [show (n * 65536 + v * 256 : Int) = ((0 : Nat) : Int) * 16777216 + (n * 65536 + v * 256) by omega, h]; rfl
      have x1 : nextS st (16777216 + (n * 65536 + v * 256)) = (n, bits .or .u8 W v, 0) := by
        have h := next_at st 1 n v (by omega) h0 h1 h2 h3 HN.out
        rw [show (16777216 + (n * 65536 + v * 256) : Int) = ((1 : Nat) : Int) * 16777216 + (n * 65536 + v * 256) by omega, h, hW]; rfl
      have x2 : nextS st (33554432 + (n * 65536 + v * 256)) = (n, bits .andNot .u8 W v, 0) := by
        have h := next_at st 2 n v (by omega) h0 h1 h2 h3 HN.out
        rw [show (33554432 + (n * 65536 + v * 256) : Int) = ((2 : Nat) : Int) * 16777216 + (n * 65536 + v * 256) by omega, h, hW]; rfl
      have x3 : nextS st (50331648 + (n * 65536 + v * 256)) = (n, v, 0) := by
        have h := next_at st 3 n v (by omega) h0 h1 h2 h3 HN.out
        rw [show (50331648 + (n * 65536 + v * 256) : Int) = ((3 : Nat) : Int) * 16777216 + (n * 65536 + v * 256) by omega, h]; rfl
      have hg := getW w1.heap.size st n wr hfr
      have g0 := nextW w1.heap.size st (n * 65536 + v * 256) wr (by omega) (by omega) hfr
      have g1 := nextW w1.heap.size st (16777216 + (n * 65536 + v * 256)) wr (by omega) (by omega) hfr
      have g2 := nextW w1.heap.size st (33554432 + (n * 65536 + v * 256)) wr (by omega) (by omega) hfr
      have g3 := nextW w1.heap.size st (50331648 + (n * 65536 + v * 256)) wr (by omega) (by omega) hfr
      rw [hgv] at hg
      rw [x0] at g0
      rw [x1] at g1
      rw [x2] at g2
      rw [x3] at g3
      have HG := Lib.hid hg
      have G0 := Lib.hid g0
      have G1 := Lib.hid g1
      have G2 := Lib.hid g2
      have G3 := Lib.hid g3
      clear hg g0 g1 g2 g3 x0 x1 x2 x3 hgv hW hst hfr
      go_wp2_with fail
      refine HG.out.mono ?_
      rintro e w' ⟨rfl, rfl⟩
      go_wp2_with fail
      refine G1.out.mono ?_
      rintro e w' ⟨rfl, rfl⟩
      go_wp2_with fail
      refine G2.out.mono ?_
      rintro e w' ⟨rfl, rfl⟩
      go_wp2_with fail
      refine G3.out.mono ?_
      rintro e w' ⟨rfl, rfl⟩
      go_wp2_with fail
      refine G0.out.mono ?_
      rintro e w' ⟨rfl, rfl⟩
      go_wp2_with fail
      refine HG.out.mono ?_
      rintro e w' ⟨rfl, rfl⟩
      go_wp2
      go_ret
      exact ⟨rfl, hbel⟩
set_option maxRecDepth 100000 in
theorem bitsNil (a : Option Addr) (cap : Nat) (n v : Int) (w : World) (h0 : 0 ≤ n) (h1 : n ≤ 63) (h2 : 0 ≤ v) (h3 : v ≤ 255) (hn : kind n ≠ 0 ∧ kind n ≠ 4) :
    Calls Try.prog 6 #[.slice a 0 cap, .int .i64 n, .int .u8 v] w fun e w' => e = .returned (.bool true) ∧ Below w.heap.size w w' := by
  obtain ⟨K, hK⟩ : ∃ K, K = kind n := ⟨_, rfl⟩
  have HK := Lib.hid (kindW K n hK.symm)
  have hk0 : (K == 0) = false := by rw [hK]; simpa using hn.1
  have hk4 : (K == 4) = false := by rw [hK]; simpa using hn.2
  have q1 := at_eq n v h0 h1 h2 h3
  have q2 : bits .or .u32 16777216 (n * 65536 + v * 256) = 16777216 + (n * 65536 + v * 256) := by have := by_eq 1 (n * 65536 + v * 256) (by omega) (by omega) (by omega); simpa using this
  have q3 : bits .or .u32 33554432 (n * 65536 + v * 256) = 33554432 + (n * 65536 + v * 256) := by have := by_eq 2 (n * 65536 + v * 256) (by omega) (by omega) (by omega); simpa using this
  have q4 : bits .or .u32 50331648 (n * 65536 + v * 256) = 50331648 + (n * 65536 + v * 256) := by have := by_eq 3 (n * 65536 + v * 256) (by omega) (by omega) (by omega); simpa using this
  have HN : Hid (kind n ≠ 0 ∧ kind n ≠ 4) := Lib.hid hn
  clear hK hn
  go_enter Try.func6, Try.ntmps6
  go_wp2_with fail
  refine (knownW _).mono ?_
  rintro e w1 ⟨rfl, hb1⟩
  go_wp2_with (first
    | (go_at_call 22; refine (HK.out _).mono ?_; rintro e w' ⟨rfl, rfl⟩)
    | (go_at_call 8
       refine (newW _).mono ?_
       rintro e w2 ⟨rfl, hf2, hb2⟩
       have hbb := hb1.trans (hb2.mono hb1.size)
       have hgs := hb1.size
       clear hb2))
  have hgl := hf2.2.lt
  have hfr := hf2
  have hbel := hbb
  obtain ⟨wr, hwr⟩ : ∃ wr, wr = w2 := ⟨_, rfl⟩
  subst hwr
  obtain ⟨st, hst⟩ : ∃ st, st = zeros := ⟨_, rfl⟩
  rw [← hst] at hfr
  clear hf2 hbb
  obtain ⟨W, hW⟩ : ∃ W, W = reg st n := ⟨_, rfl⟩
  have hgv : getS st n = W := by rw [hW]; unfold getS; rw [if_neg HN.out.1]
  have x0 : nextS st (n * 65536 + v * 256) = (0, 0, 1) := by
    have h := next_at st 0 n v (by omega) h0 h1 h2 h3 HN.out
    rw [show (n * 65536 + v * 256 : Int) = ((0 : Nat) : Int) * 16777216 + (n * 65536 + v * 256) by omega, h]; rfl
  have x1 : nextS st (16777216 + (n * 65536 + v * 256)) = (n, bits .or .u8 W v, 0) := by
    have h := next_at st 1 n v (by omega) h0 h1 h2 h3 HN.out
    rw [show (16777216 + (n * 65536 + v * 256) : Int) = ((1 : Nat) : Int) * 16777216 + (n * 65536 + v * 256) by omega, h, hW]; rfl
  have x2 : nextS st (33554432 + (n * 65536 + v * 256)) = (n, bits .andNot .u8 W v, 0) := by
    have h := next_at st 2 n v (by omega) h0 h1 h2 h3 HN.out
    rw [show (33554432 + (n * 65536 + v * 256) : Int) = ((2 : Nat) : Int) * 16777216 + (n * 65536 + v * 256) by omega, h, hW]; rfl
  have x3 : nextS st (50331648 + (n * 65536 + v * 256)) = (n, v, 0) := by
    have h := next_at st 3 n v (by omega) h0 h1 h2 h3 HN.out
    rw [show (50331648 + (n * 65536 + v * 256) : Int) = ((3 : Nat) : Int) * 16777216 + (n * 65536 + v * 256) by omega, h]; rfl
  have hg := getW w1.heap.size st n wr hfr
  have g0 := nextW w1.heap.size st (n * 65536 + v * 256) wr (by omega) (by omega) hfr
  have g1 := nextW w1.heap.size st (16777216 + (n * 65536 + v * 256)) wr (by omega) (by omega) hfr
  have g2 := nextW w1.heap.size st (33554432 + (n * 65536 + v * 256)) wr (by omega) (by omega) hfr
  have g3 := nextW w1.heap.size st (50331648 + (n * 65536 + v * 256)) wr (by omega) (by omega) hfr
  rw [hgv] at hg
  rw [x0] at g0
  rw [x1] at g1
  rw [x2] at g2
  rw [x3] at g3
  have HG := Lib.hid hg
  have G0 := Lib.hid g0
  have G1 := Lib.hid g1
  have G2 := Lib.hid g2
  have G3 := Lib.hid g3
  clear hg g0 g1 g2 g3 x0 x1 x2 x3 hgv hW hst hfr
  refine wp_loop_rounds 1 ?_
  rw [rounds_succ]
  go_wp2_with fail
  refine HG.out.mono ?_
  rintro e w' ⟨rfl, rfl⟩
  go_wp2_with fail
  refine G1.out.mono ?_
  rintro e w' ⟨rfl, rfl⟩
  go_wp2_with fail
  refine G2.out.mono ?_
  rintro e w' ⟨rfl, rfl⟩
  go_wp2_with fail
  refine G3.out.mono ?_
  rintro e w' ⟨rfl, rfl⟩
  go_wp2_with fail
  refine G0.out.mono ?_
  rintro e w' ⟨rfl, rfl⟩
  go_wp2_with fail
  refine HG.out.mono ?_
  rintro e w' ⟨rfl, rfl⟩
  go_wp2
  go_ret
  exact ⟨rfl, hbel⟩
end Go.Proofs.Ytnkbopmghekjdaa.RegG
