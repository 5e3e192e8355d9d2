/- What lasts of registers, and registers loaded of it: plain facts. -/
import Derived.Test.YtnkbopmghekjdaaRegR
import Derived.Stop.BytesEq
namespace Go.Proofs.Ytnkbopmghekjdaa.RgM
open Go.ChangeShapes Go.WideShapes Go.ChangeAt Go.RowKit
open RegA Mem RegB RegC RegD RegE RegF RegG RegH RegR
set_option linter.unusedVariables false
set_option maxHeartbeats 1000000

/-- New registers, of which those that last are v 0, v 1, .. -/
def stK (v : Nat → Int) : Nat → List Int
  | 0 => zeros
  | k + 1 => (stK v k).set (lk k) (v k)
def wrK (l : List Int) : Nat → List Int
  | 0 => zeros
  | k + 1 => (writeS (wrK l k) (lk k : Int) (l.getD k 0)).2
def vK (l : List Int) (i : Nat) : Int := if mayB (lk i : Int) (l.getD i 0) = true then l.getD i 0 else 0
def pK (l : List Int) (i : Nat) : Int := l.getD i 0
def allMay (l : List Int) (k : Nat) : Bool := (List.range k).all fun i => mayB (lk i : Int) (l.getD i 0)
theorem allMay_succ (l : List Int) (k : Nat) : allMay l (k + 1) = (allMay l k && mayB (lk k : Int) (l.getD k 0)) := by
  simp [allMay, List.range_succ]
theorem allMay_at (l : List Int) (n k : Nat) (h : allMay l n = true) (hk : k < n) : mayB (lk k : Int) (l.getD k 0) = true := by
  unfold allMay at h
  rw [List.all_eq_true] at h
  exact h k (List.mem_range.2 hk)
theorem allMay_mono (l : List Int) (n k : Nat) (hk : k < n) (h : mayB (lk k : Int) (l.getD k 0) = false) : allMay l n = false := by
  cases e : allMay l n with
  | false => rfl
  | true => rw [allMay_at l n k e hk] at h; cases h

theorem lk_inj (i j : Nat) (hi : i < 7) (hj : j < 7) (h : lk i = lk j) : i = j := by
  have H : ∀ i j : Fin 7, lk i.val = lk j.val → i.val = j.val := by decide
  exact H ⟨i, hi⟩ ⟨j, hj⟩ h
theorem lk_kind (i : Nat) (hi : i < 7) : kind (lk i : Int) = 3 := by
  have H : ∀ i : Fin 7, kind (lk i.val : Int) = 3 := by decide
  exact H ⟨i, hi⟩
theorem lk_of (m : Nat) (h : kind (m : Int) = 3) : ∃ i, i < 7 ∧ m = lk i := by
  have hb := kind_bd (n := (m : Int)) (by omega)
  have H : ∀ m : Fin 35, kind (m.val : Int) = 3 → ∃ i : Fin 7, m.val = lk i.val := by decide
  obtain ⟨i, hi⟩ := H ⟨m, by omega⟩ h
  exact ⟨i.val, i.isLt, hi⟩

theorem stK_len (v : Nat → Int) : ∀ k, (stK v k).length = 64
  | 0 => rfl
  | k + 1 => by rw [stK, List.length_set]; exact stK_len v k
theorem getD_set (l : List Int) (n m : Nat) (v : Int) (hn : n < l.length) : (l.set n v).getD m 0 = if m = n then v else l.getD m 0 := by
  by_cases h : m = n
  · subst h; rw [if_pos rfl]; simp [hn]
  · rw [if_neg h]
    have : n ≠ m := fun e => h e.symm
    simp [this]
theorem zeros_get (m : Nat) : zeros.getD m 0 = 0 := by
  simp only [zeros, List.getD_eq_getElem?_getD, List.getElem?_replicate]
  split <;> rfl
theorem stK_lk (v : Nat → Int) : ∀ k, k ≤ 7 → ∀ i, i < 7 → (stK v k).getD (lk i) 0 = if i < k then v i else 0
  | 0, _, i, hi => by rw [if_neg (by omega)]; exact zeros_get _
  | k + 1, hk, i, hi => by
    have := lk_bd k (by omega)
    rw [stK, getD_set _ _ _ _ (by rw [stK_len]; omega)]
    by_cases h : i = k
    · subst h; rw [if_pos rfl, if_pos (by omega)]
    · rw [if_neg (fun e => h (lk_inj i k hi (by omega) e)), stK_lk v k (by omega) i hi]
      by_cases h2 : i < k
      · rw [if_pos h2, if_pos (by omega)]
      · rw [if_neg h2, if_neg (by omega)]
theorem stK_not (v : Nat → Int) : ∀ k, k ≤ 7 → ∀ m : Nat, kind (m : Int) ≠ 3 → (stK v k).getD m 0 = 0
  | 0, _, m, _ => zeros_get m
  | k + 1, hk, m, hm => by
    have := lk_bd k (by omega)
    rw [stK, getD_set _ _ _ _ (by rw [stK_len]; omega), if_neg (by rintro rfl; exact hm (lk_kind k (by omega))), stK_not v k (by omega) m hm]
theorem stK_last (v : Nat → Int) : lastK (stK v 7) 7 = (List.range 7).map v := by
  unfold lastK
  refine List.map_congr_left fun i hi => ?_
  have hi7 : i < 7 := List.mem_range.1 hi
  rw [stK_lk v 7 (Nat.le_refl _) i hi7, if_pos hi7]

theorem an0 (v : Int) (h0 : 0 ≤ v) (h1 : v ≤ 255) : an 0 v = 0 := by
  unfold an
  have := u8_andNot 0 v (by omega) (by omega) h0 (by omega)
  rw [this]; simp
theorem may0 (n : Int) : mayB n 0 = true := by
  unfold mayB
  (repeat' split) <;> first | rfl | decide
theorem may13' {v : Int} (h : mayB (lk 6 : Int) v = true) : v ≤ 1 := may13 h

theorem set_self (l : List Int) (n : Nat) (hn : n < l.length) (v : Int) (h : l.getD n 0 = v) : l.set n v = l := by
  refine List.ext_getElem (by simp) fun i h1 h2 => ?_
  rw [List.getElem_set]
  split
  · rename_i e
    subst e
    rw [← h]; simp [hn]
  · rfl

/-- Written one by one, new registers are those that may be. -/
theorem wrK_eq (l : List Int) (hl : ∀ i, i < 7 → 0 ≤ l.getD i 0 ∧ l.getD i 0 ≤ 255) : ∀ k, k ≤ 7 → wrK l k = stK (vK l) k
  | 0, _ => rfl
  | k + 1, hk => by
    have ih := wrK_eq l hl k (by omega)
    have hb := hl k (by omega)
    have hkd := lk_kind k (by omega)
    have hbd := lk_bd k (by omega)
    have hg : (stK (vK l) k).getD (lk k) 0 = 0 := by rw [stK_lk _ k (by omega) k (by omega), if_neg (by omega)]
    have h13 : reg (stK (vK l) k) 13 = 0 := by
      have := stK_lk (vK l) k (by omega) 6 (by omega)
      rw [if_neg (by omega)] at this
      exact this
    rw [wrK, ih, stK]
    unfold writeS
    rw [if_neg (by omega)]
    cases hm : mayB (lk k : Int) (l.getD k 0) with
    | false =>
      rw [if_pos rfl]
      have e : vK l k = 0 := by unfold vK; rw [if_neg (by rw [hm]; simp)]
      rw [e]
      exact (set_self _ _ (by rw [stK_len]; omega) 0 hg).symm
    | true =>
      have e : vK l k = l.getD k 0 := by unfold vK; rw [if_pos hm]
      rw [if_neg (by simp), if_neg (by omega), if_neg (by omega), e]
      unfold fixS
      by_cases h6 : (lk k : Int) = 6 ∨ (lk k : Int) = 13
      · rw [if_pos h6]
        have : reg (stK (vK l) k) (lk k : Int) = 0 := by unfold reg; rw [Int.toNat_natCast]; exact hg
        rw [this, an0 _ hb.1 hb.2, if_neg (by simp), Int.toNat_natCast]
      · rw [if_neg h6, h13, if_neg (by simp), Int.toNat_natCast]

theorem range7 (l : List Int) (h : l.length = 7) : (List.range 7).map (pK l) = l := by
  refine List.ext_getElem (by simp [h]) fun i h1 h2 => ?_
  simp [pK, h2]
/-- What was written lasts, or some of it may not be. -/
theorem back (l : List Int) (h : l.length = 7) : decide ((List.range 7).map (vK l) = l) = allMay l 7 := by
  cases hm : allMay l 7 with
  | true =>
    refine decide_eq_true ?_
    have : (List.range 7).map (vK l) = (List.range 7).map (pK l) := List.map_congr_left fun i hi => by
      have := allMay_at l 7 i hm (List.mem_range.1 hi)
      unfold vK pK
      rw [if_pos this]
    rw [this, range7 l h]
  | false =>
    refine decide_eq_false fun e => ?_
    have : allMay l 7 = true := by
      unfold allMay
      rw [List.all_eq_true]
      intro i hi
      have hi7 := List.mem_range.1 hi
      have e2 : vK l i = l.getD i 0 := by
        conv => rhs; rw [← e]
        simp [List.getD_eq_getElem?_getD, hi7]
      unfold vK at e2
      by_cases hmm : mayB (lk i : Int) (l.getD i 0) = true
      · exact hmm
      · rw [if_neg hmm] at e2
        rw [← e2]; exact may0 _
    rw [hm] at this; cases this
theorem stK_all (l : List Int) (h : allMay l 7 = true) : ∀ k, k ≤ 7 → stK (vK l) k = stK (pK l) k
  | 0, _ => rfl
  | k + 1, hk => by
    have e : vK l k = pK l k := by unfold vK pK; rw [if_pos (allMay_at l 7 k h (by omega))]
    rw [stK, stK, stK_all l h k (by omega), e]

def loadE (l : List Int) : Int := if l.length = 7 ∧ allMay l 7 = true then 0 else 24

/-- Registers as they may be. -/
def Ok (st : List Int) : Prop := st.length = 64 ∧ Zer st ∧ (∀ m, 0 ≤ st.getD m 0 ∧ st.getD m 0 ≤ 255) ∧ ∀ i, i < 7 → mayB (lk i : Int) (st.getD (lk i) 0) = true
theorem Ok.r13 {st : List Int} (h : Ok st) : reg st 13 = 0 ∨ reg st 13 = 1 := by
  have h1 := may13 (h.2.2.2 6 (by omega))
  have h2 := (h.2.2.1 13).1
  have h3 : st.getD 13 0 ≤ 1 := h1
  unfold reg
  show st.getD 13 0 = 0 ∨ st.getD 13 0 = 1
  omega
theorem Ok.set {st : List Int} (h : Ok st) (m : Nat) (v : Int) (hm : m < 64) (hk : kind (m : Int) ≠ 0) (hv : 0 ≤ v ∧ v ≤ 255) (h3 : kind (m : Int) = 3 → mayB (m : Int) v = true) : Ok (st.set m v) := by
  obtain ⟨a, b, c, d⟩ := h
  have hl : m < st.length := by omega
  refine ⟨by rw [List.length_set]; exact a, fun j hj hkj => ?_, fun j => ?_, fun i hi => ?_⟩
  · rw [getD_set _ _ _ _ hl, if_neg (by rintro rfl; exact hk hkj)]; exact b j hj hkj
  · rw [getD_set _ _ _ _ hl]; split
    · exact hv
    · exact c j
  · rw [getD_set _ _ _ _ hl]
    by_cases e : lk i = m
    · rw [if_pos e, e]; exact h3 (by rw [← e]; exact lk_kind i hi)
    · rw [if_neg e]; exact d i hi
theorem Ok.zeros : Ok zeros := ⟨rfl, fun m _ _ => zeros_get m, fun m => by rw [zeros_get]; omega, fun i _ => by rw [zeros_get]; exact may0 _⟩
theorem Ok.write {st : List Int} (h : Ok st) (n v : Int) (hv : 0 ≤ v ∧ v ≤ 255) : Ok (writeS st n v).2 := by
  rcases writeS_cases st n v with e | ⟨e, hm, b0, b1, hk⟩
  · rw [e]; exact h
  · rw [e]
    have en : ((n.toNat : Nat) : Int) = n := Int.toNat_of_nonneg b0
    exact h.set n.toNat v (by omega) (by rw [en]; omega) hv (fun _ => by rw [en]; exact hm)
theorem Ok.show_ {st : List Int} (h : Ok st) (n v : Int) (hv : 0 ≤ v ∧ v ≤ 255) : Ok (showS st n v) := by
  unfold showS
  split
  · rename_i h4
    have b := kind_bd (n := n) (by omega)
    have en : ((n.toNat : Nat) : Int) = n := Int.toNat_of_nonneg b.1
    exact h.set n.toNat v (by omega) (by rw [en]; omega) hv (fun e => by rw [en] at e; omega)
  · exact h
theorem Ok.up {st : List Int} (h : Ok st) : ∀ k, k ≤ 64 → Ok (upS st k)
  | 0, _ => h
  | k + 1, hk => by
    rw [upS]
    split
    · rename_i h1
      exact (h.up k (by omega)).set k 0 (by omega) (by omega) (by omega) (fun e => by omega)
    · exact h.up k (by omega)
theorem Ok.power {st : List Int} (h : Ok st) : Ok (powerS st) := h.up 64 (Nat.le_refl _)
theorem Ok.load {l : List Int} (hl : ∀ i, i < 7 → 0 ≤ l.getD i 0 ∧ l.getD i 0 ≤ 255) (hm : allMay l 7 = true) : ∀ k, k ≤ 7 → Ok (stK (pK l) k)
  | 0, _ => Ok.zeros
  | k + 1, hk => by
    have := lk_bd k (by omega)
    have hkd := lk_kind k (by omega)
    exact (Ok.load hl hm k (by omega)).set (lk k) _ (by omega) (by omega) (hl k (by omega)) (fun _ => allMay_at l 7 k hm (by omega))
theorem last_get (st : List Int) (i : Nat) (hi : i < 7) : (lastK st 7).getD i 0 = st.getD (lk i) 0 := by
  simp [lastK, List.getD_eq_getElem?_getD, hi]
theorem Ok.last {st : List Int} (h : Ok st) : (∀ i, i < 7 → 0 ≤ (lastK st 7).getD i 0 ∧ (lastK st 7).getD i 0 ≤ 255) ∧ allMay (lastK st 7) 7 = true := by
  constructor
  · intro i hi; rw [last_get st i hi]; exact h.2.2.1 _
  · unfold allMay
    rw [List.all_eq_true]
    intro i hi
    have hi7 := List.mem_range.1 hi
    rw [last_get st i hi7]; exact h.2.2.2 i hi7

theorem orr_bd (a b : Int) (h1 : 0 ≤ a ∧ a ≤ 255) (h2 : 0 ≤ b ∧ b ≤ 255) : 0 ≤ orr a b ∧ orr a b ≤ 255 := by
  unfold orr
  rw [u8_or a b h1.1 (by omega) h2.1 (by omega)]
  have : a.toNat ||| b.toNat < 2 ^ 8 := Nat.or_lt_two_pow (by omega) (by omega)
  omega
theorem an_bd (a b : Int) (h1 : 0 ≤ a ∧ a ≤ 255) (h2 : 0 ≤ b ∧ b ≤ 255) : 0 ≤ an a b ∧ an a b ≤ 255 := by
  unfold an
  rw [u8_andNot a b h1.1 (by omega) h2.1 (by omega)]
  have : a.toNat &&& (255 - b.toNat) ≤ a.toNat := Nat.and_le_left
  omega
theorem next_bd {st : List Int} (h : Ok st) (a : Int) (h0 : 0 ≤ a) : 0 ≤ (nextS st a).2.1 ∧ (nextS st a).2.1 ≤ 255 := by
  have hb : 0 ≤ bt a ∧ bt a ≤ 255 := by unfold bt; omega
  have hg : 0 ≤ getS st (nx a) ∧ getS st (nx a) ≤ 255 := by unfold getS; split; omega; exact h.2.2.1 _
  unfold nextS
  split
  · exact ⟨by decide, by decide⟩
  · split
    · exact ⟨by decide, by decide⟩
    · unfold nextV
      split
      · exact hb
      · split
        · exact orr_bd _ _ hg hb
        · exact an_bd _ _ hg hb

/-- Bytes as the model's arrays hold them. -/
def u8s (l : List Int) : List UInt8 := l.map fun y => UInt8.ofNat y.toNat
theorem u8s_vals (l : List Int) (h : ∀ i, i < l.length → 0 ≤ l.getD i 0 ∧ l.getD i 0 ≤ 255) : l.map (Value.int .u8) = (u8s l).map Extern.Stop.cell := by
  refine List.ext_getElem (by simp [u8s]) fun i h1 h2 => ?_
  have hi : i < l.length := by simpa using h1
  have := h i hi
  rw [List.getD_eq_getElem?_getD, List.getElem?_eq_getElem hi, Option.getD_some] at this
  simp only [u8s, List.getElem_map, Extern.Stop.cell]
  congr 1
  have e : (UInt8.ofNat (l[i].toNat)).toNat = l[i].toNat := UInt8.toNat_ofNat_of_lt' (by show l[i].toNat < 256; omega)
  rw [e]
  exact (Int.toNat_of_nonneg this.1).symm
theorem mapinj : ∀ l m : List Int, l.map (Value.int .u8) = m.map (Value.int .u8) → l = m
  | [], [], _ => rfl
  | [], _ :: _, h => by cases h
  | _ :: _, [], h => by cases h
  | x :: l, y :: m, h => by
    rw [List.map_cons, List.map_cons] at h
    injection h with h1 h2
    injection h1 with _ h3
    rw [h3, mapinj l m h2]
theorem u8s_inj (l m : List Int) (hl : ∀ i, i < l.length → 0 ≤ l.getD i 0 ∧ l.getD i 0 ≤ 255) (hm : ∀ i, i < m.length → 0 ≤ m.getD i 0 ∧ m.getD i 0 ≤ 255) : (u8s l == u8s m) = decide (l = m) := by
  rw [Bool.eq_iff_iff, beq_iff_eq, decide_eq_true_iff]
  constructor
  · intro e
    have h1 := u8s_vals l hl
    rw [e, ← u8s_vals m hm] at h1
    exact mapinj l m h1
  · rintro rfl; rfl
theorem eqArr (t : TypeId) (n : Nat) (ht : Try.prog.underlying t = some (.array n 5)) (hsz : ∀ w, (sizeOf 5).run Try.prog w = .ok 1 w) (w : World) (l m : List Int) (hln : l.length = n) (hmn : m.length = n) (hl : ∀ i, i < l.length → 0 ≤ l.getD i 0 ∧ l.getD i 0 ≤ 255) (hm : ∀ i, i < m.length → 0 ≤ m.getD i 0 ∧ m.getD i 0 ≤ 255) :
    (Op.equalIn 10000 t (.agg (vs l)) (.agg (vs m))).run Try.prog w = .ok (decide (l = m)) w := by
  have h1 := run_equalIn_bytes (P := Try.prog) w 9998 t 5 n ht Try.underlying5 hsz (u8s l) (u8s m) (by simp [u8s, hln]) (by simp [u8s, hmn])
  unfold vs
  rw [u8s_vals l hl, u8s_vals m hm, ← u8s_inj l m hl hm]
  exact h1
end Go.Proofs.Ytnkbopmghekjdaa.RgM
