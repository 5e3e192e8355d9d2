/- Rows of bytes as words: more contracts. -/
import Derived.Test.YtjnpfnpeekpleaaDoorEcY
import Derived.Test.YtjnpfnpeekpleaaDoorEcS
namespace Go.Proofs.YtjnpfnpeekpleaaDoor.EcZ
open Go.ChangeShapes Go.WideShapes Go.ChangeAt Go.RowKit
open EcM EcA EcB EcC EcT EcX EcY
set_option linter.unusedVariables false
set_option maxHeartbeats 1000000

def R8 (w : World) (g : Nat) (l : List B8) : Prop := w.heap[g]? = some (.cells (vals l).toArray 49 (0, 0))
theorem R8.cell {w g l} (h : R8 w g l) (i : Nat) (hi : i < l.length) : w.cell? ⟨g, i, none⟩ = some (.int .u8 (l.getD i 0).toNat) := by
  rw [cell_of_row w g i _ 49 _ h]; simp [vals, hi]
theorem R8.free {w g l} (h : R8 w g l) (i : Nat) : w.frozen? ⟨g, i, none⟩ = false := by
  unfold R8 at h; simp [World.frozen?, h]
theorem R8.put {w g l} (h : R8 w g l) (i : Nat) (y : B8) : R8 (w.setCell ⟨g, i, none⟩ (.int .u8 y.toNat)) g (l.set i y) := by
  unfold R8 at h ⊢
  simp [World.setCell, Array.getElem?_modify, h, vals, List.map_set]

def fillL (v : Nat) : Nat → List B8
  | 0 => List.replicate 8 0#8
  | k + 1 => (fillL v k).set k (BitVec.ofNat 8 (v / 2 ^ (8 * k)))
theorem fillL_len (v : Nat) : ∀ k, (fillL v k).length = 8
  | 0 => rfl
  | k + 1 => by simp [fillL, fillL_len v k]
theorem fillL_all (v : Nat) : fillL v 8 = apartL v := by
  simp [fillL, apartL, List.range_succ]

theorem byteOf (v k : Nat) : (v : Int) / 2 ^ (8 * k) % 256 = ((BitVec.ofNat 8 (v / 2 ^ (8 * k))).toNat : Int) := by
  rw [show ((v : Int) / 2 ^ (8 * k)) = ((v / 2 ^ (8 * k) : Nat) : Int) by push_cast; rfl, BitVec.toNat_ofNat]; omega

set_option maxRecDepth 100000 in
theorem apartW (v : Nat) (w : World) : Calls Tryd.prog 32 #[.int .u64 (v : Int)] w fun e w' => e = .returned (.agg (vals (apartL v)).toArray) ∧ Below w.heap.size w w' := by
  obtain ⟨w1, hw1⟩ : ∃ w1, w1 = (w.alloc (.cells #[.int .u8 0, .int .u8 0, .int .u8 0, .int .u8 0, .int .u8 0, .int .u8 0, .int .u8 0, .int .u8 0] 49)) := ⟨_, rfl⟩
  have hsz1 : w1.heap.size = w.heap.size + 1 := by rw [hw1]; simp
  obtain ⟨w2, hw2⟩ : ∃ w2, w2 = (w1.alloc (.cells #[.int .u8 0, .int .u8 0, .int .u8 0, .int .u8 0, .int .u8 0, .int .u8 0, .int .u8 0, .int .u8 0] 49)) := ⟨_, rfl⟩
  have B0 : Hid (Below w.heap.size w w1) := Lib.hid (by rw [hw1]; exact (Below.refl _ _).alloc (Nat.le_refl _) _)
  have B1 : Hid (Below (w.heap.size + 1) w1 w2) := Lib.hid (by rw [hw2]; exact (Below.refl _ _).alloc (by omega) _)
  have G0 : Hid (w1.heap[w.heap.size]? = some (.cells zero8 49 (0, 0))) := Lib.hid (by rw [hw1]; exact heap_alloc_new w _)
  have G1 : Hid (R8 w2 (w.heap.size + 1) (fillL v 0)) := Lib.hid (by rw [← hsz1, hw2]; exact heap_alloc_new w1 _)
  have L8 : Hid ((vals (apartL v)).toArray.size = 8) := Lib.hid (by simp [vals_length, apart_len])
  have hF := Lib.hid (fillL_all v)
  have hS : Hid (∀ k, fillL v (k + 1) = (fillL v k).set k (BitVec.ofNat 8 (v / 2 ^ (8 * k)))) := Lib.hid fun k => rfl
  have hN := Lib.hid (fillL_len v)
  generalize fillL v = F at hF hS hN G1
  generalize apartL v = A at hF L8 ⊢
  go_enter Tryd.func32, Tryd.ntmps32
  go_wp2
  rw [← hw1, ← hw2]
  replace hw1 := Lib.hid hw1
  replace hw2 := Lib.hid hw2
  go_loopw [4, 5] (fun _ i wr => ∃ k : Nat, k ≤ 8 ∧ i = .int .i64 (k : Int) ∧ R8 wr (w.heap.size + 1) (F k) ∧ Below (w.heap.size + 1) w1 wr) (fun _ i _ => 8 - (intOf i).toNat)
  case atStart => exact ⟨0, by omega, rfl, G1.out, B1.out⟩
  case round =>
    obtain ⟨k, hk, rfl, hr, hb⟩ := hrel
    by_cases hlt : k < 8
    · have hc := hr.cell k (by rw [hN.out]; exact hlt)
      have hz := hr.free k
      have hbv := Lib.hid (byteOf v k)
      have hr' := Lib.hid (hr.put k (BitVec.ofNat 8 (v / 2 ^ (8 * k))))
      have hb' := Lib.hid (hb.setCell (p := ⟨w.heap.size + 1, k, none⟩) (Nat.le_refl _) (.int .u8 (BitVec.ofNat 8 (v / 2 ^ (8 * k))).toNat))
      clear hr hb
      go_wp2
      go_roundw
      case rel => exact ⟨k + 1, by omega, by go_num, by rw [hbv.out, hS.out]; exact hr'.out, by rw [hbv.out]; exact hb'.out⟩
      case measure => simp [intOf]; omega
    · obtain rfl : k = 8 := by omega
      rw [hF.out] at hr
      have H0 : Hid (wr.heap[w.heap.size]? = some (.cells zero8 49 (0, 0))) := Lib.hid ((hb.block _ (by omega)).trans G0.out)
      have HB := Lib.hid (B0.out.trans (hb.mono (by omega)))
      replace hr := Lib.hid hr
      clear hb
      go_wp2_with (first
        | (refine loadRow rfl (.tmp 3) rfl (w.heap.size + 1) rfl (vals A).toArray 49 hr.out L8.out ?_)
        | (refine storeRow rfl (.tmp 2) (.tmp 16) rfl w.heap.size rfl zero8 (vals A).toArray rfl 49 H0.out L8.out rfl (vals_all _) w.heap.size w HB.out (Nat.le_refl _) ?_
           intro w9 hg9 hb9))
      refine bodyPost_ret (results_cell_row Tryd.results32 _ _ w.heap.size 49 _ (0, 0) _ rfl hg9 Tryd.underlying49 rfl (by rw [L8.out]; exact i53)) rfl ⟨rfl, hb9⟩

theorem or_low (h x : Nat) (hx : x < 256) (hh : h * 256 < 18446744073709551616) : bits BinOp.or IntKind.u64 ((h : Int) * 256) (x : Int) = ((h * 256 + x : Nat) : Int) := by
  rw [show ((h : Int) * 256) = ((h * 256 : Nat) : Int) from (Int.natCast_mul h 256).symm, or64 _ _ hh (by omega)]
  have := or_up x h 8 (show x < 2 ^ 8 by omega)
  rw [Nat.or_comm] at this
  rw [show (256 : Nat) = 2 ^ 8 by rfl, this]; omega

set_option maxRecDepth 100000 in
theorem wordR (a : Option Addr) (l : List B8) (n c i : Nat) (w : World) (hn : l.length = n) (hr : Rd w a l) (h1 : n ≤ 1000000) (hi : i ≤ 1000000) :
    Calls Tryd.prog 30 #[.slice a n c, .int .i64 (i : Int)] w fun e w' => e = .returned (.int .u64 (wd l (8 * i) : Int)) ∧ w' = w := by
  have hz := Lib.hid (hig_zero (by8 l (8 * i)))
  have he := Lib.hid (hig_end (by8 l (8 * i)) (by8_len _ _))
  have hs : Hid (∀ k, k < 8 → hig (by8 l (8 * i)) k = hig (by8 l (8 * i)) (k + 1) * 256 + (l.getD (8 * i + k) 0).toNat) := Lib.hid fun k hk => by
    rw [hig_step _ _ (by rw [by8_len]; exact hk), by8_get _ _ _ hk]
  have hl := Lib.hid (fun k => hig_lt (by8 l (8 * i)) k (by8_len _ _))
  unfold wd
  generalize num (by8 l (8 * i)) = N at hz ⊢
  generalize hig (by8 l (8 * i)) = H at hz he hs hl
  replace hn := Lib.hid hn
  replace hr := Lib.hid hr
  go_enter Tryd.func30, Tryd.ntmps30
  go_wp2
  go_loop [5, 6] (fun v k => ∃ j : Nat, j ≤ 8 ∧ k = .int .i64 ((j : Int) - 1) ∧ v = .int .u64 (H j : Int)) (fun _ k => (intOf k + 1).toNat)
  case atStart => exact ⟨8, by omega, rfl, by rw [he.out]; rfl⟩
  case round =>
    obtain ⟨j, hj, rfl, rfl⟩ := hrel
    by_cases h0 : j = 0
    · subst h0
      go_wp2
      go_ret
      exact ⟨by rw [← hz.out]; rfl, rfl⟩
    · obtain ⟨k, rfl⟩ : ∃ k, j = k + 1 := ⟨j - 1, by omega⟩
      have hsk := Lib.hid (hs.out k (by omega))
      have hlt : H (k + 1) * 256 < 18446744073709551616 := by
        have h2 := hl.out (k + 1)
        have h3 : 2 ^ (8 * (8 - (k + 1))) ≤ 2 ^ 56 := Nat.pow_le_pow_right (by omega) (by omega)
        omega
      have hwr : IntKind.u64.wrap ((H (k + 1) : Int) * 256) = (H (k + 1) : Int) * 256 := by
        have := wrapL (H (k + 1) * 256) hlt
        rw [Int.natCast_mul] at this
        exact this
      replace hlt := Lib.hid hlt
      have hx := (l.getD (8 * i + k) 0).isLt
      by_cases hin : 8 * i + k < n
      · obtain ⟨b, off, ea, hc⟩ := hr.out.2 (8 * i + k) (by rw [hn.out]; exact hin)
        subst ea
        have hor := Lib.hid (or_low (H (k + 1)) (l.getD (8 * i + k) 0).toNat hx hlt.out)
        generalize (l.getD (8 * i + k) 0).toNat = x at hc hsk hor hx
        go_wp2
        go_round
        case rel => exact ⟨k, by omega, rfl, by rw [hsk.out]; exact congrArg _ hor.out⟩
        case measure => simp [intOf]
      · have hx0 : Hid ((l.getD (8 * i + k) 0).toNat = 0) := Lib.hid (by
          rw [List.getD_eq_getElem?_getD, List.getElem?_eq_none (by rw [hn.out]; omega)]; rfl)
        clear hx
        go_wp2
        go_round
        case rel => exact ⟨k, by omega, rfl, by rw [hsk.out, hx0.out]; exact congrArg _ (by push_cast; omega)⟩
        case measure => simp [intOf]

theorem run_room (m : Nat) (hm : m ≤ 1000000) (w : World) : (Instr.makeSlice 22 (.int .i64 0) (.int .i64 (m : Int))).run Tryd.prog w = .ok (.slice (some ⟨w.heap.size, 0, none⟩) 0 m) (w.alloc (.cells (madeCells #[.int .u8 0] m) 5)) := by
  obtain ⟨i, hi, hz, hs, hb⟩ := i5
  have h := run_make (P := Tryd.prog) w 22 5 i (.int .u8 0) Tryd.underlying22 hi hz .i64 .i64 0 (m : Int) (by omega) (by omega) (by rw [hb]; omega) (by omega)
  have e : ((m : Int)).toNat = m := by omega
  rw [e] at h
  simpa [hs, Value.cells] using h
theorem Own.room (w : World) (base n : Nat) (hb : base ≤ w.heap.size) (hn : n ≤ maxLen) : Own (w.alloc (.cells (madeCells #[.int .u8 0] n) 5)) base (.slice (some ⟨w.heap.size, 0, none⟩) 0 n) [] := by
  have h := World.ownsRow_made (e := 5) (size := 1) w (madeCells #[.int .u8 0] n) n hb hn (by rw [size_madeCells]; omega)
  unfold Own
  simpa [vals] using h
theorem Own.below {w w' : World} {base : Nat} {v : Value} {xs : List B8} (h : Own w base v xs) (hb : Below w.heap.size w w') : Own w' base v xs :=
  World.ownsRow.kept (row := none) h ⟨hb.os, hb.tape, hb.output, hb.size, fun k hk _ => hb.block k hk⟩ (by cases v.ownBlock <;> simp)

theorem Own.base {w : World} {base base' : Nat} {v : Value} {xs : List B8} (h : Own w base v xs) (hb : base' ≤ base) : Own w base' v xs := by
  obtain ⟨hl, h2⟩ := h
  refine ⟨hl, ?_⟩
  rcases h2 with h2 | ⟨g, cap, cur, e, hg, rest⟩
  · exact .inl h2
  · exact .inr ⟨g, cap, cur, e, Nat.le_trans hb hg, rest⟩

theorem byte_of_lt (x : Nat) (h : x < 256) : (x : Int) = ((BitVec.ofNat 8 x).toNat : Int) := by
  rw [BitVec.toNat_ofNat]; omega

set_option maxRecDepth 100000 in
theorem wordsW (a : Option Addr) (l : List B8) (n c : Nat) (w : World) (hn : l.length = n) (hr : Rd w a l) (ha : ∀ x, 0 < l.length → a = some x → x.block < w.heap.size) (hc : n ≤ c) (hc2 : c ≤ maxLen) (h1 : n ≤ 10000) (hl : Laid w) :
    Calls Tryd.prog 18 #[.slice a n c] w fun e w' => ∃ a' c', e = .returned (.slice a' (cnt n) c') ∧ Own w' w.heap.size (.slice a' (cnt n) c') (wordsTo l (cnt n)) ∧ Below w.heap.size w w' := by
  have hcn : cnt n ≤ 2000 := by unfold cnt; omega
  have hlt : ∀ k, k < cnt n ↔ 8 * k < n := fun k => by unfold cnt; omega
  have hmk := run_room (cnt n) (by omega)
  have HW := Lib.hid (countW a n c (by omega))
  have HO := Lib.hid (Own.room w w.heap.size (cnt n) (Nat.le_refl _) (by simp only [maxLen]; omega))
  have hb1 := (Below.refl w.heap.size w).alloc (Nat.le_refl _) (.cells (madeCells #[.int .u8 0] (cnt n)) 5)
  have HR : Hid (∀ w', Below w.heap.size w w' → Rd w' a l) := Lib.hid fun w' hb' => Rd.below hr hb' ha
  have H8 : Hid (∀ w' k, Below w.heap.size w w' → 8 * k < n → Calls Tryd.prog 27 #[.slice a n c, .int .i64 (8 * (k : Int))] w' fun e w'' => e = .returned (.agg (vals (by8 l (8 * k))).toArray) ∧ Below w'.heap.size w' w'') := Lib.hid fun w' k hb' hk => by
    rcases Rd.cells (Rd.below hr hb' ha) with h0 | ⟨b, off, rfl, _⟩
    · rw [h0] at hn; simp at hn; omega
    · rw [show (8 * (k : Int)) = ((8 * k : Nat) : Int) by omega]
      exact eightW b off l n c (8 * k) w' hn (Rd.below hr hb' ha) (Nat.lt_of_lt_of_le (ha _ (by omega) rfl) hb'.size) hk hc hc2
  have HWd := Lib.hid (fun (k : Nat) => wordW (by8 l (8 * k)) (by8_len _ _))
  have HCk := Lib.hid (fun (k : Nat) (w' : World) (hb' : Below w.heap.size w w') => checkS (wd l (8 * k)) (wd_lt _ _) w' (hl.below hb'))
  have hsn := Lib.hid (wordsTo_succ l)
  have hln := Lib.hid (wordsTo_len l)
  have h0 : Hid (wordsTo l 0 = []) := Lib.hid rfl
  have hclt := Lib.hid (fun (k : Nat) => chk_lt (wd l (8 * k)))
  have hwd : ∀ k, num (by8 l (8 * k)) = wd l (8 * k) := fun k => rfl
  simp only [hwd] at HWd
  clear hwd hr hl
  generalize wordsTo l = W at hsn hln h0 ⊢
  generalize hG : (fun k => chk (wd l (8 * k))) = G
  have eg : ∀ k, chk (wd l (8 * k)) = G k := fun k => by rw [← hG]
  simp only [eg] at HCk hsn hclt
  clear eg hG
  generalize hQ : (fun k => wd l (8 * k)) = Q
  have eq' : ∀ k, wd l (8 * k) = Q k := fun k => by rw [← hQ]
  simp only [eq'] at HCk HWd
  clear eq' hQ
  generalize hV : (fun k => vals (by8 l (8 * k))) = V
  have ev : ∀ k, vals (by8 l (8 * k)) = V k := fun k => by rw [← hV]
  simp only [ev] at H8 HWd
  clear ev hV
  generalize hm : cnt n = m at *
  replace hm := Lib.hid hm
  replace hn := Lib.hid hn
  replace hlt := Lib.hid hlt
  go_enter Tryd.func18, Tryd.ntmps18
  go_wp2_with (go_at_call 24; refine (HW.out _).mono ?_; rintro e w' ⟨rfl, hww⟩; obtain rfl := hww.symm)
  go_loopw [3, 4] (fun v i wr => ∃ k : Nat, k ≤ m ∧ i = .int .i64 (8 * (k : Int)) ∧ ∃ a' c', v = .slice a' k c' ∧ Own wr w.heap.size (.slice a' k c') (W k) ∧ Below w.heap.size w wr) (fun _ i _ => (8 * m - (intOf i).toNat))
  case atStart => exact ⟨0, by omega, rfl, _, _, rfl, by rw [h0.out]; exact HO.out, hb1⟩
  case round =>
    obtain ⟨k, hk, rfl, a', c', rfl, ho, hb⟩ := hrel
    replace ho := Lib.hid ho
    by_cases hlt' : k < m
    · have h8 : 8 * k < n := (hlt.out k).1 hlt'
      have hs' := Lib.hid (hsn.out k)
      have hgl := Lib.hid (byte_of_lt (G k) (hclt.out k))
      go_wp2_with fail
      refine (H8.out _ k hb h8).mono ?_
      rintro e w1 ⟨rfl, b1⟩
      have d1 := hb.trans (b1.mono hb.size)
      have o1 := Lib.hid (Own.below ho.out b1)
      clear b1
      go_wp2_with fail
      refine (HWd.out k _).mono ?_
      rintro e w2 ⟨rfl, b2⟩
      have d2 := d1.trans (b2.mono d1.size)
      have o2 := Lib.hid (Own.below o1.out b2)
      clear b2
      go_wp2_with fail
      refine (HCk.out k _ d2).mono ?_
      rintro e _ ⟨rfl, rfl⟩
      have hlw : Hid ((W k).length = k) := Lib.hid (hln.out k)
      have hl2 := Lib.hid (hln.out (k + 1))
      go_wp2_with (first
        | (at_builtin
           refine wpList_app rfl (.tmp 14) (.tmp 20) rfl w.heap.size (.slice a' k c') (W k) rfl (o2.out.alloc _) _ [BitVec.ofNat 8 (G k)] 1 _ rfl rfl (EcT.one _ (BitVec.ofNat 8 (G k)) _ _ (by simp) hgl.out) (W (k + 1)) (k + 1) hs'.out.symm hl2.out (by omega) (by have := d2.size; simp; omega) ?_
           intro a1 c1 w3 hv1 hr1 hg1 hn1
           clear hr1 hn1
           have d3 := (d2.alloc d2.size _).grown hg1 (by have := d2.size; simp; omega) (o2.out.blocks · · |>.1)
           replace hv1 := Lib.hid hv1
           clear hg1))
      go_roundw
      case rel => exact ⟨k + 1, by omega, by go_num, a1, c1, by go_num, hv1.out, d3⟩
      case measure => simp [intOf]; omega
    · obtain rfl : k = m := by omega
      have h8 : ¬ 8 * k < n := fun h => hlt' ((hlt.out k).2 h)
      go_wp2
      go_ret
      exact ⟨a', c', rfl, ho.out, hb⟩
end Go.Proofs.YtjnpfnpeekpleaaDoor.EcZ
