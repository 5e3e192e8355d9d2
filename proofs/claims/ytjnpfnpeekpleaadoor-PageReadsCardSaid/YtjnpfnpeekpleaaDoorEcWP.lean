/- Rows of words, mended: the program's walk. -/
import Derived.Test.YtjnpfnpeekpleaaDoorEcWM
import Derived.Test.YtjnpfnpeekpleaaDoorEcD
import Derived.Stop.BytesEq
namespace Go.Proofs.YtjnpfnpeekpleaaDoor.EcWP
open Go.ChangeShapes Go.WideShapes Go.ChangeAt Go.RowKit
open EcM EcA EcB EcC EcT EcX EcY EcZ EcWM
set_option linter.unusedVariables false
set_option maxHeartbeats 1000000

def fail3 : Ending := .returned (.tuple #[.slice none 0 0, .int .i64 0, .bool false])
/-- What is told of a row that was to be mended. -/
def Res (G : Prop) (n : Nat) (o : List B8) (x : Nat) (w : World) : Ending → World → Prop := fun e w' =>
  ((¬ G ∧ e = fail3) ∨ (G ∧ ∃ a c, e = .returned (.tuple #[.slice a n c, .int .i64 (x : Int), .bool true]) ∧ Rd w' a o ∧ ∀ y, 0 < o.length → a = some y → y.block < w'.heap.size)) ∧ Below w.heap.size w w'

theorem size5 (w : World) : (sizeOf 5).run Tryd.prog w = .ok 1 w := by kernel_rfl
theorem eq53 (w : World) (p q : List B8) (hp : p.length = 8) (hq : q.length = 8) : (Op.equalIn 10000 49 (.agg (vals p).toArray) (.agg (vals q).toArray)).run Tryd.prog w = .ok (decide (p = q)) w := by
  have h1 := run_equalIn_bytes (P := Tryd.prog) w 9998 49 5 8 Tryd.underlying49 Tryd.underlying5 size5 (p.map fun x => (⟨x⟩ : UInt8)) (q.map fun x => (⟨x⟩ : UInt8)) (by simpa using hp) (by simpa using hq)
  have e : ∀ l : List B8, (vals l) = ((l.map fun x => (⟨x⟩ : UInt8)).map fun x => Value.int .u8 x.toNat) := fun l => by
    rw [List.map_map]; rfl
  have h2 : ((p.map fun x => (⟨x⟩ : UInt8)) == (q.map fun x => (⟨x⟩ : UInt8))) = decide (p = q) := by
    rw [Bool.eq_iff_iff, decide_eq_true_iff, beq_iff_eq]
    refine ⟨fun h => (List.map_inj_right fun x y h => ?_).1 h, fun h => by rw [h]⟩
    simpa using h
  rw [h2] at h1
  rw [e p, e q, show (10000 : Nat) = 9998 + 2 from rfl]
  exact h1

theorem rd_row {w : World} {g : Nat} {q : List B8} (h : w.heap[g]? = some (.cells (vals q).toArray 49 (0, 0))) (hq : q.length = 8) : Rd w (some ⟨g, 0, none⟩) q :=
  ⟨by rw [hq]; simp [maxLen], fun i hi => ⟨g, 0, rfl, by rw [Nat.zero_add]; exact R8.cell h i hi⟩⟩

theorem own_at {w : World} {base n c : Nat} {a : Option Addr} {xs : List B8} (h : Own w base (.slice a n c) xs) (h0 : 0 < n) : ∃ g, a = .some ⟨g, 0, none⟩ ∧ base ≤ g ∧ g < w.heap.size := by
  obtain ⟨hr, hl, _, _⟩ := h.rd
  obtain ⟨a', c', e, _, _, h3, h4, _⟩ := h.shape
  injection e with e1 e2 e3
  subst e1
  rcases hr.cells with h5 | ⟨b, off, e, _⟩
  · rw [h5] at hl; simp at hl; omega
  · have := h4 _ e
    injection this with _ h6 _
    subst h6
    exact ⟨b, e, h3 _ e⟩

set_option maxRecDepth 100000 in
theorem mendAllBad (a a2 : Option Addr) (n c n2 c2 : Nat) (w : World) (h1 : n ≤ 1000) (h2 : n2 ≤ 1000) (h : n2 ≠ cnt n) :
    Calls Tryd.prog 21 #[.slice a n c, .slice a2 n2 c2] w fun e w' => e = fail3 ∧ Below w.heap.size w w' := by
  have HW := Lib.hid (countW a n c (by omega))
  generalize cnt n = m at h HW
  have hq : ((n2 : Int) != (m : Int)) = true := by rw [bne_iff_ne]; omega
  go_enter Tryd.func21, Tryd.ntmps21
  go_wp2_with (go_at_call 24; refine (HW.out _).mono ?_; rintro e w' ⟨rfl, hww⟩; obtain rfl := hww.symm)
  go_ret3
  exact ⟨rfl, Below.refl _ _⟩

set_option maxRecDepth 100000 in
theorem mendAllW (a a2 : Option Addr) (l ck : List B8) (n c n2 c2 : Nat) (w : World) (hn : l.length = n) (hr : Rd w a l) (ha : ∀ x, 0 < l.length → a = some x → x.block < w.heap.size) (hc : n ≤ c) (hcm : c ≤ maxLen) (h1 : n ≤ 1000)
    (hn2 : ck.length = n2) (hr2 : Rd w a2 ck) (ha2 : ∀ x, 0 < ck.length → a2 = some x → x.block < w.heap.size) (h2 : n2 = cnt n) (hl : Laid w) :
    Calls Tryd.prog 21 #[.slice a n c, .slice a2 n2 c2] w (Res (EcWM.Good l ck) n ((outTo l ck (cnt n)).take n) (cntTo l ck (cnt n)) w) := by
  have hcn : cnt n ≤ 200 := by unfold cnt; omega
  have hlt : ∀ k, k < cnt n ↔ 8 * k < n := fun k => by unfold cnt; omega
  have hle : n ≤ 8 * cnt n := by unfold cnt; omega
  have hle2 : 8 * cnt n < n + 8 := by unfold cnt; omega
  have HW := Lib.hid (countW a n c (by omega))
  have HO := Lib.hid (Own.room w w.heap.size (8 * cnt n) (Nat.le_refl _) (by simp only [maxLen]; omega))
  have hmk : ∀ w : World, (Instr.makeSlice 22 (.int .i64 0) (.int .i64 (8 * (cnt n : Int)))).run Tryd.prog w = .ok (.slice (some ⟨w.heap.size, 0, none⟩) 0 (8 * cnt n)) (w.alloc (.cells (madeCells #[.int .u8 0] (8 * cnt n)) 5)) := fun w => by
    have := run_room (8 * cnt n) (by omega) w
    rw [show (((8 * cnt n : Nat)) : Int) = 8 * (cnt n : Int) by omega] at this
    exact this
  have hb1 := (Below.refl w.heap.size w).alloc (Nat.le_refl _) (.cells (madeCells #[.int .u8 0] (8 * cnt n)) 5)
  have H8 : Hid (∀ w' (k : Nat), Below w.heap.size w w' → 8 * k < n → Calls Tryd.prog 27 #[.slice a n c, .int .i64 (8 * (k : Int))] w' fun e w'' => e = .returned (.agg (vals (by8 l (8 * k))).toArray) ∧ Below w'.heap.size w' w'') := Lib.hid fun w' k hb' hk => by
    rcases Rd.cells (Rd.below hr hb' ha) with h0 | ⟨b, off, rfl, _⟩
    · rw [h0] at hn; simp at hn; omega
    · rw [show (8 * (k : Int)) = ((8 * k : Nat) : Int) by omega]
      exact eightW b off l n c (8 * k) w' hn (Rd.below hr hb' ha) (Nat.lt_of_lt_of_le (ha _ (by omega) rfl) hb'.size) hk hc hcm
  have HWd : ∀ (k : Nat) w', Calls Tryd.prog 26 #[.agg (vals (by8 l (8 * k))).toArray] w' fun e w'' => e = .returned (.int .u64 (wd l (8 * k) : Int)) ∧ Below w'.heap.size w' w'' := fun (k : Nat) => wordW (by8 l (8 * k)) (by8_len _ _)
  have HM : ∀ (k : Nat) (w' : World), Below w.heap.size w w' → Calls Tryd.prog 31 #[.int .u64 (wd l (8 * k) : Int), .int .u8 ((ck.getD k 0).toNat : Int)] w' fun e w'' => e = .returned (.tuple #[.int .u64 ((trip l ck k).1 : Int), .int .u8 ((trip l ck k).2.1 : Int), .int .i64 ((trip l ck k).2.2 : Int)]) ∧ Below w'.heap.size w' w'' := fun (k : Nat) (w' : World) (hb' : Below w.heap.size w w') =>
    EcD.mendW (wd l (8 * k)) (ck.getD k 0).toNat (wd_lt _ _) (ck.getD k 0).isLt w' (hl.below hb')
  have HA := fun (k : Nat) => apartW (trip l ck k).1
  have hCk : Hid (∀ w' (k : Nat), Below w.heap.size w w' → k < n2 → ∃ b off, a2 = some ⟨b, off, none⟩ ∧ w'.cell? ⟨b, off + k, none⟩ = some (.int .u8 ((ck.getD k 0).toNat : Int))) := Lib.hid fun w' k hb' hk =>
    (Rd.below hr2 hb' ha2).2 k (by omega)
  have hkd : ∀ k, (trip l ck k).2.2 = 0 ∨ (trip l ck k).2.2 = 1 ∨ (trip l ck k).2.2 = 2 := fun k => kinds _ _
  have hF0 := outTo_zero l ck
  have hFs := outTo_succ l ck
  have hFl := outTo_len l ck
  have hAl : ∀ k, (apartL (trip l ck k).1).length = 8 := fun k => apart_len _
  have hN0 : cntTo l ck 0 = 0 := rfl
  have hNs : ∀ k, cntTo l ck (k + 1) = cntTo l ck k + if (trip l ck k).2.2 = 1 then 1 else 0 := fun k => rfl
  have hNl := cntTo_le l ck
  have hTail := fun h0 => tail_iff l ck n (cnt n) hle (by omega) h0
  have hG : EcWM.Good l ck ↔ (∀ i, i < cnt n → (trip l ck i).2.2 ≠ 2) ∧ ∀ t, n ≤ t → t < 8 * cnt n → Bt l ck t = 0 := by
    unfold EcWM.Good
    rw [hn, hn2]
    exact ⟨fun h => h.2, fun h => ⟨h2, h⟩⟩
  clear hr hr2
  generalize EcWM.Good l ck = G at hG ⊢
  generalize hK : (fun k => (trip l ck k).2.2) = K
  have ek : ∀ k, (trip l ck k).2.2 = K k := fun k => by rw [← hK]
  simp only [ek] at HM hkd hNs hG
  clear ek hK
  generalize hV : (fun k => (trip l ck k).1) = V
  have ev : ∀ k, (trip l ck k).1 = V k := fun k => by rw [← hV]
  simp only [ev] at HM HA hFs hAl
  clear ev hV
  generalize hU : (fun k => (trip l ck k).2.1) = U
  have eu : ∀ k, (trip l ck k).2.1 = U k := fun k => by rw [← hU]
  simp only [eu] at HM
  clear eu hU
  generalize hX : (fun k => apartL (V k)) = X
  have ex : ∀ k, apartL (V k) = X k := fun k => by rw [← hX]
  simp only [ex] at HA hFs hAl
  clear ex hX
  generalize outTo l ck = F at hF0 hFs hFl hTail ⊢
  generalize cntTo l ck = N at hN0 hNs hNl ⊢
  generalize Bt l ck = T at hTail hG
  generalize hQ : (fun k => wd l (8 * k)) = Q
  have eq' : ∀ k, wd l (8 * k) = Q k := fun k => by rw [← hQ]
  simp only [eq'] at HM HWd
  clear eq' hQ
  generalize hY : (fun k => vals (by8 l (8 * k))) = Y
  have ey : ∀ k, vals (by8 l (8 * k)) = Y k := fun k => by rw [← hY]
  simp only [ey] at H8 HWd
  clear ey hY
  generalize hm : cnt n = m at *
  replace hm := Lib.hid hm
  replace hn := Lib.hid hn
  replace hn2 := Lib.hid hn2
  subst h2
  replace hlt := Lib.hid hlt
  replace HWd := Lib.hid HWd
  replace HM := Lib.hid HM
  replace HA := Lib.hid HA
  replace hkd := Lib.hid hkd
  replace hF0 := Lib.hid hF0
  replace hFs := Lib.hid hFs
  replace hFl := Lib.hid hFl
  replace hAl := Lib.hid hAl
  replace hN0 := Lib.hid hN0
  replace hNs := Lib.hid hNs
  replace hNl := Lib.hid hNl
  replace hTail := Lib.hid hTail
  replace hG := Lib.hid hG
  replace hl := Lib.hid hl
  replace ha := Lib.hid ha
  replace ha2 := Lib.hid ha2
  have hq : ((n2 : Int) != (n2 : Int)) = false := by simp
  unfold maxLen at hcm
  go_enter Tryd.func21, Tryd.ntmps21
  go_wp2_with (go_at_call 24; refine (HW.out _).mono ?_; rintro e w' ⟨rfl, hww⟩; obtain rfl := hww.symm)
  go_loopw [7, 8, 9, 10, 11, 12, 13, 14, 26] (fun v x _ _ _ _ _ _ i wr => ∃ k : Nat, k ≤ n2 ∧ i = .int .i64 (k : Int) ∧ x = .int .i64 (N k : Int) ∧ (∀ j, j < k → K j ≠ 2) ∧ ∃ a' c', v = .slice a' (8 * k) c' ∧ Own wr w.heap.size (.slice a' (8 * k) c') (F k) ∧ Below w.heap.size w wr) (fun _ _ _ _ _ _ _ _ i _ => (n2 - (intOf i).toNat))
  case atStart => exact ⟨0, by omega, rfl, by rw [hN0.out]; rfl, fun j hj => by omega, _, _, rfl, by rw [hF0.out]; exact HO.out, hb1⟩
  case round =>
    obtain ⟨k, hk, rfl, rfl, hgood, a', c', rfl, ho, hb⟩ := hrel
    replace ho := Lib.hid ho
    replace hgood := Lib.hid hgood
    have hNk := hNl.out k
    by_cases hlt' : k < n2
    · have h8 : 8 * k < n := (hlt.out k).1 hlt'
      obtain ⟨bq, oq, rfl, hcell⟩ := hCk.out _ k hb hlt'
      replace hcell := hcell
      have hFk := Lib.hid (hFs.out k)
      have hFl1 := Lib.hid (hFl.out (k + 1))
      have hxl := Lib.hid (hAl.out k)
      go_wp2_with fail
      refine (H8.out _ k hb h8).mono ?_
      rintro e w1 ⟨rfl, b1⟩
      have d1 := hb.trans (b1.mono hb.size)
      have o1 := Lib.hid (Own.below ho.out b1)
      clear b1 hcell
      go_wp2_with fail
      refine (HWd.out k _).mono ?_
      rintro e w2 ⟨rfl, b2⟩
      have d2 := d1.trans (b2.mono d1.size)
      have o2 := Lib.hid (Own.below o1.out b2)
      clear b2
      go_wp2_with fail
      refine (HM.out k _ d2).mono ?_
      rintro e w3 ⟨rfl, b3⟩
      have d3 := d2.trans (b3.mono d2.size)
      have o3 := Lib.hid (Own.below o2.out b3)
      clear b3 d2 d1 hb o2 o1 ho
      by_cases hk2 : K k = 2
      · have hnG : Hid (¬ G) := Lib.hid fun h => (hG.out.1 h).1 k hlt' hk2
        have e2 : ((K k : Int) == 2) = true := by simp; omega
        clear hk2
        go_wp2
        go_ret3
        exact ⟨.inl ⟨hnG.out, rfl⟩, d3⟩
      · have e2 : ((K k : Int) == 2) = false := by simp; omega
        have hgood' : Hid (∀ j, j < k + 1 → K j ≠ 2) := Lib.hid fun j hj => by
          rcases Nat.lt_or_ge j k with h | h
          · exact hgood.out j h
          · rw [show j = k by omega]; exact hk2
        by_cases hk1 : K k = 1
        all_goals
          have e1 : ((K k : Int) == 1) = decide (K k = 1) := by
            rw [Bool.eq_iff_iff, beq_iff_eq, decide_eq_true_iff]; omega
          have hNs' : Hid (N (k + 1) = N k + if K k = 1 then 1 else 0) := Lib.hid (hNs.out k)
          first | (have e3 : decide (K k = 1) = true := by simpa using hk1) | (have e3 : decide (K k = 1) = false := by simpa using hk1)
          replace hk1 := Lib.hid hk1
          clear hk2
          go_wp2_with fail
          refine (HA.out k _).mono ?_
          rintro e w4 ⟨rfl, b4⟩
          have d4 := d3.trans (b4.mono d3.size)
          have o4 := Lib.hid (Own.below o3.out b4)
          clear b4
          have Z4 : Hid ((w4.alloc (.cells #[.int .u8 0, .int .u8 0, .int .u8 0, .int .u8 0, .int .u8 0, .int .u8 0, .int .u8 0, .int .u8 0] 49)).heap[w4.heap.size]? = some (.cells zero8 49 (0, 0))) := Lib.hid (heap_alloc_new w4 _)
          have L8 : Hid ((vals (X k)).toArray.size = 8) := Lib.hid (by simp [vals_length, hxl.out])
          have B4 : Hid (Below w4.heap.size w4 (w4.alloc (.cells #[.int .u8 0, .int .u8 0, .int .u8 0, .int .u8 0, .int .u8 0, .int .u8 0, .int .u8 0, .int .u8 0] 49))) := Lib.hid ((Below.refl _ _).alloc (Nat.le_refl _) _)
          go_wp2_with (first
            | (refine storeRow rfl (.tmp 14) (.tmp 49) rfl w4.heap.size rfl zero8 (vals (X k)).toArray rfl 49 Z4.out L8.out rfl (vals_all _) w4.heap.size w4 B4.out (Nat.le_refl _) ?_
               intro w5 hg5 b5
               have d5 := d4.trans (b5.mono d4.size)
               have o5 := Lib.hid (Own.below o4.out b5)
               have r5 := Lib.hid (rd_row hg5 hxl.out)
               clear hg5 b5)
            | (at_builtin
               refine wpList_app rfl (.tmp 50) (.tmp 51) rfl w.heap.size (.slice a' (8 * k) c') (F k) rfl o5.out _ (X k) 8 8 rfl hxl.out r5.out (F (k + 1)) (8 * (k + 1)) hFk.out.symm hFl1.out (by omega) d5.size ?_
               intro a1 c1 w6 hv1 hr1 hg1 hn1
               clear hr1 hn1
               have d6 := d5.grown hg1 d5.size (o5.out.blocks · · |>.1)
               replace hv1 := Lib.hid hv1
               clear hg1))
          go_roundw
          case rel => exact ⟨k + 1, by omega, by go_num, by rw [hNs'.out]; first | (rw [if_pos hk1.out]; go_num) | (rw [if_neg hk1.out]; go_num), hgood'.out, a1, c1, rfl, hv1.out, d6⟩
          case measure => simp [intOf]; omega
    · obtain rfl : k = n2 := by omega
      obtain ⟨hrd, hfl, hcc, hcx⟩ := Own.rd ho.out
      have hblk : Hid (∀ y, a' = some y → y.block < wr.heap.size) := Lib.hid fun y hy => by
        obtain ⟨a3, c3, e, _, _, h3, _⟩ := ho.out.shape
        injection e with e1 e2 e3
        exact (h3 y (by rw [← e1]; exact hy)).2
      have hgood' : Hid (∀ i, i < k → K i ≠ 2) := hgood
      by_cases hn8 : n = 8 * k
      · have hGy : Hid G := Lib.hid (hG.out.2 ⟨hgood.out, fun t h1 h2 => by omega⟩)
        have hrt : Hid (Rd wr a' ((F k).take n)) := Lib.hid (Rd.take hrd n)
        have hn8' : ¬ (n : Int) < 8 * (k : Int) := by omega
        replace hn8 := Lib.hid hn8
        have hnc : (n : Int) ≤ (c' : Int) := by have := hn8.out; omega
        have hnc' : n ≤ c' := by omega
        clear hcx hcc hrd hfl
        go_wp2
        go_ret3
        exact ⟨.inr ⟨hGy.out, a', c', rfl, hrt.out, fun y _ hy => hblk.out y hy⟩, hb⟩
      · have hk0 : 0 < k := by omega
        obtain ⟨g, rfl, _, hgl⟩ := own_at ho.out (by omega)
        have hfn : ((F k).take n).length = n := by rw [List.length_take, hfl]; omega
        obtain ⟨p, hp⟩ : ∃ p, p = 8 * k - 8 := ⟨_, rfl⟩
        have hp8 : 8 * (k : Int) - 8 = (p : Int) := by omega
        have E1 := eightW g 0 ((F k).take n) n c' p wr hfn (Rd.take hrd n) hgl (by omega) (by omega) hcx
        have E2 : Hid (∀ w', Below wr.heap.size wr w' → Calls Tryd.prog 27 #[.slice (some ⟨g, 0, none⟩) (8 * k) c', .int .i64 (p : Int)] w' fun e w'' => e = .returned (.agg (vals (by8 (F k) p)).toArray) ∧ Below w'.heap.size w' w'') := Lib.hid fun w' hb' =>
          eightW g 0 (F k) (8 * k) c' p w' hfl (Own.below ho.out hb').rd.1 (Nat.lt_of_lt_of_le hgl hb'.size) (by omega) hcc hcx
        have hE := fun w' : World => eq53 w' (by8 ((F k).take n) p) (by8 (F k) p) (by8_len _ _) (by8_len _ _)
        have hT := hTail.out hk0
        rw [← hp] at hT
        have hrt : Hid (∀ w', Below wr.heap.size wr w' → Rd w' (some ⟨g, 0, none⟩) ((F k).take n)) := Lib.hid fun w' hb' => Rd.take (Own.below ho.out hb').rd.1 n
        generalize by8 ((F k).take n) p = q1 at E1 hE hT
        generalize by8 (F k) p = q2 at E2 hE hT
        generalize hBq : decide (q1 = q2) = B at hE
        generalize (vals q1).toArray = z1 at E1 hE
        generalize (vals q2).toArray = z2 at E2 hE
        replace E1 := Lib.hid E1
        replace hT := Lib.hid hT
        replace hp := Lib.hid hp
        have hnlt : (n : Int) < 8 * (k : Int) := by omega
        have hnc : (n : Int) ≤ (c' : Int) := by omega
        have hnc' : n ≤ c' := by omega
        unfold maxLen at hcx
        clear hrd hfl hfn
        cases B with
        | true =>
          have hGy : Hid G := Lib.hid (hG.out.2 ⟨hgood.out, hT.out.1 (of_decide_eq_true hBq)⟩)
          replace hBq := Lib.hid hBq
          go_wp2_with fail
          refine E1.out.mono ?_
          rintro e w1 ⟨rfl, b1⟩
          go_wp2_with fail
          refine (E2.out _ b1).mono ?_
          rintro e w2 ⟨rfl, b2⟩
          have b3 := b1.trans (b2.mono b1.size)
          go_wp2
          go_ret3
          exact ⟨.inr ⟨hGy.out, _, c', rfl, hrt.out _ b3, fun y _ hy => Nat.lt_of_lt_of_le (hblk.out y hy) b3.size⟩, hb.trans (b3.mono hb.size)⟩
        | false =>
          have hGn : Hid (¬ G) := Lib.hid fun h => (of_decide_eq_false hBq) (hT.out.2 (hG.out.1 h).2)
          replace hBq := Lib.hid hBq
          go_wp2_with fail
          refine E1.out.mono ?_
          rintro e w1 ⟨rfl, b1⟩
          go_wp2_with fail
          refine (E2.out _ b1).mono ?_
          rintro e w2 ⟨rfl, b2⟩
          have b3 := b1.trans (b2.mono b1.size)
          go_wp2
          go_ret3
          exact ⟨.inl ⟨hGn.out, rfl⟩, hb.trans (b3.mono hb.size)⟩
end Go.Proofs.YtjnpfnpeekpleaaDoor.EcWP
