/- The walk of the law on frames that go to bytes and back. -/
import Derived.Test.YtafcjcpflkelcaaFrL
import Derived.Test.YtafcjcpflkelcaaFrG
import Derived.Test.YtafcjcpflkelcaaFrBurstW
namespace Go.Proofs.Ytafcjcpflkelcaa.FrBackW
open Go.ChangeShapes Go.WideShapes Go.ChangeAt Go.RowKit
open CrcM CrcB CrcL CrcQ FrA FrB FrT FrG FrD FrR FrL FrBurstW
set_option linter.unusedVariables false
set_option maxHeartbeats 1000000

theorem encodeBad' (z : Int) (v : Value) (w : World) (h : z < 0 ∨ 63 < z) :
    Calls Try.prog 43 #[.agg #[.int .i64 z, v]] w fun e w' => e = .returned (.tuple #[.agg #[.int .u8 0, .int .u8 0, .int .u8 0, .int .u8 0, .int .u8 0, .int .u8 0], .int .i64 1]) ∧ Below w.heap.size w w' := by
  rcases h with h | h
  all_goals
    go_enter Try.func43, Try.ntmps43
    go_wp2
    go_returns
    exact ⟨rfl, ((Below.refl _ w).alloc (Nat.le_refl _) _).alloc (by simp) _⟩

/-- The world as the call's two arguments lie in variables. -/
def W0 (w : World) (z : Int) (x : B32) (l : List B8) : World := (w.alloc (.cells #[.int .i64 z, .int .u32 x.toNat] 69)).alloc (.cells (vals l).toArray 94)

theorem argA {w w' : World} {z : Int} {x : B32} {l : List B8} (hb : Below (w.heap.size + 2) (W0 w z x l) w') :
    w'.cell? ⟨w.heap.size, 0, none⟩ = some (.int .i64 z) ∧ w'.cell? ⟨w.heap.size, 1, none⟩ = some (.int .u32 x.toNat) := by
  have hw := hb.block w.heap.size (by omega)
  unfold W0 at hw
  rw [heap_alloc2_old] at hw
  exact ⟨(twoCells hw).1, (twoCells hw).2.1⟩
theorem argL {w w' : World} {z : Int} {x : B32} {l : List B8} (hb : Below (w.heap.size + 2) (W0 w z x l) w') : w'.heap[w.heap.size + 1]? = some (.cells (vals l).toArray 94 (0, 0)) := by
  have hw := hb.block (w.heap.size + 1) (by omega)
  unfold W0 at hw
  rw [heap_alloc2_new] at hw
  exact hw
theorem argW {w w' : World} {z : Int} {x : B32} {l : List B8} (hb : Below (w.heap.size + 2) (W0 w z x l) w') : Below w.heap.size w w' :=
  (((Below.refl _ w).alloc (Nat.le_refl _) _).alloc (by simp) _).trans (hb.mono (by omega))

set_option maxRecDepth 100000 in
theorem early (z : Int) (x : B32) (s : Int) (l : List B8) (w : World) (h : z < 0 ∨ 63 < z) :
    Calls Try.prog 11 #[.agg #[.int .i64 z, .int .u32 x.toNat], .int .u32 s, .agg (vals l).toArray] w fun e w' => e = .returned (.bool true) ∧ Below w.heap.size w w' := by
  have HA : Hid (∀ w', Below (w.heap.size + 2) (W0 w z x l) w' → _) := Lib.hid fun w' hb => argA hb
  rcases h with h | h
  all_goals
    have HE := fun v w => encodeBad' z v w (by omega)
    go_enter Try.func11, Try.ntmps11
    go_wp2_with fail
    refine Calls.mono (known _) ?_
    rintro e w' ⟨rfl, hb⟩
    simp only [World.size_alloc] at hb
    obtain ⟨c0, c1⟩ := HA.out w' hb
    go_wp2_with fail
    refine Calls.mono (HE _ _) ?_
    rintro e w'' ⟨rfl, hb2⟩
    have hsz := hb.size
    unfold W0 at hsz
    have hbb := argW (hb.trans (hb2.mono (by simpa [W0] using hb.size)))
    clear hb hb2 hsz
    go_wp2
    go_ret
    exact ⟨rfl, hbb.alloc hbb.size _⟩

set_option maxRecDepth 100000 in
theorem late (i : B8) (hi : i.toNat ≤ 63) (x s : B32) (l : List B8) (w : World) (hl : l.length = 16) :
    Calls Try.prog 11 #[.agg #[.int .i64 i.toNat, .int .u32 x.toNat], .int .u32 s.toNat, .agg (vals l).toArray] w fun e w' => e = .returned (.bool true) ∧ Below w.heap.size w w' := by
  have HA : Hid (∀ w', Below (w.heap.size + 2) (W0 w i.toNat x l) w' → _) := Lib.hid fun w' hb => argA hb
  have HAL : Hid (∀ w', Below (w.heap.size + 2) (W0 w i.toNat x l) w' → _) := Lib.hid fun w' hb => argL hb
  have HAW : Hid (∀ w', Below (w.heap.size + 2) (W0 w i.toNat x l) w' → Below w.heap.size w w') := Lib.hid fun w' hb => argW hb
  have HL := Lib.hid hl
  have hx := x.isLt
  have hss := s.isLt
  clear hl
  go_enter Try.func11, Try.ntmps11
  go_wp2_with fail
  refine Calls.mono (known _) ?_
  rintro e w2 ⟨rfl, hb⟩
  simp only [World.size_alloc] at hb
  have hb2 : Below (w.heap.size + 2) (W0 w i.toNat x l) w2 := hb
  have hs2 : w.heap.size + 2 ≤ w2.heap.size := by simpa [W0] using hb2.size
  clear hb
  obtain ⟨c0, c1⟩ := HA.out w2 hb2
  go_wp2_with fail
  refine Calls.mono (encode i hi x _) ?_
  rintro e w3 ⟨b0, b1, b2, b3, b4, b5, hf, rfl, hb3⟩
  have hs3 := hb3.size
  have e3 := hb2.trans (hb3.mono hs2)
  have HG := Lib.hid (frm_good 1 i x (by decide) hi b0 b1 b2 b3 b4 b5 hf)
  clear hb2 hb3 c0 c1 hf
  unfold six
  have RX : Row (w3.alloc (.cells #[.int .u8 b0.toNat, .int .u8 b1.toNat, .int .u8 b2.toNat, .int .u8 b3.toNat, .int .u8 b4.toNat, .int .u8 b5.toNat] 70)) w3.heap.size [b0, b1, b2, b3, b4, b5] := heap_alloc_new _ _
  have HD := Lib.hid (FrD.decode w3.heap.size 0 6 b0 b1 b2 b3 b4 b5 _ (by omega) RX.lt (RX.rd (by simp [maxLen])))
  have E3 := Lib.hid (e3.alloc (by omega) (.cells #[.int .u8 b0.toNat, .int .u8 b1.toNat, .int .u8 b2.toNat, .int .u8 b3.toNat, .int .u8 b4.toNat, .int .u8 b5.toNat] 70))
  have HRX := Lib.hid RX
  clear RX e3
  go_wp2_with fail
  refine Calls.mono HD.out ?_
  rintro e w4 ⟨hb4, V, N, K, rfl, hV, hN, hh⟩
  obtain ⟨_, rfl, hv, hn⟩ := hh.resolve_right (fun h => h.1 ⟨HG.out.1, HG.out.2.1, HG.out.2.2.1⟩)
  have V' : V = i.toNat := by rw [hv]; exact HG.out.2.2.2.1
  have N' : N = x.toNat := by rw [hn]; exact HG.out.2.2.2.2
  subst V' N'
  have hs4 := hb4.size
  rw [World.size_alloc] at hs4
  have E4 := Lib.hid ((E3.out.trans (hb4.mono (by simp; omega))).alloc (by omega) (.cells #[.int .i64 i.toNat, .int .u32 x.toNat] 69))
  have RX4 : Row (w4.alloc (.cells #[.int .i64 i.toNat, .int .u32 x.toNat] 69)) w3.heap.size [b0, b1, b2, b3, b4, b5] := ((hb4.alloc hb4.size _).block _ (by simp)).trans HRX.out
  have HRD := Lib.hid (FrD.read w3.heap.size 0 6 b0 b1 b2 b3 b4 b5 _ (by omega) (RX4.rd (by simp [maxLen])))
  clear hv hn hb4 RX4 HD
  go_wp2_with fail
  refine Calls.mono HRD.out ?_
  rintro e w5 ⟨hb5, V2, N2, K2, rfl, hV2, hN2, hh⟩
  obtain ⟨_, hk2, rfl, rfl⟩ := hh.resolve_left (fun h => absurd (HG.out.1.symm.trans h.1.1) (by decide))
  have hs5 := hb5.size
  rw [World.size_alloc] at hs5
  have E5 := Lib.hid (E4.out.trans (hb5.mono (by simp; omega)))
  have hD1 := hb5.block w4.heap.size (by simp)
  rw [heap_alloc_new] at hD1
  obtain ⟨m0, m1, _⟩ := twoCells hD1
  obtain ⟨c0, c1⟩ := HA.out w5 E5.out
  clear hb5 hD1 HRD
  have kne : ((K2 : Int) == 0) = false := by rcases hk2 with rfl | rfl <;> rfl
  clear hk2
  go_wp2_with fail
  refine Calls.mono (response i hi s _) ?_
  rintro e w6 ⟨y0, y1, y2, y3, y4, y5, hf, rfl, hb6⟩
  have hs6 := hb6.size
  have e6 := E5.out.trans (hb6.mono (by omega))
  have HY := Lib.hid (frm_good 0 i s (by decide) hi y0 y1 y2 y3 y4 y5 hf)
  clear hb6 c0 c1 m0 m1 hf
  unfold six
  have RY : Row (w6.alloc (.cells #[.int .u8 y0.toNat, .int .u8 y1.toNat, .int .u8 y2.toNat, .int .u8 y3.toNat, .int .u8 y4.toNat, .int .u8 y5.toNat] 70)) w6.heap.size [y0, y1, y2, y3, y4, y5] := heap_alloc_new _ _
  have HRD := Lib.hid (FrD.read w6.heap.size 0 6 y0 y1 y2 y3 y4 y5 _ (by omega) (RY.rd (by simp [maxLen])))
  have E6 := Lib.hid (e6.alloc (by omega) (.cells #[.int .u8 y0.toNat, .int .u8 y1.toNat, .int .u8 y2.toNat, .int .u8 y3.toNat, .int .u8 y4.toNat, .int .u8 y5.toNat] 70))
  have HRY := Lib.hid RY
  clear RY e6
  go_wp2_with fail
  refine Calls.mono HRD.out ?_
  rintro e w7 ⟨hb7, V, N, K, rfl, hV, hN, hh⟩
  obtain ⟨_, rfl, hv, hn⟩ := hh.resolve_right (fun h => h.1 ⟨HY.out.1, HY.out.2.1, HY.out.2.2.1⟩)
  have V' : V = i.toNat := by rw [hv]; exact HY.out.2.2.2.1
  have N' : N = s.toNat := by rw [hn]; exact HY.out.2.2.2.2
  subst V' N'
  have hs7 := hb7.size
  rw [World.size_alloc] at hs7
  have E7 := Lib.hid (E6.out.trans (hb7.mono (by simp; omega)))
  have RY7 : Row w7 w6.heap.size [y0, y1, y2, y3, y4, y5] := (hb7.block _ (by simp)).trans HRY.out
  have HD := Lib.hid (FrD.decode w6.heap.size 0 6 y0 y1 y2 y3 y4 y5 w7 (by omega) RY7.lt (RY7.rd (by simp [maxLen])))
  clear hv hn hb7 RY7 HRD
  go_wp2_with fail
  refine Calls.mono HD.out ?_
  rintro e w8 ⟨hb8, V3, N3, K3, rfl, hV3, hN3, hh⟩
  obtain ⟨_, hk3, rfl, rfl⟩ := hh.resolve_left (fun h => absurd (HY.out.1.symm.trans h.1.1) (by decide))
  have hs8 := hb8.size
  have E8 := Lib.hid ((E7.out.trans (hb8.mono (by omega))).alloc (by omega) (.cells #[.int .i64 0, .int .u32 0] 69))
  obtain ⟨c0, c1⟩ := HA.out _ E8.out
  have kne3 : ((K3 : Int) == 0) = false := by rcases hk3 with rfl | rfl <;> rfl
  clear hk3 hb8 HD
  have HLO := Lib.hid (long (w.heap.size + 1) l 16 (w8.alloc (.cells #[.int .i64 0, .int .u32 0] 69)) HL.out (by simp; omega) (Rd.of_cells (HAL.out _ E8.out) (by rw [HL.out]; simp [maxLen]) (fun j hj => by simp [vals, hj])))
  go_wp2_with fail
  refine Calls.mono HLO.out ?_
  rintro e w9 ⟨rfl, hb9⟩
  have hs9 := hb9.size
  rw [World.size_alloc] at hs9
  have e9 := E8.out.trans (hb9.mono (by simp; omega))
  have E9 := Lib.hid (e9.alloc (by omega) (.cells #[.int .u8 0, .int .u8 0, .int .u8 0, .int .u8 0, .int .u8 0, .int .u8 0, .int .u8 0, .int .u8 0, .int .u8 0, .int .u8 0, .int .u8 0, .int .u8 0, .int .u8 0, .int .u8 0, .int .u8 0, .int .u8 0, .int .u8 0] 91))
  have HZ := Lib.hid (heap_alloc_new w9 (.cells #[.int .u8 0, .int .u8 0, .int .u8 0, .int .u8 0, .int .u8 0, .int .u8 0, .int .u8 0, .int .u8 0, .int .u8 0, .int .u8 0, .int .u8 0, .int .u8 0, .int .u8 0, .int .u8 0, .int .u8 0, .int .u8 0, .int .u8 0] 91))
  have HB9 := Lib.hid (Below.refl w9.heap.size (w9.alloc (.cells #[.int .u8 0, .int .u8 0, .int .u8 0, .int .u8 0, .int .u8 0, .int .u8 0, .int .u8 0, .int .u8 0, .int .u8 0, .int .u8 0, .int .u8 0, .int .u8 0, .int .u8 0, .int .u8 0, .int .u8 0, .int .u8 0, .int .u8 0] 91)))
  clear hb9 e9 HLO c0 c1
  go_wp2_with (first
    | (refine storeRow rfl (.tmp 22) (.tmp 106) rfl w9.heap.size rfl #[.int .u8 0, .int .u8 0, .int .u8 0, .int .u8 0, .int .u8 0, .int .u8 0, .int .u8 0, .int .u8 0, .int .u8 0, .int .u8 0, .int .u8 0, .int .u8 0, .int .u8 0, .int .u8 0, .int .u8 0, .int .u8 0, .int .u8 0] (vals (longOf l)).toArray rfl 91 HZ.out (by simp [vals, longOf, HL.out]) rfl (vals_all _) w9.heap.size (w9.alloc (.cells #[.int .u8 0, .int .u8 0, .int .u8 0, .int .u8 0, .int .u8 0, .int .u8 0, .int .u8 0, .int .u8 0, .int .u8 0, .int .u8 0, .int .u8 0, .int .u8 0, .int .u8 0, .int .u8 0, .int .u8 0, .int .u8 0, .int .u8 0] 91)) HB9.out (Nat.le_refl _) ?_
       intro w10 hg10 hb10))
  have hs10 := hb10.size
  rw [World.size_alloc] at hs10
  have e10 := E9.out.trans (hb10.mono (by omega))
  have HRL := Lib.hid (readLong w9.heap.size l w10 HL.out (by omega) (Rd.of_cells hg10 (by simp [longOf, HL.out, maxLen]) (fun j hj => by simp [vals, hj])))
  clear hg10 hb10
  refine Calls.mono HRL.out ?_
  rintro e w11 ⟨g5, c5, rfl, hge, hr5, hb11⟩
  have e11 := e10.trans (hb11.mono (by omega))
  have hrow := HAL.out w11 e11
  have HW := Lib.hid (HAW.out w11 e11)
  obtain ⟨y, hy⟩ : ∃ y, y = l.getD 15 0 := ⟨_, rfl⟩
  obtain ⟨Q, hQ⟩ : ∃ Q, Q = y &&& 254#8 := ⟨_, rfl⟩
  have hn := andNot1 y
  rw [← hQ] at hn
  have c15 : w11.cell? ⟨w.heap.size + 1, 15, none⟩ = some (.int .u8 y.toNat) := by
    rw [cell_of_row w11 _ 15 _ 94 _ hrow, hy]; simp [vals, HL.out]
  have z15 : w11.frozen? ⟨w.heap.size + 1, 15, none⟩ = false := by simp [World.frozen?, hrow]
  have hbk : l.set 15 Q = backOf l := by rw [hQ, hy]; rfl
  obtain ⟨W, hW⟩ : ∃ W, W = w11.setCell ⟨w.heap.size + 1, 15, none⟩ (.int .u8 Q.toNat) := ⟨_, rfl⟩
  have hrowW : W.heap[w.heap.size + 1]? = some (.cells (vals (backOf l)).toArray 94 (0, 0)) := by
    rw [hW, ← hbk]
    simp [World.setCell, Array.getElem?_modify, hrow, vals, List.map_set]
  have hlb : (backOf l).length = 16 := by simp [backOf, HL.out]
  have hrW : Rd W (some ⟨g5, 0, none⟩) (backOf l) := ⟨hr5.1, fun j hj => ⟨g5, 0, rfl, by
    rw [hW, World.cell?_of_block (w := w11) (Below.heap_setCell _ _ _ _ (by simp; omega))]
    exact Rd.at hr5 j hj⟩⟩
  have k1 := fun j => conv (W.drewN j) (some ⟨g5, 0, none⟩) (backOf l) 16 c5 hlb hrW
  have k2 := fun j => conv (W.drewN j) (some ⟨w.heap.size + 1, 0, none⟩) (backOf l) 16 16 hlb (Rd.of_cells (w := W) hrowW (by rw [hlb]; simp [maxLen]) (fun j hj => by simp [vals, hj]))
  obtain ⟨S, hS⟩ : ∃ S, S = strB (backOf l) := ⟨_, rfl⟩
  rw [← hS] at k1 k2
  have HWW := Lib.hid hW
  have HBE := Lib.hid (HW.out.setCell (p := ⟨w.heap.size + 1, 15, none⟩) (by simp) (.int .u8 Q.toNat))
  rw [← hW] at HBE
  clear hrow hrowW hlb hrW hbk hW hy hQ hr5 hb11 e10 e11 HRL hS
  go_wp2_with fail
  rw [← HWW.out]
  go_quiet (fail)
  go_wp2
  go_ret
  exact ⟨rfl, Below.drewN' HBE.out _⟩
end Go.Proofs.Ytafcjcpflkelcaa.FrBackW
