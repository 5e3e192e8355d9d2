/- Contracts of geom's Encode, the program's and the document's. -/
import Derived.Test.YtbnjijlpbeplmaaGeoN
namespace Go.Proofs.Ytbnjijlpbeplmaa.GeoP
open Go.ChangeShapes Go.WideShapes Go.ChangeAt Go.RowKit
open GeoM GeoC GeoD TokA TokB GeoN
set_option linter.unusedVariables false
set_option maxHeartbeats 2000000

theorem own_mono {w : World} {base base' : Nat} {v : Value} {xs : List Y8} (h : Own w base v xs) (hb : base' ≤ base) : Own w base' v xs :=
  ⟨h.1, h.2.imp id fun ⟨g, cap, cur, h1, h2, h3⟩ => ⟨g, cap, cur, h1, Nat.le_trans hb h2, h3⟩⟩
theorem b0 (v : Int) : IntKind.u8.wrap v = ((bt v).toNat : Int) := by rw [bt_int, IntKind.wrap_u8']
theorem bq (v q : Int) : (bt (v / q)).toNat = ((v / q) % 256).toNat := by have := bt_int (v / q); omega

set_option maxRecDepth 100000 in
theorem encW (c : Cfg) (w : World) : Calls Try.prog 12 #[cv c] w fun e w' => ∃ a' c', e = .returned (.slice a' 36 c') ∧ Own w' w.heap.size (.slice a' 36 c') (encTo c 9) ∧ Below w.heap.size w w' := by
  obtain ⟨w1, hw1⟩ : ∃ w1, w1 = w.alloc (.cells (cc c) 23) := ⟨_, rfl⟩
  have s1 : w1.heap.size = w.heap.size + 1 := by rw [hw1]; simp
  have e1 : Mem.Blk w1 w.heap.size 23 (cc c) := by rw [hw1]; exact Mem.Blk.new w 23 _
  have D1 : Below w.heap.size w w1 := by rw [hw1]; exact (Below.refl _ _).alloc (Nat.le_refl _) _
  obtain ⟨w2, hw2⟩ : ∃ w2, w2 = w1.alloc (.cells (madeCells #[.int .u8 0] 36) 5) := ⟨_, rfl⟩
  have hmk := run_36
  have e2 : Mem.Blk w2 w.heap.size 23 (cc c) := by rw [hw2]; exact e1.alloc _
  have o2 : Own w2 w.heap.size (.slice (some ⟨w.heap.size + 1, 0, none⟩) 0 36) [] := by rw [hw2, ← s1]; exact Own.room w1 w.heap.size 36 D1.size (by simp [maxLen])
  have D2 : Below w.heap.size w w2 := by rw [hw2]; exact D1.alloc D1.size _
  have HN := Lib.hid (fun w => numbersW c w)
  have HX := Lib.hid (fun k h w => ix108 c k h w)
  have HS := Lib.hid (fun k h => encTo_step c k h)
  have HL := Lib.hid (fun k h => encTo_length c k h)
  generalize hnv : (nums c).getD = nv at HX HS
  replace hnv := Lib.hid hnv
  have hz : encTo c 0 = [] := rfl
  generalize encTo c = en at *
  obtain ⟨b, p, s, u, o, r, g, k, x⟩ := c
  unfold cv at HN ⊢
  unfold cc at HN HX hw1 e1 e2 ⊢
  simp only at HN HX hw1 e1 e2 ⊢
  obtain ⟨k0, k1, k2, k3, k4, k5, k6, k7, k8⟩ := nine e2
  replace o2 := Lib.hid o2
  replace D2 := Lib.hid D2
  replace hz := Lib.hid hz
  clear e1 e2 D1
  go_enter Try.func12, Try.ntmps12
  go_wp2_with fail
  rw [← hw1, ← hw2]
  replace hw1 := Lib.hid hw1
  replace hw2 := Lib.hid hw2
  clear hmk
  go_wp2_with fail
  refine (HN.out _).mono ?_
  rintro e w3 ⟨rfl, b3⟩
  have o3 := Lib.hid (own_below o2.out b3)
  have D3 := Lib.hid (D2.out.trans (b3.mono D2.out.size))
  clear k0 k1 k2 k3 k4 k5 k6 k7 k8 b3
  go_wp2_with fail
  go_loopw [3, 5, 9, 10] (fun s _ i _ wr => ∃ (k : Nat) (a : Option Addr) (cp : Nat), k ≤ 9 ∧ i = .int .i64 (k : Int) ∧ s = .slice a (4 * k) cp ∧ Own wr w.heap.size (.slice a (4 * k) cp) (en k) ∧ Below w.heap.size w wr) (fun _ _ i _ _ => 9 - (intOf i).toNat)
  case atStart => exact ⟨0, _, _, by omega, rfl, rfl, by rw [hz.out]; exact o3.out, D3.out⟩
  case round =>
    obtain ⟨k, a, cp, hk, rfl, rfl, ho, hb⟩ := hrel
    replace ho := Lib.hid ho
    by_cases hlt : k < 9
    · have hx := HX.out k hlt
      have hst := Lib.hid (HS.out k hlt)
      have hln := Lib.hid (HL.out (k + 1) (by omega))
      generalize nv k 0 = v at hx hst
      have hlt' : (k : Int) < 9 := by omega
      go_wp2_with (first
        | (at_builtin
           refine wpList_app rfl (.tmp 12) (.tmp 24) rfl w.heap.size (.slice a (4 * k) cp) (en k) rfl (ho.out.alloc _) _ (four v) 4 _ rfl rfl (rd4 wr _ _ _ _ _ _ _ _ _ rfl (by rw [bt_int]) (by rw [bt_int]) (by rw [bt_int]) (by rw [bt_int])) (en (k + 1)) (4 * (k + 1)) hst.out hln.out (by omega) (by have := hb.size; simp; omega) ?_
           intro a1 c1 w4 hv1 hr1 hg1 hn1
           clear hr1 hn1
           have hb2 := (hb.alloc hb.size _).grown hg1 (by have := hb.size; simp; omega) (ho.out.blocks · · |>.1)
           have HV1 := Lib.hid hv1
           clear hv1 hg1))
      go_roundw
      case rel => exact ⟨k + 1, a1, c1, by omega, by go_num, rfl, HV1.out, hb2⟩
      case measure => simp [intOf]; omega
    · obtain rfl : k = 9 := by omega
      go_wp2
      go_ret
      exact ⟨a, cp, rfl, ho.out, hb⟩

theorem bR (v : Int) : IntKind.u8.wrap (v % 4294967296) = ((bt v).toNat : Int) := by rw [bt_int, IntKind.wrap_u8']; omega

set_option maxRecDepth 100000 in
theorem encR (c : Cfg) (w : World) : Calls Try.prog 15 #[cv c] w fun e w' => ∃ a' c', e = .returned (.slice a' 36 c') ∧ Own w' w.heap.size (.slice a' 36 c') (encTo c 9) ∧ Below w.heap.size w w' := by
  obtain ⟨w1, hw1⟩ : ∃ w1, w1 = w.alloc (.cells (cc c) 23) := ⟨_, rfl⟩
  have s1 : w1.heap.size = w.heap.size + 1 := by rw [hw1]; simp
  have e1 : Mem.Blk w1 w.heap.size 23 (cc c) := by rw [hw1]; exact Mem.Blk.new w 23 _
  have D1 : Below w.heap.size w w1 := by rw [hw1]; exact (Below.refl _ _).alloc (Nat.le_refl _) _
  have HN := Lib.hid (fun w => numbersR c w)
  have HX := Lib.hid (fun k h => cell9 c k h)
  have HS := Lib.hid (fun k h => encTo_step c k h)
  have HL := Lib.hid (fun k h => encTo_length c k h)
  have hz : encTo c 0 = [] := rfl
  generalize encTo c = en at *
  generalize nums c = nv at HX HS
  obtain ⟨NC, hNC⟩ : ∃ NC, NC = cc c := ⟨_, rfl⟩
  rw [← hNC] at HX
  have HN' : Hid (∀ w, Calls Try.prog 67 #[cv c] w fun e w' => e = .returned (.slice (some ⟨w.heap.size + 1, 0, none⟩) 9 9) ∧ Mem.Blk w' (w.heap.size + 1) 3 NC ∧ Below w.heap.size w w') := by rw [hNC]; exact HN
  clear HN hNC
  obtain ⟨b, p, s, u, o, r, g, k, x⟩ := c
  unfold cv at HN' ⊢
  unfold cc at HN' hw1 e1 ⊢
  simp only at HN' hw1 e1 ⊢
  obtain ⟨k0, k1, k2, k3, k4, k5, k6, k7, k8⟩ := nine e1
  replace D1 := Lib.hid D1
  replace hz := Lib.hid hz
  clear e1
  go_enter Try.func15, Try.ntmps15
  go_wp2_with fail
  rw [← hw1]
  replace hw1 := Lib.hid hw1
  go_wp2_with fail
  refine (HN'.out _).mono ?_
  rintro e w3 ⟨rfl, hN, b3⟩
  have D3 := Lib.hid (D1.out.trans (b3.mono D1.out.size))
  have HC : Hid (∀ wr, Below w3.heap.size w3 wr → ∀ k, k < 9 → wr.cell? ⟨w.heap.size + 1 + 1, k, none⟩ = some (.int .i64 (nv.getD k 0))) := Lib.hid fun wr hb k hk => by
    rw [← s1]
    have h := Mem.Blk.below hN hb hN.lt
    rw [h.cell k, HX.out k hk]
  clear k0 k1 k2 k3 k4 k5 k6 k7 k8 b3 hN
  have hs3 : w.heap.size ≤ w3.heap.size := D3.out.size
  go_wp2_with fail
  go_loopw [3, 5, 6, 12] (fun s i _ _ wr => ∃ (k : Nat) (a : Option Addr) (cp : Nat), k ≤ 9 ∧ i = .int .i64 (k : Int) ∧ s = .slice a (4 * k) cp ∧ Own wr w3.heap.size (.slice a (4 * k) cp) (en k) ∧ Below w3.heap.size w3 wr) (fun _ i _ _ _ => 9 - (intOf i).toNat)
  case atStart => exact ⟨0, none, 0, by omega, rfl, rfl, by rw [hz.out]; exact Own.nil _ _, Below.refl _ _⟩
  case round =>
    obtain ⟨k, a, cp, hk, rfl, rfl, ho, hb⟩ := hrel
    replace ho := Lib.hid ho
    by_cases hlt : k < 9
    · have hx := HC.out wr hb k hlt
      have hst := Lib.hid (HS.out k hlt)
      have hln := Lib.hid (HL.out (k + 1) (by omega))
      generalize nv.getD k 0 = v at hx hst
      have hlt' : (k : Int) < 9 := by omega
      go_wp2_with (first
        | (at_builtin
           refine wpList_app rfl (.tmp 20) (.tmp 32) rfl w3.heap.size (.slice a (4 * k) cp) (en k) rfl (ho.out.alloc _) _ (four v) 4 _ rfl rfl (rd4 wr _ _ _ _ _ _ _ _ _ rfl (by rw [bt_int] <;> omega) (by rw [bt_int] <;> omega) (by rw [bt_int] <;> omega) (by rw [bt_int] <;> omega)) (en (k + 1)) (4 * (k + 1)) hst.out hln.out (by omega) (by have := hb.size; simp; omega) ?_
           intro a1 c1 w4 hv1 hr1 hg1 hn1
           clear hr1 hn1
           have hb2 := (hb.alloc hb.size _).grown hg1 (by have := hb.size; simp; omega) (ho.out.blocks · · |>.1)
           have HV1 := Lib.hid hv1
           clear hv1 hg1))
      go_roundw
      case rel => exact ⟨k + 1, a1, c1, by omega, by go_num, rfl, HV1.out, hb2⟩
      case measure => simp [intOf]; omega
    · obtain rfl : k = 9 := by omega
      go_wp2
      go_ret
      exact ⟨a, cp, rfl, own_mono ho.out hs3, D3.out.trans (hb.mono hs3)⟩
end Go.Proofs.Ytbnjijlpbeplmaa.GeoP
