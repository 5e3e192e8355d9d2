/- The law on blocks that are waited for. -/
import Derived.Test.YtddmodiogjnhmaaPhS
namespace Go.Proofs.Ytddmodiogjnhmaa.PhW
open Go.ChangeShapes Go.WideShapes Go.ChangeAt Go.RowKit
open PhM PhA PhB PhC PhD PhE PhR PhS
set_option linter.unusedVariables false
set_option maxHeartbeats 1000000

def cmds : List Int := [1, 2, 3, 7, 25]
def MK : Nat → Mch
  | 0 => ⟨0, 0, 0⟩
  | 1 => ⟨1, 0, 0⟩
  | 2 => ⟨2, 0, 0⟩
  | 3 => ⟨3, 0, 0⟩
  | 4 => ⟨4, 0, 0⟩
  | _ => ⟨6, 0, 1⟩
theorem mk_go (k : Nat) (h : k < 5) : goM (MK k) (cmds.getD k 0) 0 = MK (k + 1) ∧ (nx (MK k).s (cmds.getD k 0) (mineP (MK k) 0)).2 = true ∧ W (MK k).s ∧ W (cmds.getD k 0) := by
  match k, h with
  | 0, _ | 1, _ | 2, _ | 3, _ | 4, _ => exact ⟨rfl, rfl, rfl, rfl⟩
/-- The machine when so many blocks have come. -/
def MW (N k : Nat) : Mch := if k < N then ⟨6, 0, (N : Int) - (k : Int)⟩ else ⟨4, 0, 0⟩
theorem mw_lt {N k : Nat} (h : k < N) (h6 : N ≤ 64) : decide ((MW N k).s = 6) = true ∧ gotM (MW N k) = MW N (k + 1) ∧ ((MW N k).s = 6 → 1 ≤ (MW N k).l ∧ (MW N k).l ≤ 64) := by
  unfold MW gotM
  simp only [h, if_true]
  refine ⟨rfl, ?_, fun _ => by omega⟩
  by_cases e : k + 1 < N
  · have e2 : ¬ ((N : Int) - (k : Int) = 1) := by omega
    simp [e, e2]
    omega
  · have e2 : (N : Int) - (k : Int) = 1 := by omega
    simp [e, e2]
theorem mw_ge {N k : Nat} (h : ¬ k < N) : decide ((MW N k).s = 6) = false ∧ gotM (MW N k) = MW N (k + 1) ∧ ((MW N k).s = 6 → 1 ≤ (MW N k).l ∧ (MW N k).l ≤ 64) := by
  have h' : ¬ k + 1 < N := by omega
  unfold MW gotM
  simp [h, h']

theorem early (a c : Int) (w : World) (h : c < 0 ∨ 200 < c) : Calls Try.prog 5 #[.int .i64 a, .int .i64 c] w fun e w' => e = .returned (.bool true) ∧ Below w.heap.size w w' := by
  rcases h with h | h
  all_goals
    go_enter Try.func5, Try.ntmps5
    go_wp2_with fail
    refine (known _).mono ?_
    rintro e' w1 ⟨rfl, B1⟩
    go_wp2
    go_ret
    exact ⟨rfl, B1⟩

set_option maxRecDepth 100000 in
theorem law (a : Int) (G : Nat) (w : World) (hG : G ≤ 200) : Calls Try.prog 5 #[.int .i64 a, .int .i64 G] w fun e w' => e = .returned (.bool true) ∧ Below w.heap.size w w' := by
  have hG' : ¬ (200 : Int) < (G : Int) := by omega
  go_enter Try.func5, Try.ntmps5
  go_wp2_with fail
  refine (known _).mono ?_
  rintro e' w1 ⟨rfl, B1⟩
  replace B1 := Lib.hid B1
  go_wp2_with fail
  refine (newW _).mono ?_
  rintro e' w2 ⟨g, b, rfl, K2, hg, hb, b2⟩
  have B2 := Lib.hid (B1.out.trans (b2.mono B1.out.size))
  have hge : w.heap.size ≤ g := Nat.le_trans B1.out.size hg
  replace K2 := Lib.hid K2
  have GR : Hid (∀ w2 w3, Below w.heap.size w w2 → w2.grownBy w3 (some g) → Below w.heap.size w w3) := Lib.hid fun w2 w3 hB hG => hB.grown hG hB.size (fun j e => by cases e; exact hge)
  clear b2 hg hb
  go_wp2_with fail
  refine (recvW g b _ 5 _ K2.out).mono ?_
  rintro e' w3 ⟨⟨v3, rfl⟩, K3, G3⟩
  rw [show recvM ⟨0, 0, 0⟩ 5 = ⟨0, 0, 0⟩ from rfl] at K3
  replace K3 := Lib.hid K3
  have B3 := Lib.hid (GR.out _ _ B2.out G3)
  clear G3 K2 B2
  go_wp2_with fail
  refine (leftW g b _ _ K3.out).mono ?_
  rintro e' w4 ⟨rfl, h4⟩
  obtain rfl := h4.symm
  go_wp2_with fail
  refine (gotW g b _ _ K3.out (fun h => by cases h)).mono ?_
  rintro e' w5 ⟨rfl, K5, G5⟩
  rw [show gotM ⟨0, 0, 0⟩ = ⟨0, 0, 0⟩ from rfl] at K5
  rw [show decide ((0 : Int) = 6) = false from rfl]
  replace K5 := Lib.hid K5
  have B5 := Lib.hid (GR.out _ _ B3.out G5)
  clear G5 K3 B3
  go_wp2_with fail
  have K6 : Hid (Mach (w5.alloc (.cells (ints cmds) 3)) g b (MK 0)) := Lib.hid (K5.out.kept (World.grownBy_alloc w5 _ (some w5.heap.size)) (by have := K5.out.1.lt; omega) (by have := K5.out.2.1.lt; omega))
  have N6 : Hid (Nums (w5.alloc (.cells (ints cmds) 3)) w5.heap.size cmds) := Lib.hid (Nums.made w5 cmds)
  have B6 : Hid (Below w.heap.size w (w5.alloc (.cells (ints cmds) 3))) := Lib.hid (B5.out.alloc B5.out.size _)
  have hne : w5.heap.size ≠ g := by have := K5.out.1.lt; omega
  clear K5 B5
  generalize w5.heap.size = q at *
  go_loopw [34] (fun j wr => ∃ k : Nat, k ≤ 5 ∧ j = .int .i64 k ∧ Mach wr g b (MK k) ∧ Nums wr q cmds ∧ Below w.heap.size w wr) (fun j _ => 5 - (intOf j).toNat)
  case atStart => exact ⟨0, by omega, rfl, K6.out, N6.out, B6.out⟩
  case round =>
    clear K6 N6 B6
    obtain ⟨k, hk, rfl, hK, hN, hB⟩ := hrel
    by_cases hlt : k < 5
    · have hc := hN.cell k (by simpa [cmds] using hlt)
      obtain ⟨m1, m2, m3, m4⟩ := mk_go k hlt
      have HG := Lib.hid (goW g b (MK k) (cmds.getD k 0) 0 wr hK (by decide) (by decide) m3 m4)
      rw [m2, m1] at HG
      obtain ⟨z, hz⟩ : ∃ z, z = cmds.getD k 0 := ⟨_, rfl⟩
      rw [← hz] at hc HG
      replace hz := Lib.hid hz
      replace hN := Lib.hid hN
      replace hB := Lib.hid hB
      clear m1 m2 m3 m4 hK
      go_wp2_with fail
      refine HG.out.mono ?_
      rintro e w6 ⟨rfl, K7, G7⟩
      have N7 := Lib.hid (hN.out.grown G7 hne)
      have B7 := Lib.hid (GR.out _ _ hB.out G7)
      replace K7 := Lib.hid K7
      clear G7 HG hc hN
      go_wp2
      go_roundw
      case rel => exact ⟨k + 1, by omega, by go_num, K7.out, N7.out, B7.out⟩
      case measure => simp [intOf]; omega
    · obtain rfl : k = 5 := by omega
      clear hN hk hlt
      replace hK : Hid (Mach wr g b ⟨6, 0, 1⟩) := Lib.hid hK
      replace hB := Lib.hid hB
      go_wp2_with fail
      refine (stateW g b _ _ hK.out).mono ?_
      rintro e' w6 ⟨rfl, h6⟩
      obtain rfl := h6.symm
      go_wp2_with fail
      refine (leftW g b _ _ hK.out).mono ?_
      rintro e' w6 ⟨rfl, h6⟩
      obtain rfl := h6.symm
      go_wp2_with fail
      refine (recvW g b _ a _ hK.out).mono ?_
      rintro e' w7 ⟨⟨v7, rfl⟩, K7, G7⟩
      have B7 := Lib.hid (GR.out _ _ hB.out G7)
      clear G7 hK hB
      obtain ⟨N, hN1, hN64, hmm, hcase⟩ : ∃ N : Nat, 1 ≤ N ∧ N ≤ 64 ∧ max 1 (min a 64) = (N : Int) ∧ ((a < 1 ∧ N = 1) ∨ (64 < a ∧ N = 64) ∨ a = (N : Int)) :=
        ⟨(max 1 (min a 64)).toNat, by omega, by omega, by omega, by omega⟩
      have e0 : recvM ⟨6, 0, 1⟩ a = MW N 0 := by
        unfold recvM MW
        have : 0 < N := by omega
        simp [hmm, this]
      rw [e0] at K7
      replace K7 := Lib.hid K7
      clear hmm e0
      rcases hcase with ⟨ha, rfl⟩ | ⟨ha, rfl⟩ | rfl
      · go_wp2_with fail
        go_loopw [11] (fun i wr => ∃ k : Nat, k ≤ G ∧ i = .int .i64 k ∧ Mach wr g b (MW 1 k) ∧ Below w.heap.size w wr) (fun i _ => G - (intOf i).toNat)
        case atStart => exact ⟨0, by omega, rfl, K7.out, B7.out⟩
        case round =>
          clear K7 B7
          obtain ⟨k, hk, rfl, hK, hB⟩ := hrel
          by_cases hlt : k < G
          · have hlt' : (k : Int) < (G : Int) := by omega
            by_cases hn : k < 1
            · have hn' : (k : Int) < (1 : Int) := by omega
              obtain ⟨m1, m2, m3⟩ := mw_lt hn (by omega)
              have HG := Lib.hid (gotW g b (MW 1 k) wr hK m3)
              rw [m2, m1] at HG
              replace hB := Lib.hid hB
              clear m1 m2 m3 hK
              go_wp2_with fail
              refine HG.out.mono ?_
              rintro e w6 ⟨rfl, K8, G8⟩
              have B8 := Lib.hid (GR.out _ _ hB.out G8)
              replace K8 := Lib.hid K8
              clear G8 HG
              go_wp2
              go_roundw
              case rel => exact ⟨k + 1, by omega, by go_num, K8.out, B8.out⟩
              case measure => simp [intOf]; omega
            · have hn' : ¬ (k : Int) < (1 : Int) := by omega
              obtain ⟨m1, m2, m3⟩ := mw_ge hn
              have HG := Lib.hid (gotW g b (MW 1 k) wr hK m3)
              rw [m2, m1] at HG
              replace hB := Lib.hid hB
              clear m1 m2 m3 hK
              go_wp2_with fail
              refine HG.out.mono ?_
              rintro e w6 ⟨rfl, K8, G8⟩
              have B8 := Lib.hid (GR.out _ _ hB.out G8)
              replace K8 := Lib.hid K8
              clear G8 HG
              go_wp2
              go_roundw
              case rel => exact ⟨k + 1, by omega, by go_num, K8.out, B8.out⟩
              case measure => simp [intOf]; omega
          · obtain rfl : k = G := by omega
            by_cases hn : k < 1
            · have hn' : ¬ ((1 : Int) ≤ (k : Int)) := by omega
              have e : MW 1 k = ⟨6, 0, (1 : Int) - (k : Int)⟩ := by unfold MW; rw [if_pos hn] <;> try rfl
              rw [e] at hK
              replace hK := Lib.hid hK
              replace hB := Lib.hid hB
              clear e
              go_wp2_with fail
              refine (stateW g b _ _ hK.out).mono ?_
              rintro e' w6 ⟨rfl, h6⟩
              obtain rfl := h6.symm
              go_wp2_with fail
              refine (leftW g b _ _ hK.out).mono ?_
              rintro e' w6 ⟨rfl, h6⟩
              obtain rfl := h6.symm
              go_wp2
              go_ret
              exact ⟨rfl, hB.out⟩
            · have hn' : (1 : Int) ≤ (k : Int) := by omega
              have e : MW 1 k = ⟨4, 0, 0⟩ := by unfold MW; rw [if_neg hn]
              rw [e] at hK
              replace hK := Lib.hid hK
              replace hB := Lib.hid hB
              clear e
              go_wp2_with fail
              refine (stateW g b _ _ hK.out).mono ?_
              rintro e' w6 ⟨rfl, h6⟩
              obtain rfl := h6.symm
              go_wp2_with fail
              refine (leftW g b _ _ hK.out).mono ?_
              rintro e' w6 ⟨rfl, h6⟩
              obtain rfl := h6.symm
              go_wp2
              go_ret
              exact ⟨rfl, hB.out⟩
      · go_wp2_with fail
        go_loopw [11] (fun i wr => ∃ k : Nat, k ≤ G ∧ i = .int .i64 k ∧ Mach wr g b (MW 64 k) ∧ Below w.heap.size w wr) (fun i _ => G - (intOf i).toNat)
        case atStart => exact ⟨0, by omega, rfl, K7.out, B7.out⟩
        case round =>
          clear K7 B7
          obtain ⟨k, hk, rfl, hK, hB⟩ := hrel
          by_cases hlt : k < G
          · have hlt' : (k : Int) < (G : Int) := by omega
            by_cases hn : k < 64
            · have hn' : (k : Int) < (64 : Int) := by omega
              obtain ⟨m1, m2, m3⟩ := mw_lt hn (by omega)
              have HG := Lib.hid (gotW g b (MW 64 k) wr hK m3)
              rw [m2, m1] at HG
              replace hB := Lib.hid hB
              clear m1 m2 m3 hK
              go_wp2_with fail
              refine HG.out.mono ?_
              rintro e w6 ⟨rfl, K8, G8⟩
              have B8 := Lib.hid (GR.out _ _ hB.out G8)
              replace K8 := Lib.hid K8
              clear G8 HG
              go_wp2
              go_roundw
              case rel => exact ⟨k + 1, by omega, by go_num, K8.out, B8.out⟩
              case measure => simp [intOf]; omega
            · have hn' : ¬ (k : Int) < (64 : Int) := by omega
              obtain ⟨m1, m2, m3⟩ := mw_ge hn
              have HG := Lib.hid (gotW g b (MW 64 k) wr hK m3)
              rw [m2, m1] at HG
              replace hB := Lib.hid hB
              clear m1 m2 m3 hK
              go_wp2_with fail
              refine HG.out.mono ?_
              rintro e w6 ⟨rfl, K8, G8⟩
              have B8 := Lib.hid (GR.out _ _ hB.out G8)
              replace K8 := Lib.hid K8
              clear G8 HG
              go_wp2
              go_roundw
              case rel => exact ⟨k + 1, by omega, by go_num, K8.out, B8.out⟩
              case measure => simp [intOf]; omega
          · obtain rfl : k = G := by omega
            by_cases hn : k < 64
            · have hn' : ¬ ((64 : Int) ≤ (k : Int)) := by omega
              have e : MW 64 k = ⟨6, 0, (64 : Int) - (k : Int)⟩ := by unfold MW; rw [if_pos hn] <;> try rfl
              rw [e] at hK
              replace hK := Lib.hid hK
              replace hB := Lib.hid hB
              clear e
              go_wp2_with fail
              refine (stateW g b _ _ hK.out).mono ?_
              rintro e' w6 ⟨rfl, h6⟩
              obtain rfl := h6.symm
              go_wp2_with fail
              refine (leftW g b _ _ hK.out).mono ?_
              rintro e' w6 ⟨rfl, h6⟩
              obtain rfl := h6.symm
              go_wp2
              go_ret
              exact ⟨rfl, hB.out⟩
            · have hn' : (64 : Int) ≤ (k : Int) := by omega
              have e : MW 64 k = ⟨4, 0, 0⟩ := by unfold MW; rw [if_neg hn]
              rw [e] at hK
              replace hK := Lib.hid hK
              replace hB := Lib.hid hB
              clear e
              go_wp2_with fail
              refine (stateW g b _ _ hK.out).mono ?_
              rintro e' w6 ⟨rfl, h6⟩
              obtain rfl := h6.symm
              go_wp2_with fail
              refine (leftW g b _ _ hK.out).mono ?_
              rintro e' w6 ⟨rfl, h6⟩
              obtain rfl := h6.symm
              go_wp2
              go_ret
              exact ⟨rfl, hB.out⟩
      · go_wp2_with fail
        go_loopw [11] (fun i wr => ∃ k : Nat, k ≤ G ∧ i = .int .i64 k ∧ Mach wr g b (MW N k) ∧ Below w.heap.size w wr) (fun i _ => G - (intOf i).toNat)
        case atStart => exact ⟨0, by omega, rfl, K7.out, B7.out⟩
        case round =>
          clear K7 B7
          obtain ⟨k, hk, rfl, hK, hB⟩ := hrel
          by_cases hlt : k < G
          · have hlt' : (k : Int) < (G : Int) := by omega
            by_cases hn : k < N
            · have hn' : (k : Int) < (N : Int) := by omega
              obtain ⟨m1, m2, m3⟩ := mw_lt hn (by omega)
              have HG := Lib.hid (gotW g b (MW N k) wr hK m3)
              rw [m2, m1] at HG
              replace hB := Lib.hid hB
              clear m1 m2 m3 hK
              go_wp2_with fail
              refine HG.out.mono ?_
              rintro e w6 ⟨rfl, K8, G8⟩
              have B8 := Lib.hid (GR.out _ _ hB.out G8)
              replace K8 := Lib.hid K8
              clear G8 HG
              go_wp2
              go_roundw
              case rel => exact ⟨k + 1, by omega, by go_num, K8.out, B8.out⟩
              case measure => simp [intOf]; omega
            · have hn' : ¬ (k : Int) < (N : Int) := by omega
              obtain ⟨m1, m2, m3⟩ := mw_ge hn
              have HG := Lib.hid (gotW g b (MW N k) wr hK m3)
              rw [m2, m1] at HG
              replace hB := Lib.hid hB
              clear m1 m2 m3 hK
              go_wp2_with fail
              refine HG.out.mono ?_
              rintro e w6 ⟨rfl, K8, G8⟩
              have B8 := Lib.hid (GR.out _ _ hB.out G8)
              replace K8 := Lib.hid K8
              clear G8 HG
              go_wp2
              go_roundw
              case rel => exact ⟨k + 1, by omega, by go_num, K8.out, B8.out⟩
              case measure => simp [intOf]; omega
          · obtain rfl : k = G := by omega
            by_cases hn : k < N
            · have hn' : ¬ ((N : Int) ≤ (k : Int)) := by omega
              have e : MW N k = ⟨6, 0, (N : Int) - (k : Int)⟩ := by unfold MW; rw [if_pos hn] <;> try rfl
              rw [e] at hK
              replace hK := Lib.hid hK
              replace hB := Lib.hid hB
              clear e
              go_wp2_with fail
              refine (stateW g b _ _ hK.out).mono ?_
              rintro e' w6 ⟨rfl, h6⟩
              obtain rfl := h6.symm
              go_wp2_with fail
              refine (leftW g b _ _ hK.out).mono ?_
              rintro e' w6 ⟨rfl, h6⟩
              obtain rfl := h6.symm
              go_wp2
              go_ret
              exact ⟨rfl, hB.out⟩
            · have hn' : (N : Int) ≤ (k : Int) := by omega
              have e : MW N k = ⟨4, 0, 0⟩ := by unfold MW; rw [if_neg hn]
              rw [e] at hK
              replace hK := Lib.hid hK
              replace hB := Lib.hid hB
              clear e
              go_wp2_with fail
              refine (stateW g b _ _ hK.out).mono ?_
              rintro e' w6 ⟨rfl, h6⟩
              obtain rfl := h6.symm
              go_wp2_with fail
              refine (leftW g b _ _ hK.out).mono ?_
              rintro e' w6 ⟨rfl, h6⟩
              obtain rfl := h6.symm
              go_wp2
              go_ret
              exact ⟨rfl, hB.out⟩
theorem all (a c : Int) (w : World) : Calls Try.prog 5 #[.int .i64 a, .int .i64 c] w fun e w' => e = .returned (.bool true) ∧ Below w.heap.size w w' := by
  by_cases h : c < 0 ∨ 200 < c
  · exact early a c w h
  · obtain ⟨G, rfl⟩ := Int.eq_ofNat_of_zero_le (by omega : 0 ≤ c)
    exact law a G w (by omega)
end Go.Proofs.Ytddmodiogjnhmaa.PhW
