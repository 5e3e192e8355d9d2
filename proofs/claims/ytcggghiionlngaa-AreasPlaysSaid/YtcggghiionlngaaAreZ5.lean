/- The document's table: sizes, places, what lies at a place. -/
import Derived.Test.YtcggghiionlngaaAreZ4
namespace Go.Proofs.Ytcggghiionlngaa.AreZ5
open Go.ChangeShapes Go.WideShapes Go.ChangeAt Go.RowKit
open Mem GeoM GeoC GeoD GeoE GeoF AreA AreB AreC AreD AreF AreG AreH AreI AreJ AreK AreL AreN AreR AreZ1 AreZ2 AreZ3 AreZ4
set_option linter.unusedVariables false
set_option maxHeartbeats 4000000

theorem szA_nat {c : Cfg} {a : Stt} (k : Nat) (h : k < 8) : szA c a (k : Int) = (sz c a).getD k 0 := by unfold szA; rw [if_pos (by omega)]; rfl
set_option maxRecDepth 100000 in
theorem size33 (g : Nat) (c : Cfg) (l a : Stt) (hG : Gd c a) (x : Int) (w : World) (h : Rt w g c l a) : Calls Try.prog 33 #[.pointer (some ⟨g, 0, none⟩), .int .i64 x] w fun e w' => e = .returned (.int .i64 (szA c a x)) ∧ Below w.heap.size w w' := by
  by_cases h1 : x < 0
  · rw [show szA c a x = 0 from if_neg (by omega)]
    clear h
    go_enter Try.func33, Try.ntmps33
    go_wp2
    go_ret
    exact ⟨rfl, Below.refl _ _⟩
  · by_cases h2 : 7 < x
    · rw [show szA c a x = 0 from if_neg (by omega)]
      clear h
      go_enter Try.func33, Try.ntmps33
      go_wp2
      go_ret
      exact ⟨rfl, Below.refl _ _⟩
    · obtain ⟨k, rfl⟩ : ∃ k : Nat, x = (k : Int) := ⟨x.toNat, by omega⟩
      have hk : k < 8 := by omega
      rw [szA_nat k hk]
      have HX := idx8 c a k hk
      have HZ := Lib.hid (fun w => by have := sizesR c a hG w; unfold cv at this; exact this)
      have HS : Hid (∀ w', Below w.heap.size w w' → (loadVar 23 ⟨g, 0, none⟩).run Try.prog w' = .ok (.agg (cc c)) w' ∧ (loadVar 24 ⟨g, 15, none⟩).run Try.prog w' = .ok (.agg (zs a)) w') := Lib.hid fun w' hb => by
        have hR := h.below hb h.lt
        refine ⟨run_loadVar_mid w' g 0 23 (cc c).toList _ hR.cfg Try.underlying23 rfl i23, run_loadVar_mid w' g 15 24 (zs a).toList _ (fun j v hv => hR.act j v ?_) Try.underlying24 rfl i24⟩
        have hj := (List.getElem?_eq_some_iff.1 hv).1
        match j, hj with
        | 0, _ => exact hv
        | 1, _ => exact hv
        | 2, _ => exact hv
        | 3, _ => exact hv
      have D0 : Hid (Below w.heap.size w w.drew) := Lib.hid (Below.refl _ _).drew
      have hk1 : ¬ (k : Int) < 0 := by omega
      have hk2 : ¬ 7 < (k : Int) := by omega
      have hk3 : (k : Int) < 8 := by omega
      clear h hG h1 h2
      go_enter Try.func33, Try.ntmps33
      go_wp2_with fail
      refine wp_region_held_drew (S := fun w' => (loadVar 23 ⟨g, 0, none⟩).run Try.prog w' = .ok (.agg (cc c)) w' ∧ (loadVar 24 ⟨g, 15, none⟩).run Try.prog w' = .ok (.agg (zs a)) w') (by kernel_rfl) (HS.out _ D0.out) (fun hS => ?_)
      try simp only [List.size_toArray, List.length_cons, List.length_nil, Nat.reduceAdd]
      refine wpAnyH_take (i := 0) (v := ?_) (by simp only [List.getElem?_toArray, List.getElem?_cons_succ, List.getElem?_cons_zero]; rfl) (by kernel_rfl) (by kernel_rfl) (by kernel_rfl) (by exact fun _ _ _ h => h) (Or.inl ⟨by rfl, ?_⟩) hS ?_
      rotate_left
      · intro w hSw
        go_simp
        try with_reducible rfl
      try simp only [Act.put, List.setIfInBounds_toArray, List.set_cons_zero, List.set_cons_succ]
      refine wpAnyH_take (i := 1) (v := ?_) (by simp only [List.getElem?_toArray, List.getElem?_cons_succ, List.getElem?_cons_zero]; rfl) (by kernel_rfl) (by kernel_rfl) (by kernel_rfl) (by exact fun _ _ _ h => h) (Or.inl ⟨by rfl, ?_⟩) hS ?_
      rotate_left
      · intro w hSw
        go_simp
        try with_reducible rfl
      try simp only [Act.put, List.setIfInBounds_toArray, List.set_cons_zero, List.set_cons_succ]
      refine wpAnyH_take (i := 2) (v := ?_) (by simp only [List.getElem?_toArray, List.getElem?_cons_succ, List.getElem?_cons_zero]; rfl) (by kernel_rfl) (by kernel_rfl) (by kernel_rfl) (by exact fun _ _ _ h => h) (Or.inl ⟨by rfl, ?_⟩) hS ?_
      rotate_left
      · intro w hSw
        go_simp
        try with_reducible rfl
      try simp only [Act.put, List.setIfInBounds_toArray, List.set_cons_zero, List.set_cons_succ]
      refine wpAnyH_take (i := 3) (v := .agg (cc c)) (by simp only [List.getElem?_toArray, List.getElem?_cons_succ, List.getElem?_cons_zero]; rfl) (by kernel_rfl) (by kernel_rfl) (by kernel_rfl) (by exact fun _ _ _ h => h) (Or.inl ⟨by rfl, ?_⟩) hS ?_
      · intro wq hSw
        exact exec_load 23 (.tmp 13) rfl ⟨g, 0, none⟩ rfl _ wq hSw.1
      try simp only [Act.put, List.setIfInBounds_toArray, List.set_cons_zero, List.set_cons_succ]
      refine wpAnyH_take (i := 4) (v := ?_) (by simp only [List.getElem?_toArray, List.getElem?_cons_succ, List.getElem?_cons_zero]; rfl) (by kernel_rfl) (by kernel_rfl) (by kernel_rfl) (by exact fun _ _ _ h => h) (Or.inl ⟨by rfl, ?_⟩) hS ?_
      rotate_left
      · intro w hSw
        go_simp
        try with_reducible rfl
      try simp only [Act.put, List.setIfInBounds_toArray, List.set_cons_zero, List.set_cons_succ]
      refine wpAnyH_take (i := 5) (v := ?_) (by simp only [List.getElem?_toArray, List.getElem?_cons_succ, List.getElem?_cons_zero]; rfl) (by kernel_rfl) (by kernel_rfl) (by kernel_rfl) (by exact fun _ _ _ h => h) (Or.inl ⟨by rfl, ?_⟩) hS ?_
      rotate_left
      · intro w hSw
        go_simp
        try with_reducible rfl
      try simp only [Act.put, List.setIfInBounds_toArray, List.set_cons_zero, List.set_cons_succ]
      refine wpAnyH_take (i := 6) (v := ?_) (by simp only [List.getElem?_toArray, List.getElem?_cons_succ, List.getElem?_cons_zero]; rfl) (by kernel_rfl) (by kernel_rfl) (by kernel_rfl) (by exact fun _ _ _ h => h) (Or.inl ⟨by rfl, ?_⟩) hS ?_
      rotate_left
      · intro w hSw
        go_simp
        try with_reducible rfl
      try simp only [Act.put, List.setIfInBounds_toArray, List.set_cons_zero, List.set_cons_succ]
      refine wpAnyH_take (i := 7) (v := ?_) (by simp only [List.getElem?_toArray, List.getElem?_cons_succ, List.getElem?_cons_zero]; rfl) (by kernel_rfl) (by kernel_rfl) (by kernel_rfl) (by exact fun _ _ _ h => h) (Or.inl ⟨by rfl, ?_⟩) hS ?_
      rotate_left
      · intro w hSw
        go_simp
        try with_reducible rfl
      try simp only [Act.put, List.setIfInBounds_toArray, List.set_cons_zero, List.set_cons_succ]
      refine wpAnyH_take (i := 8) (v := .agg (zs a)) (by simp only [List.getElem?_toArray, List.getElem?_cons_succ, List.getElem?_cons_zero]; rfl) (by kernel_rfl) (by kernel_rfl) (by kernel_rfl) (by exact fun _ _ _ h => h) (Or.inl ⟨by rfl, ?_⟩) hS ?_
      · intro wq hSw
        exact exec_load 24 (.tmp 18) rfl ⟨g, 15, none⟩ rfl _ wq hSw.2
      try simp only [Act.put, List.setIfInBounds_toArray, List.set_cons_zero, List.set_cons_succ]
      refine wpAnyH_take (i := 10) (v := ?_) (by simp only [List.getElem?_toArray, List.getElem?_cons_succ, List.getElem?_cons_zero]; rfl) (by kernel_rfl) (by kernel_rfl) (by kernel_rfl) (by exact fun _ _ _ h => h) (Or.inl ⟨by rfl, ?_⟩) hS ?_
      rotate_left
      · intro w hSw
        go_simp
        try with_reducible rfl
      try simp only [Act.put, List.setIfInBounds_toArray, List.set_cons_zero, List.set_cons_succ]
      refine wpAnyH_ready (rs := [9]) (by kernel_rfl) (by simp) ?_
      refine AllReadyH.cons (by simp only [List.getElem?_toArray, List.getElem?_cons_succ, List.getElem?_cons_zero]; rfl) (fun K hK => ?_) AllReadyH.nil
      go_simp
      go_at_call 45
      refine (HZ.out _).mono ?_
      rintro e w2 ⟨rfl, b2⟩
      have D2 : Hid (Below w.heap.size w w2) := Lib.hid (D0.out.trans (b2.mono D0.out.size))
      clear b2
      refine hK.out _ _ (HS.out _ D2.out) (fun hS => ?_)
      clear hK K
      try simp only [Act.put, List.setIfInBounds_toArray, List.set_cons_zero, List.set_cons_succ]
      refine wpAnyH_take (i := 11) (v := ?_) (by simp only [List.getElem?_toArray, List.getElem?_cons_succ, List.getElem?_cons_zero]; rfl) (by kernel_rfl) (by kernel_rfl) (by kernel_rfl) (by exact fun _ _ _ h => h) (Or.inl ⟨by rfl, ?_⟩) hS ?_
      rotate_left
      · intro w hSw
        go_simp
        try with_reducible rfl
      try simp only [Act.put, List.setIfInBounds_toArray, List.set_cons_zero, List.set_cons_succ]
      refine wpAnyH_take (i := 12) (v := ?_) (by simp only [List.getElem?_toArray, List.getElem?_cons_succ, List.getElem?_cons_zero]; rfl) (by kernel_rfl) (by kernel_rfl) (by kernel_rfl) (by exact fun _ _ _ h => h) (Or.inl ⟨by rfl, ?_⟩) hS ?_
      rotate_left
      · intro w hSw
        go_simp
        try with_reducible rfl
      try simp only [Act.put, List.setIfInBounds_toArray, List.set_cons_zero, List.set_cons_succ]
      refine wpAnyH_done (by kernel_rfl) ?_ _
      go_wp2
      go_ret
      exact ⟨by first | rfl | simp, D2.out⟩

def rowC : Array Value := #[.int .i64 0, .int .i64 4, .int .i64 5, .int .i64 6, .int .i64 7, .int .i64 1, .int .i64 2, .int .i64 3]
theorem rowC_at (k : Nat) (h : k < 8) : rowC[k]? = some (.int .i64 (ordN k : Int)) := by
  have H : ∀ k : Fin 8, rowC[k.val]? = some (.int .i64 (ordN k.val : Int)) := by
    intro k
    match k with
    | 0 | 1 | 2 | 3 | 4 | 5 | 6 | 7 => rfl
  exact H ⟨k, h⟩
theorem rowsW (w : World) : Calls Try.prog 46 #[] w fun e w' => e = .returned (.slice (some ⟨w.heap.size, 0, none⟩) 8 8) ∧ Mem.Blk w' w.heap.size 3 rowC ∧ Below w.heap.size w w' := by
  go_enter Try.func46, Try.ntmps46
  go_wp2
  go_ret
  exact ⟨rfl, Mem.Blk.new w 3 rowC, (Below.refl _ _).alloc (Nat.le_refl _) _⟩

set_option maxRecDepth 100000 in
theorem place31 (g : Nat) (c : Cfg) (l a : Stt) (hG : Gd c a) (x y : Int) (w : World) (h : Rt w g c l a) : Calls Try.prog 31 #[.pointer (some ⟨g, 0, none⟩), .int .i64 x, .int .i64 y] w fun e w' => e = .returned (plR c a x y) ∧ Below w.heap.size w w' := by
  have HZ := Lib.hid (fun x w h => size33 g c l a hG x w h)
  have hsb := szA_bd hG x
  have hps := @szA_pos c a x
  have e1 : Hid (0 ≤ y ∧ y < szA c a x → plR c a x y = .tuple #[.int .i64 (fs c a x.toNat + y), .bool true]) := Lib.hid fun h => if_pos h
  have e0 : Hid (¬ (0 ≤ y ∧ y < szA c a x) → plR c a x y = .tuple #[.int .i64 0, .bool false]) := Lib.hid fun h => if_neg h
  generalize plR c a x y = R at e1 e0 ⊢
  obtain ⟨S, hS⟩ : ∃ S, S = szA c a x := ⟨_, rfl⟩
  rw [← hS] at hsb hps e1 e0
  by_cases h1 : y < 0
  · replace e0 := Lib.hid (e0.out (by omega))
    clear h hS hps hsb
    go_enter Try.func31, Try.ntmps31
    go_wp2
    go_returns
    exact ⟨by rw [e0.out]; rfl, Below.refl _ _⟩
  · have hzx := HZ.out x w h
    rw [← hS] at hzx
    replace hzx := Lib.hid hzx
    by_cases h2 : S ≤ y
    · replace e0 := Lib.hid (e0.out (by omega))
      clear h hS hps hsb
      go_enter Try.func31, Try.ntmps31
      go_wp2_with fail
      refine hzx.out.mono ?_
      rintro e w1 ⟨rfl, b1⟩
      go_wp2
      go_returns
      exact ⟨by rw [e0.out]; rfl, b1⟩
    · replace e1 := Lib.hid (e1.out (by omega))
      have hx := hps (by omega)
      obtain ⟨j, rfl⟩ : ∃ j : Nat, x = (j : Int) := ⟨x.toNat, by omega⟩
      have hj8 : j < 8 := by omega
      rw [Int.toNat_natCast] at e1
      have hil := inv_lt j
      obtain ⟨I, hI⟩ : ∃ I, I = inv j := ⟨_, rfl⟩
      have hoi : Hid (ordN I = j) := Lib.hid (by rw [hI]; exact ord_inv j hj8)
      have hfs : Hid (fs c a j = nx c a I) := Lib.hid (by rw [hI]; rfl)
      rw [← hI] at hil
      have hne : Hid (∀ k, k < I → (ordN k : Int) ≠ (j : Int)) := Lib.hid fun k hk hh => by
        have h2 : ordN k = j := by omega
        have h3 := inv_ord k (by omega)
        rw [h2, ← hI] at h3
        omega
      have HNX := Lib.hid (fun k => nx_le c a hG.bd k)
      have HB := Lib.hid (fun k => hG.bd k)
      have HNS : Hid (∀ k, nx c a (k + 1) = nx c a k + (sz c a).getD (ordN k) 0) := Lib.hid fun _ => rfl
      have HSA : Hid (∀ k, szA c a (ordN k : Int) = (sz c a).getD (ordN k) 0) := Lib.hid fun k => szA_nat _ (ordN_lt k)
      have HRT : Hid (∀ w', Below w.heap.size w w' → Rt w' g c l a) := Lib.hid fun w' hb => h.below hb h.lt
      rw [hfs.out] at e1
      replace hI := Lib.hid hI
      replace hS := Lib.hid hS
      clear h hps hx hG
      go_enter Try.func31, Try.ntmps31
      go_wp2_with fail
      refine hzx.out.mono ?_
      rintro e w1 ⟨rfl, b1⟩
      replace b1 := Lib.hid b1
      go_wp2_with fail
      refine (rowsW _).mono ?_
      rintro e w2 ⟨rfl, hR, b2⟩
      have b2' := Lib.hid (b1.out.trans (b2.mono b1.out.size))
      have HRC : Hid (∀ wr, Below w2.heap.size w2 wr → ∀ k, k < 8 → wr.cell? ⟨w1.heap.size, k, none⟩ = some (.int .i64 (ordN k : Int))) := Lib.hid fun wr hb k hk => ((hR.below hb hR.lt).cell k).trans (rowC_at k hk)
      clear b2 hR
      go_wp2_with fail
      go_loopw [8, 10] (fun v i wr => ∃ k : Nat, k ≤ I ∧ i = .int .i64 (k : Int) ∧ v = .int .i64 (nx c a k) ∧ Below w2.heap.size w2 wr) (fun _ i _ => I - (intOf i).toNat)
      case atStart => exact ⟨0, by omega, rfl, rfl, Below.refl _ _⟩
      case round =>
        obtain ⟨k, hk, rfl, rfl, hb⟩ := hrel
        have hb0 := Lib.hid (b2'.out.trans (hb.mono b2'.out.size))
        replace hb := Lib.hid hb
        have hc := HRC.out wr hb.out k (by omega)
        have hk8 : (k : Int) < 8 := by omega
        have hnl := HNX.out k
        by_cases hlt : k < I
        · have hno := hne.out k hlt
          have hno' : ((ordN k : Int) != (j : Int)) = true := by rw [bne_iff_ne]; exact hno
          have hns := HNS.out k
          have hbk := HB.out (ordN k)
          have hsa := HSA.out k
          obtain ⟨O, hO⟩ : ∃ O : Int, O = (ordN k : Int) := ⟨_, rfl⟩
          obtain ⟨V, hV⟩ : ∃ V, V = (sz c a).getD (ordN k) 0 := ⟨_, rfl⟩
          obtain ⟨N, hN⟩ : ∃ N, N = nx c a k := ⟨_, rfl⟩
          rw [← hV] at hns hbk hsa
          rw [← hN] at hns hnl ⊢
          rw [← hO] at hc hno hno' hsa
          have hws : IntKind.i64.wrap (N + V) = N + V := by rw [IntKind.wrap_i64]; omega
          replace hns := Lib.hid hns
          replace hV := Lib.hid hV
          replace hN := Lib.hid hN
          replace hO := Lib.hid hO
          go_wp2_with fail
          refine (HZ.out _ _ (HRT.out _ hb0.out)).mono ?_
          rintro e w3 ⟨rfl, b3⟩
          rw [hsa]
          have hb3 := Lib.hid (hb.out.trans (b3.mono hb.out.size))
          clear b3 hc
          go_wp2_with fail
          go_roundw
          case rel => exact ⟨k + 1, by omega, by go_num, by rw [hns.out], hb3.out⟩
          case measure => simp [intOf]; omega
        · obtain rfl : k = I := by omega
          have hoi' := hoi.out
          rw [hoi'] at hc
          have hbne : ((j : Int) != (j : Int)) = false := by simp
          obtain ⟨N, hN⟩ : ∃ N, N = nx c a k := ⟨_, rfl⟩
          rw [← hN] at hnl ⊢
          rw [← hN] at e1
          have hwy : IntKind.i64.wrap (N + y) = N + y := by rw [IntKind.wrap_i64]; omega
          replace hN := Lib.hid hN
          replace hoi' := Lib.hid hoi'
          go_wp2
          go_returns
          exact ⟨by rw [e1.out]; rfl, hb0.out⟩

/-- Areas are apart. -/
theorem In_one {c : Cfg} {a : Stt} (H : ∀ j, 0 ≤ (sz c a).getD j 0) (p : Int) (i j : Nat) (hi : i < 8) (hj : j < 8) (h1 : In c a i p) (h2 : In c a j p) : i = j := by
  obtain ⟨a1, a2⟩ := (In_iff i hi p).1 h1
  obtain ⟨b1, b2⟩ := (In_iff j hj p).1 h2
  have key : ∀ m n, m < n → nx c a m ≤ p → p < nx c a (m + 1) → nx c a n ≤ p → False := fun m n hmn h3 h4 h5 => by
    have := nx_mono H (n - (m + 1)) (m + 1)
    rw [show m + 1 + (n - (m + 1)) = n by omega] at this
    omega
  have e : inv i = inv j := by
    rcases Nat.lt_trichotomy (inv i) (inv j) with h | h | h
    · exact (key _ _ h a1 a2 b1).elim
    · exact h
    · exact (key _ _ h b1 b2 a1).elim
  rw [← ord_inv i hi, ← ord_inv j hj, e]
theorem OfR_one {c : Cfg} {a : Stt} (H : ∀ j, 0 ≤ (sz c a).getD j 0) (p : Int) (v1 v2 : Value) (h1 : OfR c a p v1) (h2 : OfR c a p v2) : v1 = v2 := by
  rcases h1 with ⟨i, hi, a1, _, rfl⟩ | ⟨a1, rfl⟩ <;> rcases h2 with ⟨j, hj, b1, _, rfl⟩ | ⟨b1, rfl⟩
  · rw [In_one H p i j hi hj a1 b1]
  · exact absurd a1 (b1 i hi)
  · exact absurd b1 (a1 j hj)
  · rfl
theorem In_ord {c : Cfg} {a : Stt} (k : Nat) (hk : k < 8) (p : Int) (h1 : nx c a k ≤ p) (h2 : p < nx c a (k + 1)) : In c a (ordN k) p := by
  rw [In_iff _ (ordN_lt k), inv_ord k hk]
  exact ⟨h1, h2⟩

set_option maxRecDepth 100000 in
theorem of32 (g : Nat) (c : Cfg) (l a : Stt) (hG : Gd c a) (H : ∀ j, 0 ≤ (sz c a).getD j 0) (p : Int) (hpI : p ≤ 9223372036854775807) (w : World) (h : Rt w g c l a) : Calls Try.prog 32 #[.pointer (some ⟨g, 0, none⟩), .int .i64 p] w fun e w' => ∃ v, e = .returned v ∧ OfR c a p v ∧ Below w.heap.size w w' := by
  have HZ := Lib.hid (fun x w h => size33 g c l a hG x w h)
  have HNX := Lib.hid (fun k => nx_le c a hG.bd k)
  have HNM : Hid (∀ k, 0 ≤ nx c a k) := Lib.hid fun k => by have := nx_mono H k 0; rw [Nat.zero_add, nx_zero] at this; exact this
  have HNS : Hid (∀ k, nx c a (k + 1) = nx c a k + (sz c a).getD (ordN k) 0) := Lib.hid fun _ => rfl
  have HSA : Hid (∀ k, szA c a (ordN k : Int) = (sz c a).getD (ordN k) 0) := Lib.hid fun k => szA_nat _ (ordN_lt k)
  have HB := Lib.hid (fun k => hG.bd k)
  have HRT : Hid (∀ w', Below w.heap.size w w' → Rt w' g c l a) := Lib.hid fun w' hb => h.below hb h.lt
  have HIN : Hid (∀ k, k < 8 → nx c a k ≤ p → p < nx c a (k + 1) → OfR c a p (.tuple #[.int .i64 (ordN k : Int), .int .i64 (p - nx c a k), .bool true])) := Lib.hid fun k hk h1 h2 => by
    have hi := In_ord k hk p h1 h2
    refine .inl ⟨ordN k, ordN_lt k, hi, fun j hj hjn => ?_, ?_⟩
    · have := In_one H p _ _ (by have := ordN_lt k; omega) (ordN_lt k) hjn hi
      omega
    · unfold fs; rw [inv_ord k hk]
  have HNO : Hid ((p < 0 ∨ nx c a 8 ≤ p) → OfR c a p (.tuple #[.int .i64 0, .int .i64 0, .bool false])) := Lib.hid fun hp => .inr ⟨fun j hj hi => by
    have := In_bd H j hj p hi
    rw [nx_all] at hp
    omega, rfl⟩
  clear h hG
  go_enter Try.func32, Try.ntmps32
  go_wp2_with fail
  refine (rowsW _).mono ?_
  rintro e w2 ⟨rfl, hR, b2⟩
  have b2' := Lib.hid b2
  have HRC : Hid (∀ wr, Below w2.heap.size w2 wr → ∀ k, k < 8 → wr.cell? ⟨w.heap.size, k, none⟩ = some (.int .i64 (ordN k : Int))) := Lib.hid fun wr hb k hk => ((hR.below hb hR.lt).cell k).trans (rowC_at k hk)
  clear b2 hR H
  by_cases hp0 : p < 0
  · have hO := Lib.hid (HNO.out (.inl hp0))
    have hp0' : ¬ 0 ≤ p := by omega
    go_wp2_with fail
    go_loopw [1, 8] (fun pl i wr => i = .int .i64 0 ∧ pl = .int .i64 p ∧ wr = w2) (fun _ _ _ => 0)
    case atStart => exact ⟨rfl, rfl, rfl⟩
    case round =>
      obtain ⟨rfl, rfl, rfl⟩ := hrel
      go_wp2
      go_returns
      exact ⟨_, rfl, hO.out, b2'.out⟩
  · go_wp2_with fail
    go_loopw [1, 8] (fun pl i wr => ∃ (k : Nat) (y : Int), k ≤ 8 ∧ i = .int .i64 (k : Int) ∧ pl = .int .i64 y ∧ y = p - nx c a k ∧ 0 ≤ y ∧ Below w2.heap.size w2 wr) (fun _ i _ => 8 - (intOf i).toNat)
    case atStart => exact ⟨0, p, by omega, rfl, rfl, by rw [nx_zero]; omega, by omega, Below.refl _ _⟩
    case round =>
      obtain ⟨k, y, hk, rfl, rfl, hy, hy0, hb⟩ := hrel
      have hb0 := Lib.hid (b2'.out.trans (hb.mono b2'.out.size))
      replace hb := Lib.hid hb
      have hnl := HNX.out k
      have hnm := HNM.out k
      by_cases hlt : k < 8
      · have hlt' : (k : Int) < 8 := by omega
        have hc := HRC.out wr hb.out k hlt
        have hns := HNS.out k
        have hbk := HB.out (ordN k)
        have hsa := HSA.out k
        obtain ⟨O, hO⟩ : ∃ O : Int, O = (ordN k : Int) := ⟨_, rfl⟩
        obtain ⟨V, hV⟩ : ∃ V, V = (sz c a).getD (ordN k) 0 := ⟨_, rfl⟩
        rw [← hV] at hns hbk hsa
        rw [← hO] at hc hsa
        replace hV := Lib.hid hV
        by_cases hin : y < V
        · have hres := HIN.out k hlt (by omega) (by omega)
          rw [← hO, ← hy] at hres
          replace hres := Lib.hid hres
          replace hO := Lib.hid hO
          replace hy := Lib.hid hy
          replace hns := Lib.hid hns
          go_wp2_with fail
          refine (HZ.out _ _ (HRT.out _ hb0.out)).mono ?_
          rintro e w3 ⟨rfl, b3⟩
          rw [hsa]
          have hb3 := Lib.hid (hb0.out.trans (b3.mono hb0.out.size))
          have hbw := Lib.hid (hb.out.trans (b3.mono hb.out.size))
          have hc3 := HRC.out w3 hbw.out k hlt
          have hO3 := hO.out
          rw [← hO3] at hc3
          replace hO3 := Lib.hid hO3
          clear b3 hc
          go_wp2
          go_returns
          exact ⟨_, rfl, hres.out, hb3.out⟩
        · have hnm1 := HNM.out (k + 1)
          have hy2 := Lib.hid (show y - V = p - nx c a (k + 1) by omega)
          have hws : IntKind.i64.wrap (y - V) = y - V := by rw [IntKind.wrap_i64]; omega
          have hyv : 0 ≤ y - V := by omega
          replace hnm1 := Lib.hid hnm1
          replace hO := Lib.hid hO
          replace hy := Lib.hid hy
          replace hns := Lib.hid hns
          go_wp2_with fail
          refine (HZ.out _ _ (HRT.out _ hb0.out)).mono ?_
          rintro e w3 ⟨rfl, b3⟩
          rw [hsa]
          have hb3 := Lib.hid (hb0.out.trans (b3.mono hb0.out.size))
          have hbw := Lib.hid (hb.out.trans (b3.mono hb.out.size))
          have hc3 := HRC.out w3 hbw.out k hlt
          have hO3 := hO.out
          rw [← hO3] at hc3
          replace hO3 := Lib.hid hO3
          clear b3 hc
          go_wp2_with fail
          refine (HZ.out _ _ (HRT.out _ hb3.out)).mono ?_
          rintro e w4 ⟨rfl, b4⟩
          rw [hsa]
          have hb4 := Lib.hid (hbw.out.trans (b4.mono hbw.out.size))
          clear b4 hc3
          go_wp2_with fail
          go_roundw
          case rel => exact ⟨k + 1, y - V, by omega, by go_num, rfl, hy2.out, hyv, hb4.out⟩
          case measure => simp [intOf]; omega
      · obtain rfl : k = 8 := by omega
        have hO := Lib.hid (HNO.out (.inr (by omega)))
        have hlt' : ¬ ((8 : Nat) : Int) < 8 := by omega
        replace hy := Lib.hid hy
        go_wp2
        go_returns
        exact ⟨_, rfl, hO.out, hb0.out⟩
end Go.Proofs.Ytcggghiionlngaa.AreZ5
