/- Areas: set, power-up, what was set, what is in force. -/
import Derived.Test.YtcggghiionlngaaAreL
namespace Go.Proofs.Ytcggghiionlngaa.AreN
open Go.ChangeShapes Go.WideShapes Go.ChangeAt Go.RowKit
open Mem GeoM GeoC GeoD GeoE GeoF AreA AreB AreC AreD AreF AreG AreH AreI AreJ AreK AreL
set_option linter.unusedVariables false
set_option maxHeartbeats 2000000

theorem activeT (g : Nat) (c : Cfg) (l a : Stt) (w : World) (h : Tt w g c l a) : Calls Try.prog 26 #[.pointer (some ⟨g, 0, none⟩)] w fun e w' => e = .returned (.bool a.d) ∧ w' = w := by
  have c20 := h.done
  clear h
  go_enter Try.func26, Try.ntmps26
  go_wp2
  go_ret
  exact ⟨rfl, rfl⟩
theorem settingT (g : Nat) (c : Cfg) (l a : Stt) (w : World) (h : Tt w g c l a) : Calls Try.prog 25 #[.pointer (some ⟨g, 0, none⟩)] w fun e w' => e = .returned (sv l) ∧ Below w.heap.size w w' := by
  have e1 : Hid (Blk (w.alloc (.cells #[.int .i64 0, .int .i64 0, .int .i64 0, .int .i64 0, .int .u8 0, .bool false] 26)) w.heap.size 26 #[.int .i64 0, .int .i64 0, .int .i64 0, .int .i64 0, .int .u8 0, .bool false]) := Lib.hid (Mem.Blk.new w 26 _)
  have B1 := (Below.refl w.heap.size w).alloc (Nat.le_refl _) (.cells #[.int .i64 0, .int .i64 0, .int .i64 0, .int .i64 0, .int .u8 0, .bool false] 26)
  have r1 := Lib.hid (range_below h.last B1 h.lt)
  replace B1 := Lib.hid B1
  clear h
  go_enter Try.func25, Try.ntmps25
  go_wp2_with (first
    | ((with_reducible show wpList _ _ _ (Oper.mk _ (Op.load 26 (.tmp 5)) _ _ _ _ :: _) _ _); refine Mem.loadMid 26 (.tmp 5) rfl g 9 rfl (sc l) r1.out _ Try.underlying26 rfl i26 rfl ?_)
    | ((with_reducible show wpList _ _ _ (Oper.mk _ (Op.store 26 (.tmp 2) (.tmp 6)) _ _ _ _ :: _) _ _); refine Mem.storeBlk 26 (.tmp 2) (.tmp 6) rfl w.heap.size rfl _ (sc l) rfl 26 e1.out i26 rfl (by simp [sc]; exact ⟨rfl, rfl, rfl, rfl, rfl, rfl⟩) w.heap.size w B1.out (Nat.le_refl _) rfl ?_; intro w2 hB2 hb2))
  refine bodyPost_ret (results_cell_row Try.results25 _ _ w.heap.size 26 _ (0, 0) _ rfl hB2 Try.underlying26 rfl i26) rfl ⟨rfl, hb2⟩

def setE (c : Cfg) (l s : Stt) : Int := if l.d = true then 22 else if mayV c s = true then 0 else 1
def setL (c : Cfg) (l s : Stt) : Stt := if l.d = true then l else if mayV c s = true then s else l
theorem gb_block {w wz w' : World} {g B : Nat} (hz : Below B w wz) (hB : w.heap.size ≤ B) (h : wz.grownBy w' (some g)) : w.grownBy w' (some g) :=
  gb_trans ⟨hz.os, hz.tape, hz.output, hz.size, fun q hq _ => hz.block q (Nat.lt_of_lt_of_le hq hB)⟩ h

theorem gb_sets (w : World) (g o : Nat) (vs : List Value) : w.grownBy (w.setCells g o vs) (some g) := by
  have b := below_setCells (B := 0) (Nat.zero_le g) vs o w (Below.refl 0 w)
  exact ⟨b.os, b.tape, b.output, b.size, fun q hq hne => heap_setCells g q (fun e => hne (by rw [e])) vs o w⟩
set_option maxRecDepth 100000 in
theorem setW (g : Nat) (c : Cfg) (l a s : Stt) (w : World) (h : Ob w g c l a) : Calls Try.prog 11 #[.pointer (some ⟨g, 0, none⟩), sv s] w fun e w' => e = .returned (.int .i64 (setE c l s)) ∧ Ob w' g c (setL c l s) a ∧ w.grownBy w' (some g) := by
  obtain ⟨wz, hwz⟩ : ∃ wz, wz = w.alloc (.cells (sc s) 26) := ⟨_, rfl⟩
  have Dz : Below w.heap.size w wz := by rw [hwz]; exact (Below.refl _ _).alloc (Nat.le_refl _) _
  have ez : Mem.Blk wz w.heap.size 26 (sc s) := by rw [hwz]; exact Mem.Blk.new w 26 _
  have hz : Ob wz g c l a := h.below Dz h.tt.lt
  have cl : wz.cell? ⟨g, 14, none⟩ = some (.bool l.d) := hz.tt.lastDone
  have cl2 : (w.alloc (.cells (sc s) 26)).cell? ⟨g, 14, none⟩ = some (.bool l.d) := by rw [← hwz]; exact cl
  have HM := Lib.hid (fun w => mayBeW c s w)
  have E1 : l.d = true → setE c l s = 22 ∧ setL c l s = l := fun h => ⟨if_pos h, if_pos h⟩
  have E2 : ¬ l.d = true → mayV c s = true → setE c l s = 0 ∧ setL c l s = s := fun h h2 => ⟨by unfold setE; rw [if_neg h, if_pos h2], by unfold setL; rw [if_neg h, if_pos h2]⟩
  have E3 : ¬ l.d = true → ¬ mayV c s = true → setE c l s = 1 ∧ setL c l s = l := fun h h2 => ⟨by unfold setE; rw [if_neg h, if_neg h2], by unfold setL; rw [if_neg h, if_neg h2]⟩
  generalize setE c l s = SE at E1 E2 E3 ⊢
  generalize setL c l s = SL at E1 E2 E3 ⊢
  generalize mayV c s = M at HM E2 E3
  generalize hld : l.d = ld at cl cl2 E1 E2 E3
  have HZ : Hid (∀ w', Below wz.heap.size wz w' → Ob w' g c l a) := Lib.hid fun w' hb => hz.below hb hz.tt.lt
  have HS : Hid (∀ w', Below wz.heap.size wz w' → (loadVar 23 ⟨g, 0, none⟩).run Try.prog w' = .ok (.agg (cc c)) w' ∧ (loadVar 26 ⟨w.heap.size, 0, none⟩).run Try.prog w' = .ok (.agg (sc s)) w') := Lib.hid fun w' hb =>
    ⟨run_loadVar_mid w' g 0 23 (cc c).toList _ (HZ.out w' hb).tt.cfg Try.underlying23 rfl i23, run_loadVar_mid w' w.heap.size 0 26 (sc s).toList _ (ez.below hb ez.lt).range Try.underlying26 rfl i26⟩
  have EZ : Hid (∀ w', Below wz.heap.size wz w' → w'.rangeAt w.heap.size 0 (sc s).toList) := Lib.hid fun w' hb => (ez.below hb ez.lt).range
  replace Dz := Lib.hid Dz
  have GB : Hid (∀ w', Below wz.heap.size wz w' → w.grownBy w' (some g)) := Lib.hid fun w' hb => gb_block Dz.out (Nat.le_refl _) (gb_below (B := 0) hb)
  clear h ez hz
  show Calls Try.prog 11 #[.pointer (some ⟨g, 0, none⟩), .agg (sc s)] w _
  cases ld with
  | true =>
    obtain ⟨e1, e2⟩ := E1 rfl
    rw [e1, e2]
    clear E1 E2 E3 e1 e2
    go_enter Try.func11, Try.ntmps11
    go_wp2_with fail
    rw [← hwz]
    replace hwz := Lib.hid hwz
    go_ret
    exact ⟨rfl, HZ.out _ (Below.refl _ _), GB.out _ (Below.refl _ _)⟩
  | false =>
    have D0 : Hid (Below wz.heap.size wz wz.drew) := Lib.hid (Below.refl _ _).drew
    cases M with
    | false =>
      obtain ⟨e1, e2⟩ := E3 (by decide) (by decide)
      rw [e1, e2]
      clear E1 E2 E3 e1 e2
      go_enter Try.func11, Try.ntmps11
      go_wp2_with fail
      rw [← hwz]
      replace hwz := Lib.hid hwz
      refine wp_region_held_drew (S := fun w' => (loadVar 23 ⟨g, 0, none⟩).run Try.prog w' = .ok (.agg (cc c)) w' ∧ (loadVar 26 ⟨w.heap.size, 0, none⟩).run Try.prog w' = .ok (.agg (sc s)) w') (by kernel_rfl) (HS.out _ D0.out) (fun hS => ?_)
      try simp only [List.size_toArray, List.length_cons, List.length_nil, Nat.reduceAdd]
      refine wpAnyH_take (i := 0) (v := ?_) (by simp only [List.getElem?_toArray, List.getElem?_cons_succ, List.getElem?_cons_zero]; rfl) (by kernel_rfl) (by kernel_rfl) (by kernel_rfl) (by exact fun _ _ _ h => h) (Or.inl ⟨by rfl, ?_⟩) hS ?_
      rotate_left
      · intro w hSw
        go_simp
        try with_reducible rfl
      try simp only [Act.put, List.setIfInBounds_toArray, List.set_cons_zero, List.set_cons_succ]
      refine wpAnyH_take (i := 1) (v := ?_) (by simp only [List.getElem?_toArray, List.getElem?_cons_succ, List.getElem?_cons_zero]; rfl) (by kernel_rfl) (by kernel_rfl) (by kernel_rfl) (by exact fun _ _ _ h => h) (Or.inl ⟨by rfl, ?_⟩) hS ?_
      rotate_left
      · intro w hSw
        go_simp
        try with_reducible rfl
      try simp only [Act.put, List.setIfInBounds_toArray, List.set_cons_zero, List.set_cons_succ]
      refine wpAnyH_take (i := 2) (v := ?_) (by simp only [List.getElem?_toArray, List.getElem?_cons_succ, List.getElem?_cons_zero]; rfl) (by kernel_rfl) (by kernel_rfl) (by kernel_rfl) (by exact fun _ _ _ h => h) (Or.inl ⟨by rfl, ?_⟩) hS ?_
      rotate_left
      · intro w hSw
        go_simp
        try with_reducible rfl
      try simp only [Act.put, List.setIfInBounds_toArray, List.set_cons_zero, List.set_cons_succ]
      refine wpAnyH_take (i := 3) (v := .agg (cc c)) (by simp only [List.getElem?_toArray, List.getElem?_cons_succ, List.getElem?_cons_zero]; rfl) (by kernel_rfl) (by kernel_rfl) (by kernel_rfl) (by exact fun _ _ _ h => h) (Or.inl ⟨by rfl, ?_⟩) hS ?_
      · intro wq hSw
        exact exec_load 23 (.tmp 12) rfl ⟨g, 0, none⟩ rfl _ wq hSw.1
      try simp only [Act.put, List.setIfInBounds_toArray, List.set_cons_zero, List.set_cons_succ]
      refine wpAnyH_take (i := 4) (v := .agg (sc s)) (by simp only [List.getElem?_toArray, List.getElem?_cons_succ, List.getElem?_cons_zero]; rfl) (by kernel_rfl) (by kernel_rfl) (by kernel_rfl) (by exact fun _ _ _ h => h) (Or.inl ⟨by rfl, ?_⟩) hS ?_
      · intro wq hSw
        exact exec_load 26 (.tmp 3) rfl ⟨w.heap.size, 0, none⟩ rfl _ wq hSw.2
      try simp only [Act.put, List.setIfInBounds_toArray, List.set_cons_zero, List.set_cons_succ]
      refine wpAnyH_ready (rs := [5]) (by kernel_rfl) (by simp) ?_
      refine AllReadyH.cons (by simp only [List.getElem?_toArray, List.getElem?_cons_succ, List.getElem?_cons_zero]; rfl) (fun K hK => ?_) AllReadyH.nil
      go_simp
      go_at_call 29
      refine (HM.out _).mono ?_
      rintro e w1 ⟨rfl, b1⟩
      have D1 : Hid (Below wz.heap.size wz w1) := Lib.hid (D0.out.trans (b1.mono D0.out.size))
      clear b1
      refine hK.out _ _ (HS.out _ D1.out) (fun hS => ?_)
      clear hK K
      try simp only [Act.put, List.setIfInBounds_toArray, List.set_cons_zero, List.set_cons_succ]
      refine wpAnyH_take (i := 6) (v := ?_) (by simp only [List.getElem?_toArray, List.getElem?_cons_succ, List.getElem?_cons_zero]; rfl) (by kernel_rfl) (by kernel_rfl) (by kernel_rfl) (by exact fun _ _ _ h => h) (Or.inl ⟨by rfl, ?_⟩) hS ?_
      rotate_left
      · intro w hSw
        go_simp
        try with_reducible rfl
      try simp only [Act.put, List.setIfInBounds_toArray, List.set_cons_zero, List.set_cons_succ]
      refine wpAnyH_done (by kernel_rfl) ?_ _
      go_wp2
      go_ret
      exact ⟨rfl, HZ.out _ D1.out, GB.out _ D1.out⟩
    | true =>
      obtain ⟨e1, e2⟩ := E2 (by decide) rfl
      rw [e1, e2]
      clear E1 E2 E3 e1 e2
      go_enter Try.func11, Try.ntmps11
      go_wp2_with fail
      rw [← hwz]
      replace hwz := Lib.hid hwz
      refine wp_region_held_drew (S := fun w' => (loadVar 23 ⟨g, 0, none⟩).run Try.prog w' = .ok (.agg (cc c)) w' ∧ (loadVar 26 ⟨w.heap.size, 0, none⟩).run Try.prog w' = .ok (.agg (sc s)) w') (by kernel_rfl) (HS.out _ D0.out) (fun hS => ?_)
      try simp only [List.size_toArray, List.length_cons, List.length_nil, Nat.reduceAdd]
      refine wpAnyH_take (i := 0) (v := ?_) (by simp only [List.getElem?_toArray, List.getElem?_cons_succ, List.getElem?_cons_zero]; rfl) (by kernel_rfl) (by kernel_rfl) (by kernel_rfl) (by exact fun _ _ _ h => h) (Or.inl ⟨by rfl, ?_⟩) hS ?_
      rotate_left
      · intro w hSw
        go_simp
        try with_reducible rfl
      try simp only [Act.put, List.setIfInBounds_toArray, List.set_cons_zero, List.set_cons_succ]
      refine wpAnyH_take (i := 1) (v := ?_) (by simp only [List.getElem?_toArray, List.getElem?_cons_succ, List.getElem?_cons_zero]; rfl) (by kernel_rfl) (by kernel_rfl) (by kernel_rfl) (by exact fun _ _ _ h => h) (Or.inl ⟨by rfl, ?_⟩) hS ?_
      rotate_left
      · intro w hSw
        go_simp
        try with_reducible rfl
      try simp only [Act.put, List.setIfInBounds_toArray, List.set_cons_zero, List.set_cons_succ]
      refine wpAnyH_take (i := 2) (v := ?_) (by simp only [List.getElem?_toArray, List.getElem?_cons_succ, List.getElem?_cons_zero]; rfl) (by kernel_rfl) (by kernel_rfl) (by kernel_rfl) (by exact fun _ _ _ h => h) (Or.inl ⟨by rfl, ?_⟩) hS ?_
      rotate_left
      · intro w hSw
        go_simp
        try with_reducible rfl
      try simp only [Act.put, List.setIfInBounds_toArray, List.set_cons_zero, List.set_cons_succ]
      refine wpAnyH_take (i := 3) (v := .agg (cc c)) (by simp only [List.getElem?_toArray, List.getElem?_cons_succ, List.getElem?_cons_zero]; rfl) (by kernel_rfl) (by kernel_rfl) (by kernel_rfl) (by exact fun _ _ _ h => h) (Or.inl ⟨by rfl, ?_⟩) hS ?_
      · intro wq hSw
        exact exec_load 23 (.tmp 12) rfl ⟨g, 0, none⟩ rfl _ wq hSw.1
      try simp only [Act.put, List.setIfInBounds_toArray, List.set_cons_zero, List.set_cons_succ]
      refine wpAnyH_take (i := 4) (v := .agg (sc s)) (by simp only [List.getElem?_toArray, List.getElem?_cons_succ, List.getElem?_cons_zero]; rfl) (by kernel_rfl) (by kernel_rfl) (by kernel_rfl) (by exact fun _ _ _ h => h) (Or.inl ⟨by rfl, ?_⟩) hS ?_
      · intro wq hSw
        exact exec_load 26 (.tmp 3) rfl ⟨w.heap.size, 0, none⟩ rfl _ wq hSw.2
      try simp only [Act.put, List.setIfInBounds_toArray, List.set_cons_zero, List.set_cons_succ]
      refine wpAnyH_ready (rs := [5]) (by kernel_rfl) (by simp) ?_
      refine AllReadyH.cons (by simp only [List.getElem?_toArray, List.getElem?_cons_succ, List.getElem?_cons_zero]; rfl) (fun K hK => ?_) AllReadyH.nil
      go_simp
      go_at_call 29
      refine (HM.out _).mono ?_
      rintro e w1 ⟨rfl, b1⟩
      have D1 : Hid (Below wz.heap.size wz w1) := Lib.hid (D0.out.trans (b1.mono D0.out.size))
      clear b1
      refine hK.out _ _ (HS.out _ D1.out) (fun hS => ?_)
      clear hK K
      try simp only [Act.put, List.setIfInBounds_toArray, List.set_cons_zero, List.set_cons_succ]
      refine wpAnyH_take (i := 6) (v := ?_) (by simp only [List.getElem?_toArray, List.getElem?_cons_succ, List.getElem?_cons_zero]; rfl) (by kernel_rfl) (by kernel_rfl) (by kernel_rfl) (by exact fun _ _ _ h => h) (Or.inl ⟨by rfl, ?_⟩) hS ?_
      rotate_left
      · intro w hSw
        go_simp
        try with_reducible rfl
      try simp only [Act.put, List.setIfInBounds_toArray, List.set_cons_zero, List.set_cons_succ]
      refine wpAnyH_done (by kernel_rfl) ?_ _
      have r2 := Lib.hid (EZ.out w1 D1.out)
      go_wp2_with (first
        | ((with_reducible show wpList _ _ _ (Oper.mk _ (Op.load 26 (.tmp 3)) _ _ _ _ :: _) _ _); refine Mem.loadMid 26 (.tmp 3) rfl w.heap.size 0 rfl (sc s) r2.out _ Try.underlying26 rfl i26 rfl ?_)
        | ((with_reducible show wpList _ _ _ (Oper.mk _ (Op.store 26 (.tmp 20) (.tmp 18)) _ _ _ _ :: _) _ _); refine wpList_store_mid rfl 26 (.tmp 20) (.tmp 18) rfl g 9 (sc s) rfl rfl ((HZ.out _ D1.out).tt.sub 9 6 (by omega)) i26 (one_sc s) ?_; have O3 := Lib.hid (ob_setLast (HZ.out _ D1.out) s); have G3 := Lib.hid (gb_sets w1 g 9 (sc s).toList); have G2 := Lib.hid (gb_trans (GB.out _ D1.out) G3.out)))
      go_ret
      exact ⟨rfl, O3.out, G2.out⟩

set_option maxRecDepth 100000 in
theorem powerW (g : Nat) (c : Cfg) (l a : Stt) (w : World) (h : Ob w g c l a) : Calls Try.prog 14 #[.pointer (some ⟨g, 0, none⟩)] w fun e w' => Below w.heap.size w w' ∧ ∃ g', w.heap.size ≤ g' ∧ e = .returned (.pointer (some ⟨g', 0, none⟩)) ∧ Nb w' g' c (force l) (force l) := by
  have F1 : l.d = true → force l = l := fun h => if_pos h
  have F2 : ¬ l.d = true → force l = zeroS := fun h => if_neg h
  generalize force l = F at F1 F2 ⊢
  have cl : w.cell? ⟨g, 14, none⟩ = some (.bool l.d) := h.tt.lastDone
  have HL : Hid (w.rangeAt g 0 (cc c).toList) := Lib.hid h.tt.cfg
  have AL : Hid (∀ w', Below w.heap.size w w' → (loadVar 26 ⟨g, 9, none⟩).run Try.prog w' = .ok (.agg (sc l)) w') := Lib.hid fun w' hb => run_loadVar_mid w' g 9 26 (sc l).toList _ (h.tt.below hb h.tt.lt).last Try.underlying26 rfl i26
  have cl' : Hid (∀ w', Below w.heap.size w w' → w'.cell? ⟨g, 14, none⟩ = some (.bool l.d)) := Lib.hid fun w' hb => (h.tt.below hb h.tt.lt).lastDone
  have NB : Hid (∀ w', Blk w' w.heap.size 78 ((cc c).toList ++ ((sc zeroS).toList ++ ((sc zeroS).toList ++ z19))).toArray → Nb w' w.heap.size c zeroS zeroS) := Lib.hid fun w' h => newNb w' w.heap.size c zeroS zeroS ⟨rfl, h⟩
  have hgl := h.tt.lt
  clear h
  obtain ⟨b, p, q, u, o, r, g', k, x⟩ := c
  obtain ⟨w1, hw1⟩ : ∃ w1, w1 = w.alloc (.cells #[.int .i64 b, .int .i64 p, .int .i64 q, .int .i64 u, .int .i64 o, .int .i64 r, .int .i64 g', .int .i64 k, .int .i64 x, .int .i64 0, .int .i64 0, .int .i64 0, .int .i64 0, .int .u8 0, .bool false, .int .i64 0, .int .i64 0, .int .i64 0, .int .i64 0, .int .u8 0, .bool false, .int .u32 0, .int .i32 0, .int .u32 0, .int .i64 0, .int .i64 0, .int .i64 0, .int .i64 0, .int .i64 0, .int .i64 0, .int .i64 0, .int .i64 0, .int .i64 0, .int .i64 0, .int .i64 0, .int .i64 0, .int .i64 0, .int .i64 0, .int .i64 0, .int .i64 0] 78) := ⟨_, rfl⟩
  have N : Nb w1 w.heap.size ⟨b, p, q, u, o, r, g', k, x⟩ zeroS zeroS := by rw [hw1]; exact NB.out _ (Mem.Blk.new w 78 _)
  have D : Below w.heap.size w w1 := by rw [hw1]; exact (Below.refl _ _).alloc (Nat.le_refl _) _
  have hc1 := cl'.out w1 D
  have N0 : Hid (Nb w1.drew w.heap.size ⟨b, p, q, u, o, r, g', k, x⟩ zeroS zeroS) := Lib.hid ⟨N.tt.drew, N.o1, N.o2⟩
  have D0 : Hid (Below w.heap.size w w1.drew) := Lib.hid D.drew
  replace N := Lib.hid N
  replace D := Lib.hid D
  cases hld : l.d with
  | false =>
    rw [F2 (by rw [hld]; decide)]
    clear F1 F2
    rw [hld] at hc1 cl
    go_enter Try.func14, Try.ntmps14
    go_wp2_with ((with_reducible show wpList _ _ _ (Oper.mk _ (Op.load 23 (.tmp 6)) _ _ _ _ :: _) _ _); refine Mem.loadMid 23 (.tmp 6) rfl g 0 rfl #[.int .i64 b, .int .i64 p, .int .i64 q, .int .i64 u, .int .i64 o, .int .i64 r, .int .i64 g', .int .i64 k, .int .i64 x] HL.out _ Try.underlying23 rfl i23 rfl ?_)
    go_ret
    rw [← hw1]
    exact ⟨D.out, _, Nat.le_refl _, rfl, N.out⟩
  | true =>
    rw [F1 hld]
    clear F1 F2
    rw [hld] at hc1 cl
    go_enter Try.func14, Try.ntmps14
    go_wp2_with ((with_reducible show wpList _ _ _ (Oper.mk _ (Op.load 23 (.tmp 6)) _ _ _ _ :: _) _ _); refine Mem.loadMid 23 (.tmp 6) rfl g 0 rfl #[.int .i64 b, .int .i64 p, .int .i64 q, .int .i64 u, .int .i64 o, .int .i64 r, .int .i64 g', .int .i64 k, .int .i64 x] HL.out _ Try.underlying23 rfl i23 rfl ?_)
    rw [← hw1]
    replace hw1 := Lib.hid hw1
    generalize Value.agg #[.int .i64 b, .int .i64 p, .int .i64 q, .int .i64 u, .int .i64 o, .int .i64 r, .int .i64 g', .int .i64 k, .int .i64 x, .int .i64 0, .int .i64 0, .int .i64 0, .int .i64 0, .int .u8 0, .bool false, .int .i64 0, .int .i64 0, .int .i64 0, .int .i64 0, .int .u8 0, .bool false, .int .u32 0, .int .i32 0, .int .u32 0, .int .i64 0, .int .i64 0, .int .i64 0, .int .i64 0, .int .i64 0, .int .i64 0, .int .i64 0, .int .i64 0, .int .i64 0, .int .i64 0, .int .i64 0, .int .i64 0, .int .i64 0, .int .i64 0, .int .i64 0, .int .i64 0] = V8
    generalize Value.agg #[.int .i64 b, .int .i64 p, .int .i64 q, .int .i64 u, .int .i64 o, .int .i64 r, .int .i64 g', .int .i64 k, .int .i64 x] = V7
    go_wp2_with fail
    refine wp_region_held_drew (S := fun w' => (loadVar 26 ⟨g, 9, none⟩).run Try.prog w' = .ok (.agg (sc l)) w') (by kernel_rfl) (AL.out _ D0.out) (fun hS => ?_)
    try simp only [List.size_toArray, List.length_cons, List.length_nil, Nat.reduceAdd]
    refine wpAnyH_take (i := 0) (v := ?_) (by simp only [List.getElem?_toArray, List.getElem?_cons_succ, List.getElem?_cons_zero]; rfl) (by kernel_rfl) (by kernel_rfl) (by kernel_rfl) (by exact fun _ _ _ h => h) (Or.inl ⟨by rfl, ?_⟩) hS ?_
    rotate_left
    · intro w hSw
      go_simp
      try with_reducible rfl
    try simp only [Act.put, List.setIfInBounds_toArray, List.set_cons_zero, List.set_cons_succ]
    refine wpAnyH_take (i := 1) (v := ?_) (by simp only [List.getElem?_toArray, List.getElem?_cons_succ, List.getElem?_cons_zero]; rfl) (by kernel_rfl) (by kernel_rfl) (by kernel_rfl) (by exact fun _ _ _ h => h) (Or.inl ⟨by rfl, ?_⟩) hS ?_
    rotate_left
    · intro w hSw
      go_simp
      try with_reducible rfl
    try simp only [Act.put, List.setIfInBounds_toArray, List.set_cons_zero, List.set_cons_succ]
    refine wpAnyH_take (i := 2) (v := ?_) (by simp only [List.getElem?_toArray, List.getElem?_cons_succ, List.getElem?_cons_zero]; rfl) (by kernel_rfl) (by kernel_rfl) (by kernel_rfl) (by exact fun _ _ _ h => h) (Or.inl ⟨by rfl, ?_⟩) hS ?_
    rotate_left
    · intro w hSw
      go_simp
      try with_reducible rfl
    try simp only [Act.put, List.setIfInBounds_toArray, List.set_cons_zero, List.set_cons_succ]
    refine wpAnyH_take (i := 3) (v := ?_) (by simp only [List.getElem?_toArray, List.getElem?_cons_succ, List.getElem?_cons_zero]; rfl) (by kernel_rfl) (by kernel_rfl) (by kernel_rfl) (by exact fun _ _ _ h => h) (Or.inl ⟨by rfl, ?_⟩) hS ?_
    rotate_left
    · intro w hSw
      go_simp
      try with_reducible rfl
    try simp only [Act.put, List.setIfInBounds_toArray, List.set_cons_zero, List.set_cons_succ]
    refine wpAnyH_take (i := 4) (v := ?_) (by simp only [List.getElem?_toArray, List.getElem?_cons_succ, List.getElem?_cons_zero]; rfl) (by kernel_rfl) (by kernel_rfl) (by kernel_rfl) (by exact fun _ _ _ h => h) (Or.inl ⟨by rfl, ?_⟩) hS ?_
    rotate_left
    · intro w hSw
      go_simp
      try with_reducible rfl
    try simp only [Act.put, List.setIfInBounds_toArray, List.set_cons_zero, List.set_cons_succ]
    refine wpAnyH_take (i := 5) (v := .agg (sc l)) (by simp only [List.getElem?_toArray, List.getElem?_cons_succ, List.getElem?_cons_zero]; rfl) (by kernel_rfl) (by kernel_rfl) (by kernel_rfl) (by exact fun _ _ _ h => h) (Or.inl ⟨by rfl, ?_⟩) hS ?_
    · intro wq hSw
      exact exec_load 26 (.tmp 19) rfl ⟨g, 9, none⟩ rfl _ wq hSw
    try simp only [Act.put, List.setIfInBounds_toArray, List.set_cons_zero, List.set_cons_succ]
    refine wpAnyH_take (i := 6) (v := ?_) (by simp only [List.getElem?_toArray, List.getElem?_cons_succ, List.getElem?_cons_zero]; rfl) (by kernel_rfl) (by kernel_rfl) (by kernel_rfl) (by exact fun _ _ _ h => h) (Or.inl ⟨by rfl, ?_⟩) hS ?_
    rotate_left
    · intro w hSw
      go_simp
      try with_reducible rfl
    try simp only [Act.put, List.setIfInBounds_toArray, List.set_cons_zero, List.set_cons_succ]
    refine wpAnyH_take (i := 7) (v := ?_) (by simp only [List.getElem?_toArray, List.getElem?_cons_succ, List.getElem?_cons_zero]; rfl) (by kernel_rfl) (by kernel_rfl) (by kernel_rfl) (by exact fun _ _ _ h => h) (Or.inl ⟨by rfl, ?_⟩) hS ?_
    rotate_left
    · intro w hSw
      go_simp
      try with_reducible rfl
    try simp only [Act.put, List.setIfInBounds_toArray, List.set_cons_zero, List.set_cons_succ]
    refine wpAnyH_take (i := 8) (v := ?_) (by simp only [List.getElem?_toArray, List.getElem?_cons_succ, List.getElem?_cons_zero]; rfl) (by kernel_rfl) (by kernel_rfl) (by kernel_rfl) (by exact fun _ _ _ h => h) (Or.inl ⟨by rfl, ?_⟩) hS ?_
    rotate_left
    · intro w hSw
      go_simp
      try with_reducible rfl
    try simp only [Act.put, List.setIfInBounds_toArray, List.set_cons_zero, List.set_cons_succ]
    refine wpAnyH_take (i := 9) (v := .agg (sc l)) (by simp only [List.getElem?_toArray, List.getElem?_cons_succ, List.getElem?_cons_zero]; rfl) (by kernel_rfl) (by kernel_rfl) (by kernel_rfl) (by exact fun _ _ _ h => h) (Or.inl ⟨by rfl, ?_⟩) hS ?_
    · intro wq hSw
      exact exec_load 26 (.tmp 23) rfl ⟨g, 9, none⟩ rfl _ wq hSw
    try simp only [Act.put, List.setIfInBounds_toArray, List.set_cons_zero, List.set_cons_succ]
    refine wpAnyH_take (i := 10) (v := ?_) (by simp only [List.getElem?_toArray, List.getElem?_cons_succ, List.getElem?_cons_zero]; rfl) (by kernel_rfl) (by kernel_rfl) (by kernel_rfl) (by exact fun _ _ _ h => h) (Or.inl ⟨by rfl, ?_⟩) hS ?_
    rotate_left
    · intro w hSw
      go_simp
      try with_reducible rfl
    try simp only [Act.put, List.setIfInBounds_toArray, List.set_cons_zero, List.set_cons_succ]
    refine wpAnyH_take (i := 11) (v := ?_) (by simp only [List.getElem?_toArray, List.getElem?_cons_succ, List.getElem?_cons_zero]; rfl) (by kernel_rfl) (by kernel_rfl) (by kernel_rfl) (by exact fun _ _ _ h => h) (Or.inl ⟨by rfl, ?_⟩) hS ?_
    rotate_left
    · intro w hSw
      go_simp
      try with_reducible rfl
    try simp only [Act.put, List.setIfInBounds_toArray, List.set_cons_zero, List.set_cons_succ]
    refine wpAnyH_ready (rs := [12]) (by kernel_rfl) (by simp) ?_
    refine AllReadyH.cons (by simp only [List.getElem?_toArray, List.getElem?_cons_succ, List.getElem?_cons_zero]; rfl) (fun K hK => ?_) AllReadyH.nil
    rw [if_pos]
    rotate_left
    · kernel_rfl
    refine wp_store_mid 26 (.tmp 26) (.tmp 20) rfl w.heap.size 9 (sc l) rfl rfl (N0.out.tt.sub 9 6 (by omega)) i26 (one_sc l) ?_
    have N1 : Hid (Nb ((w1.drew).setCells w.heap.size 9 (sc l).toList) w.heap.size ⟨b, p, q, u, o, r, g', k, x⟩ l zeroS) := Lib.hid (N0.out.setLast l)
    have D1 : Hid (Below w.heap.size w ((w1.drew).setCells w.heap.size 9 (sc l).toList)) := Lib.hid (Mem.below_setCells (g := w.heap.size) (Nat.le_refl _) _ 9 _ D0.out)
    generalize (w1.drew).setCells w.heap.size 9 (sc l).toList = w2 at N1 D1 ⊢
    refine hK.out _ _ (AL.out _ D1.out) (fun hS => ?_)
    clear hK K
    try simp only [Act.put, List.setIfInBounds_toArray, List.set_cons_zero, List.set_cons_succ]
    refine wpAnyH_take (i := 13) (v := ?_) (by simp only [List.getElem?_toArray, List.getElem?_cons_succ, List.getElem?_cons_zero]; rfl) (by kernel_rfl) (by kernel_rfl) (by kernel_rfl) (by exact fun _ _ _ h => h) (Or.inl ⟨by rfl, ?_⟩) hS ?_
    rotate_left
    · intro w hSw
      go_simp
      try with_reducible rfl
    try simp only [Act.put, List.setIfInBounds_toArray, List.set_cons_zero, List.set_cons_succ]
    refine wpAnyH_take (i := 14) (v := ?_) (by simp only [List.getElem?_toArray, List.getElem?_cons_succ, List.getElem?_cons_zero]; rfl) (by kernel_rfl) (by kernel_rfl) (by kernel_rfl) (by exact fun _ _ _ h => h) (Or.inl ⟨by rfl, ?_⟩) hS ?_
    rotate_left
    · intro w hSw
      go_simp
      try with_reducible rfl
    try simp only [Act.put, List.setIfInBounds_toArray, List.set_cons_zero, List.set_cons_succ]
    refine wpAnyH_ready (rs := [15]) (by kernel_rfl) (by simp) ?_
    refine AllReadyH.cons (by simp only [List.getElem?_toArray, List.getElem?_cons_succ, List.getElem?_cons_zero]; rfl) (fun K hK => ?_) AllReadyH.nil
    rw [if_pos]
    rotate_left
    · kernel_rfl
    refine wp_store_mid 26 (.tmp 28) (.tmp 24) rfl w.heap.size 15 (sc l) rfl rfl (N1.out.tt.sub 15 6 (by omega)) i26 (one_sc l) ?_
    have N2 : Hid (Nb (w2.setCells w.heap.size 15 (sc l).toList) w.heap.size ⟨b, p, q, u, o, r, g', k, x⟩ l l) := Lib.hid (N1.out.setAct l)
    have D2 : Hid (Below w.heap.size w (w2.setCells w.heap.size 15 (sc l).toList)) := Lib.hid (Mem.below_setCells (g := w.heap.size) (Nat.le_refl _) _ 15 _ D1.out)
    generalize w2.setCells w.heap.size 15 (sc l).toList = w3 at N2 D2 ⊢
    refine hK.out _ _ (AL.out _ D2.out) (fun hS => ?_)
    clear hK K
    try simp only [Act.put, List.setIfInBounds_toArray, List.set_cons_zero, List.set_cons_succ]
    refine wpAnyH_done (by kernel_rfl) ?_ _
    go_wp2
    go_ret
    exact ⟨D2.out, _, Nat.le_refl _, rfl, N2.out⟩
end Go.Proofs.Ytcggghiionlngaa.AreN
