/- Areas: what is done is done. -/
import Derived.Test.YtcggghiionlngaaAreQ0
namespace Go.Proofs.Ytcggghiionlngaa.AreQ
open Go.ChangeShapes Go.WideShapes Go.ChangeAt Go.RowKit
open Mem GeoM GeoC GeoD GeoE GeoF AreA AreB AreC AreD AreF AreG AreH AreI AreJ AreK AreL AreN AreO AreP AreQ0
set_option linter.unusedVariables false
set_option maxHeartbeats 4000000

theorem early (c : Cfg) (s : Stt) (a : Option Addr) (n cap : Nat) (w : World) (hn : 60 < n) :
    Calls Try.prog 6 #[cv c, sv s, .slice a n cap] w fun e w' => e = .returned (.bool true) ∧ Below w.heap.size w w' := by
  obtain ⟨b, p, q, u, o, r, gg, k, x⟩ := c
  obtain ⟨z0, z1, z2, z3, e, d⟩ := s
  have hgt : (60 : Int) < (n : Int) := by omega
  show Calls Try.prog 6 #[.agg #[.int .i64 b, .int .i64 p, .int .i64 q, .int .i64 u, .int .i64 o, .int .i64 r, .int .i64 gg, .int .i64 k, .int .i64 x], .agg #[.int .i64 z0, .int .i64 z1, .int .i64 z2, .int .i64 z3, .int .u8 e, .bool d], .slice a n cap] w _
  have Dz : Hid (Below w.heap.size w ((w.alloc (.cells #[.int .i64 b, .int .i64 p, .int .i64 q, .int .i64 u, .int .i64 o, .int .i64 r, .int .i64 gg, .int .i64 k, .int .i64 x] 23)).alloc (.cells #[.int .i64 z0, .int .i64 z1, .int .i64 z2, .int .i64 z3, .int .u8 e, .bool d] 26))) := Lib.hid (((Below.refl _ _).alloc (Nat.le_refl _) _).alloc (by simp) _)
  go_enter Try.func6, Try.ntmps6
  go_wp2_with fail
  refine (knownW _).mono ?_
  rintro e' w1 ⟨rfl, b1⟩
  have D1 := Lib.hid (Dz.out.trans (b1.mono Dz.out.size))
  clear b1
  go_wp2
  go_ret
  exact ⟨rfl, D1.out⟩

set_option maxRecDepth 100000 in
theorem law (c : Cfg) (s : Stt) (a : Option Addr) (l : List Stt) (n cap : Nat) (w : World) (hn : l.length = n) (hr : RdS w a l) (hle : n ≤ 60) :
    Calls Try.prog 6 #[cv c, sv s, .slice a n cap] w fun e w' => e = .returned (.bool true) ∧ Below w.heap.size w w' := by
  have hgt : ¬ (60 : Int) < (n : Int) := by omega
  obtain ⟨s2, hs2⟩ : ∃ s2 : Stt, s2 = ⟨s.z0, s.z1, s.z2, s.z3, s.e, true⟩ := ⟨_, rfl⟩
  have hd2 : s2.d = true := by rw [hs2]
  replace hr := Lib.hid hr.2
  replace hn := Lib.hid hn
  have HN := Lib.hid (fun w => newW c zeroS w)
  have HT1 := Lib.hid (fun g w h => setW g c zeroS zeroS s2 w h)
  have HT2 := Lib.hid (fun g act y w h => setW g c s2 act y w h)
  have HP := Lib.hid (fun g act w h => powerW g c s2 act w h)
  have HG0 := Lib.hid (fun g w h => settingT g c zeroS zeroS w h)
  have HG := Lib.hid (fun g w h => settingT g c s2 s2 w h)
  have HG2 := Lib.hid (fun g act w h => settingT g c s2 act w h)
  have HA := Lib.hid (fun g w h => activeT g c s2 s2 w h)
  have hN := neq26 s2 s2
  have hE := eql26 s2 s2
  have hE0 := eql26 zeroS zeroS
  rw [decide_eq_true rfl] at hE hE0
  rw [decide_eq_false (by simp)] at hN
  unfold sv at hN hE hE0 HG HG2 HG0 HT1
  unfold sc zeroS at hE0
  have HT3 := Lib.hid (fun g act y w h => by have := HT2.out g act y w h; rw [show setE c s2 y = 22 from if_pos hd2, show setL c s2 y = s2 from if_pos hd2] at this; unfold sv at this; exact this)
  rw [show force s2 = s2 from if_pos hd2] at HP
  rw [hd2] at HA
  clear HT2
  have SE : setE c zeroS s2 = 0 ∧ setL c zeroS s2 = s2 ∨ setE c zeroS s2 = 1 ∧ setL c zeroS s2 = zeroS := by
    unfold setE setL
    have hz : ¬ zeroS.d = true := by decide
    rw [if_neg hz, if_neg hz]
    by_cases h : mayV c s2 = true
    · rw [if_pos h, if_pos h]; exact .inl ⟨rfl, rfl⟩
    · rw [if_neg h, if_neg h]; exact .inr ⟨rfl, rfl⟩
  have ZF : force zeroS = zeroS := rfl
  obtain ⟨b, p, q, u, o, r, gg, k, x⟩ := c
  obtain ⟨z0, z1, z2, z3, e, d⟩ := s
  simp only at hs2
  unfold cv cc sv at HN
  simp only at HN
  show Calls Try.prog 6 #[.agg #[.int .i64 b, .int .i64 p, .int .i64 q, .int .i64 u, .int .i64 o, .int .i64 r, .int .i64 gg, .int .i64 k, .int .i64 x], .agg #[.int .i64 z0, .int .i64 z1, .int .i64 z2, .int .i64 z3, .int .u8 e, .bool d], .slice a n cap] w _
  obtain ⟨w0, hw0⟩ : ∃ w0, w0 = w.alloc (.cells #[.int .i64 b, .int .i64 p, .int .i64 q, .int .i64 u, .int .i64 o, .int .i64 r, .int .i64 gg, .int .i64 k, .int .i64 x] 23) := ⟨_, rfl⟩
  obtain ⟨wz, hwz⟩ : ∃ wz, wz = w0.alloc (.cells #[.int .i64 z0, .int .i64 z1, .int .i64 z2, .int .i64 z3, .int .u8 e, .bool d] 26) := ⟨_, rfl⟩
  have s0 : w0.heap.size = w.heap.size + 1 := by rw [hw0]; simp
  have sz0 : wz.heap.size = w.heap.size + 2 := by rw [hwz]; simp [s0]
  have c1' : Mem.Blk w0 w.heap.size 23 #[.int .i64 b, .int .i64 p, .int .i64 q, .int .i64 u, .int .i64 o, .int .i64 r, .int .i64 gg, .int .i64 k, .int .i64 x] := by rw [hw0]; exact Mem.Blk.new w 23 _
  have cz : Hid (Mem.Blk wz w.heap.size 23 #[.int .i64 b, .int .i64 p, .int .i64 q, .int .i64 u, .int .i64 o, .int .i64 r, .int .i64 gg, .int .i64 k, .int .i64 x]) := Lib.hid (by rw [hwz]; exact c1'.alloc _)
  have ez : Hid (Mem.Blk wz (w.heap.size + 1) 26 #[.int .i64 z0, .int .i64 z1, .int .i64 z2, .int .i64 z3, .int .u8 e, .bool d]) := Lib.hid (by rw [hwz, ← s0]; exact Mem.Blk.new w0 26 _)
  have Dz : Hid (Below w.heap.size w wz) := Lib.hid (by rw [hwz, hw0]; exact ((Below.refl _ _).alloc (Nat.le_refl _) _).alloc (by simp) _)
  clear c1' s0
  go_enter Try.func6, Try.ntmps6
  go_wp2_with fail
  rw [← hw0, ← hwz]
  replace hw0 := Lib.hid hw0
  replace hwz := Lib.hid hwz
  refine (knownW _).mono ?_
  rintro e' w1 ⟨rfl, b1⟩
  have D1 := Lib.hid (Dz.out.trans (b1.mono Dz.out.size))
  have cz1 := cz.out.below b1 cz.out.lt
  have ez1 := Lib.hid (ez.out.below b1 ez.out.lt)
  have h12 := Lib.hid (show w.heap.size + 2 ≤ w1.heap.size by have := b1.size; omega)
  clear b1 cz ez Dz sz0
  obtain ⟨j0, j1, j2, j3, j4, j5, j6, j7, j8⟩ := nine cz1
  go_wp2_with fail
  refine (HN.out _).mono ?_
  rintro e' w2 ⟨b2, hres⟩
  have D2 := Lib.hid (D1.out.trans (b2.mono D1.out.size))
  have ez2 := Lib.hid (ez1.out.below b2 ez1.out.lt)
  have h22 := Lib.hid (Nat.le_trans h12.out b2.size)
  clear j0 j1 j2 j3 j4 j5 j6 j7 j8 b2 cz1 ez1 D1
  rcases hres with ⟨_, g, hg, rfl, hNb⟩ | ⟨_, rfl⟩
  · rw [ZF] at hNb
    have hgw := Lib.hid (Nat.le_trans h12.out hg)
    obtain ⟨B1, hB1⟩ : ∃ B1, B1 = w.heap.size + 1 := ⟨_, rfl⟩
    rw [← hB1] at ez2 ⊢
    have c5 := ez2.out.cell 5
    have f5 := ez2.out.frozen 5
    simp only [List.getElem?_toArray, List.getElem?_cons_succ, List.getElem?_cons_zero] at c5
    have Q3 : Hid (Blk (w2.setCell ⟨B1, 5, none⟩ (.bool true)) B1 26 (sc s2)) := Lib.hid (by rw [hs2]; exact ez2.out.put 5 (.bool true))
    have D3 : Hid (Below w.heap.size w (w2.setCell ⟨B1, 5, none⟩ (.bool true))) := Lib.hid (D2.out.setCell (p := ⟨B1, 5, none⟩) (by show w.heap.size ≤ B1; omega) _)
    have hgB : Hid (g ≠ B1 ∧ w.heap.size ≤ g ∧ B1 < g) := Lib.hid (by have := hgw.out; omega)
    have O3 : Hid (Ob (w2.setCell ⟨B1, 5, none⟩ (.bool true)) g ⟨b, p, q, u, o, r, gg, k, x⟩ zeroS zeroS) := Lib.hid (ob_kept hNb.ob (gb_put w2 B1 5 _) hgB.out.1)
    have R3 := Lib.hid Q3.out.range
    have LB : Hid (∀ w', Blk w' B1 26 (sc s2) → (loadVar 26 ⟨B1, 0, none⟩).run Try.prog w' = .ok (.agg (sc s2)) w') := Lib.hid fun w' h => run_loadVar_mid w' B1 0 26 (sc s2).toList _ h.range Try.underlying26 rfl i26
    clear hNb hg hgw h12 hs2
    replace hB1 := Lib.hid hB1
    replace hd2 := Lib.hid hd2
    go_wp2_with ((with_reducible show wpList _ _ _ (Oper.mk _ (Op.load 26 (.tmp 4)) _ _ _ _ :: _) _ _); refine Mem.loadMid 26 (.tmp 4) rfl B1 0 rfl (sc s2) R3.out _ Try.underlying26 rfl i26 rfl ?_)
    refine (HT1.out _ _ O3.out).mono ?_
    rintro e' w4 ⟨rfl, O4, b4⟩
    have D4 := Lib.hid (bgb D3.out hgB.out.2.1 D3.out.size b4)
    have Q4 : Hid (Blk w4 B1 26 (sc s2)) := Lib.hid ((b4.block B1 Q3.out.lt (fun e => by injection e with e; exact hgB.out.1 e.symm)).trans Q3.out)
    clear b4 c5 f5 O3 R3 Q3 D3 ez2
    rcases SE with ⟨e1, e2⟩ | ⟨e1, e2⟩
    · rw [e1]
      rw [e2] at O4
      clear e1 e2 HT1 HG0 hE0 HN
      replace O4 := Lib.hid O4
      go_wp2_with fail
      go_loopw [7, 9] (fun t i wr => ∃ (kk g : Nat) (act : Stt), kk ≤ n ∧ i = .int .i64 (kk : Int) ∧ t = .pointer (some ⟨g, 0, none⟩) ∧ Ob wr g ⟨b, p, q, u, o, r, gg, k, x⟩ s2 act ∧ w.heap.size ≤ g ∧ B1 < g ∧ Blk wr B1 26 (sc s2) ∧ Below w.heap.size w wr) (fun _ i _ => n - (intOf i).toNat)
      case atStart => exact ⟨0, _, _, by omega, rfl, rfl, O4.out, hgB.out.2.1, hgB.out.2.2, Q4.out, D4.out⟩
      case round =>
        clear O4 Q4 D4 hgB
        obtain ⟨kk, g, act, hkk, rfl, rfl, hO, hg1, hg2, hQ, hB⟩ := hrel
        replace hO := Lib.hid hO
        replace hQ := Lib.hid hQ
        by_cases hlt : kk < n
        · have hlt' : (kk : Int) < (n : Int) := by omega
          obtain ⟨bb, off, rfl, hbb, hf, hcell⟩ := hr.out kk (by rw [hn.out]; exact hlt)
          obtain ⟨y, hy⟩ : ∃ y, y = l[kk]'(by rw [hn.out]; exact hlt) := ⟨_, rfl⟩
          rw [← hy] at hcell
          have RY := Lib.hid (range_below hcell hB hbb)
          clear hf hcell hy
          have HB := Lib.hid hB
          have HG12 := Lib.hid (And.intro hg1 hg2)
          clear hB hg1 hg2 hbb
          go_wp2_with ((with_reducible show wpList _ _ _ (Oper.mk _ (Op.load 26 (.tmp 45)) _ _ _ _ :: _) _ _); refine Mem.loadMid 26 (.tmp 45) rfl bb _ rfl (sc y) RY.out _ Try.underlying26 rfl i26 rfl ?_)
          refine (HT3.out _ _ _ _ hO.out).mono ?_
          rintro e' w5 ⟨rfl, O5, b5⟩
          have D5 := Lib.hid (bgb HB.out HG12.out.1 HB.out.size b5)
          have Q5 : Hid (Blk w5 B1 26 (sc s2)) := Lib.hid ((b5.block B1 hQ.out.lt (fun e => by injection e with e; have := HG12.out.2; omega)).trans hQ.out)
          replace O5 := Lib.hid O5
          clear b5 RY hO hQ HB
          go_wp2_with fail
          refine (HP.out _ _ _ O5.out).mono ?_
          rintro e' w6 ⟨b6, g3, hg3, rfl, hN6⟩
          have D6 := Lib.hid (D5.out.trans (b6.mono D5.out.size))
          have Q6 : Hid (Blk w6 B1 26 (sc s2)) := Lib.hid (Q5.out.below b6 Q5.out.lt)
          have HG3 : Hid (w.heap.size ≤ g3 ∧ B1 < g3) := Lib.hid ⟨Nat.le_trans D5.out.size hg3, Nat.lt_of_lt_of_le Q5.out.lt hg3⟩
          have O6 := Lib.hid hN6.ob
          have N6 := Lib.hid hN6.tt
          have D60 : Hid (Below w6.heap.size w6 w6.drew) := Lib.hid (Below.refl _ _).drew
          have L60 := LB.out _ (Q6.out.below D60.out Q6.out.lt)
          clear b6 hN6 O5 Q5 D5 hg3
          go_wp2_with fail
          refine wp_region_held_drew (S := fun w' => (loadVar 26 ⟨B1, 0, none⟩).run Try.prog w' = .ok (.agg (sc s2)) w') (by kernel_rfl) L60 (fun hS => ?_)
          clear L60
          try simp only [List.size_toArray, List.length_cons, List.length_nil, Nat.reduceAdd]
          refine wpAnyH_take (i := 0) (v := ?_) (by simp only [List.getElem?_toArray, List.getElem?_cons_succ, List.getElem?_cons_zero]; rfl) (by kernel_rfl) (by kernel_rfl) (by kernel_rfl) (by exact fun _ _ _ h => h) (Or.inl ⟨by rfl, ?_⟩) hS ?_
          rotate_left
          · intro w hSw
            go_simp
            try with_reducible rfl
          try simp only [Act.put, List.setIfInBounds_toArray, List.set_cons_zero, List.set_cons_succ]
          refine wpAnyH_take (i := 1) (v := ?_) (by simp only [List.getElem?_toArray, List.getElem?_cons_succ, List.getElem?_cons_zero]; rfl) (by kernel_rfl) (by kernel_rfl) (by kernel_rfl) (by exact fun _ _ _ h => h) (Or.inl ⟨by rfl, ?_⟩) hS ?_
          rotate_left
          · intro w hSw
            go_simp
            try with_reducible rfl
          try simp only [Act.put, List.setIfInBounds_toArray, List.set_cons_zero, List.set_cons_succ]
          refine wpAnyH_take (i := 2) (v := ?_) (by simp only [List.getElem?_toArray, List.getElem?_cons_succ, List.getElem?_cons_zero]; rfl) (by kernel_rfl) (by kernel_rfl) (by kernel_rfl) (by exact fun _ _ _ h => h) (Or.inl ⟨by rfl, ?_⟩) hS ?_
          rotate_left
          · intro w hSw
            go_simp
            try with_reducible rfl
          try simp only [Act.put, List.setIfInBounds_toArray, List.set_cons_zero, List.set_cons_succ]
          refine wpAnyH_take (i := 3) (v := ?_) (by simp only [List.getElem?_toArray, List.getElem?_cons_succ, List.getElem?_cons_zero]; rfl) (by kernel_rfl) (by kernel_rfl) (by kernel_rfl) (by exact fun _ _ _ h => h) (Or.inl ⟨by rfl, ?_⟩) hS ?_
          rotate_left
          · intro w hSw
            go_simp
            try with_reducible rfl
          try simp only [Act.put, List.setIfInBounds_toArray, List.set_cons_zero, List.set_cons_succ]
          refine wpAnyH_take (i := 5) (v := .agg (sc s2)) (by simp only [List.getElem?_toArray, List.getElem?_cons_succ, List.getElem?_cons_zero]; rfl) (by kernel_rfl) (by kernel_rfl) (by kernel_rfl) (by exact fun _ _ _ h => h) (Or.inl ⟨by rfl, ?_⟩) hS ?_
          · intro wq hSw
            exact exec_load 26 (.tmp 4) rfl ⟨B1, 0, none⟩ rfl _ wq hSw
          try simp only [Act.put, List.setIfInBounds_toArray, List.set_cons_zero, List.set_cons_succ]
          refine wpAnyH_ready (rs := [4]) (by kernel_rfl) (by simp) ?_
          refine AllReadyH.cons (by simp only [List.getElem?_toArray, List.getElem?_cons_succ, List.getElem?_cons_zero]; rfl) (fun K hK => ?_) AllReadyH.nil
          go_simp
          go_at_call 25
          refine (HG.out _ _ (N6.out.below D60.out N6.out.lt)).mono ?_
          rintro e w7 ⟨rfl, b7⟩
          have D7 : Hid (Below w6.heap.size w6 w7) := Lib.hid (D60.out.trans (b7.mono D60.out.size))
          have Q7 : Hid (Blk w7 B1 26 (sc s2)) := Lib.hid (Q6.out.below D7.out Q6.out.lt)
          clear b7
          refine hK.out _ _ (LB.out _ Q7.out) (fun hS => ?_)
          clear hK K
          try simp only [Act.put, List.setIfInBounds_toArray, List.set_cons_zero, List.set_cons_succ]
          refine wpAnyH_take (i := 6) (v := ?_) (by simp only [List.getElem?_toArray, List.getElem?_cons_succ, List.getElem?_cons_zero]; rfl) (by kernel_rfl) (by kernel_rfl) (by kernel_rfl) (by exact fun _ _ _ h => h) (Or.inl ⟨by rfl, ?_⟩) hS ?_
          rotate_left
          · intro w hSw
            go_simp
            try with_reducible rfl
          try simp only [Act.put, List.setIfInBounds_toArray, List.set_cons_zero, List.set_cons_succ]
          refine wpAnyH_take (i := 7) (v := ?_) (by simp only [List.getElem?_toArray, List.getElem?_cons_succ, List.getElem?_cons_zero]; rfl) (by kernel_rfl) (by kernel_rfl) (by kernel_rfl) (by exact fun _ _ _ h => h) (Or.inl ⟨by rfl, ?_⟩) hS ?_
          rotate_left
          · intro w hSw
            go_simp
            try with_reducible rfl
          try simp only [Act.put, List.setIfInBounds_toArray, List.set_cons_zero, List.set_cons_succ]
          refine wpAnyH_take (i := 8) (v := ?_) (by simp only [List.getElem?_toArray, List.getElem?_cons_succ, List.getElem?_cons_zero]; rfl) (by kernel_rfl) (by kernel_rfl) (by kernel_rfl) (by exact fun _ _ _ h => h) (Or.inl ⟨by rfl, ?_⟩) hS ?_
          rotate_left
          · intro w hSw
            go_simp
            try with_reducible rfl
          try simp only [Act.put, List.setIfInBounds_toArray, List.set_cons_zero, List.set_cons_succ]
          refine wpAnyH_take (i := 9) (v := ?_) (by simp only [List.getElem?_toArray, List.getElem?_cons_succ, List.getElem?_cons_zero]; rfl) (by kernel_rfl) (by kernel_rfl) (by kernel_rfl) (by exact fun _ _ _ h => h) (Or.inl ⟨by rfl, ?_⟩) hS ?_
          rotate_left
          · intro w hSw
            go_simp
            try with_reducible rfl
          try simp only [Act.put, List.setIfInBounds_toArray, List.set_cons_zero, List.set_cons_succ]
          refine wpAnyH_ready (rs := [10]) (by kernel_rfl) (by simp) ?_
          refine AllReadyH.cons (by simp only [List.getElem?_toArray, List.getElem?_cons_succ, List.getElem?_cons_zero]; rfl) (fun K hK => ?_) AllReadyH.nil
          go_simp
          go_at_call 26
          refine (HA.out _ _ (N6.out.below D7.out N6.out.lt)).mono ?_
          rintro e w8 ⟨rfl, rfl⟩
          refine hK.out _ _ (LB.out _ Q7.out) (fun hS => ?_)
          clear hK K
          try simp only [Act.put, List.setIfInBounds_toArray, List.set_cons_zero, List.set_cons_succ]
          refine wpAnyH_take (i := 11) (v := ?_) (by simp only [List.getElem?_toArray, List.getElem?_cons_succ, List.getElem?_cons_zero]; rfl) (by kernel_rfl) (by kernel_rfl) (by kernel_rfl) (by exact fun _ _ _ h => h) (Or.inl ⟨by rfl, ?_⟩) hS ?_
          rotate_left
          · intro w hSw
            go_simp
            try with_reducible rfl
          try simp only [Act.put, List.setIfInBounds_toArray, List.set_cons_zero, List.set_cons_succ]
          refine wpAnyH_take (i := 12) (v := ?_) (by simp only [List.getElem?_toArray, List.getElem?_cons_succ, List.getElem?_cons_zero]; rfl) (by kernel_rfl) (by kernel_rfl) (by kernel_rfl) (by exact fun _ _ _ h => h) (Or.inl ⟨by rfl, ?_⟩) hS ?_
          rotate_left
          · intro w hSw
            go_simp
            try with_reducible rfl
          try simp only [Act.put, List.setIfInBounds_toArray, List.set_cons_zero, List.set_cons_succ]
          refine wpAnyH_done (by kernel_rfl) ?_ _
          go_wp2
          go_roundw
          case rel => exact ⟨kk + 1, g3, s2, by omega, by go_num, rfl, O6.out.below D7.out O6.out.tt.lt, HG3.out.1, HG3.out.2, Q7.out, D6.out.trans (D7.out.mono D6.out.size)⟩
          case measure => simp [intOf]; omega
        · have hlt' : ¬ (kk : Int) < (n : Int) := by omega
          have HB := Lib.hid hB
          have D0 : Hid (Below wr.heap.size wr wr.drew) := Lib.hid (Below.refl _ _).drew
          have L60 := LB.out _ (hQ.out.below D0.out hQ.out.lt)
          clear hB
          go_wp2_with fail
          refine wp_region_held_drew (S := fun w' => (loadVar 26 ⟨B1, 0, none⟩).run Try.prog w' = .ok (.agg (sc s2)) w') (by kernel_rfl) L60 (fun hS => ?_)
          clear L60
          try simp only [List.size_toArray, List.length_cons, List.length_nil, Nat.reduceAdd]
          refine wpAnyH_take (i := 0) (v := ?_) (by simp only [List.getElem?_toArray, List.getElem?_cons_succ, List.getElem?_cons_zero]; rfl) (by kernel_rfl) (by kernel_rfl) (by kernel_rfl) (by exact fun _ _ _ h => h) (Or.inl ⟨by rfl, ?_⟩) hS ?_
          rotate_left
          · intro w hSw
            go_simp
            try with_reducible rfl
          try simp only [Act.put, List.setIfInBounds_toArray, List.set_cons_zero, List.set_cons_succ]
          refine wpAnyH_take (i := 2) (v := .agg (sc s2)) (by simp only [List.getElem?_toArray, List.getElem?_cons_succ, List.getElem?_cons_zero]; rfl) (by kernel_rfl) (by kernel_rfl) (by kernel_rfl) (by exact fun _ _ _ h => h) (Or.inl ⟨by rfl, ?_⟩) hS ?_
          · intro wq hSw
            exact exec_load 26 (.tmp 4) rfl ⟨B1, 0, none⟩ rfl _ wq hSw
          try simp only [Act.put, List.setIfInBounds_toArray, List.set_cons_zero, List.set_cons_succ]
          refine wpAnyH_ready (rs := [1]) (by kernel_rfl) (by simp) ?_
          refine AllReadyH.cons (by simp only [List.getElem?_toArray, List.getElem?_cons_succ, List.getElem?_cons_zero]; rfl) (fun K hK => ?_) AllReadyH.nil
          go_simp
          go_at_call 25
          refine (HG2.out _ _ _ (hO.out.tt.below D0.out hO.out.tt.lt)).mono ?_
          rintro e w7 ⟨rfl, b7⟩
          have D7 : Hid (Below wr.heap.size wr w7) := Lib.hid (D0.out.trans (b7.mono D0.out.size))
          have Q7 : Hid (Blk w7 B1 26 (sc s2)) := Lib.hid (hQ.out.below D7.out hQ.out.lt)
          clear b7
          refine hK.out _ _ (LB.out _ Q7.out) (fun hS => ?_)
          clear hK K
          try simp only [Act.put, List.setIfInBounds_toArray, List.set_cons_zero, List.set_cons_succ]
          refine wpAnyH_take (i := 3) (v := ?_) (by simp only [List.getElem?_toArray, List.getElem?_cons_succ, List.getElem?_cons_zero]; rfl) (by kernel_rfl) (by kernel_rfl) (by kernel_rfl) (by exact fun _ _ _ h => h) (Or.inl ⟨by rfl, ?_⟩) hS ?_
          rotate_left
          · intro w hSw
            go_simp
            try with_reducible rfl
          try simp only [Act.put, List.setIfInBounds_toArray, List.set_cons_zero, List.set_cons_succ]
          refine wpAnyH_take (i := 4) (v := ?_) (by simp only [List.getElem?_toArray, List.getElem?_cons_succ, List.getElem?_cons_zero]; rfl) (by kernel_rfl) (by kernel_rfl) (by kernel_rfl) (by exact fun _ _ _ h => h) (Or.inl ⟨by rfl, ?_⟩) hS ?_
          rotate_left
          · intro w hSw
            go_simp
            try with_reducible rfl
          try simp only [Act.put, List.setIfInBounds_toArray, List.set_cons_zero, List.set_cons_succ]
          refine wpAnyH_done (by kernel_rfl) ?_ _
          go_wp2
          go_ret
          exact ⟨rfl, HB.out.trans (D7.out.mono HB.out.size)⟩
    · rw [e1]
      rw [e2] at O4
      clear e1 e2 HT1 HN hN hE
      have T4 := Lib.hid O4.tt
      clear O4
      go_wp2_with fail
      refine (HG0.out _ _ T4.out).mono ?_
      rintro e' w5 ⟨rfl, b5⟩
      have D5 := Lib.hid (D4.out.trans (b5.mono D4.out.size))
      clear b5
      unfold sc zeroS
      simp only
      go_wp2
      go_ret
      exact ⟨rfl, D5.out⟩
  · go_wp2
    go_ret
    exact ⟨rfl, D2.out⟩
theorem all (c : Cfg) (s : Stt) (a : Option Addr) (l : List Stt) (n cap : Nat) (w : World) (hn : l.length = n) (hr : RdS w a l) :
    Calls Try.prog 6 #[cv c, sv s, .slice a n cap] w fun e w' => e = .returned (.bool true) ∧ Below w.heap.size w w' := by
  by_cases h : n ≤ 60
  · exact law c s a l n cap w hn hr h
  · exact early c s a n cap w (by omega)
end Go.Proofs.Ytcggghiionlngaa.AreQ
