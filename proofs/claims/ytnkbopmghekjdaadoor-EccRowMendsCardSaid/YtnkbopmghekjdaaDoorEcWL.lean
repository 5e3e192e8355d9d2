/- The law on rows: its walk. -/
import Derived.Test.YtnkbopmghekjdaaDoorEcWR
import Derived.Test.YtnkbopmghekjdaaDoorEcE
import Derived.Test.YtnkbopmghekjdaaDoorReg
namespace Go.Proofs.YtnkbopmghekjdaaDoor.EcWL
open Go.ChangeShapes Go.WideShapes Go.ChangeAt Go.RowKit
open EcM EcA EcB EcC EcT EcX EcY EcZ EcWM EcWP EcS
set_option linter.unusedVariables false
set_option maxHeartbeats 1000000

/-- What both tell, in one form. -/
def Tell (o : List B8) (no x : Nat) (B : Bool) (w : World) : Ending → World → Prop := fun e w' =>
  (∃ a c, e = .returned (.tuple #[.slice a no c, .int .i64 (x : Int), .bool B]) ∧ Rd w' a o ∧ ∀ y, 0 < o.length → a = some y → y.block < w'.heap.size) ∧ Below w.heap.size w w'
theorem tell_fail {P : FuncId} {args : Array Value} {w : World} (h : Calls Tryd.prog P args w fun e w' => e = fail3 ∧ Below w.heap.size w w') : Calls Tryd.prog P args w (Tell [] 0 0 false w) :=
  h.mono fun e w' ⟨he, hb⟩ => ⟨⟨none, 0, he, ⟨by simp [maxLen], fun i hi => absurd hi (by simp)⟩, fun y h0 => absurd h0 (by simp)⟩, hb⟩
theorem tell_no {P : FuncId} {args : Array Value} {w : World} {G : Prop} {n : Nat} {o : List B8} {x : Nat} (hG : ¬ G) (h : Calls Tryd.prog P args w (Res G n o x w)) : Calls Tryd.prog P args w (Tell [] 0 0 false w) :=
  tell_fail (h.mono fun e w' ⟨he, hb⟩ => ⟨by
    rcases he with ⟨_, he⟩ | ⟨hg, _⟩
    · exact he
    · exact absurd hg hG, hb⟩)
theorem tell_yes {P : FuncId} {args : Array Value} {w : World} {G : Prop} {n : Nat} {o : List B8} {x : Nat} (hG : G) (h : Calls Tryd.prog P args w (Res G n o x w)) : Calls Tryd.prog P args w (Tell o n x true w) :=
  h.mono fun e w' ⟨he, hb⟩ => ⟨by
    rcases he with ⟨hg, _⟩ | ⟨_, he⟩
    · exact absurd hG hg
    · exact he, hb⟩

set_option maxRecDepth 100000 in
theorem lawG (a a2 : Option Addr) (l ck o : List B8) (n c n2 c2 no x : Nat) (B : Bool) (w : World) (hn : l.length = n) (hr : Rd w a l) (ha : ∀ x, 0 < l.length → a = some x → x.block < w.heap.size) (hc : n ≤ c) (hcm : c ≤ maxLen) (h1 : n ≤ 600)
    (h2 : n2 ≤ 600) (hno : o.length = no) (hl : Laid w)
    (h16 : Calls Tryd.prog 16 #[.slice a n c, .slice a2 n2 c2] w (Tell o no x B w))
    (h17 : ∀ w', Below w.heap.size w w' → Calls Tryd.prog 17 #[.slice a n c, .slice a2 n2 c2] w' (Tell o no x B w')) :
    Calls Tryd.prog 4 #[.slice a n c, .slice a2 n2 c2] w fun e w' => e = .returned (.bool true) ∧ Below w.heap.size w w' := by
  have HK := Lib.hid (EcE.known w hl)
  have H18 : Hid (∀ w', Below w.heap.size w w' → Calls Tryd.prog 18 #[.slice a n c] w' fun e w'' => ∃ a' c', e = .returned (.slice a' (cnt n) c') ∧ Own w'' w'.heap.size (.slice a' (cnt n) c') (wordsTo l (cnt n)) ∧ Below w'.heap.size w' w'') := Lib.hid fun w' hb' =>
    wordsW a l n c w' hn (Rd.below hr hb' ha) (fun x h0 h => Nat.lt_of_lt_of_le (ha x h0 h) hb'.size) hc hcm (by omega) (hl.below hb')
  have H19 : Hid (∀ w', Below w.heap.size w w' → Calls Tryd.prog 19 #[.slice a n c] w' fun e w'' => ∃ a' c', e = .returned (.slice a' (cnt n) c') ∧ Own w'' w'.heap.size (.slice a' (cnt n) c') (wordsTo l (cnt n)) ∧ Below w'.heap.size w' w'') := Lib.hid fun w' hb' =>
    EcZR.wordsR a l n c w' hn (Rd.below hr hb' ha) (fun x h0 h => Nat.lt_of_lt_of_le (ha x h0 h) hb'.size) (by omega)
  have hwl := Lib.hid (wordsTo_len l (cnt n))
  unfold Tell at h16 h17
  generalize wordsTo l (cnt n) = ws at H18 H19 hwl
  generalize cnt n = m at H18 H19 hwl
  replace h16 := Lib.hid h16
  replace h17 := Lib.hid h17
  replace hno := Lib.hid hno
  clear hr hl hn ha
  have hd1 : decide ((600 : Int) < (n : Int)) = false := by simp; omega
  have hd2 : decide ((600 : Int) < (n2 : Int)) = false := by simp; omega
  go_enter Tryd.func4, Tryd.ntmps4
  go_wp2_with fail
  refine HK.out.mono ?_
  rintro e w' ⟨rfl, hww⟩
  obtain rfl := hww.symm
  go_wp2_with fail
  refine h16.out.mono ?_
  rintro e w1 ⟨⟨a5, c5, rfl, r5, n5⟩, b1⟩
  go_wp2_with fail
  refine (h17.out _ b1).mono ?_
  rintro e w2 ⟨⟨a8, c8, rfl, r8, n8⟩, b2⟩
  have d2 := b1.trans (b2.mono b1.size)
  have R5 : Hid (∀ w', Below w2.heap.size w2 w' → (convert 30 9 (.slice a5 no c5)).run Tryd.prog w' = .ok (.string (strB o)) w') := Lib.hid fun w' hb' =>
    conv w' a5 o no c5 hno.out (Rd.below (Rd.below r5 b2 n5) hb' (fun x h0 h => Nat.lt_of_lt_of_le (n5 x h0 h) b2.size))
  have R8 : Hid (∀ w', Below w2.heap.size w2 w' → (convert 30 9 (.slice a8 no c8)).run Tryd.prog w' = .ok (.string (strB o)) w') := Lib.hid fun w' hb' =>
    conv w' a8 o no c8 hno.out (Rd.below r8 hb' n8)
  have D0 : Hid (Below w2.heap.size w2 w2.drew) := Lib.hid (Below.refl _ _).drew
  replace d2 := Lib.hid d2
  clear r5 r8 n5 n8 b1 b2
  have CV := conv
  generalize strB = S at R5 R8 CV
  replace CV := Lib.hid CV
  go_wp2_with fail
  have k5 := R5.out w2.drew D0.out
  have k8 := R8.out w2.drew D0.out
  refine wp_region_held_drew (S := fun w' => (convert 30 9 (.slice a5 no c5)).run Tryd.prog w' = .ok (.string (S o)) w' ∧ (convert 30 9 (.slice a8 no c8)).run Tryd.prog w' = .ok (.string (S o)) w') (by kernel_rfl) ⟨k5, k8⟩ (fun hS => ?_)
  clear k5 k8
  refine wpAnyH_take (i := 0) (v := ?_) (by simp only [List.getElem?_toArray, List.getElem?_cons_succ, List.getElem?_cons_zero]; rfl) (by kernel_rfl) (by kernel_rfl) (by kernel_rfl) (by exact fun _ _ _ h => h) (Or.inl ⟨by rfl, ?_⟩) hS ?_
  rotate_left
  · intro w hSw
    go_simp
    try with_reducible rfl
  try simp only [Act.put, List.setIfInBounds_toArray, List.set_cons_zero, List.set_cons_succ]
  refine wpAnyH_take (i := 3) (v := ?_) (by simp only [List.getElem?_toArray, List.getElem?_cons_succ, List.getElem?_cons_zero]; rfl) (by kernel_rfl) (by kernel_rfl) (by kernel_rfl) (by exact fun _ _ _ h => h) (Or.inl ⟨by rfl, ?_⟩) hS ?_
  rotate_left
  · intro w hSw
    go_simp
    try with_reducible rfl
  try simp only [Act.put, List.setIfInBounds_toArray, List.set_cons_zero, List.set_cons_succ]
  refine wpAnyH_ready (rs := [1]) (by kernel_rfl) (by simp) ?_
  refine AllReadyH.cons (by simp only [List.getElem?_toArray, List.getElem?_cons_succ, List.getElem?_cons_zero]; rfl) (fun K hK => ?_) AllReadyH.nil
  go_simp
  go_at_call 18
  refine (H18.out _ (d2.out.trans (D0.out.mono d2.out.size))).mono ?_
  rintro e wp ⟨ap, cp, rfl, op, bp⟩
  have Dp : Hid (Below w2.heap.size w2 wp) := Lib.hid (D0.out.trans (bp.mono D0.out.size))
  replace op := Lib.hid op
  clear bp hS
  refine hK.out _ _ (⟨R5.out wp Dp.out, R8.out wp Dp.out⟩) (fun hS => ?_)
  clear hK K
  try simp only [Act.put, List.setIfInBounds_toArray, List.set_cons_zero, List.set_cons_succ]
  refine Reg.raise (fun w' => ((convert 30 9 (.slice a5 no c5)).run Tryd.prog w' = .ok (.string (S o)) w' ∧ (convert 30 9 (.slice a8 no c8)).run Tryd.prog w' = .ok (.string (S o)) w') ∧ (convert 30 9 (.slice ap m cp)).run Tryd.prog w' = .ok (.string (S ws)) w') (fun w h => h.1) (⟨hS, CV.out wp ap ws m cp hwl.out op.out.rd.1⟩) (fun hS => ?_)
  refine wpAnyH_take (i := 2) (v := ?_) (by simp only [List.getElem?_toArray, List.getElem?_cons_succ, List.getElem?_cons_zero]; rfl) (by kernel_rfl) (by kernel_rfl) (by kernel_rfl) (by exact fun _ _ _ h => h) (Or.inl ⟨by rfl, ?_⟩) hS ?_
  rotate_left
  · intro w hSw
    go_simp
    try with_reducible rfl
  try simp only [Act.put, List.setIfInBounds_toArray, List.set_cons_zero, List.set_cons_succ]
  refine wpAnyH_ready (rs := [4]) (by kernel_rfl) (by simp) ?_
  refine AllReadyH.cons (by simp only [List.getElem?_toArray, List.getElem?_cons_succ, List.getElem?_cons_zero]; rfl) (fun K hK => ?_) AllReadyH.nil
  go_simp
  go_at_call 19
  refine (H19.out _ (d2.out.trans (Dp.out.mono d2.out.size))).mono ?_
  rintro e wr ⟨ar, cr, rfl, or', br⟩
  have Dr : Hid (Below w2.heap.size w2 wr) := Lib.hid (Dp.out.trans (br.mono Dp.out.size))
  refine hK.out _ _ (⟨⟨R5.out wr Dr.out, R8.out wr Dr.out⟩, CV.out wr ap ws m cp hwl.out (EcZ.Own.below op.out br).rd.1⟩) (fun hS => ?_)
  clear hK K
  try simp only [Act.put, List.setIfInBounds_toArray, List.set_cons_zero, List.set_cons_succ]
  refine Reg.raise (fun w' => (((convert 30 9 (.slice a5 no c5)).run Tryd.prog w' = .ok (.string (S o)) w' ∧ (convert 30 9 (.slice a8 no c8)).run Tryd.prog w' = .ok (.string (S o)) w') ∧ (convert 30 9 (.slice ap m cp)).run Tryd.prog w' = .ok (.string (S ws)) w') ∧ (convert 30 9 (.slice ar m cr)).run Tryd.prog w' = .ok (.string (S ws)) w') (fun w h => h.1) (⟨hS, CV.out wr ar ws m cr hwl.out or'.rd.1⟩) (fun hS => ?_)
  refine wpAnyH_take (i := 5) (v := ?_) (by simp only [List.getElem?_toArray, List.getElem?_cons_succ, List.getElem?_cons_zero]; rfl) (by kernel_rfl) (by kernel_rfl) (by kernel_rfl) (by exact fun _ _ _ h => h) (Or.inl ⟨by rfl, ?_⟩) hS ?_
  rotate_left
  · intro w hSw
    go_simp
    try with_reducible rfl
  try simp only [Act.put, List.setIfInBounds_toArray, List.set_cons_zero, List.set_cons_succ]
  refine wpAnyH_take (i := 6) (v := ?_) (by simp only [List.getElem?_toArray, List.getElem?_cons_succ, List.getElem?_cons_zero]; rfl) (by kernel_rfl) (by kernel_rfl) (by kernel_rfl) (by exact fun _ _ _ h => h) (Or.inl ⟨by rfl, ?_⟩) hS ?_
  rotate_left
  · intro w hSw
    go_simp
    try with_reducible rfl
  try simp only [Act.put, List.setIfInBounds_toArray, List.set_cons_zero, List.set_cons_succ]
  refine wpAnyH_take (i := 7) (v := ?_) (by simp only [List.getElem?_toArray, List.getElem?_cons_succ, List.getElem?_cons_zero]; rfl) (by kernel_rfl) (by kernel_rfl) (by kernel_rfl) (by exact fun _ _ _ h => h) (Or.inl ⟨by rfl, ?_⟩) hS ?_
  rotate_left
  · intro w hSw
    go_simp
    try with_reducible rfl
  try simp only [Act.put, List.setIfInBounds_toArray, List.set_cons_zero, List.set_cons_succ]
  refine wpAnyH_take (i := 8) (v := ?_) (by simp only [List.getElem?_toArray, List.getElem?_cons_succ, List.getElem?_cons_zero]; rfl) (by kernel_rfl) (by kernel_rfl) (by kernel_rfl) (by exact fun _ _ _ h => h) (Or.inl ⟨by rfl, ?_⟩) hS ?_
  rotate_left
  · intro w hSw
    go_simp
    try with_reducible rfl
  try simp only [Act.put, List.setIfInBounds_toArray, List.set_cons_zero, List.set_cons_succ]
  refine wpAnyH_take (i := 9) (v := ?_) (by simp only [List.getElem?_toArray, List.getElem?_cons_succ, List.getElem?_cons_zero]; rfl) (by kernel_rfl) (by kernel_rfl) (by kernel_rfl) (by exact fun _ _ _ h => h) (Or.inl ⟨by rfl, ?_⟩) hS ?_
  rotate_left
  · intro w hSw
    go_simp
    try with_reducible rfl
  try simp only [Act.put, List.setIfInBounds_toArray, List.set_cons_zero, List.set_cons_succ]
  refine wpAnyH_take (i := 10) (v := ?_) (by simp only [List.getElem?_toArray, List.getElem?_cons_succ, List.getElem?_cons_zero]; rfl) (by kernel_rfl) (by kernel_rfl) (by kernel_rfl) (by exact fun _ _ _ h => h) (Or.inl ⟨by rfl, ?_⟩) hS ?_
  rotate_left
  · intro w hSw
    go_simp
    try with_reducible rfl
  try simp only [Act.put, List.setIfInBounds_toArray, List.set_cons_zero, List.set_cons_succ]
  refine wpAnyH_take (i := 11) (v := ?_) (by simp only [List.getElem?_toArray, List.getElem?_cons_succ, List.getElem?_cons_zero]; rfl) (by kernel_rfl) (by kernel_rfl) (by kernel_rfl) (by exact fun _ _ _ h => h) (Or.inl ⟨by rfl, ?_⟩) hS ?_
  rotate_left
  · intro w hSw
    go_simp
    try with_reducible rfl
  try simp only [Act.put, List.setIfInBounds_toArray, List.set_cons_zero, List.set_cons_succ]
  refine wpAnyH_take (i := 12) (v := ?_) (by simp only [List.getElem?_toArray, List.getElem?_cons_succ, List.getElem?_cons_zero]; rfl) (by kernel_rfl) (by kernel_rfl) (by kernel_rfl) (by exact fun _ _ _ h => h) (Or.inl ⟨by rfl, ?_⟩) hS ?_
  rotate_left
  · intro w hSw
    go_simp
    try with_reducible rfl
  try simp only [Act.put, List.setIfInBounds_toArray, List.set_cons_zero, List.set_cons_succ]
  refine wpAnyH_take (i := 13) (v := ?_) (by simp only [List.getElem?_toArray, List.getElem?_cons_succ, List.getElem?_cons_zero]; rfl) (by kernel_rfl) (by kernel_rfl) (by kernel_rfl) (by exact fun _ _ _ h => h) (Or.inl ⟨by rfl, ?_⟩) hS ?_
  rotate_left
  · intro w hSw
    go_simp
    try with_reducible rfl
  try simp only [Act.put, List.setIfInBounds_toArray, List.set_cons_zero, List.set_cons_succ]
  refine wpAnyH_take (i := 14) (v := ?_) (by simp only [List.getElem?_toArray, List.getElem?_cons_succ, List.getElem?_cons_zero]; rfl) (by kernel_rfl) (by kernel_rfl) (by kernel_rfl) (by exact fun _ _ _ h => h) (Or.inl ⟨by rfl, ?_⟩) hS ?_
  rotate_left
  · intro w hSw
    go_simp
    try with_reducible rfl
  try simp only [Act.put, List.setIfInBounds_toArray, List.set_cons_zero, List.set_cons_succ]
  refine wpAnyH_take (i := 15) (v := ?_) (by simp only [List.getElem?_toArray, List.getElem?_cons_succ, List.getElem?_cons_zero]; rfl) (by kernel_rfl) (by kernel_rfl) (by kernel_rfl) (by exact fun _ _ _ h => h) (Or.inl ⟨by rfl, ?_⟩) hS ?_
  rotate_left
  · intro w hSw
    go_simp
    try with_reducible rfl
  try simp only [Act.put, List.setIfInBounds_toArray, List.set_cons_zero, List.set_cons_succ]
  refine wpAnyH_take (i := 16) (v := ?_) (by simp only [List.getElem?_toArray, List.getElem?_cons_succ, List.getElem?_cons_zero]; rfl) (by kernel_rfl) (by kernel_rfl) (by kernel_rfl) (by exact fun _ _ _ h => h) (Or.inl ⟨by rfl, ?_⟩) hS ?_
  rotate_left
  · intro w hSw
    go_simp
    try with_reducible rfl
  try simp only [Act.put, List.setIfInBounds_toArray, List.set_cons_zero, List.set_cons_succ]
  refine wpAnyH_take (i := 17) (v := ?_) (by simp only [List.getElem?_toArray, List.getElem?_cons_succ, List.getElem?_cons_zero]; rfl) (by kernel_rfl) (by kernel_rfl) (by kernel_rfl) (by exact fun _ _ _ h => h) (Or.inl ⟨by rfl, ?_⟩) hS ?_
  rotate_left
  · intro w hSw
    go_simp
    try with_reducible rfl
  try simp only [Act.put, List.setIfInBounds_toArray, List.set_cons_zero, List.set_cons_succ]
  refine wpAnyH_take (i := 18) (v := ?_) (by simp only [List.getElem?_toArray, List.getElem?_cons_succ, List.getElem?_cons_zero]; rfl) (by kernel_rfl) (by kernel_rfl) (by kernel_rfl) (by exact fun _ _ _ h => h) (Or.inl ⟨by rfl, ?_⟩) hS ?_
  rotate_left
  · intro w hSw
    go_simp
    try with_reducible rfl
  try simp only [Act.put, List.setIfInBounds_toArray, List.set_cons_zero, List.set_cons_succ]
  refine wpAnyH_take (i := 19) (v := ?_) (by simp only [List.getElem?_toArray, List.getElem?_cons_succ, List.getElem?_cons_zero]; rfl) (by kernel_rfl) (by kernel_rfl) (by kernel_rfl) (by exact fun _ _ _ h => h) (Or.inl ⟨by rfl, ?_⟩) hS ?_
  rotate_left
  · intro w hSw
    go_simp
    try with_reducible rfl
  try simp only [Act.put, List.setIfInBounds_toArray, List.set_cons_zero, List.set_cons_succ]
  refine wpAnyH_take (i := 20) (v := ?_) (by simp only [List.getElem?_toArray, List.getElem?_cons_succ, List.getElem?_cons_zero]; rfl) (by kernel_rfl) (by kernel_rfl) (by kernel_rfl) (by exact fun _ _ _ h => h) (Or.inl ⟨by rfl, ?_⟩) hS ?_
  rotate_left
  · intro w hSw
    go_simp
    try with_reducible rfl
  try simp only [Act.put, List.setIfInBounds_toArray, List.set_cons_zero, List.set_cons_succ]
  refine wpAnyH_take (i := 21) (v := ?_) (by simp only [List.getElem?_toArray, List.getElem?_cons_succ, List.getElem?_cons_zero]; rfl) (by kernel_rfl) (by kernel_rfl) (by kernel_rfl) (by exact fun _ _ _ h => h) (Or.inl ⟨by rfl, ?_⟩) hS ?_
  rotate_left
  · intro w hSw
    go_simp
    try with_reducible rfl
  try simp only [Act.put, List.setIfInBounds_toArray, List.set_cons_zero, List.set_cons_succ]
  refine wpAnyH_take (i := 22) (v := ?_) (by simp only [List.getElem?_toArray, List.getElem?_cons_succ, List.getElem?_cons_zero]; rfl) (by kernel_rfl) (by kernel_rfl) (by kernel_rfl) (by exact fun _ _ _ h => h) (Or.inl ⟨by rfl, ?_⟩) hS ?_
  rotate_left
  · intro w hSw
    go_simp
    try with_reducible rfl
  try simp only [Act.put, List.setIfInBounds_toArray, List.set_cons_zero, List.set_cons_succ]
  refine wpAnyH_take (i := 23) (v := ?_) (by simp only [List.getElem?_toArray, List.getElem?_cons_succ, List.getElem?_cons_zero]; rfl) (by kernel_rfl) (by kernel_rfl) (by kernel_rfl) (by exact fun _ _ _ h => h) (Or.inl ⟨by rfl, ?_⟩) hS ?_
  rotate_left
  · intro w hSw
    go_simp
    try with_reducible rfl
  try simp only [Act.put, List.setIfInBounds_toArray, List.set_cons_zero, List.set_cons_succ]
  refine wpAnyH_take (i := 24) (v := ?_) (by simp only [List.getElem?_toArray, List.getElem?_cons_succ, List.getElem?_cons_zero]; rfl) (by kernel_rfl) (by kernel_rfl) (by kernel_rfl) (by exact fun _ _ _ h => h) (Or.inl ⟨by rfl, ?_⟩) hS ?_
  rotate_left
  · intro w hSw
    go_simp
    try with_reducible rfl
  try simp only [Act.put, List.setIfInBounds_toArray, List.set_cons_zero, List.set_cons_succ]
  refine wpAnyH_done (by kernel_rfl) ?_ _
  go_wp2
  go_ret
  exact ⟨rfl, d2.out.trans (Dr.out.mono d2.out.size)⟩

theorem lawOut (a a2 : Option Addr) (n c n2 c2 : Nat) (w : World) (h1 : n ≤ maxLen) (h2 : n2 ≤ maxLen) (h : 600 < n ∨ 600 < n2) (hl : Laid w) :
    Calls Tryd.prog 4 #[.slice a n c, .slice a2 n2 c2] w fun e w' => e = .returned (.bool true) ∧ Below w.heap.size w w' := by
  have HK := Lib.hid (EcE.known w hl)
  clear hl
  unfold maxLen at h1 h2
  by_cases h3 : 600 < n
  · have hd1 : decide ((600 : Int) < (n : Int)) = true := by simp; omega
    go_enter Tryd.func4, Tryd.ntmps4
    go_wp2_with fail
    refine HK.out.mono ?_
    rintro e w' ⟨rfl, hww⟩
    obtain rfl := hww.symm
    go_wp2
    go_ret
    exact ⟨rfl, Below.refl _ _⟩
  · have hd1 : decide ((600 : Int) < (n : Int)) = false := by simp; omega
    have hd2 : decide ((600 : Int) < (n2 : Int)) = true := by simp; omega
    go_enter Tryd.func4, Tryd.ntmps4
    go_wp2_with fail
    refine HK.out.mono ?_
    rintro e w' ⟨rfl, hww⟩
    obtain rfl := hww.symm
    go_wp2
    go_ret
    exact ⟨rfl, Below.refl _ _⟩

theorem law (a a2 : Option Addr) (n c n2 c2 : Nat) (z z2 : List Int) (w : World) (h1 : IsRow .u8 w a n c z) (h2 : IsRow .u8 w a2 n2 c2 z2) (hl : Laid w) :
    Calls Tryd.prog 4 #[.slice a n c, .slice a2 n2 c2] w fun e w' => e = .returned (.bool true) ∧ Below w.heap.size w w' := by
  obtain ⟨l, hn, hr, hnc, ha⟩ := IsRow.bytes h1
  obtain ⟨ck, hn2, hr2, _, ha2⟩ := IsRow.bytes h2
  have hm1 := hr.1
  have hm2 := hr2.1
  have hcm : c ≤ maxLen := by
    rcases h1 with ⟨_, _, rfl, _⟩ | ⟨_, _, _, h, _⟩
    · simp [maxLen]
    · exact h
  by_cases hb : 600 < n ∨ 600 < n2
  · exact lawOut a a2 n c n2 c2 w (by omega) (by omega) hb hl
  · have ha' : ∀ x, 0 < l.length → a = some x → x.block < w.heap.size := fun x h0 => ha x (by omega)
    have ha2' : ∀ x, 0 < ck.length → a2 = some x → x.block < w.heap.size := fun x h0 => ha2 x (by omega)
    by_cases hq : n2 = cnt n
    · have p16 := mendAllW a a2 l ck n c n2 c2 w hn hr ha' hnc hcm (by omega) hn2 hr2 ha2' hq hl
      have p17 := fun w' (hb' : Below w.heap.size w w') => EcWR.mendAllR a a2 l ck n c n2 c2 w' hn (Rd.below hr hb' ha') (fun x h0 h => Nat.lt_of_lt_of_le (ha' x h0 h) hb'.size) (by omega) hn2 (Rd.below hr2 hb' ha2') (fun x h0 h => Nat.lt_of_lt_of_le (ha2' x h0 h) hb'.size) hq
      by_cases hG : EcWM.Good l ck
      · exact lawG a a2 l ck _ n c n2 c2 n (cntTo l ck (cnt n)) true w hn hr ha' hnc hcm (by omega) (by omega) (by rw [List.length_take, outTo_len]; unfold cnt; omega) hl (tell_yes hG p16) (fun w' hb' => tell_yes hG (p17 w' hb'))
      · exact lawG a a2 l ck [] n c n2 c2 0 0 false w hn hr ha' hnc hcm (by omega) (by omega) rfl hl (tell_no hG p16) (fun w' hb' => tell_no hG (p17 w' hb'))
    · exact lawG a a2 l ck [] n c n2 c2 0 0 false w hn hr ha' hnc hcm (by omega) (by omega) rfl hl (tell_fail (mendAllBad a a2 n c n2 c2 w (by omega) (by omega) hq)) (fun w' _ => tell_fail (EcWR.mendAllBadR a a2 n c n2 c2 w' (by omega) (by omega) hq))
end Go.Proofs.YtnkbopmghekjdaaDoor.EcWL
