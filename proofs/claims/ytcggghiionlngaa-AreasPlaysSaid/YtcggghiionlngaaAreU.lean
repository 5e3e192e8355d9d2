/- Areas: a setting's bytes, how they are laid. -/
import Derived.Test.YtcggghiionlngaaAreT
import Derived.Test.YtcggghiionlngaaAreQ0
namespace Go.Proofs.Ytcggghiionlngaa.AreU
open Go.ChangeShapes Go.WideShapes Go.ChangeAt Go.RowKit
open Mem AreA AreL AreT AreK
set_option linter.unusedVariables false
set_option maxHeartbeats 2000000

def bt (n : Int) : Y8 := BitVec.ofNat 8 (n % 256).toNat
theorem bt_int (n : Int) : ((bt n).toNat : Int) = n % 256 := by
  unfold bt; rw [BitVec.toNat_ofNat]; omega
def four (n : Int) : List Y8 := [bt n, bt (n / 256), bt (n / 65536), bt (n / 16777216)]
def nums (s : Stt) : List Int := [s.z0, s.z1, s.z2, s.z3]
def encTo (s : Stt) (k : Nat) : List Y8 := ((nums s).take k).flatMap four
def bd (d : Bool) : Y8 := if d then 1 else 0
/-- A setting's bytes. -/
def enc (s : Stt) : List Y8 := encTo s 4 ++ [bt s.e, bd s.d]
theorem four_of {k : Nat} (h : k < 4) : k = 0 ∨ k = 1 ∨ k = 2 ∨ k = 3 := by omega
theorem encTo_length (s : Stt) (k : Nat) (h : k ≤ 4) : (encTo s k).length = 4 * k := by
  obtain rfl | rfl | rfl | rfl | rfl : k = 0 ∨ k = 1 ∨ k = 2 ∨ k = 3 ∨ k = 4 := by omega
  all_goals rfl
theorem encTo_step (s : Stt) (k : Nat) (h : k < 4) : encTo s k ++ four ((nums s).getD k 0) = encTo s (k + 1) := by
  obtain rfl | rfl | rfl | rfl := four_of h
  all_goals rfl
theorem ix24 (s : Stt) (k : Nat) (h : k < 4) (w : World) : (Instr.index 24 (.agg #[.int .i64 s.z0, .int .i64 s.z1, .int .i64 s.z2, .int .i64 s.z3]) (.int .i64 (k : Int))).run Try.prog w = .ok (.int .i64 ((nums s).getD k 0)) w := by
  obtain rfl | rfl | rfl | rfl := four_of h
  all_goals kernel_rfl
theorem cell4 (s : Stt) (k : Nat) (h : k < 4) : (sc s)[k]? = some (.int .i64 ((nums s).getD k 0)) := by
  obtain rfl | rfl | rfl | rfl := four_of h
  all_goals rfl
theorem rd4 (w : World) (x y z u : Y8) (n0 n1 n2 n3 : Int) (g : Nat) (hg : g = w.heap.size) (h0 : n0 = (x.toNat : Int)) (h1 : n1 = (y.toNat : Int)) (h2 : n2 = (z.toNat : Int)) (h3 : n3 = (u.toNat : Int)) :
    Rd (w.alloc (.cells #[.int .u8 n0, .int .u8 n1, .int .u8 n2, .int .u8 n3] 5)) (some ⟨g, 0, none⟩) [x, y, z, u] := by
  subst h0 h1 h2 h3 hg
  refine Rd.of_whole (Whole.made w _) (by simp [maxLen]) fun i hi => ?_
  have hi5 : i < 4 := hi
  match i, hi5 with
  | 0, _ => rfl
  | 1, _ => rfl
  | 2, _ => rfl
  | 3, _ => rfl
theorem own_below {w w' : World} {base : Nat} {v : Value} {xs : List Y8} (h : Own w base v xs) (hb : Below w.heap.size w w') : Own w' base v xs :=
  World.ownsRow.kept (row := none) h ⟨hb.os, hb.tape, hb.output, hb.size, fun k hk _ => hb.block k hk⟩ (by cases v.ownBlock <;> simp)
theorem own_lt {w : World} {base n c : Nat} {a : Option Addr} {xs : List Y8} (h : Own w base (.slice a n c) xs) : ∀ y, a = some y → y.block < w.heap.size := fun y e => by
  subst e
  exact (World.ownsRow.lt h y.block rfl).2
theorem own_mono {w : World} {base base' : Nat} {v : Value} {xs : List Y8} (h : Own w base v xs) (hb : base' ≤ base) : Own w base' v xs :=
  ⟨h.1, h.2.imp id fun ⟨g, cap, cur, h1, h2, h3⟩ => ⟨g, cap, cur, h1, Nat.le_trans hb h2, h3⟩⟩
theorem b0 (v : Int) : IntKind.u8.wrap v = ((bt v).toNat : Int) := by rw [bt_int, IntKind.wrap_u8']
theorem bR (v : Int) : IntKind.u8.wrap (v % 4294967296) = ((bt v).toNat : Int) := by rw [bt_int, IntKind.wrap_u8']; omega
theorem room (w : World) (base n : Nat) (hb : base ≤ w.heap.size) (hn : n ≤ maxLen) : Own (w.alloc (.cells (madeCells #[.int .u8 0] n) 5)) base (.slice (some ⟨w.heap.size, 0, none⟩) 0 n) [] := by
  have h := World.ownsRow_made (e := 5) (size := 1) w (madeCells #[.int .u8 0] n) n hb hn (by rw [size_madeCells]; omega)
  unfold Own
  simpa [vals] using h
theorem run_room (n : Nat) (hn : n ≤ 1000000) (w : World) : (Instr.makeSlice 46 (.int .i64 0) (.int .i64 ((n : Int) + 3))).run Try.prog w = .ok (.slice (some ⟨w.heap.size, 0, none⟩) 0 (n + 3)) (w.alloc (.cells (madeCells #[.int .u8 0] (n + 3)) 5)) := by
  obtain ⟨i, hi, hz, hs, hb⟩ := i5
  have h := run_make (P := Try.prog) w 46 5 i (.int .u8 0) Try.underlying46 hi hz .i64 .i64 0 ((n : Int) + 3) (by omega) (by omega) (by rw [hb]; omega) (by omega)
  have e : ((n : Int) + 3).toNat = n + 3 := by omega
  rw [e] at h
  simpa [hs, Value.cells] using h
theorem run_18 (w : World) : (Instr.makeSlice 46 (.int .i64 0) (.int .i64 18)).run Try.prog w = .ok (.slice (some ⟨w.heap.size, 0, none⟩) 0 18) (w.alloc (.cells (madeCells #[.int .u8 0] 18) 5)) := run_room 15 (by omega) w

theorem enc_set (s : Stt) : (encTo s 4 ++ [bt s.e, 0]).set 17 1 = encTo s 4 ++ [bt s.e, 1] := rfl

set_option maxRecDepth 100000 in
theorem encW (s : Stt) (hF : AreP.Fine s) (w : World) : Calls Try.prog 17 #[sv s] w fun e w' => ∃ a' c', e = .returned (.slice a' 18 c') ∧ Own w' w.heap.size (.slice a' 18 c') (enc s) ∧ Below w.heap.size w w' := by
  have he : 0 ≤ s.e ∧ s.e ≤ 255 := by simpa [Lit.wf, IntKind.min, IntKind.max, IntKind.signed, IntKind.bits] using hF.2.2.2.2
  have heb : s.e = ((bt s.e).toNat : Int) := by rw [bt_int]; omega
  obtain ⟨w1, hw1⟩ : ∃ w1, w1 = w.alloc (.cells (sc s) 26) := ⟨_, rfl⟩
  have s1 : w1.heap.size = w.heap.size + 1 := by rw [hw1]; simp
  have e1 : Mem.Blk w1 w.heap.size 26 (sc s) := by rw [hw1]; exact Mem.Blk.new w 26 _
  have D1 : Hid (Below w.heap.size w w1) := Lib.hid (by rw [hw1]; exact (Below.refl _ _).alloc (Nat.le_refl _) _)
  obtain ⟨w2, hw2⟩ : ∃ w2, w2 = w1.alloc (.cells (madeCells #[.int .u8 0] 18) 5) := ⟨_, rfl⟩
  have hmk := run_18
  have e2 : Mem.Blk w2 w.heap.size 26 (sc s) := by rw [hw2]; exact e1.alloc _
  have o2 : Hid (Own w2 w1.heap.size (.slice (some ⟨w.heap.size + 1, 0, none⟩) 0 18) []) := Lib.hid (by rw [hw2, ← s1]; exact room w1 w1.heap.size 18 (Nat.le_refl _) (by simp [maxLen]))
  have B2 : Hid (Below w1.heap.size w1 w2) := Lib.hid (by rw [hw2]; exact (Below.refl _ _).alloc (Nat.le_refl _) _)
  have HB : Hid (∀ wr, Below w1.heap.size w1 wr → Mem.Blk wr w.heap.size 26 (sc s)) := Lib.hid fun wr hb => e1.below hb e1.lt
  have HX := Lib.hid (fun k h w => ix24 s k h w)
  have HS := Lib.hid (fun k h => encTo_step s k h)
  have HL := Lib.hid (fun k h => encTo_length s k h)
  have HE0 : Hid (encTo s 4 ++ [bt s.e, 0] = if s.d = true then encTo s 4 ++ [bt s.e, 0] else enc s) := Lib.hid (by
    unfold enc
    cases s.d with
    | true => rfl
    | false => rfl)
  have HE1 : Hid (s.d = true → (encTo s 4 ++ [bt s.e, 0]).set 17 1 = enc s) := Lib.hid (fun h => by rw [enc_set]; unfold enc; rw [h]; rfl)
  have HE2 : Hid (s.d = false → encTo s 4 ++ [bt s.e, 0] = enc s) := Lib.hid (fun h => by unfold enc; rw [h]; rfl)
  have HLE : Hid ((enc s).length = 18) := Lib.hid rfl
  have HL2 : Hid ((encTo s 4 ++ [bt s.e, 0]).length = 18) := Lib.hid rfl
  have HG : Hid ((encTo s 4 ++ [bt s.e, 0]).getD 17 0 = 0) := Lib.hid rfl
  clear HE0
  generalize hnv : (nums s).getD = nv at HX HS
  replace hnv := Lib.hid hnv
  have hz : encTo s 0 = [] := rfl
  generalize encTo s = en at *
  generalize enc s = EN at *
  obtain ⟨z0, z1, z2, z3, e, d⟩ := s
  show Calls Try.prog 17 #[.agg #[.int .i64 z0, .int .i64 z1, .int .i64 z2, .int .i64 z3, .int .u8 e, .bool d]] w _
  unfold sc at HB hw1 e1 e2
  simp only at HX HB hw1 e1 e2 HE1 HE2 HL2 HG heb he
  obtain ⟨i0, i1, i2, i3, i4, i5⟩ := six e2
  replace hz := Lib.hid hz
  replace s1 := Lib.hid s1
  replace heb := Lib.hid heb
  clear e1 e2
  go_enter Try.func17, Try.ntmps17
  go_wp2_with fail
  rw [← hw1]
  replace hw1 := Lib.hid hw1
  rw [← hw2]
  replace hw2 := Lib.hid hw2
  clear hmk i0 i1 i2 i3 i4 i5
  go_loopw [3, 5, 9] (fun sl _ i wr => ∃ (k : Nat) (a : Option Addr) (cp : Nat), k ≤ 4 ∧ i = .int .i64 (k : Int) ∧ sl = .slice a (4 * k) cp ∧ Own wr w1.heap.size (.slice a (4 * k) cp) (en k) ∧ Below w1.heap.size w1 wr) (fun _ _ i _ => 4 - (intOf i).toNat)
  case atStart => exact ⟨0, _, _, by omega, rfl, rfl, by rw [hz.out]; exact o2.out, B2.out⟩
  case round =>
    clear o2 B2
    obtain ⟨k, a, cp, hk, rfl, rfl, ho, hb⟩ := hrel
    replace ho := Lib.hid ho
    by_cases hlt : k < 4
    · have hx := HX.out k hlt
      have hst := Lib.hid (HS.out k hlt)
      have hln := Lib.hid (HL.out (k + 1) (by omega))
      generalize nv k 0 = v at hx hst
      have hlt' : (k : Int) < 4 := by omega
      go_wp2_with (first
        | (at_builtin
           refine wpList_app rfl (.tmp 12) (.tmp 24) rfl w1.heap.size (.slice a (4 * k) cp) (en k) rfl (ho.out.alloc _) _ (four v) 4 _ rfl rfl (rd4 wr _ _ _ _ _ _ _ _ _ rfl (by rw [bt_int]) (by rw [bt_int]) (by rw [bt_int]) (by rw [bt_int])) (en (k + 1)) (4 * (k + 1)) hst.out hln.out (by omega) (by have := hb.size; simp; omega) ?_
           intro a1 c1 w4 hv1 hr1 hg1 hn1
           clear hr1 hn1
           have hb2 := (hb.alloc hb.size _).grown hg1 (by have := hb.size; simp; omega) (ho.out.blocks · · |>.1)
           have HV1 := Lib.hid hv1
           clear hv1 hg1))
      go_roundw
      case rel => exact ⟨k + 1, a1, c1, by omega, by go_num, rfl, HV1.out, hb2⟩
      case measure => simp [intOf]; omega
    · obtain rfl : k = 4 := by omega
      have hlt' : ¬ ((4 : Nat) : Int) < 4 := by omega
      have hB := HB.out wr hb
      have c4 := hB.cell 4
      have c5 := fun o => (hB.alloc o).cell 5
      simp only [List.getElem?_toArray, List.getElem?_cons_succ, List.getElem?_cons_zero] at c4 c5
      replace hB := Lib.hid hB
      cases d with
      | false =>
        have hE := HE2.out rfl
        clear HE1
        go_wp2_with (first
          | (at_builtin
             refine wpList_app rfl (.tmp 27) (.tmp 30) rfl w1.heap.size (.slice a (4 * 4) cp) (en 4) rfl (ho.out.alloc _) _ [bt e, 0] 2 _ rfl rfl (two wr _ _ _ _ _ rfl heb.out rfl) (en 4 ++ [bt e, 0]) 18 rfl HL2.out (by omega) (by have := hb.size; simp; omega) ?_
             intro a1 c1 w4 hv1 hr1 hg1 hn1
             clear hr1 hn1
             have hb2 := Lib.hid ((hb.alloc hb.size _).grown hg1 (by have := hb.size; simp; omega) (ho.out.blocks · · |>.1))
             have HV1 := Lib.hid hv1
             have c5' := (HB.out w4 hb2.out).cell 5
             simp only [List.getElem?_toArray, List.getElem?_cons_succ, List.getElem?_cons_zero] at c5'
             clear hv1 hg1 c5))
        go_ret
        exact ⟨a1, c1, rfl, own_mono (by rw [← hE]; exact HV1.out) (by have := s1.out; omega), D1.out.trans (hb2.out.mono (by have := s1.out; omega))⟩
      | true =>
        go_wp2_with (first
          | (at_builtin
             refine wpList_app rfl (.tmp 27) (.tmp 30) rfl w1.heap.size (.slice a (4 * 4) cp) (en 4) rfl (ho.out.alloc _) _ [bt e, 0] 2 _ rfl rfl (two wr _ _ _ _ _ rfl heb.out rfl) (en 4 ++ [bt e, 0]) 18 rfl HL2.out (by omega) (by have := hb.size; simp; omega) ?_
             intro a1 c1 w4 hv1 hr1 hg1 hn1
             clear hr1 hn1
             have hb2 := Lib.hid ((hb.alloc hb.size _).grown hg1 (by have := hb.size; simp; omega) (ho.out.blocks · · |>.1))
             have HV1 := Lib.hid hv1
             have c5' := (HB.out w4 hb2.out).cell 5
             simp only [List.getElem?_toArray, List.getElem?_cons_succ, List.getElem?_cons_zero] at c5'
             clear hv1 hg1 c5
             have hE := Lib.hid (HE1.out rfl)
             obtain ⟨a', c', hsh, hRd, _, hbl, hsp, _⟩ := HV1.out.shape
             injection hsh with f1 f2 f3
             subst f1 f3
             obtain ⟨g, rfl⟩ : ∃ g, a1 = some ⟨g, 0, none⟩ := by
               cases a1 with
               | none =>
                 exfalso
                 obtain ⟨_, h⟩ := hRd
                 obtain ⟨b, o, h1, _⟩ := h 0 (by rw [HL2.out]; omega)
                 cases h1
               | some x => exact ⟨x.block, by rw [hsp x rfl]⟩
             have hgb := hbl _ rfl
             have hcell : w4.cell? ⟨g, 17, none⟩ = some (.int .u8 0) := by
               obtain ⟨_, h⟩ := hRd
               obtain ⟨b, o, h1, h2⟩ := h 17 (by rw [HL2.out]; omega)
               injection h1 with h1
               injection h1 with h1 h3
               subst h1 h3
               rw [HG.out] at h2
               simpa using h2
             have hfr := HV1.out.free 17
             have HV2 : Hid (Own (w4.setCell ⟨g, 17, none⟩ (.int .u8 1)) w1.heap.size (.slice (some ⟨g, 0, none⟩) 18 c1) EN) := Lib.hid (by rw [← hE.out]; exact HV1.out.put 17 (by rw [HL2.out]; omega) 1)
             have hb3 : Hid (Below w1.heap.size w1 (w4.setCell ⟨g, 17, none⟩ (.int .u8 1))) := Lib.hid (hb2.out.setCell (p := ⟨g, 17, none⟩) hgb.1 _)
             clear hRd hbl hsp f2 hgb))
        go_ret
        exact ⟨_, c1, rfl, own_mono HV2.out (by have := s1.out; omega), D1.out.trans (hb3.out.mono (by have := s1.out; omega))⟩
end Go.Proofs.Ytcggghiionlngaa.AreU
