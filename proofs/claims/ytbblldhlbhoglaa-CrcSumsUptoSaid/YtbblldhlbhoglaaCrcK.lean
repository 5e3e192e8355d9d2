/- The chapter's examples hold of the program: 'known' returns true. -/
import Derived.Test.YtbblldhlbhoglaaCrcA
import Derived.Deep.OwnRows
import Derived.Laws.OwnMore
import Derived.Deep.Draws
import Derived.Laws.Rows
namespace Go.Proofs.Ytbblldhlbhoglaa.CrcK
open Go.ChangeShapes Go.WideShapes Go.ChangeAt Go.RowKit
open Go.ChangeMaps (open_string shut_string)
open CrcM CrcA
set_option linter.unusedVariables false
set_option maxHeartbeats 400000

theorem info5 : (Try.prog.info? 5).map (fun i => (i.zero, i.size, i.bytes)) = some (some (.int .u8 0), 1, 1) := by kernel_rfl

/-- A block that is known whole. -/
def Whole (w : World) (g : Nat) (cs : Array Value) : Prop := w.heap[g]? = some (.cells cs 5 (0, 0))
theorem Whole.lt {w g cs} (h : Whole w g cs) : g < w.heap.size := by
  rcases Nat.lt_or_ge g w.heap.size with hlt | hge
  · exact hlt
  · unfold Whole at h; rw [Array.getElem?_eq_none hge] at h; cases h
theorem Whole.cell {w g cs} (h : Whole w g cs) (i : Nat) : w.cell? ⟨g, i, none⟩ = cs[i]? := cell_of_row w g i cs 5 (0, 0) h
theorem Whole.free {w g cs} (h : Whole w g cs) (i : Nat) : w.frozen? ⟨g, i, none⟩ = false := by
  unfold Whole at h; simp [World.frozen?, h]
theorem Whole.put {w g cs} (h : Whole w g cs) (i : Nat) (u : Value) : Whole (w.setCell ⟨g, i, none⟩ u) g (cs.setIfInBounds i u) := by
  unfold Whole at h ⊢
  simp [World.setCell, Array.getElem?_modify, h]
theorem Whole.made (w : World) (cs : Array Value) : Whole (w.alloc (.cells cs 5)) w.heap.size cs := heap_alloc_new w _
theorem Whole.below {w w' g cs B} (h : Whole w g cs) (hb : Below B w w') (hg : g < B) : Whole w' g cs := (hb.block g hg).trans h

def fill (k : Nat) : Array Value := (List.replicate k (Value.int .u8 255) ++ List.replicate (512 - k) (Value.int .u8 0)).toArray
theorem fill0 : madeCells #[Value.int .u8 0] 512 = fill 0 := by
  have h := toList_madeCells_one (Value.int .u8 0) 512
  rw [← Array.toList_inj, h]
  unfold fill
  rw [List.replicate_zero, List.nil_append]
theorem fill_at (k : Nat) (h : k < 512) : (fill k)[k]? = some (.int .u8 0) := by
  unfold fill
  rw [List.getElem?_toArray, List.getElem?_append_right (by rw [List.length_replicate]; omega), List.length_replicate, Nat.sub_self, List.getElem?_replicate, if_pos (by omega)]
theorem fill_put (k : Nat) (h : k < 512) : (fill k).setIfInBounds k (.int .u8 255) = fill (k + 1) := by
  unfold fill
  rw [List.setIfInBounds_toArray]
  congr 1
  have e : 512 - k = (512 - (k + 1)) + 1 := by omega
  rw [List.set_append_right _ _ (by rw [List.length_replicate]; omega), e, List.replicate_succ, List.length_replicate, Nat.sub_self, List.set_cons_zero, List.replicate_succ']
  rw [List.append_assoc]; rfl
theorem fill_all (i : Nat) (h : i < 512) : (fill 512)[i]? = some (.int .u8 255) := by
  unfold fill
  rw [List.getElem?_toArray, List.getElem?_append_left (by rw [List.length_replicate]; omega), List.getElem?_replicate, if_pos (by omega)]
attribute [local irreducible] fill

def ones : List B8 := List.replicate 512 255
theorem ones_len : ones.length = 512 := by unfold ones; rw [List.length_replicate]
theorem ones_at (i : Nat) (h : i < 512) : ones.getD i 0 = 255 := by
  unfold ones
  rw [List.getD_eq_getElem?_getD, List.getElem?_replicate, if_pos h]; rfl
attribute [local irreducible] ones

theorem Rd.of_whole {w : World} {g : Nat} {cs : Array Value} {l : List B8} (h : Whole w g cs) (hl : l.length ≤ maxLen)
    (hc : ∀ i, i < l.length → cs[i]? = some (.int .u8 (l.getD i 0).toNat)) : Rd w (some ⟨g, 0, none⟩) l :=
  ⟨hl, fun i hi => ⟨g, 0, rfl, by rw [Nat.zero_add, h.cell i, hc i hi]⟩⟩

theorem five (w : World) (x : B8) (n : Int) (g : Nat) (hg : g = w.heap.size) (hn : n = (x.toNat : Int)) : Rd (w.alloc (.cells #[.int .u8 n, .int .u8 0, .int .u8 0, .int .u8 0, .int .u8 0] 5)) (some ⟨g, 0, none⟩) [x, 0, 0, 0, 0] := by
  subst hn hg
  refine Rd.of_whole (Whole.made w _) (by simp [maxLen]) fun i hi => ?_
  have hi5 : i < 5 := hi
  match i, hi5 with
  | 0, _ => rfl
  | 1, _ => rfl
  | 2, _ => rfl
  | 3, _ => rfl
  | 4, _ => rfl

theorem known_tail (w wr : World) (hw : Whole wr w.heap.size (fill 512)) (hb : Below w.heap.size w wr) : Rd wr (some ⟨w.heap.size, 0, none⟩) ones := by
  refine Rd.of_whole hw (by rw [ones_len]; simp [maxLen]) fun i hi => ?_
  rw [ones_len] at hi
  rw [fill_all i hi, ones_at i hi]; rfl

theorem seven' (a : Option Addr) (l : List B8) (n c : Nat) (w : World) (hn : l.length = n) (hr : Rd w a l) :
    Calls Try.prog 12 #[.slice a n c] w fun e w' => e = .returned (.int .u8 (sum7 l).toNat) ∧ w = w' := by
  subst hn; exact seven a l c w hr
theorem sixteen' (a : Option Addr) (l : List B8) (n c : Nat) (w : World) (hn : l.length = n) (hr : Rd w a l) :
    Calls Try.prog 13 #[.slice a n c] w fun e w' => e = .returned (.int .u16 (sum16 l).toNat) ∧ w = w' := by
  subst hn; exact sixteen a l c w hr
theorem Rd.keep {w w' : World} {a : Option Addr} {l : List B8} {B : Nat} (h : Rd w a l) (hb : Below B w w') (ha : ∀ x, a = some x → x.block < B) : Rd w' a l :=
  ⟨h.1, fun i hi => by
    obtain ⟨b, off, e, hc⟩ := h.2 i hi
    exact ⟨b, off, e, (hb.cell (p := ⟨b, off + i, none⟩) (ha ⟨b, off, none⟩ e)).trans hc⟩⟩

theorem seven40 (a : Option Addr) (w : World) (hr : Rd w a [0x40, 0, 0, 0, 0]) :
    Calls Try.prog 12 #[.slice a 5 5] w fun e w' => e = .returned (.int .u8 74) ∧ w = w' :=
  (seven' a [0x40, 0, 0, 0, 0] 5 5 w rfl hr).mono fun e w' h => ⟨h.1.trans (ret_int (by rw [show sum7 [0x40, 0, 0, 0, 0] = 74 from ex1]; rfl)), h.2⟩
theorem seven51 (a : Option Addr) (w : World) (hr : Rd w a [0x51, 0, 0, 0, 0]) :
    Calls Try.prog 12 #[.slice a 5 5] w fun e w' => e = .returned (.int .u8 42) ∧ w = w' :=
  (seven' a [0x51, 0, 0, 0, 0] 5 5 w rfl hr).mono fun e w' h => ⟨h.1.trans (ret_int (by rw [show sum7 [0x51, 0, 0, 0, 0] = 42 from ex2]; rfl)), h.2⟩
theorem sixteenOnes (a : Option Addr) (w : World) (hr : Rd w a ones) :
    Calls Try.prog 13 #[.slice a 512 512] w fun e w' => e = .returned (.int .u16 32673) ∧ w = w' :=
  (sixteen' a ones 512 512 w ones_len hr).mono fun e w' h => ⟨h.1.trans (ret_int (by rw [show sum16 ones = 32673 from (by unfold ones; exact ex3)]; rfl)), h.2⟩

set_option maxRecDepth 100000 in
theorem known_any (w : World) : Calls Try.prog 8 #[] w fun e w' => e = .returned (.bool true) ∧ Below w.heap.size w w' := by
  have hmk : ∀ w : World, (Instr.makeSlice 24 (.int .i64 512) (.int .i64 512)).run Try.prog w = .ok (.slice (some ⟨w.heap.size, 0, none⟩) 512 512) (w.alloc (.cells (fill 0) 5)) := fun w => by
    rw [← fill0]
    exact run_make_row' 24 5 (.int .u8 0) 1 Try.underlying24 info5 rfl .i64 .i64 512 (by omega) (by omega) w
  go_enter Try.func8, Try.ntmps8
  go_wp2
  go_loopw [2] (fun i wr => ∃ k : Nat, k ≤ 512 ∧ i = .int .i64 k ∧ Whole wr w.heap.size (fill k) ∧ Below w.heap.size w wr) (fun i _ => 512 - (intOf i).toNat)
  case atStart => exact ⟨0, by omega, rfl, Whole.made w _, (Below.refl _ _).alloc (Nat.le_refl _) _⟩
  case round =>
    obtain ⟨k, hk, rfl, hw, hb⟩ := hrel
    by_cases hlt : k < 512
    · have hc := (hw.cell k).trans (fill_at k hlt)
      have hf := hw.free k
      have hp := hw.put k (.int .u8 255)
      rw [fill_put k hlt] at hp
      have HP := Lib.hid hp
      have HW := Lib.hid hw
      clear hw hp
      go_wp2
      go_roundw
      case rel => exact ⟨k + 1, by omega, by go_num, HP.out, hb.setCell (Nat.le_refl _) _⟩
      case measure => simp [intOf]; omega
    · have hk' : k = 512 := by omega
      rw [hk'] at hw ⊢
      clear hk' hk hlt k
      have hr := known_tail w wr hw hb
      have hsz := hw.lt
      clear hw
      have H5 := Lib.hid five
      have HR := Lib.hid hr
      clear hr
      go_wp2_with fail
      refine Calls.mono (seven40 _ _ ?c1) ?c2
      case c1 => exact H5.out wr 0x40 64 _ rfl rfl
      case c2 =>
      rintro e w' ⟨rfl, rfl⟩
      go_wp2_with fail
      refine Calls.mono (seven51 _ _ ?c3) ?c4
      case c3 => exact H5.out _ 0x51 81 _ (by simp) rfl
      case c4 =>
      rintro e w' ⟨rfl, rfl⟩
      go_wp2_with fail
      refine Calls.mono (sixteenOnes _ _ ?c5) ?c6
      case c5 => exact CrcK.Rd.keep HR.out (((Below.refl wr.heap.size wr).alloc (Nat.le_refl _) _).alloc (by simp) _) (by rintro x h; injection h with h; subst h; exact hsz)
      case c6 =>
      rintro e w' ⟨rfl, rfl⟩
      go_wp2
      go_ret
      exact ⟨rfl, (hb.alloc (by omega) _).alloc (by simp; omega) _⟩
end Go.Proofs.Ytbblldhlbhoglaa.CrcK
