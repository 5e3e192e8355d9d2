/- The chapter's example of pages; the law of what stands behind the data. -/
import Derived.Test.YtjnpfnpeekpleaaDoorPgC
import Derived.Lib.SlBytesConst
namespace Go.Proofs.YtjnpfnpeekpleaaDoor.PgD
open Go.ChangeShapes Go.WideShapes Go.ChangeAt Go.RowKit
open EcM EcA EcB EcC EcT EcX EcY EcZ EcWM EcWP EcWR EcFM PgM PgA PgB PgC
set_option linter.unusedVariables false
set_option maxHeartbeats 2000000

theorem own_lt {w : World} {base n c : Nat} {a : Option Addr} {xs : List B8} (h : Own w base (.slice a n c) xs) : ∀ y, 0 < xs.length → a = some y → y.block < w.heap.size := fun y h0 e => by
  have hn := (Own.rd h).2.1
  obtain ⟨g, hg, _, h3⟩ := own_at h (by omega)
  rw [hg] at e
  injection e with e
  subst e
  exact h3

set_option maxRecDepth 100000 in
theorem known (w : World) (hl : Laid w) : Calls Tryd.prog 7 #[] w fun e w' => e = .returned (.bool true) ∧ Below w.heap.size w w' := by
  obtain ⟨l3, hl3⟩ : ∃ l3 : List B8, l3 = [97, 98, 99] := ⟨_, rfl⟩
  have W1 : Hid (Below w.heap.size w (w.alloc (.cells #[.int .u8 97, .int .u8 98, .int .u8 99] 5 (3, 4)))) := Lib.hid ((Below.refl _ _).alloc (Nat.le_refl _) _)
  have HL : Hid (Calls Tryd.prog 8 #[.slice (some ⟨w.heap.size, 0, none⟩) 3 3, .int .i64 1] (w.alloc (.cells #[.int .u8 97, .int .u8 98, .int .u8 99] 5 (3, 4))) fun e w' => ∃ a' c', e = .returned (.tuple #[.slice a' 73 c', .int .i64 0]) ∧ Own w' ((w.alloc (.cells #[.int .u8 97, .int .u8 98, .int .u8 99] 5 (3, 4))).heap.size + 1) (.slice a' 73 c') (layK (padT l3 64) 1) ∧ Below (w.alloc (.cells #[.int .u8 97, .int .u8 98, .int .u8 99] 5 (3, 4))).heap.size (w.alloc (.cells #[.int .u8 97, .int .u8 98, .int .u8 99] 5 (3, 4))) w') := Lib.hid (by
    refine layW _ l3 3 3 1 _ (by rw [hl3]; rfl) ?_ (fun x _ e => by injection e with e; subst e; simp) (by omega) (by omega) (by omega) (hl.below ((Below.refl _ _).alloc (Nat.le_refl _) _))
    subst hl3
    have hh : (w.alloc (.cells #[.int .u8 97, .int .u8 98, .int .u8 99] 5 (3, 4))).heap[w.heap.size]? = some (.cells #[.int .u8 97, .int .u8 98, .int .u8 99] 5 (3, 4)) := heap_alloc_new w _
    refine ⟨by simp [maxLen], fun i hi => ⟨w.heap.size, 0, rfl, ?_⟩⟩
    have hi5 : i < 3 := hi
    rw [Nat.zero_add, cell_of_row _ w.heap.size i _ 5 (3, 4) hh]
    match i, hi5 with
    | 0, _ => rfl
    | 1, _ => rfl
    | 2, _ => rfl)
  have HLd := Lib.hid hl
  have hlen3 : Hid (l3.length = 3) := Lib.hid (by rw [hl3]; rfl)
  have hot : Hid ((padT l3 64).take 3 = l3) := Lib.hid (by rw [hl3]; rfl)
  have hm72 : Hid ((layK (padT l3 64) 1).getD 72 0 = 0) := Lib.hid ((lay_parts (padT l3 64) 1 0 (padT_len l3 64 (by rw [hl3]; decide)) (by omega)).2.2)
  have hstr : Hid ((strB l3).toList == [97, 98, 99]) := Lib.hid (by rw [hl3]; decide +kernel)
  have hC := Lib.hid (chunksW 65 (by omega))
  have hch : chunks 65 = 2 := by decide
  rw [hch] at hC
  clear hl hl3 hch
  have hcs := fun (w : World) (C : Array Value) (n c : Nat) => Lib.run_convert_bytes_const (P := Tryd.prog) w 22 5 C n c Tryd.underlying22 Tryd.underlying5
  go_enter Tryd.func7, Tryd.ntmps7
  go_wp2_with fail
  refine HL.out.mono ?_
  rintro e w1 ⟨a', c', rfl, HO, b1⟩
  have B1 := Lib.hid (W1.out.trans (b1.mono W1.out.size))
  have hrd := Own.rd HO
  obtain ⟨g, rfl, _, hg⟩ := own_at HO (by omega)
  have HRD := Lib.hid (readW (some ⟨g, 0, none⟩) (layK (padT l3 64) 1) 73 c' 3 w1 hrd.2.1 hrd.1 (own_lt HO) hrd.2.2.1 hrd.2.2.2 (HLd.out.below B1.out))
  have c72 : Hid (∀ w', Below w1.heap.size w1 w' → w'.cell? ⟨g, 72, none⟩ = some (.int .u8 0)) := Lib.hid fun w' hb => by
    have := rd_at hrd.1 72 (by rw [hrd.2.1]; omega)
    rw [hm72.out, Nat.zero_add] at this
    exact (hb.cell (p := ⟨g, 72, none⟩) hg).trans this
  clear b1 HL HO hrd
  go_wp2_with fail
  refine HRD.out.mono ?_
  rintro e w2 ⟨⟨o, cn, s, a3, c3, rfl, hT, hR, hlt⟩, b2⟩
  obtain ⟨rfl, rfl, rfl⟩ := lay_told l3 1 (by rw [hlen3.out]; omega) (by omega) (by omega) 3 (by omega) (by omega) hT
  have e3 : (padT l3 (64 * 1)).take (Int.toNat 3) = l3 := hot.out
  rw [e3] at hR hlt ⊢
  rw [hlen3.out]
  have B2 := Lib.hid (B1.out.trans (b2.mono B1.out.size))
  have cc := c72.out w2 b2
  have hcv := conv w2 a3 l3 3 c3 hlen3.out hR
  have hst := hstr.out
  generalize strB l3 = S at *
  clear hT hR hlt b2 HRD e3
  go_wp2_with (go_at_call 16; refine (hC.out _).mono ?_; rintro e w' ⟨rfl, hw⟩; obtain rfl := hw.symm)
  go_ret
  exact ⟨rfl, B2.out⟩
end Go.Proofs.YtjnpfnpeekpleaaDoor.PgD
