/- EccWords: for any word, any check and any number of a bit, the program tells the check, the syndrome, the mending and the column that the document's own reckoning tells. Condition: the two tables of package ecc are laid as the program's text lays them (the card ties them to it). -/
import Derived.Test.YtnkbopmghekjdaaDoorEcV
import Derived.Test.YtnkbopmghekjdaaDoorCards
import Derived.Test.YtnkbopmghekjdaaDoorTie
import Derived.ProofKit
import Derived.LaidMore
import Derived.LaidLaws
import Derived.OpenShut
import Derived.Stop.Joined
import Derived.SevenTiedAt
namespace Go.Proofs.YtnkbopmghekjdaaDoor.EccWords
open Go.ChangeShapes Go.WideShapes Go.ChangeAt Go.WideMaps Go.WideElems Go.RowKit
open EcM EcA EcB EcC
set_option linter.unusedVariables false
set_option maxHeartbeats 1000000

theorem own : ownKnob Tryd.prog.godebug = none := by kernel_rfl
theorem gCol : Tryd.prog.globalNamed "locket/ecc.columns" = some 0 := by kernel_rfl
theorem gMsk : Tryd.prog.globalNamed "locket/ecc.masks" = some 1 := by kernel_rfl
theorem tCol : (Tryd.prog.globals[0]?).map (·.type) = some 44 := by kernel_rfl
theorem tMsk : (Tryd.prog.globals[1]?).map (·.type) = some 47 := by kernel_rfl
theorem door_met (os : Os) (args : Array Value) : laidMetH Tryd.prog Rows.eccWordsRow.laid ((World.doorLaid Tryd.prog 400 os).forCall (fun _ _ => 0) ⟨#[], args, []⟩).memory :=
  laidMetH_of_parts3 (fuel := 8) (laidMet_of_run' 8 (by kernel_rfl) (by kernel_rfl)) (by kernel_rfl) (by kernel_rfl)

/-- An array of whole numbers whose datum is known. -/
theorem ints_of {H : Type} {enc : TypeId × Value → H} {w : World} {base : Nat} {spare : Nat → Bool} {held : Bool} {fuel : Nat} {t e : TypeId} {cs : List Value} {q : List MemPlace} {n : Nat} {k : IntKind} {ns : List Int}
    (ht : Tryd.prog.underlying t = some (.array n e)) (he : Tryd.prog.underlying e = some (.int k)) (c1 : Tryd.prog.cellsOf e = 1) (ct : Tryd.prog.cellsOf t = n) (hn : ns.length = n)
    (h : DataW.trod enc Tryd.prog w base spare held fuel t cs = some (.agg (ns.map fun x => .lit (.int k x)), q)) : cs = ns.map fun x => Value.int k x := by
  obtain ⟨xs, m, _, hx, hl, hxn, hel⟩ := DataW.trod_array ht h
  have hxs : ns.map (fun x => (DataW.lit (.int k x) : DataW H)) = xs.map (·.1) := by simpa using (Prod.mk.inj hx).1
  refine List.ext_getElem (by simp [hl, ct, hn]) fun i h1 h2 => ?_
  have hi : i < n := by rw [hl, ct] at h1; exact h1
  have hh := hel i hi
  rw [c1, Nat.mul_one, List.getElem?_eq_getElem (by omega)] at hh
  obtain ⟨s, e1, e2, _⟩ := DataW.trod_int he hh
  have e3 : (ns.map (fun x => (DataW.lit (.int k x) : DataW H)))[i]? = (xs.map (·.1))[i]? := by rw [hxs]
  rw [List.getElem?_map, List.getElem?_map, List.getElem?_eq_getElem (show i < xs.length by omega), List.getElem?_eq_getElem (show i < ns.length by omega), Option.map_some, Option.map_some, e2] at e3
  have e4 : ns[i] = s := by simpa using e3
  have e5 : (List.drop i cs)[0]? = some (.int k s) := by
    have := congrArg (·[0]?) e1
    simpa using this
  rw [List.getElem?_drop, Nat.add_zero, List.getElem?_eq_getElem h1] at e5
  rw [List.getElem_map, e4]
  exact Option.some.inj e5

theorem heap_of {W : World} {n : String} {g : Nat} {cs : Array Value} (hg : Tryd.prog.globalNamed n = some g) (h : World.var? Tryd.prog W n = some cs) : ∃ t z, W.heap[g]? = some (.cells cs t z) := by
  unfold World.var? at h
  rw [hg, Option.bind_some] at h
  split at h
  · rename_i c t z hh
    obtain rfl := Option.some.inj h
    exact ⟨t, z, hh⟩
  · cases h

theorem of_laid {W : World} (h : laidMetH Tryd.prog Rows.eccWordsRow.laid W) : Laid W := by
  rw [MakeChecks.laidMetH_plain _ _ _ (by kernel_rfl)] at h
  obtain ⟨ps, ⟨g0, t0, cs0, f0, p0, q0, hg0, ht0, hv0, hd0, ⟨g1, t1, cs1, f1, p1, q1, hg1, ht1, hv1, hd1, _, _⟩, _⟩, _, _⟩ := h
  obtain rfl := Option.some.inj (gCol.symm.trans hg0)
  obtain rfl := Option.some.inj (gMsk.symm.trans hg1)
  obtain rfl := Option.some.inj (tCol.symm.trans ht0)
  obtain rfl := Option.some.inj (tMsk.symm.trans ht1)
  have z0 : cs0 = colV := by
    have := ints_of (ns := cols.map Int.ofNat) Tryd.underlying44 Tryd.underlying5 (by kernel_rfl) (by kernel_rfl) (by kernel_rfl) hd0
    obtain ⟨l⟩ := cs0
    simp only at this
    subst this
    rfl
  have z1 : cs1 = mskV := by
    have := ints_of (ns := msk.map Int.ofNat) Tryd.underlying47 Tryd.underlying22 (by kernel_rfl) (by kernel_rfl) (by kernel_rfl) hd1
    obtain ⟨l⟩ := cs1
    simp only at this
    subst this
    rfl
  subst z0
  subst z1
  exact ⟨heap_of hg0 hv0, heap_of hg1 hv1⟩

theorem law (a c i : Int) (wa : (Lit.int .u64 a).wf = true) (wc : (Lit.int .u8 c).wf = true) (w : World) (hl : Laid w) :
    Calls Tryd.prog 3 #[.int .u64 a, .int .u8 c, .int .i64 i] w fun e w' => e = .returned (.bool true) ∧ Below w.heap.size w w' := by
  have ha := bounds_u64 wa
  have hc : 0 ≤ c ∧ c ≤ 255 := by simpa [Lit.wf, IntKind.min, IntKind.max, IntKind.signed, IntKind.bits] using wc
  obtain ⟨x, rfl⟩ := Int.eq_ofNat_of_zero_le ha.1
  obtain ⟨y, rfl⟩ := Int.eq_ofNat_of_zero_le hc.1
  exact EcV.law i x y (by omega) (by omega) w hl

set_option maxRecDepth 100000 in
theorem lifted (os : Os) (started : os.Started) (H : Type) (enc : TypeId × Value → H) :
    ReturnsInHanded {} Tryd.checked os 3 .any (fun w args => (Rows.eccWordsSpec.pre enc Tryd.prog Tryd.f3 [] false w args ∧ laidMetH Tryd.prog Rows.eccWordsRow.laid w) ∧ sizedMet enc Tryd.prog Tryd.f3 (OpenSpec.ofChange Rows.eccWordsSpec) false w args)
      (Rows.eccWordsSpec.post enc Tryd.prog Tryd.f3 false true false false) := by
  refine returnsInHanded_of_change_and (C := Tryd.checked) (X := fun w _ => laidMetH Tryd.prog Rows.eccWordsRow.laid w) (fun _ _ _ hh h => h.of_heap hh) own started (by kernel_rfl) Tryd.func3
    (ChangeSpec.witness_shaped (enc := enc) (C := Tryd.checked) (os := os) (X := fun w _ => laidMetH Tryd.prog Rows.eccWordsRow.laid w) false (World.doorLaid Tryd.prog 400 os) #[.int .u64 0, .int .u8 0, .int .i64 0] 8 rfl (World.shaped_of_RefB (by kernel_rfl) (by kernel_rfl)) (by kernel_rfl) (by kernel_rfl) (by kernel_rfl) (door_met os _)) ?_
  intro W base args ds gs before hval0 hW _ _ hL _
  have hval : ∀ (j : Nat) t v, Tryd.f3.params[j]? = some t → args[j]? = some v → Value.okWide Tryd.prog W .any base t v := hval0
  have hW' := hW
  obtain ⟨p, q, hA0, hV, rfl, hfz, hnd⟩ := hW
  have hA : DataW.TrodAll enc Tryd.prog W 0 (fun _ => true) true Tryd.f3.params.toList args.toList ds p := hA0
  rw [Tryd.params3] at hA hval
  obtain ⟨v0, v1, v2, d0, d1, d2, p0, p1, p2, rfl, rfl, rfl, h0, h1, h2⟩ := trodAll_three hA
  obtain ⟨rfl, rfl⟩ := trodVars_none hV
  obtain ⟨a, rfl, rfl, rfl, wa⟩ := open_int Tryd.underlying22 (hval 0 22 v0 rfl rfl) h0
  obtain ⟨i, rfl, rfl, rfl, wi⟩ := open_int Tryd.underlying5 (hval 1 5 v1 rfl rfl) h1
  obtain ⟨j, rfl, rfl, rfl, wj⟩ := open_int Tryd.underlying3 (hval 2 3 v2 rfl rfl) h2
  clear hA0 hval0
  simp only [List.append_nil] at hW'
  refine (law a i j wa wi W (of_laid hL)).mono fun e W' ⟨he, hb⟩ => ?_
  subst he
  refine ⟨_, rfl, _, _, _, [], [], [], hW', trodAll_mk1 (shut_bool Tryd.underlying4 _), trodAll_mk3 (shut_int Tryd.underlying22 wa) (shut_int Tryd.underlying5 wi) (shut_int Tryd.underlying3 wj), rfl, hb.frame _, fun h => by cases h⟩

theorem eccWords_holds : Rows.EccWordsSaid :=
  OpenClaim.holds_of_wide 3 Tryd.f3 rfl rfl rfl rfl rfl rfl rfl ⟨rfl, rfl, rfl, rfl, rfl⟩ rfl rfl rfl rfl rfl (by kernel_rfl) Tryd.func3 (by kernel_rfl)
    (of_decide_eq_true (by kernel_rfl)) (by unfold Func.isWrapper; first | (rw [if_pos (by decide +kernel)]; kernel_rfl) | (rw [if_neg (by decide +kernel)]; exact ⟨rfl, rfl⟩))
    (fun os started H enc _ => lifted os started H enc)

theorem eccWords_card : Rows.EccWordsCardSaid :=
  Claim7.holds_tied_plain_at .later [] [.data, .data] true (true, "3b81d75e41cee31f2faceb485ff4c1661e9b46a71fa8f2f04a5507d9d9139578") false
    eccWords_holds (fun _ h => by cases h) (by kernel_rfl) (fun _ h => by cases h) eccWords_row_tie rfl ⟨rfl, rfl⟩ (by kernel_rfl) rfl
    (fun f fn hf hfn => by
      obtain rfl : f = 3 := Option.some.inj ((show Tryd.prog.funcNamed "locket/locketlaw2.EccWords" = some 3 by kernel_rfl).symm.trans hf) |>.symm
      obtain rfl : fn = Tryd.f3 := (Option.some.inj (Tryd.func3.symm.trans hfn)).symm
      exact ⟨by kernel_rfl, fun j t ht => by
        rw [Tryd.params3] at ht
        have hm : t ∈ [22, 5, 3] := by simpa using Array.mem_of_getElem? ht
        have hall : ([22, 5, 3].all fun u => !Tryd.prog.wantsStandIn u) = true := by kernel_rfl
        exact (show Tryd.prog.wantsStandIn t = false by simpa using List.all_eq_true.1 hall t hm)⟩)
    (by kernel_rfl)
end Go.Proofs.YtnkbopmghekjdaaDoor.EccWords
