/- From a contract to the row of GrowthAsks. Conditions: the law says true for each input. -/
import Derived.Test.YtfgdbanigkfjlaaDoorRc
namespace Go.Proofs.G2
open Go Go.Sim Go.Proofs Go.Proofs.YtfgdbanigkfjlaaDoor Go.RowKit Go.ChangeShapes Go.WideShapes Go.ChangeAt Go.WideMaps Go.WideElems
set_option maxRecDepth 20000
theorem sh103 : shapeOf P 8 103 = some [.fl (.i .i64), .fl (.i .i64), .fl (.i .i64)] := by kernel_rfl
theorem tol_in {W : World} {H : Type} {enc : TypeId × Value → H} {base : Nat} {v : Value} {d : DataW H} {p : List MemPlace} (hv : Value.okWide P W .any base 103 v) (h : DataW.Trod enc P W 0 (fun _ => true) true 103 v d p) :
    ∃ x : XTolerance, v = .agg #[I (x.Shoots), I (x.Height), I (x.Girth)] := by
  obtain ⟨cs, rfl, _⟩ := okWide_struct Tryd.underlying103 hv
  obtain ⟨f, hf⟩ := h
  have h := shape_fit 8 103 _ f _ _ sh103 hf
  obtain ⟨a, c, e, _, h⟩ := h.int_inv
  obtain ⟨b, c, rfl, _, h⟩ := h.int_inv
  obtain ⟨x2, c, rfl, _, h⟩ := h.int_inv
  cases h.nil_inv
  exact ⟨⟨a, b, x2⟩, toList_agg e⟩
theorem asks_lifted (asks_true : ∀ b t, ∃ fu, law02_GrowthAsks fu b t = some true) (os : Os) (started : os.Started) (H : Type) (enc : TypeId × Value → H) :
    ReturnsInHanded {} Tryd.checked os 15 .any (fun w args => (Rows.growthAsksSpec.pre enc P Tryd.f15 [] false w args ∧ laidMetH P laidK w) ∧ sizedMet enc P Tryd.f15 (OpenSpec.ofChange Rows.growthAsksSpec) false w args)
      (Rows.growthAsksSpec.post enc P Tryd.f15 false true false false) := by
  refine returnsInHanded_of_change_and (C := Tryd.checked) (X := fun w _ => laidMetH P laidK w) (fun _ _ _ hh h => h.of_heap hh) own started (by kernel_rfl) Tryd.func15
    (ChangeSpec.witness_shaped (enc := enc) (C := Tryd.checked) (os := os) (X := fun w _ => laidMetH P laidK w) false (World.doorLaid P 400 os) #[.agg #[I 0, I 0, I 0, I 0, I 0, I 0, I 0, I 0], .agg #[I 0, I 0, I 0]] 8 rfl (World.shaped_of_RefB (by kernel_rfl) (by kernel_rfl)) (by kernel_rfl) (by kernel_rfl) (by kernel_rfl) (door_met os _)) ?_
  intro W base args ds gs before hval0 hW _ _ hL _
  have hval : ∀ (j : Nat) t v, Tryd.f15.params[j]? = some t → args[j]? = some v → Value.okWide P W .any base t v := hval0
  obtain ⟨p, q, hA0, hV, hpq, hfz, hnd⟩ := id hW
  have hA : DataW.TrodAll enc P W 0 (fun _ => true) true Tryd.f15.params.toList args.toList ds p := hA0
  rw [Tryd.params15] at hA hval
  obtain ⟨v0, v1, d0, d1, p0, p1, rfl, rfl, rfl, h0, h1⟩ := trodAll_two hA
  have hg := gv_of_laid hL
  obtain ⟨b, hb⟩ := box_in (hval 0 46 v0 rfl rfl) h0
  obtain ⟨t, ht0⟩ := tol_in (hval 1 103 v1 rfl rfl) h1
  obtain ⟨fu, ht⟩ := asks_true b t
  have hfc := law02_GrowthAsks_fc fu b t true ht
  have hcall := FC.calls hfc rfl hg (ρ := fun _ => none) (fun p hp => by cases hp) (args := #[v0, v1]) (.cons _ _ _ _ (by rw [hb]; exact VR.of_pf rfl) (.cons _ _ _ _ (by rw [ht0]; exact VR.of_pf rfl) .nil))
  refine hcall.mono ?_
  rintro e W' ⟨rfl, hbel⟩
  refine ⟨_, rfl, post_true rfl ?_ (by kernel_rfl) ?_ laidO hW hbel⟩
  · intro ds gs before hW
    obtain ⟨p, q, hA0, hV, hpq, hfz, hnd⟩ := hW
    have hA : DataW.TrodAll enc P W 0 (fun _ => true) true Tryd.f15.params.toList (#[v0, v1] : Array Value).toList ds p := hA0
    rw [Tryd.params15] at hA
    obtain ⟨_, _, d0, d1, p0, p1, _, rfl, rfl, _, _⟩ := trodAll_two hA
    obtain ⟨rfl, rfl⟩ := trodVars_none hV
    rfl
  · rw [Tryd.params15]
    intro t ht
    simp only [List.mem_cons, List.not_mem_nil, or_false] at ht
    rcases ht with rfl | rfl <;> exact ⟨by kernel_rfl, of_decide_eq_true (by kernel_rfl)⟩
theorem asks_holds (asks_true : ∀ b t, ∃ fu, law02_GrowthAsks fu b t = some true) : Rows.GrowthAsksSaid :=
  OpenClaim.holds_of_wide 15 Tryd.f15 rfl rfl rfl rfl rfl rfl rfl ⟨rfl, rfl, rfl, rfl, rfl⟩ rfl rfl rfl rfl rfl (by kernel_rfl) Tryd.func15 (by kernel_rfl)
    (of_decide_eq_true (by kernel_rfl)) (by unfold Func.isWrapper; rw [if_neg (of_decide_eq_false (by kernel_rfl))]; exact ⟨rfl, rfl⟩)
    (fun os started H enc _ => asks_lifted asks_true os started H enc)
end Go.Proofs.G2
