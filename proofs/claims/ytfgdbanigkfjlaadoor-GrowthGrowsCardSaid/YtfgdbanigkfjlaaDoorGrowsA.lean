/- From a contract to the row of GrowthGrows. Conditions: the law says true for each input. -/
import Derived.Test.YtfgdbanigkfjlaaDoorRc
namespace Go.Proofs.G2
open Go Go.Sim Go.Proofs Go.Proofs.YtfgdbanigkfjlaaDoor Go.RowKit Go.ChangeShapes Go.WideShapes Go.ChangeAt Go.WideMaps Go.WideElems
set_option maxRecDepth 20000
theorem sh28 : shapeOf P 8 28 = some [.fl (.i .i64), .fl (.i .i64), .fl (.i .i64), .fl (.i .i64)] := by kernel_rfl
theorem sh30 : shapeOf P 8 30 = some [.fl (.i .i64), .fl (.i .i64), .fl (.i .i64)] := by kernel_rfl
theorem stand_in {W : World} {H : Type} {enc : TypeId × Value → H} {base : Nat} {v : Value} {d : DataW H} {p : List MemPlace} (hv : Value.okWide P W .any base 28 v) (h : DataW.Trod enc P W 0 (fun _ => true) true 28 v d p) :
    ∃ x : XStand, v = .agg #[I (x.Age), I (x.Shoots), I (x.Height), I (x.Girth)] := by
  obtain ⟨cs, rfl, _⟩ := okWide_struct Tryd.underlying28 hv
  obtain ⟨f, hf⟩ := h
  have h := shape_fit 8 28 _ f _ _ sh28 hf
  obtain ⟨a, c, e, _, h⟩ := h.int_inv
  obtain ⟨b, c, rfl, _, h⟩ := h.int_inv
  obtain ⟨x2, c, rfl, _, h⟩ := h.int_inv
  obtain ⟨x3, c, rfl, _, h⟩ := h.int_inv
  cases h.nil_inv
  exact ⟨⟨a, b, x2, x3⟩, toList_agg e⟩
theorem weather_in {W : World} {H : Type} {enc : TypeId × Value → H} {base : Nat} {v : Value} {d : DataW H} {p : List MemPlace} (hv : Value.okWide P W .any base 30 v) (h : DataW.Trod enc P W 0 (fun _ => true) true 30 v d p) :
    ∃ x : XWeather, v = .agg #[I (x.Light), I (x.Browse), I (x.Mild)] := by
  obtain ⟨cs, rfl, _⟩ := okWide_struct Tryd.underlying30 hv
  obtain ⟨f, hf⟩ := h
  have h := shape_fit 8 30 _ f _ _ sh30 hf
  obtain ⟨a, c, e, _, h⟩ := h.int_inv
  obtain ⟨b, c, rfl, _, h⟩ := h.int_inv
  obtain ⟨x2, c, rfl, _, h⟩ := h.int_inv
  cases h.nil_inv
  exact ⟨⟨a, b, x2⟩, toList_agg e⟩
theorem grows_lifted (grows_true : ∀ s x w, ∃ fu, law02_GrowthGrows fu s x w = some true) (os : Os) (started : os.Started) (H : Type) (enc : TypeId × Value → H) :
    ReturnsInHanded {} Tryd.checked os 3 .any (fun w args => (Rows.growthGrowsSpec.pre enc P Tryd.f3 [] false w args ∧ laidMetH P laidK w) ∧ sizedMet enc P Tryd.f3 (OpenSpec.ofChange Rows.growthGrowsSpec) false w args)
      (Rows.growthGrowsSpec.post enc P Tryd.f3 false true false false) := by
  refine returnsInHanded_of_change_and (C := Tryd.checked) (X := fun w _ => laidMetH P laidK w) (fun _ _ _ hh h => h.of_heap hh) own started (by kernel_rfl) Tryd.func3
    (ChangeSpec.witness_shaped (enc := enc) (C := Tryd.checked) (os := os) (X := fun w _ => laidMetH P laidK w) false (World.doorLaid P 400 os) #[.agg #[.slice none 0 0, .slice none 0 0, I 0, I 0, I 0, I 0, .slice none 0 0, .slice none 0 0], .agg #[I 0, I 0, I 0, I 0], .agg #[I 0, I 0, I 0]] 8 rfl (World.shaped_of_RefB (by kernel_rfl) (by kernel_rfl)) (by kernel_rfl) (by kernel_rfl) (by kernel_rfl) (door_met os _)) ?_
  intro W base args ds gs before hval0 hW _ _ hL _
  have hval : ∀ (j : Nat) t v, Tryd.f3.params[j]? = some t → args[j]? = some v → Value.okWide P W .any base t v := hval0
  obtain ⟨p, q, hA0, hV, hpq, hfz, hnd⟩ := id hW
  have hA : DataW.TrodAll enc P W 0 (fun _ => true) true Tryd.f3.params.toList args.toList ds p := hA0
  rw [Tryd.params3] at hA hval
  obtain ⟨v0, v1, v2, d0, d1, d2, p0, p1, p2, rfl, rfl, rfl, h0, h1, h2⟩ := trodAll_three hA
  have hg := gv_of_laid hL
  have hsz : 0 < W.heap.size := by
    obtain ⟨_, c', e, fz, hb, _⟩ := hg _ (List.mem_singleton.2 rfl)
    have := (Array.getElem?_eq_some_iff.1 hb).1
    omega
  obtain ⟨s, q10, q11, q12, q13, ρ, hs, hm⟩ := species_in (hval 0 26 v0 rfl rfl) h0 hsz
  obtain ⟨b, hb⟩ := stand_in (hval 1 28 v1 rfl rfl) h1
  obtain ⟨qq, hq⟩ := weather_in (hval 2 30 v2 rfl rfl) h2
  obtain ⟨fu, ht⟩ := grows_true s b qq
  have hfc := law02_GrowthGrows_fc fu s b qq q10 q11 q12 q13 true ht
  have hcall := FC.calls hfc rfl hg hm (args := #[v0, v1, v2]) (.cons _ _ _ _ hs (.cons _ _ _ _ (by rw [hb]; exact VR.of_pf rfl) (.cons _ _ _ _ (by rw [hq]; exact VR.of_pf rfl) .nil)))
  refine hcall.mono ?_
  rintro e W' ⟨rfl, hbel⟩
  refine ⟨_, rfl, post_true rfl ?_ (by kernel_rfl) ?_ laidO hW hbel⟩
  · intro ds gs before hW
    obtain ⟨p, q, hA0, hV, hpq, hfz, hnd⟩ := hW
    have hA : DataW.TrodAll enc P W 0 (fun _ => true) true Tryd.f3.params.toList (#[v0, v1, v2] : Array Value).toList ds p := hA0
    rw [Tryd.params3] at hA
    obtain ⟨_, _, _, d0, d1, d2, p0, p1, p2, _, rfl, rfl, _, _, _⟩ := trodAll_three hA
    obtain ⟨rfl, rfl⟩ := trodVars_none hV
    rfl
  · rw [Tryd.params3]
    intro t ht
    simp only [List.mem_cons, List.not_mem_nil, or_false] at ht
    rcases ht with rfl | rfl | rfl <;> exact ⟨by kernel_rfl, of_decide_eq_true (by kernel_rfl)⟩
theorem grows_holds (grows_true : ∀ s x w, ∃ fu, law02_GrowthGrows fu s x w = some true) : Rows.GrowthGrowsSaid :=
  OpenClaim.holds_of_wide 3 Tryd.f3 rfl rfl rfl rfl rfl rfl rfl ⟨rfl, rfl, rfl, rfl, rfl⟩ rfl rfl rfl rfl rfl (by kernel_rfl) Tryd.func3 (by kernel_rfl)
    (of_decide_eq_true (by kernel_rfl)) (by unfold Func.isWrapper; rw [if_neg (of_decide_eq_false (by kernel_rfl))]; exact ⟨rfl, rfl⟩)
    (fun os started H enc _ => grows_lifted grows_true os started H enc)
end Go.Proofs.G2
