/- From a contract to the row of GrowthBacks. Conditions: the law says true for each input. -/
import Derived.Test.YtfgdbanigkfjlaaDoorRc
namespace Go.Proofs.G2
open Go Go.Sim Go.Proofs Go.Proofs.YtfgdbanigkfjlaaDoor Go.RowKit Go.ChangeShapes Go.WideShapes Go.ChangeAt Go.WideMaps Go.WideElems
set_option maxRecDepth 20000
theorem backs_lifted (backs_true : ∀ (a0 : XSpecies) (a1 : XBox) (a2 : XSeason) (a3 : XBox), ∃ fu, law02_GrowthBacks fu a0 a1 a2 a3 = some true) (os : Os) (started : os.Started) (H : Type) (enc : TypeId × Value → H) :
    ReturnsInHanded {} Tryd.checked os 11 .any (fun w args => (Rows.growthBacksSpec.pre enc P Tryd.f11 [] false w args ∧ laidMetH P laidK w) ∧ sizedMet enc P Tryd.f11 (OpenSpec.ofChange Rows.growthBacksSpec) false w args)
      (Rows.growthBacksSpec.post enc P Tryd.f11 false true false false) := by
  refine returnsInHanded_of_change_and (C := Tryd.checked) (X := fun w _ => laidMetH P laidK w) (fun _ _ _ hh h => h.of_heap hh) own started (by kernel_rfl) Tryd.func11
    (ChangeSpec.witness_shaped (enc := enc) (C := Tryd.checked) (os := os) (X := fun w _ => laidMetH P laidK w) false (World.doorLaid P 400 os) #[.agg #[.slice none 0 0, .slice none 0 0, I 0, I 0, I 0, I 0, .slice none 0 0, .slice none 0 0], .agg #[I 0, I 0, I 0, I 0, I 0, I 0, I 0, I 0], .agg #[I 0, I 0, I 0, I 0, I 0, I 0, .bool false], .agg #[I 0, I 0, I 0, I 0, I 0, I 0, I 0, I 0]] 8 rfl (World.shaped_of_RefB (by kernel_rfl) (by kernel_rfl)) (by kernel_rfl) (by kernel_rfl) (by kernel_rfl) (door_met os _)) ?_
  intro W base args ds gs before hval0 hW _ _ hL _
  have hval : ∀ (j : Nat) t v, Tryd.f11.params[j]? = some t → args[j]? = some v → Value.okWide P W .any base t v := hval0
  obtain ⟨p, q, hA0, hV, hpq, hfz, hnd⟩ := id hW
  have hA : DataW.TrodAll enc P W 0 (fun _ => true) true Tryd.f11.params.toList args.toList ds p := hA0
  rw [Tryd.params11] at hA hval
  obtain ⟨v0, vs0, d0, ds0, p0, q0, ev, rfl, rfl, h0, k0⟩ := trodAll_cons hA
  obtain ⟨v1, vs1, d1, ds1, p1, q1, rfl, rfl, rfl, h1, k1⟩ := trodAll_cons k0
  obtain ⟨v2, vs2, d2, ds2, p2, q2, rfl, rfl, rfl, h2, k2⟩ := trodAll_cons k1
  obtain ⟨v3, vs3, d3, ds3, p3, q3, rfl, rfl, rfl, h3, k3⟩ := trodAll_cons k2
  obtain ⟨rfl, rfl, rfl⟩ := trodAll_nil k3
  obtain rfl : args = #[v0, v1, v2, v3] := by cases args; simp_all
  have hg := gv_of_laid hL
  have hsz : 0 < W.heap.size := by
    obtain ⟨_, c', e, fz, hb, _⟩ := hg _ (List.mem_singleton.2 rfl)
    have := (Array.getElem?_eq_some_iff.1 hb).1
    omega
  obtain ⟨x0, q10, q11, q12, q13, ρ, hx0, hm⟩ := species_in (hval 0 26 v0 rfl rfl) h0 hsz
  obtain ⟨x1, hx1⟩ := box_in (hval 1 46 v1 rfl rfl) h1
  obtain ⟨x2, hx2⟩ := season_in (hval 2 58 v2 rfl rfl) h2
  obtain ⟨x3, hx3⟩ := box_in (hval 3 46 v3 rfl rfl) h3
  obtain ⟨fu, ht⟩ := backs_true x0 x1 x2 x3
  have hfc := law02_GrowthBacks_fc fu x0 x1 x2 x3 q10 q11 q12 q13 true ht
  have hcall := FC.calls hfc rfl hg hm (args := #[v0, v1, v2, v3]) (.cons _ _ _ _ hx0 (.cons _ _ _ _ (by rw [hx1]; exact VR.of_pf rfl) (.cons _ _ _ _ (by rw [hx2]; exact VR.of_pf rfl) (.cons _ _ _ _ (by rw [hx3]; exact VR.of_pf rfl) .nil))))
  refine hcall.mono ?_
  rintro e W' ⟨rfl, hbel⟩
  refine ⟨_, rfl, post_true rfl ?_ (by kernel_rfl) ?_ laidO hW hbel⟩
  · intro ds gs before hW
    obtain ⟨p, q, hA0, hV, hpq, hfz, hnd⟩ := hW
    have hA : DataW.TrodAll enc P W 0 (fun _ => true) true Tryd.f11.params.toList (#[v0, v1, v2, v3] : Array Value).toList ds p := hA0
    rw [Tryd.params11] at hA
    obtain ⟨_, _, _, _, _, _, _, rfl, _, _, k0⟩ := trodAll_cons hA
    obtain ⟨_, _, _, _, _, _, _, rfl, _, _, k1⟩ := trodAll_cons k0
    obtain ⟨_, _, _, _, _, _, _, rfl, _, _, k2⟩ := trodAll_cons k1
    obtain ⟨_, _, _, _, _, _, _, rfl, _, _, k3⟩ := trodAll_cons k2
    obtain ⟨_, rfl, _⟩ := trodAll_nil k3
    obtain ⟨rfl, rfl⟩ := trodVars_none hV
    rfl
  · rw [Tryd.params11]
    intro t ht
    simp only [List.mem_cons, List.not_mem_nil, or_false] at ht
    rcases ht with rfl | rfl | rfl | rfl <;> exact ⟨by kernel_rfl, of_decide_eq_true (by kernel_rfl)⟩
theorem backs_holds (backs_true : ∀ (a0 : XSpecies) (a1 : XBox) (a2 : XSeason) (a3 : XBox), ∃ fu, law02_GrowthBacks fu a0 a1 a2 a3 = some true) : Rows.GrowthBacksSaid :=
  OpenClaim.holds_of_wide 11 Tryd.f11 rfl rfl rfl rfl rfl rfl rfl ⟨rfl, rfl, rfl, rfl, rfl⟩ rfl rfl rfl rfl rfl (by kernel_rfl) Tryd.func11 (by kernel_rfl)
    (of_decide_eq_true (by kernel_rfl)) (by unfold Func.isWrapper; rw [if_neg (of_decide_eq_false (by kernel_rfl))]; exact ⟨rfl, rfl⟩)
    (fun os started H enc _ => backs_lifted backs_true os started H enc)
end Go.Proofs.G2
