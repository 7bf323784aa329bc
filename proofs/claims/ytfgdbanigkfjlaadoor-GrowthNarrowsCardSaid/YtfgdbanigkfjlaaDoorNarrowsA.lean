/- From a contract to the row of GrowthNarrows. Conditions: the law says true for each input. -/
import Derived.Test.YtfgdbanigkfjlaaDoorRc
namespace Go.Proofs.G2
open Go Go.Sim Go.Proofs Go.Proofs.YtfgdbanigkfjlaaDoor Go.RowKit Go.ChangeShapes Go.WideShapes Go.ChangeAt Go.WideMaps Go.WideElems
set_option maxRecDepth 20000
theorem cXSample_of (cs : List Value) (h : Fit0 [.i .i64, .i .i64, .i .i64] cs) : ∃ x, cXSample x = cs := by
  obtain ⟨x0, c, rfl, _, h⟩ := h.int_inv
  obtain ⟨x1, c, rfl, _, h⟩ := h.int_inv
  obtain ⟨x2, c, rfl, _, h⟩ := h.int_inv
  cases h.nil_inv
  exact ⟨⟨x0, ⟨x1, x2⟩⟩, rfl⟩
theorem cXSample_flat (x : XSample) : ∀ u ∈ cXSample x, isFlat u = true := by intro u hu; simp only [cXSample, List.mem_cons, List.not_mem_nil, or_false] at hu; rcases hu with rfl | rfl | rfl <;> rfl
theorem sh81 : shapeOf P 8 81 = some [.sl 3 [.i .i64, .i .i64, .i .i64]] := by kernel_rfl
theorem list81 {W : World} {H : Type} {enc : TypeId × Value → H} {base : Nat} {v : Value} {d : DataW H} {p : List MemPlace} (hv : Value.okWide P W .any base 81 v) (h : DataW.Trod enc P W 0 (fun _ => true) true 81 v d p) (hW : 0 < W.heap.size) :
    ∃ (L : List XSample) (l : Sim.Loc) (cap : Nat), l.blk < W.heap.size ∧ (∀ ρ : Emb, OR ρ (.rom (encL cXSample L) .loose) l W) ∧ (∀ (ρ : Emb) (b : Nat), ρ b = some l → VR ρ (.slice (some ⟨b, 0, none⟩) L.length cap) v) := by
  have hc : Cell.okWide P W .any base 81 v := by
    have h1 := hv
    simp only [Value.okWide, Tryd.underlying81] at h1
    exact h1
  obtain ⟨f, hf⟩ := h
  have h := shape_fit 8 81 _ f _ _ sh81 hf
  obtain ⟨a0, c, e, s0, h⟩ := h.sl_inv
  cases h.nil_inv
  have ev : v = a0 := by
    cases v with
    | agg cs => simp only [Cell.okWide, Tryd.underlying81, Cell.ok] at hc
    | _ => simpa [Value.cells] using e
  subst ev
  exact s0.list (by decide) cXSample cXSample_of (fun _ => rfl) cXSample_flat hW (fun a len cap h => slice_ok Tryd.underlying81 (h ▸ hc))
theorem narrows_lifted (narrows_true : ∀ (a0 : XBox) (a1 : List XSample), ∃ fu, law02_GrowthNarrows fu a0 a1 = some true) (os : Os) (started : os.Started) (H : Type) (enc : TypeId × Value → H) :
    ReturnsInHanded {} Tryd.checked os 10 .any (fun w args => (Rows.growthNarrowsSpec.pre enc P Tryd.f10 [] false w args ∧ laidMetH P laidK w) ∧ sizedMet enc P Tryd.f10 (OpenSpec.ofChange Rows.growthNarrowsSpec) false w args)
      (Rows.growthNarrowsSpec.post enc P Tryd.f10 false true false false) := by
  refine returnsInHanded_of_change_and (C := Tryd.checked) (X := fun w _ => laidMetH P laidK w) (fun _ _ _ hh h => h.of_heap hh) own started (by kernel_rfl) Tryd.func10
    (ChangeSpec.witness_shaped (enc := enc) (C := Tryd.checked) (os := os) (X := fun w _ => laidMetH P laidK w) false (World.doorLaid P 400 os) #[.agg #[I 0, I 0, I 0, I 0, I 0, I 0, I 0, I 0], .slice none 0 0] 8 rfl (World.shaped_of_RefB (by kernel_rfl) (by kernel_rfl)) (by kernel_rfl) (by kernel_rfl) (by kernel_rfl) (door_met os _)) ?_
  intro W base args ds gs before hval0 hW _ _ hL _
  have hval : ∀ (j : Nat) t v, Tryd.f10.params[j]? = some t → args[j]? = some v → Value.okWide P W .any base t v := hval0
  obtain ⟨p, q, hA0, hV, hpq, hfz, hnd⟩ := id hW
  have hA : DataW.TrodAll enc P W 0 (fun _ => true) true Tryd.f10.params.toList args.toList ds p := hA0
  rw [Tryd.params10] at hA hval
  obtain ⟨v0, vs0, d0, ds0, p0, q0, ev, rfl, rfl, h0, k0⟩ := trodAll_cons hA
  obtain ⟨v1, vs1, d1, ds1, p1, q1, rfl, rfl, rfl, h1, k1⟩ := trodAll_cons k0
  obtain ⟨rfl, rfl, rfl⟩ := trodAll_nil k1
  obtain rfl : args = #[v0, v1] := by cases args; simp_all
  have hg := gv_of_laid hL
  have hsz : 0 < W.heap.size := by
    obtain ⟨_, c', e, fz, hb, _⟩ := hg _ (List.mem_singleton.2 rfl)
    have := (Array.getElem?_eq_some_iff.1 hb).1
    omega
  obtain ⟨x0, hx0⟩ := box_in (hval 0 46 v0 rfl rfl) h0
  obtain ⟨x1, l10, q10, hm10, hr10, hx1⟩ := list81 (hval 1 81 v1 rfl rfl) h1 hsz
  obtain ⟨fu, ht⟩ := narrows_true x0 x1
  have hfc := law02_GrowthNarrows_fc fu x0 x1 q10 true ht
  have hm : MemR (rhoL [(10, l10)]) [(10, encL cXSample x1)] W := by
    intro p hp
    simp only [List.mem_cons, List.not_mem_nil, or_false] at hp
    rcases hp with rfl
    · exact ⟨l10, rfl, hm10, hr10 _⟩
  have hcall := FC.calls hfc rfl hg hm (args := #[v0, v1]) (.cons _ _ _ _ (by rw [hx0]; exact VR.of_pf rfl) (.cons _ _ _ _ (hx1 _ 10 rfl) .nil))
  refine hcall.mono ?_
  rintro e W' ⟨rfl, hbel⟩
  refine ⟨_, rfl, post_true rfl ?_ (by kernel_rfl) ?_ laidO hW hbel⟩
  · intro ds gs before hW
    obtain ⟨p, q, hA0, hV, hpq, hfz, hnd⟩ := hW
    have hA : DataW.TrodAll enc P W 0 (fun _ => true) true Tryd.f10.params.toList (#[v0, v1] : Array Value).toList ds p := hA0
    rw [Tryd.params10] at hA
    obtain ⟨_, _, _, _, _, _, _, rfl, _, _, k0⟩ := trodAll_cons hA
    obtain ⟨_, _, _, _, _, _, _, rfl, _, _, k1⟩ := trodAll_cons k0
    obtain ⟨_, rfl, _⟩ := trodAll_nil k1
    obtain ⟨rfl, rfl⟩ := trodVars_none hV
    rfl
  · rw [Tryd.params10]
    intro t ht
    simp only [List.mem_cons, List.not_mem_nil, or_false] at ht
    rcases ht with rfl | rfl <;> exact ⟨by kernel_rfl, of_decide_eq_true (by kernel_rfl)⟩
theorem narrows_holds (narrows_true : ∀ (a0 : XBox) (a1 : List XSample), ∃ fu, law02_GrowthNarrows fu a0 a1 = some true) : Rows.GrowthNarrowsSaid :=
  OpenClaim.holds_of_wide 10 Tryd.f10 rfl rfl rfl rfl rfl rfl rfl ⟨rfl, rfl, rfl, rfl, rfl⟩ rfl rfl rfl rfl rfl (by kernel_rfl) Tryd.func10 (by kernel_rfl)
    (of_decide_eq_true (by kernel_rfl)) (by unfold Func.isWrapper; rw [if_neg (of_decide_eq_false (by kernel_rfl))]; exact ⟨rfl, rfl⟩)
    (fun os started H enc _ => narrows_lifted narrows_true os started H enc)
end Go.Proofs.G2
