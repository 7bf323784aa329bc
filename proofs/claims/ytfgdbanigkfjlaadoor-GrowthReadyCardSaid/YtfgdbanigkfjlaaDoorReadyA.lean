/- From a contract to the row of GrowthReady. Conditions: the law says true for each input. -/
import Derived.Test.YtfgdbanigkfjlaaDoorRc
namespace Go.Proofs.G2
open Go Go.Sim Go.Proofs Go.Proofs.YtfgdbanigkfjlaaDoor Go.RowKit Go.ChangeShapes Go.WideShapes Go.ChangeAt Go.WideMaps Go.WideElems
set_option maxRecDepth 20000
theorem cXSeason_of (cs : List Value) (h : Fit0 [.i .i64, .i .i64, .i .i64, .i .i64, .i .i64, .i .i64, .b] cs) : ∃ x, cXSeason x = cs := by
  obtain ⟨x0, c, rfl, _, h⟩ := h.int_inv
  obtain ⟨x1, c, rfl, _, h⟩ := h.int_inv
  obtain ⟨x2, c, rfl, _, h⟩ := h.int_inv
  obtain ⟨x3, c, rfl, _, h⟩ := h.int_inv
  obtain ⟨x4, c, rfl, _, h⟩ := h.int_inv
  obtain ⟨x5, c, rfl, _, h⟩ := h.int_inv
  obtain ⟨x6, c, rfl, h⟩ := h.bool_inv
  cases h.nil_inv
  exact ⟨⟨⟨x0, x1⟩, ⟨x2, x3⟩, ⟨x4, x5⟩, x6⟩, rfl⟩
theorem cXSeason_flat (x : XSeason) : ∀ u ∈ cXSeason x, isFlat u = true := by intro u hu; simp only [cXSeason, List.mem_cons, List.not_mem_nil, or_false] at hu; rcases hu with rfl | rfl | rfl | rfl | rfl | rfl | rfl <;> rfl
theorem sh47 : shapeOf P 8 47 = some [.sl 7 [.i .i64, .i .i64, .i .i64, .i .i64, .i .i64, .i .i64, .b]] := by kernel_rfl
theorem list47 {W : World} {H : Type} {enc : TypeId × Value → H} {base : Nat} {v : Value} {d : DataW H} {p : List MemPlace} (hv : Value.okWide P W .any base 47 v) (h : DataW.Trod enc P W 0 (fun _ => true) true 47 v d p) (hW : 0 < W.heap.size) :
    ∃ (L : List XSeason) (l : Sim.Loc) (cap : Nat), l.blk < W.heap.size ∧ (∀ ρ : Emb, OR ρ (.rom (encL cXSeason L) .loose) l W) ∧ (∀ (ρ : Emb) (b : Nat), ρ b = some l → VR ρ (.slice (some ⟨b, 0, none⟩) L.length cap) v) := by
  have hc : Cell.okWide P W .any base 47 v := by
    have h1 := hv
    simp only [Value.okWide, Tryd.underlying47] at h1
    exact h1
  obtain ⟨f, hf⟩ := h
  have h := shape_fit 8 47 _ f _ _ sh47 hf
  obtain ⟨a0, c, e, s0, h⟩ := h.sl_inv
  cases h.nil_inv
  have ev : v = a0 := by
    cases v with
    | agg cs => simp only [Cell.okWide, Tryd.underlying47, Cell.ok] at hc
    | _ => simpa [Value.cells] using e
  subst ev
  exact s0.list (by decide) cXSeason cXSeason_of (fun _ => rfl) cXSeason_flat hW (fun a len cap h => slice_ok Tryd.underlying47 (h ▸ hc))
theorem ready_lifted (ready_true : ∀ (a0 : XSpecies) (a1 : XBox) (a2 : List XSeason) (a3 : Int), ∃ fu, law02_GrowthReady fu a0 a1 a2 a3 = some true) (os : Os) (started : os.Started) (H : Type) (enc : TypeId × Value → H) :
    ReturnsInHanded {} Tryd.checked os 8 .any (fun w args => (Rows.growthReadySpec.pre enc P Tryd.f8 [] false w args ∧ laidMetH P laidK w) ∧ sizedMet enc P Tryd.f8 (OpenSpec.ofChange Rows.growthReadySpec) false w args)
      (Rows.growthReadySpec.post enc P Tryd.f8 false true false false) := by
  refine returnsInHanded_of_change_and (C := Tryd.checked) (X := fun w _ => laidMetH P laidK w) (fun _ _ _ hh h => h.of_heap hh) own started (by kernel_rfl) Tryd.func8
    (ChangeSpec.witness_shaped (enc := enc) (C := Tryd.checked) (os := os) (X := fun w _ => laidMetH P laidK w) false (World.doorLaid P 400 os) #[.agg #[.slice none 0 0, .slice none 0 0, I 0, I 0, I 0, I 0, .slice none 0 0, .slice none 0 0], .agg #[I 0, I 0, I 0, I 0, I 0, I 0, I 0, I 0], .slice none 0 0, I 0] 8 rfl (World.shaped_of_RefB (by kernel_rfl) (by kernel_rfl)) (by kernel_rfl) (by kernel_rfl) (by kernel_rfl) (door_met os _)) ?_
  intro W base args ds gs before hval0 hW _ _ hL _
  have hval : ∀ (j : Nat) t v, Tryd.f8.params[j]? = some t → args[j]? = some v → Value.okWide P W .any base t v := hval0
  obtain ⟨p, q, hA0, hV, hpq, hfz, hnd⟩ := id hW
  have hA : DataW.TrodAll enc P W 0 (fun _ => true) true Tryd.f8.params.toList args.toList ds p := hA0
  rw [Tryd.params8] at hA hval
  obtain ⟨v0, vs0, d0, ds0, p0, q0, ev, rfl, rfl, h0, k0⟩ := trodAll_cons hA
  obtain ⟨v1, vs1, d1, ds1, p1, q1, rfl, rfl, rfl, h1, k1⟩ := trodAll_cons k0
  obtain ⟨v2, vs2, d2, ds2, p2, q2, rfl, rfl, rfl, h2, k2⟩ := trodAll_cons k1
  obtain ⟨v3, vs3, d3, ds3, p3, q3, rfl, rfl, rfl, h3, k3⟩ := trodAll_cons k2
  obtain ⟨rfl, rfl, rfl⟩ := trodAll_nil k3
  obtain rfl : args = #[v0, v1, v2, v3] := by cases args; simp_all
  have hg := gv_of_laid hL
  have hsz : 0 < W.heap.size := by
    obtain ⟨_, c', e, fz, hb, _⟩ := hg _ (List.mem_singleton.2 rfl)
    have := (Array.getElem?_eq_some_iff.1 hb).1
    omega
  obtain ⟨x0, q10, q11, q12, q13, l10, l11, l12, l13, hx0, hm10, hm11, hm12, hm13⟩ := species_at (hval 0 26 v0 rfl rfl) h0 hsz
  obtain ⟨x1, hx1⟩ := box_in (hval 1 46 v1 rfl rfl) h1
  obtain ⟨x2, l14, q14, hm14, hr14, hx2⟩ := list47 (hval 2 47 v2 rfl rfl) h2 hsz
  obtain ⟨x3, rfl⟩ := okWide_int Tryd.underlying3 (hval 3 3 v3 rfl rfl)
  obtain ⟨fu, ht⟩ := ready_true x0 x1 x2 x3
  have hfc := law02_GrowthReady_fc fu x0 x1 x2 x3 q10 q11 q12 q13 q14 true ht
  have hm : MemR (rhoL [(10, l10), (11, l11), (12, l12), (13, l13), (14, l14)]) [(10, encL cInt x0.Rise), (11, encL cInt x0.Thick), (12, encL cXRung x0.Ladder), (13, encL cXSpan x0.Sprouts), (14, encL cXSeason x2)] W := by
    intro p hp
    simp only [List.mem_cons, List.not_mem_nil, or_false] at hp
    rcases hp with rfl | rfl | rfl | rfl | rfl
    · exact ⟨l10, rfl, hm10.1, hm10.2 _⟩
    · exact ⟨l11, rfl, hm11.1, hm11.2 _⟩
    · exact ⟨l12, rfl, hm12.1, hm12.2 _⟩
    · exact ⟨l13, rfl, hm13.1, hm13.2 _⟩
    · exact ⟨l14, rfl, hm14, hr14 _⟩
  have hcall := FC.calls hfc rfl hg hm (args := #[v0, v1, v2, I x3]) (.cons _ _ _ _ (hx0 _ rfl rfl rfl rfl) (.cons _ _ _ _ (by rw [hx1]; exact VR.of_pf rfl) (.cons _ _ _ _ (hx2 _ 14 rfl) (.cons _ _ _ _ (VR.of_pf rfl) .nil))))
  refine hcall.mono ?_
  rintro e W' ⟨rfl, hbel⟩
  refine ⟨_, rfl, post_true rfl ?_ (by kernel_rfl) ?_ laidO hW hbel⟩
  · intro ds gs before hW
    obtain ⟨p, q, hA0, hV, hpq, hfz, hnd⟩ := hW
    have hA : DataW.TrodAll enc P W 0 (fun _ => true) true Tryd.f8.params.toList (#[v0, v1, v2, I x3] : Array Value).toList ds p := hA0
    rw [Tryd.params8] at hA
    obtain ⟨_, _, _, _, _, _, _, rfl, _, _, k0⟩ := trodAll_cons hA
    obtain ⟨_, _, _, _, _, _, _, rfl, _, _, k1⟩ := trodAll_cons k0
    obtain ⟨_, _, _, _, _, _, _, rfl, _, _, k2⟩ := trodAll_cons k1
    obtain ⟨_, _, _, _, _, _, _, rfl, _, _, k3⟩ := trodAll_cons k2
    obtain ⟨_, rfl, _⟩ := trodAll_nil k3
    obtain ⟨rfl, rfl⟩ := trodVars_none hV
    rfl
  · rw [Tryd.params8]
    intro t ht
    simp only [List.mem_cons, List.not_mem_nil, or_false] at ht
    rcases ht with rfl | rfl | rfl | rfl <;> exact ⟨by kernel_rfl, of_decide_eq_true (by kernel_rfl)⟩
theorem ready_holds (ready_true : ∀ (a0 : XSpecies) (a1 : XBox) (a2 : List XSeason) (a3 : Int), ∃ fu, law02_GrowthReady fu a0 a1 a2 a3 = some true) : Rows.GrowthReadySaid :=
  OpenClaim.holds_of_wide 8 Tryd.f8 rfl rfl rfl rfl rfl rfl rfl ⟨rfl, rfl, rfl, rfl, rfl⟩ rfl rfl rfl rfl rfl (by kernel_rfl) Tryd.func8 (by kernel_rfl)
    (of_decide_eq_true (by kernel_rfl)) (by unfold Func.isWrapper; rw [if_neg (of_decide_eq_false (by kernel_rfl))]; exact ⟨rfl, rfl⟩)
    (fun os started H enc _ => ready_lifted ready_true os started H enc)
end Go.Proofs.G2
