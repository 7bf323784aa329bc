/- From a contract to the row of GrowthLiters. Conditions: the law says true for each input. -/
import Derived.Test.YtfgdbanigkfjlaaDoorRc
namespace Go.Proofs.G2
open Go Go.Sim Go.Proofs Go.Proofs.YtfgdbanigkfjlaaDoor Go.RowKit Go.ChangeShapes Go.WideShapes Go.ChangeAt Go.WideMaps Go.WideElems
set_option maxRecDepth 20000
theorem sh66 : shapeOf P 8 66 = some [.fl (.i .i64), .fl (.i .i64), .fl (.i .i64), .fl (.i .i64)] := by kernel_rfl
theorem in66 {W : World} {H : Type} {enc : TypeId × Value → H} {base : Nat} {v : Value} {d : DataW H} {p : List MemPlace} (hv : Value.okWide P W .any base 66 v) (h : DataW.Trod enc P W 0 (fun _ => true) true 66 v d p) :
    ∃ x : XTrue, v = .agg #[I (x.Light), I (x.Browse), I (x.Mild), I (x.Sprouts)] := by
  obtain ⟨cs, rfl, _⟩ := okWide_struct Tryd.underlying66 hv
  obtain ⟨f, hf⟩ := h
  have h := shape_fit 8 66 _ f _ _ sh66 hf
  obtain ⟨x0, c, e, _, h⟩ := h.int_inv
  obtain ⟨x1, c, rfl, _, h⟩ := h.int_inv
  obtain ⟨x2, c, rfl, _, h⟩ := h.int_inv
  obtain ⟨x3, c, rfl, _, h⟩ := h.int_inv
  cases h.nil_inv
  exact ⟨⟨x0, x1, x2, x3⟩, toList_agg e⟩
theorem cXSeason_of (cs : List Value) (h : Fit0 [.i .i64, .i .i64, .i .i64, .i .i64, .i .i64, .i .i64, .b] cs) : ∃ x, cXSeason x = cs := by
  obtain ⟨x0, c, rfl, _, h⟩ := h.int_inv
  obtain ⟨x1, c, rfl, _, h⟩ := h.int_inv
  obtain ⟨x2, c, rfl, _, h⟩ := h.int_inv
  obtain ⟨x3, c, rfl, _, h⟩ := h.int_inv
  obtain ⟨x4, c, rfl, _, h⟩ := h.int_inv
  obtain ⟨x5, c, rfl, _, h⟩ := h.int_inv
  obtain ⟨x6, c, rfl, h⟩ := h.bool_inv
  cases h.nil_inv
  exact ⟨⟨⟨x0, x1⟩, ⟨x2, x3⟩, ⟨x4, x5⟩, x6⟩, rfl⟩
theorem cXSeason_flat (x : XSeason) : ∀ u ∈ cXSeason x, isFlat u = true := by intro u hu; simp only [cXSeason, List.mem_cons, List.not_mem_nil, or_false] at hu; rcases hu with rfl | rfl | rfl | rfl | rfl | rfl | rfl <;> rfl
theorem sh47 : shapeOf P 8 47 = some [.sl 7 [.i .i64, .i .i64, .i .i64, .i .i64, .i .i64, .i .i64, .b]] := by kernel_rfl
theorem list47 {W : World} {H : Type} {enc : TypeId × Value → H} {base : Nat} {v : Value} {d : DataW H} {p : List MemPlace} (hv : Value.okWide P W .any base 47 v) (h : DataW.Trod enc P W 0 (fun _ => true) true 47 v d p) (hW : 0 < W.heap.size) :
    ∃ (L : List XSeason) (l : Sim.Loc) (cap : Nat), l.blk < W.heap.size ∧ (∀ ρ : Emb, OR ρ (.rom (encL cXSeason L) .loose) l W) ∧ (∀ (ρ : Emb) (b : Nat), ρ b = some l → VR ρ (.slice (some ⟨b, 0, none⟩) L.length cap) v) := by
  have hc : Cell.okWide P W .any base 47 v := by
    have h1 := hv
    simp only [Value.okWide, Tryd.underlying47] at h1
    exact h1
  obtain ⟨f, hf⟩ := h
  have h := shape_fit 8 47 _ f _ _ sh47 hf
  obtain ⟨a0, c, e, s0, h⟩ := h.sl_inv
  cases h.nil_inv
  have ev : v = a0 := by
    cases v with
    | agg cs => simp only [Cell.okWide, Tryd.underlying47, Cell.ok] at hc
    | _ => simpa [Value.cells] using e
  subst ev
  exact s0.list (by decide) cXSeason cXSeason_of (fun _ => rfl) cXSeason_flat hW (fun a len cap h => slice_ok Tryd.underlying47 (h ▸ hc))
theorem cXTrue_of (cs : List Value) (h : Fit0 [.i .i64, .i .i64, .i .i64, .i .i64] cs) : ∃ x, cXTrue x = cs := by
  obtain ⟨x0, c, rfl, _, h⟩ := h.int_inv
  obtain ⟨x1, c, rfl, _, h⟩ := h.int_inv
  obtain ⟨x2, c, rfl, _, h⟩ := h.int_inv
  obtain ⟨x3, c, rfl, _, h⟩ := h.int_inv
  cases h.nil_inv
  exact ⟨⟨x0, x1, x2, x3⟩, rfl⟩
theorem cXTrue_flat (x : XTrue) : ∀ u ∈ cXTrue x, isFlat u = true := by intro u hu; simp only [cXTrue, List.mem_cons, List.not_mem_nil, or_false] at hu; rcases hu with rfl | rfl | rfl | rfl <;> rfl
theorem sh67 : shapeOf P 8 67 = some [.sl 4 [.i .i64, .i .i64, .i .i64, .i .i64]] := by kernel_rfl
theorem list67 {W : World} {H : Type} {enc : TypeId × Value → H} {base : Nat} {v : Value} {d : DataW H} {p : List MemPlace} (hv : Value.okWide P W .any base 67 v) (h : DataW.Trod enc P W 0 (fun _ => true) true 67 v d p) (hW : 0 < W.heap.size) :
    ∃ (L : List XTrue) (l : Sim.Loc) (cap : Nat), l.blk < W.heap.size ∧ (∀ ρ : Emb, OR ρ (.rom (encL cXTrue L) .loose) l W) ∧ (∀ (ρ : Emb) (b : Nat), ρ b = some l → VR ρ (.slice (some ⟨b, 0, none⟩) L.length cap) v) := by
  have hc : Cell.okWide P W .any base 67 v := by
    have h1 := hv
    simp only [Value.okWide, Tryd.underlying67] at h1
    exact h1
  obtain ⟨f, hf⟩ := h
  have h := shape_fit 8 67 _ f _ _ sh67 hf
  obtain ⟨a0, c, e, s0, h⟩ := h.sl_inv
  cases h.nil_inv
  have ev : v = a0 := by
    cases v with
    | agg cs => simp only [Cell.okWide, Tryd.underlying67, Cell.ok] at hc
    | _ => simpa [Value.cells] using e
  subst ev
  exact s0.list (by decide) cXTrue cXTrue_of (fun _ => rfl) cXTrue_flat hW (fun a len cap h => slice_ok Tryd.underlying67 (h ▸ hc))
theorem liters_lifted (liters_true : ∀ (a0 : XSpecies) (a1 : XBox) (a2 : List XSeason) (a3 : XTrue) (a4 : List XTrue) (a5 : Int), ∃ fu, law02_GrowthLiters fu a0 a1 a2 a3 a4 a5 = some true) (os : Os) (started : os.Started) (H : Type) (enc : TypeId × Value → H) :
    ReturnsInHanded {} Tryd.checked os 9 .any (fun w args => (Rows.growthLitersSpec.pre enc P Tryd.f9 [] false w args ∧ laidMetH P laidK w) ∧ sizedMet enc P Tryd.f9 (OpenSpec.ofChange Rows.growthLitersSpec) false w args)
      (Rows.growthLitersSpec.post enc P Tryd.f9 false true false false) := by
  refine returnsInHanded_of_change_and (C := Tryd.checked) (X := fun w _ => laidMetH P laidK w) (fun _ _ _ hh h => h.of_heap hh) own started (by kernel_rfl) Tryd.func9
    (ChangeSpec.witness_shaped (enc := enc) (C := Tryd.checked) (os := os) (X := fun w _ => laidMetH P laidK w) false (World.doorLaid P 400 os) #[.agg #[.slice none 0 0, .slice none 0 0, I 0, I 0, I 0, I 0, .slice none 0 0, .slice none 0 0], .agg #[I 0, I 0, I 0, I 0, I 0, I 0, I 0, I 0], .slice none 0 0, .agg #[I 0, I 0, I 0, I 0], .slice none 0 0, I 0] 8 rfl (World.shaped_of_RefB (by kernel_rfl) (by kernel_rfl)) (by kernel_rfl) (by kernel_rfl) (by kernel_rfl) (door_met os _)) ?_
  intro W base args ds gs before hval0 hW _ _ hL _
  have hval : ∀ (j : Nat) t v, Tryd.f9.params[j]? = some t → args[j]? = some v → Value.okWide P W .any base t v := hval0
  obtain ⟨p, q, hA0, hV, hpq, hfz, hnd⟩ := id hW
  have hA : DataW.TrodAll enc P W 0 (fun _ => true) true Tryd.f9.params.toList args.toList ds p := hA0
  rw [Tryd.params9] at hA hval
  obtain ⟨v0, vs0, d0, ds0, p0, q0, ev, rfl, rfl, h0, k0⟩ := trodAll_cons hA
  obtain ⟨v1, vs1, d1, ds1, p1, q1, rfl, rfl, rfl, h1, k1⟩ := trodAll_cons k0
  obtain ⟨v2, vs2, d2, ds2, p2, q2, rfl, rfl, rfl, h2, k2⟩ := trodAll_cons k1
  obtain ⟨v3, vs3, d3, ds3, p3, q3, rfl, rfl, rfl, h3, k3⟩ := trodAll_cons k2
  obtain ⟨v4, vs4, d4, ds4, p4, q4, rfl, rfl, rfl, h4, k4⟩ := trodAll_cons k3
  obtain ⟨v5, vs5, d5, ds5, p5, q5, rfl, rfl, rfl, h5, k5⟩ := trodAll_cons k4
  obtain ⟨rfl, rfl, rfl⟩ := trodAll_nil k5
  obtain rfl : args = #[v0, v1, v2, v3, v4, v5] := by cases args; simp_all
  have hg := gv_of_laid hL
  have hsz : 0 < W.heap.size := by
    obtain ⟨_, c', e, fz, hb, _⟩ := hg _ (List.mem_singleton.2 rfl)
    have := (Array.getElem?_eq_some_iff.1 hb).1
    omega
  obtain ⟨x0, q10, q11, q12, q13, l10, l11, l12, l13, hx0, hm10, hm11, hm12, hm13⟩ := species_at (hval 0 26 v0 rfl rfl) h0 hsz
  obtain ⟨x1, hx1⟩ := box_in (hval 1 46 v1 rfl rfl) h1
  obtain ⟨x2, l14, q14, hm14, hr14, hx2⟩ := list47 (hval 2 47 v2 rfl rfl) h2 hsz
  obtain ⟨x3, hx3⟩ := in66 (hval 3 66 v3 rfl rfl) h3
  obtain ⟨x4, l15, q15, hm15, hr15, hx4⟩ := list67 (hval 4 67 v4 rfl rfl) h4 hsz
  obtain ⟨x5, rfl⟩ := okWide_int Tryd.underlying3 (hval 5 3 v5 rfl rfl)
  obtain ⟨fu, ht⟩ := liters_true x0 x1 x2 x3 x4 x5
  have hfc := law02_GrowthLiters_fc fu x0 x1 x2 x3 x4 x5 q10 q11 q12 q13 q14 q15 true ht
  have hm : MemR (rhoL [(10, l10), (11, l11), (12, l12), (13, l13), (14, l14), (15, l15)]) [(10, encL cInt x0.Rise), (11, encL cInt x0.Thick), (12, encL cXRung x0.Ladder), (13, encL cXSpan x0.Sprouts), (14, encL cXSeason x2), (15, encL cXTrue x4)] W := by
    intro p hp
    simp only [List.mem_cons, List.not_mem_nil, or_false] at hp
    rcases hp with rfl | rfl | rfl | rfl | rfl | rfl
    · exact ⟨l10, rfl, hm10.1, hm10.2 _⟩
    · exact ⟨l11, rfl, hm11.1, hm11.2 _⟩
    · exact ⟨l12, rfl, hm12.1, hm12.2 _⟩
    · exact ⟨l13, rfl, hm13.1, hm13.2 _⟩
    · exact ⟨l14, rfl, hm14, hr14 _⟩
    · exact ⟨l15, rfl, hm15, hr15 _⟩
  have hcall := FC.calls hfc rfl hg hm (args := #[v0, v1, v2, v3, v4, I x5]) (.cons _ _ _ _ (hx0 _ rfl rfl rfl rfl) (.cons _ _ _ _ (by rw [hx1]; exact VR.of_pf rfl) (.cons _ _ _ _ (hx2 _ 14 rfl) (.cons _ _ _ _ (by rw [hx3]; exact VR.of_pf rfl) (.cons _ _ _ _ (hx4 _ 15 rfl) (.cons _ _ _ _ (VR.of_pf rfl) .nil))))))
  refine hcall.mono ?_
  rintro e W' ⟨rfl, hbel⟩
  refine ⟨_, rfl, post_true rfl ?_ (by kernel_rfl) ?_ laidO hW hbel⟩
  · intro ds gs before hW
    obtain ⟨p, q, hA0, hV, hpq, hfz, hnd⟩ := hW
    have hA : DataW.TrodAll enc P W 0 (fun _ => true) true Tryd.f9.params.toList (#[v0, v1, v2, v3, v4, I x5] : Array Value).toList ds p := hA0
    rw [Tryd.params9] at hA
    obtain ⟨_, _, _, _, _, _, _, rfl, _, _, k0⟩ := trodAll_cons hA
    obtain ⟨_, _, _, _, _, _, _, rfl, _, _, k1⟩ := trodAll_cons k0
    obtain ⟨_, _, _, _, _, _, _, rfl, _, _, k2⟩ := trodAll_cons k1
    obtain ⟨_, _, _, _, _, _, _, rfl, _, _, k3⟩ := trodAll_cons k2
    obtain ⟨_, _, _, _, _, _, _, rfl, _, _, k4⟩ := trodAll_cons k3
    obtain ⟨_, _, _, _, _, _, _, rfl, _, _, k5⟩ := trodAll_cons k4
    obtain ⟨_, rfl, _⟩ := trodAll_nil k5
    obtain ⟨rfl, rfl⟩ := trodVars_none hV
    rfl
  · rw [Tryd.params9]
    intro t ht
    simp only [List.mem_cons, List.not_mem_nil, or_false] at ht
    rcases ht with rfl | rfl | rfl | rfl | rfl | rfl <;> exact ⟨by kernel_rfl, of_decide_eq_true (by kernel_rfl)⟩
theorem liters_holds (liters_true : ∀ (a0 : XSpecies) (a1 : XBox) (a2 : List XSeason) (a3 : XTrue) (a4 : List XTrue) (a5 : Int), ∃ fu, law02_GrowthLiters fu a0 a1 a2 a3 a4 a5 = some true) : Rows.GrowthLitersSaid :=
  OpenClaim.holds_of_wide 9 Tryd.f9 rfl rfl rfl rfl rfl rfl rfl ⟨rfl, rfl, rfl, rfl, rfl⟩ rfl rfl rfl rfl rfl (by kernel_rfl) Tryd.func9 (by kernel_rfl)
    (of_decide_eq_true (by kernel_rfl)) (by unfold Func.isWrapper; rw [if_neg (of_decide_eq_false (by kernel_rfl))]; exact ⟨rfl, rfl⟩)
    (fun os started H enc _ => liters_lifted liters_true os started H enc)
end Go.Proofs.G2
