/- From a contract to the row of the law. Conditions: the law says true for each input. -/
import Derived.Test.YtfgdbanigkfjlaaDoorCards
import Derived.Test.YtfgdbanigkfjlaaDoorTie
import Derived.SevenTiedAt
import Derived.Test.YtfgdbanigkfjlaaDoorRb
namespace Go.Proofs.G2
open Go Go.Sim Go.Proofs Go.Proofs.YtfgdbanigkfjlaaDoor Go.RowKit Go.ChangeShapes Go.WideShapes Go.ChangeAt Go.WideMaps Go.WideElems
set_option maxRecDepth 20000
theorem door_met (os : Os) (args : Array Value) : laidMetH P laidK ((World.doorLaid P 400 os).forCall (fun _ _ => 0) ⟨#[], args, []⟩).memory :=
  laidMetH_of_parts3 (fuel := 8) (laidMet_of_run' 8 (by kernel_rfl) (by kernel_rfl)) (by kernel_rfl) (by kernel_rfl)
/-- What a law that says true and leaves all as it was meets. -/
theorem post_true {W W' : World} {H : Type} {enc : TypeId × Value → H} {fn : Func} {s : ChangeSpec} {args : Array Value} {ds gs : List (DataW H)} {before : List MemPlace} (hvars : s.vars = [])
    (hs : ∀ ds gs before, DataW.Whole enc P fn.params.toList s.vars false W args.toList ds gs before → (s.fn H (ds ++ gs)) = { results := [.lit (.bool true)], args := ds, vars := [] })
    (hr : fn.resultTypes = #[4]) (hall : ∀ t ∈ fn.params.toList, P.readableRec t = true ∧ t < P.types.size) (hlaid : laidOutB P = true)
    (hW : DataW.Whole enc P fn.params.toList s.vars false W args.toList ds gs before) (hb : Below W.heap.size W W') :
    s.post enc P fn false true false false W args (.bool true) W' := by
  have hlt : ∀ x ∈ before, x.block < W.heap.size := fun x hx => by simpa using hW.lt x hx
  have hfn := hs ds gs before hW
  obtain ⟨p, q, hA, hV, hpq, hz, hn⟩ := id hW
  rw [hvars] at hV
  obtain ⟨rfl, rfl⟩ := trodVars_none hV
  simp only [List.append_nil] at hpq
  subst hpq
  refine ⟨ds, [], before, [], before, [], hW, ?_, ?_, ?_, hb.frame _, fun h => by cases h⟩
  · rw [hfn, hr]
    exact trodAll_mk1 (shut_bool Tryd.underlying4 _)
  · rw [hfn]
    show DataW.TrodAll enc P W' 0 _ true fn.params.toList args.toList ds before
    have key : ∀ (ts : List TypeId) (vs : List Value) (ds : List (DataW H)) (ps : List MemPlace), (∀ t ∈ ts, P.readableRec t = true ∧ t < P.types.size) → (∀ x ∈ ps, x.block < W.heap.size) →
        DataW.TrodAll enc P W 0 (fun _ => true) true ts vs ds ps → DataW.TrodAll enc P W' 0 (fun b => decide (b < W.heap.size)) true ts vs ds ps := by
      intro ts
      induction ts with
      | nil =>
        intro vs ds ps _ _ h
        obtain ⟨rfl, rfl, rfl⟩ := trodAll_nil h
        exact trodAll_mk0
      | cons t ts ih =>
        intro vs ds ps ht hl h
        obtain ⟨v, vs', d, ds', a, b, rfl, rfl, rfl, h1, h2⟩ := trodAll_cons h
        have h0 := ht t (by simp)
        exact ⟨a, b, Below.trod hlaid h0.1 h0.2 h1 hb (fun x hx => hl x (by simp [hx])), ih _ _ _ (fun t' h' => ht t' (by simp [h'])) (fun x hx => hl x (by simp [hx])) h2, rfl⟩
    exact key _ _ _ _ hall hlt hA
  · rw [hvars]
    rw [hfn]
    rfl
theorem laidO : laidOutB P = true := by kernel_rfl
theorem tight_lifted (tight_true : ∀ s b q, ∃ fu, law02_GrowthTight fu s b q = some true) (os : Os) (started : os.Started) (H : Type) (enc : TypeId × Value → H) :
    ReturnsInHanded {} Tryd.checked os 7 .any (fun w args => (Rows.growthTightSpec.pre enc P Tryd.f7 [] false w args ∧ laidMetH P laidK w) ∧ sizedMet enc P Tryd.f7 (OpenSpec.ofChange Rows.growthTightSpec) false w args)
      (Rows.growthTightSpec.post enc P Tryd.f7 false true false false) := by
  refine returnsInHanded_of_change_and (C := Tryd.checked) (X := fun w _ => laidMetH P laidK w) (fun _ _ _ hh h => h.of_heap hh) own started (by kernel_rfl) Tryd.func7
    (ChangeSpec.witness_shaped (enc := enc) (C := Tryd.checked) (os := os) (X := fun w _ => laidMetH P laidK w) false (World.doorLaid P 400 os) #[.agg #[.slice none 0 0, .slice none 0 0, I 0, I 0, I 0, I 0, .slice none 0 0, .slice none 0 0], .agg #[I 0, I 0, I 0, I 0, I 0, I 0, I 0, I 0], .agg #[I 0, I 0, I 0, I 0, I 0, I 0, .bool false]] 8 rfl (World.shaped_of_RefB (by kernel_rfl) (by kernel_rfl)) (by kernel_rfl) (by kernel_rfl) (by kernel_rfl) (door_met os _)) ?_
  intro W base args ds gs before hval0 hW _ _ hL _
  have hval : ∀ (j : Nat) t v, Tryd.f7.params[j]? = some t → args[j]? = some v → Value.okWide P W .any base t v := hval0
  obtain ⟨p, q, hA0, hV, hpq, hfz, hnd⟩ := id hW
  have hA : DataW.TrodAll enc P W 0 (fun _ => true) true Tryd.f7.params.toList args.toList ds p := hA0
  rw [Tryd.params7] at hA hval
  obtain ⟨v0, v1, v2, d0, d1, d2, p0, p1, p2, rfl, rfl, rfl, h0, h1, h2⟩ := trodAll_three hA
  have hg := gv_of_laid hL
  have hsz : 0 < W.heap.size := by
    obtain ⟨_, c', e, fz, hb, _⟩ := hg _ (List.mem_singleton.2 rfl)
    have := (Array.getElem?_eq_some_iff.1 hb).1
    omega
  obtain ⟨s, q10, q11, q12, q13, ρ, hs, hm⟩ := species_in (hval 0 26 v0 rfl rfl) h0 hsz
  obtain ⟨b, hb⟩ := box_in (hval 1 46 v1 rfl rfl) h1
  obtain ⟨qq, hq⟩ := season_in (hval 2 58 v2 rfl rfl) h2
  obtain ⟨fu, ht⟩ := tight_true s b qq
  have hfc := law02_GrowthTight_fc fu s b qq q10 q11 q12 q13 true ht
  have hcall := FC.calls hfc rfl hg hm (args := #[v0, v1, v2]) (.cons _ _ _ _ hs (.cons _ _ _ _ (by rw [hb]; exact VR.of_pf rfl) (.cons _ _ _ _ (by rw [hq]; exact VR.of_pf rfl) .nil)))
  refine hcall.mono ?_
  rintro e W' ⟨rfl, hbel⟩
  refine ⟨_, rfl, post_true rfl ?_ (by kernel_rfl) ?_ laidO hW hbel⟩
  · intro ds gs before hW
    obtain ⟨p, q, hA0, hV, hpq, hfz, hnd⟩ := hW
    have hA : DataW.TrodAll enc P W 0 (fun _ => true) true Tryd.f7.params.toList (#[v0, v1, v2] : Array Value).toList ds p := hA0
    rw [Tryd.params7] at hA
    obtain ⟨_, _, _, d0, d1, d2, p0, p1, p2, _, rfl, rfl, _, _, _⟩ := trodAll_three hA
    obtain ⟨rfl, rfl⟩ := trodVars_none hV
    rfl
  · rw [Tryd.params7]
    intro t ht
    simp only [List.mem_cons, List.not_mem_nil, or_false] at ht
    rcases ht with rfl | rfl | rfl <;> exact ⟨by kernel_rfl, of_decide_eq_true (by kernel_rfl)⟩
theorem tight_holds (tight_true : ∀ s b q, ∃ fu, law02_GrowthTight fu s b q = some true) : Rows.GrowthTightSaid :=
  OpenClaim.holds_of_wide 7 Tryd.f7 rfl rfl rfl rfl rfl rfl rfl ⟨rfl, rfl, rfl, rfl, rfl⟩ rfl rfl rfl rfl rfl (by kernel_rfl) Tryd.func7 (by kernel_rfl)
    (of_decide_eq_true (by kernel_rfl)) (by unfold Func.isWrapper; rw [if_neg (of_decide_eq_false (by kernel_rfl))]; exact ⟨rfl, rfl⟩)
    (fun os started H enc _ => tight_lifted tight_true os started H enc)
end Go.Proofs.G2
