/- The law of least boxes on plain functions: it says true for each input. No conditions. -/
import Derived.Test.YtfgdbanigkfjlaaDoorGc
namespace Go.Proofs.G2
open Go Go.Sim Go.Proofs
set_option maxRecDepth 4000
theorem W_id {n : Int} (h1 : -9000000000000000000 ≤ n) (h2 : n ≤ 9000000000000000000) : W n = n := by
  show IntKind.i64.wrap n = n
  simp [IntKind.wrap, IntKind.bits, IntKind.signed]
  omega
theorem at_get {X : Type} (z : X) (l : List X) (i : Nat) (h : i < l.length) : at_ z l (i : Int) = l[i] := by
  unfold at_
  simp [List.getD, List.getElem?_eq_getElem h]
theorem loop_all {X : Type} (l : List X) (z : X) (t : X → Bool) (e : Bool) (g : Nat → Int → Option Bool)
    (hg : ∀ fk v, g (fk + 1) v = bif decide (v < ((l.length : Nat) : Int)) then (bif decide (0 ≤ v ∧ v < ((l.length : Nat) : Int)) then (bif t (at_ z l v) then g fk (W (v + 1)) else some false) else none) else some e) (hlen : l.length ≤ 1000) :
    ∀ (fk i : Nat), i ≤ l.length → l.length - i < fk → g fk (i : Int) = some ((l.drop i).all t && e) := by
  intro fk
  induction fk with
  | zero => intro i _ h; omega
  | succ fk ih =>
    intro i hi hf
    rw [hg]
    by_cases hlt : i < l.length
    · have d1 : decide ((i : Int) < ((l.length : Nat) : Int)) = true := by simp; omega
      have d2 : decide (0 ≤ (i : Int) ∧ (i : Int) < ((l.length : Nat) : Int)) = true := by simp; omega
      have hw : W ((i : Int) + 1) = ((i + 1 : Nat) : Int) := by rw [W_id (by omega) (by omega)]; push_cast; rfl
      rw [d1, d2, cond_true, cond_true, at_get z l i hlt, hw, ih (i + 1) (by omega) (by omega), List.drop_eq_getElem_cons hlt]
      simp only [List.all_cons]
      cases t l[i] <;> simp
    · have d1 : decide ((i : Int) < ((l.length : Nat) : Int)) = false := by simp; omega
      rw [d1, cond_false, List.drop_of_length_le (by omega)]
      simp
theorem in_within (n a b : Int) : ref02_in n a b = growth_within n a b := rfl
theorem table_eq (fu : Nat) (l : List Int) (most : Int) (h : l.length ≤ 70) (hfu : 100 ≤ fu) :
    ref02_table fu l most = some ((l.all fun x => growth_within x 0 most) && growth_within ((l.length : Nat) : Int) 1 60) := by
  have := loop_all l 0 (fun x => ref02_in x 0 most) (ref02_in ((l.length : Nat) : Int) 1 60) (fun fk v => ref02_table_L fu l most fk false v) (fun fk v => ref02_table_L_s0 fu l most fk false v) (by omega) fu 0 (by omega) (by omega)
  simp only [List.drop_zero] at this
  exact this
theorem years_eq (fu : Nat) (l : List Int) (most : Int) (h : l.length ≤ 70) (hfu : 100 ≤ fu) :
    growth_yearsAreDefined fu l most = some ((l.all fun x => growth_within x 0 most) && growth_within ((l.length : Nat) : Int) 1 60) := by
  have := loop_all l 0 (fun x => growth_yearsAreDefined_1 x most) true (fun fk v => growth_all_L fu l most fk false v) (fun fk v => growth_all_L_s0 fu l most fk false v) (by omega) fu 0 (by omega) (by omega)
  have h2 : growth_all fu l most = some ((l.all fun x => growth_within x 0 most) && true) := by
    simp only [List.drop_zero] at this
    exact this
  unfold growth_yearsAreDefined
  rw [h2]
  cases growth_within ((l.length : Nat) : Int) 1 60 <;> simp
theorem span_eq (s : XSpan) (m : Int) : growth_isPart s m = ref02_Span s m := by
  unfold growth_isPart ref02_Span ref02_in
  cases decide (s.Low ≥ 0) <;> rfl
theorem sprouts_eq (fu : Nat) (l : List XSpan) (h : l.length ≤ 70) (hfu : 100 ≤ fu) :
    growth_sproutsAreDefined fu l = some (growth_within ((l.length : Nat) : Int) 1 60 && l.all fun x => ref02_Span x 300) := by
  have := loop_all l zXSpan (fun x => growth_sproutsAreDefined_1 x) true (fun fk v => api_Span_L fu l fk false v) (fun fk v => api_Span_L_s0 fu l fk false v) (by omega) fu 0 (by omega) (by omega)
  have h2 : api_Span fu l = some ((l.all fun x => ref02_Span x 300) && true) := by
    simp only [List.drop_zero] at this
    have e : (fun x => growth_sproutsAreDefined_1 x) = fun x => ref02_Span x 300 := by funext x; exact span_eq x 300
    rw [e] at this
    exact this
  unfold growth_sproutsAreDefined
  rw [h2]
  cases growth_within ((l.length : Nat) : Int) 1 60 <;> simp
theorem refSprouts (fu : Nat) (s : XSpecies) (h : s.Sprouts.length ≤ 70) (v : Bool) : ∀ (fk i : Nat), i ≤ s.Sprouts.length → s.Sprouts.length - i < fk → (ref02_Species_L fu s fk).2 v (i : Int) = some ((s.Sprouts.drop i).all (fun x => ref02_Span x 300) && true) :=
  loop_all s.Sprouts zXSpan (fun x => ref02_Span x 300) true (fun fk w => (ref02_Species_L fu s fk).2 v w) (fun fk w => ref02_Species_L_s1 fu s fk v w) (by omega)
theorem ladder_eq (fu : Nat) (s : XSpecies) (h1 : s.Ladder.length ≤ 25) (h2 : s.Sprouts.length ≤ 70) (v v' : Bool) : ∀ (fk i : Nat), i ≤ s.Ladder.length → (s.Ladder.length - i) + s.Sprouts.length + 1 < fk →
    ∃ b, growth_ladderIsDefined_L fu s.Ladder fk v (i : Int) = some b ∧ (ref02_Species_L fu s fk).1 v' (i : Int) = some (b && s.Sprouts.all fun x => ref02_Span x 300) := by
  intro fk
  induction fk with
  | zero => intro i _ h; omega
  | succ fk ih =>
    intro i hi hf
    rw [growth_ladderIsDefined_L_s0, ref02_Species_L_s0]
    by_cases hlt : i < s.Ladder.length
    · have d1 : decide ((i : Int) < ((s.Ladder.length : Nat) : Int)) = true := by simp; omega
      have d2 : decide (0 ≤ (i : Int) ∧ (i : Int) < ((s.Ladder.length : Nat) : Int)) = true := by simp; omega
      have hw : W ((i : Int) + 1) = ((i + 1 : Nat) : Int) := by rw [W_id (by omega) (by omega)]; push_cast; rfl
      obtain ⟨b, i1, i2⟩ := ih (i + 1) (by omega) (by omega)
      rw [d1, d2]
      simp only [cond_true, hw, i1, i2, in_within]
      cases growth_within (at_ zXRung s.Ladder (i : Int)).Height 1 40000
      · exact ⟨false, rfl, rfl⟩
      cases growth_within (at_ zXRung s.Ladder (i : Int)).Shoots 0 300
      · exact ⟨false, rfl, rfl⟩
      simp only [cond_true]
      by_cases h0 : (i : Int) > 0
      · have d3 : decide ((i : Int) > 0) = true := by simpa using h0
        have hw2 : W ((i : Int) - 1) = (i : Int) - 1 := W_id (by omega) (by omega)
        have d4 : decide (0 ≤ (i : Int) - 1 ∧ (i : Int) - 1 < ((s.Ladder.length : Nat) : Int)) = true := by simp; omega
        rw [d3, hw2, d4]
        simp only [cond_true]
        cases decide ((at_ zXRung s.Ladder (i : Int)).Height ≤ (at_ zXRung s.Ladder ((i : Int) - 1)).Height)
        · cases decide ((at_ zXRung s.Ladder (i : Int)).Shoots ≥ (at_ zXRung s.Ladder ((i : Int) - 1)).Shoots)
          · exact ⟨b, rfl, rfl⟩
          · exact ⟨false, rfl, rfl⟩
        · exact ⟨false, rfl, rfl⟩
      · have d3 : decide ((i : Int) > 0) = false := by simpa using h0
        rw [d3]
        exact ⟨b, rfl, rfl⟩
    · have d1 : decide ((i : Int) < ((s.Ladder.length : Nat) : Int)) = false := by simp; omega
      rw [d1]
      simp only [cond_false]
      refine ⟨true, rfl, ?_⟩
      have := refSprouts fu s h2 v' fk 0 (by omega) (by omega)
      simpa using this
/-- The species: both say the same; and what it means. -/
theorem species_eq (fu : Nat) (s : XSpecies) (hs : law02_short s = true) (hfu : 200 ≤ fu) :
    ∃ B, ref02_Species fu s = some B ∧ growth_speciesIsDefined fu s = some B ∧ (B = true → 1 ≤ s.Rise.length ∧ 1 ≤ s.Thick.length ∧ 1 ≤ s.Sprouts.length ∧ 0 ≤ s.Shade ∧ s.Shade ≤ 99 ∧ ∀ x ∈ s.Sprouts, ref02_Span x 300 = true) := by
  have hsh : s.Rise.length ≤ 70 ∧ s.Thick.length ≤ 70 ∧ s.Ladder.length ≤ 25 ∧ s.Sprouts.length ≤ 70 := by
    unfold law02_short at hs
    by_cases a1 : ((s.Rise.length : Nat) : Int) ≤ 70 <;> by_cases a2 : ((s.Thick.length : Nat) : Int) ≤ 70 <;> by_cases a3 : ((s.Ladder.length : Nat) : Int) ≤ 25 <;> by_cases a4 : ((s.Sprouts.length : Nat) : Int) ≤ 70 <;> simp [a1, a2, a3, a4] at hs
    omega
  obtain ⟨l1, l2, l3, l4⟩ := hsh
  obtain ⟨b, hb1, hb2⟩ := ladder_eq fu s l3 l4 false false fu 0 (by omega) (by omega)
  unfold ref02_Species growth_speciesIsDefined
  rw [table_eq fu s.Rise 5000 l1 (by omega), table_eq fu s.Thick 300 l2 (by omega), years_eq fu s.Rise 5000 l1 (by omega), years_eq fu s.Thick 300 l2 (by omega), sprouts_eq fu s.Sprouts l4 (by omega)]
  have hl : growth_ladderIsDefined fu s.Ladder = bif decide (((s.Ladder.length : Nat) : Int) > 20) then some false else some b := by
    unfold growth_ladderIsDefined
    rw [show growth_ladderIsDefined_L fu s.Ladder fu false 0 = some b from hb1]
  rw [hl, show (ref02_Species_L fu s fu).1 false 0 = _ from hb2]
  simp only [Option.bind_some, in_within]
  have len1 : ∀ n : Nat, growth_within (n : Int) 1 60 = true → 1 ≤ n := by
    intro n h
    unfold growth_within at h
    by_cases h1 : (n : Int) ≥ 1 <;> simp [h1] at h
    omega
  have hall : ∀ (l : List Int) (m : Int), ((l.all fun x => growth_within x 0 m) && growth_within ((l.length : Nat) : Int) 1 60) = true → 1 ≤ l.length := by
    intro l m h
    simp only [Bool.and_eq_true] at h
    exact len1 _ h.2
  rcases Bool.eq_false_or_eq_true ((s.Rise.all fun x => growth_within x 0 5000) && growth_within ((s.Rise.length : Nat) : Int) 1 60) with t1 | t1
  rotate_left
  · rw [t1]; exact ⟨false, rfl, rfl, fun h => by cases h⟩
  rcases Bool.eq_false_or_eq_true ((s.Thick.all fun x => growth_within x 0 300) && growth_within ((s.Thick.length : Nat) : Int) 1 60) with t2 | t2
  rotate_left
  · rw [t1, t2]; exact ⟨false, rfl, rfl, fun h => by cases h⟩
  rw [t1, t2]
  simp only [cond_true]
  cases growth_within s.Top 1 40000
  · exact ⟨false, rfl, rfl, fun h => by cases h⟩
  cases growth_within s.Stout 1 3000
  · exact ⟨false, rfl, rfl, fun h => by cases h⟩
  rcases Bool.eq_false_or_eq_true (growth_within s.Shade 0 99) with t5 | t5
  rotate_left
  · rw [t5]; exact ⟨false, rfl, rfl, fun h => by cases h⟩
  rw [t5]
  simp only [cond_true]
  cases growth_within s.Reach 0 40000
  · exact ⟨false, rfl, rfl, fun h => by cases h⟩
  simp only [cond_true]
  cases decide (((s.Ladder.length : Nat) : Int) > 20)
  rotate_left
  · exact ⟨false, rfl, rfl, fun h => by cases h⟩
  simp only [cond_false, Option.bind_some]
  rcases Bool.eq_false_or_eq_true (growth_within ((s.Sprouts.length : Nat) : Int) 1 60) with t6 | t6
  rotate_left
  · rw [t6]
    cases b
    · exact ⟨false, rfl, rfl, fun h => by cases h⟩
    · exact ⟨false, rfl, rfl, fun h => by cases h⟩
  rw [t6]
  simp only [cond_true, Bool.true_and]
  refine ⟨b && s.Sprouts.all fun x => ref02_Span x 300, rfl, ?_, ?_⟩
  · cases b <;> rfl
  · intro h
    simp only [Bool.and_eq_true, List.all_eq_true] at h
    have hsd : 0 ≤ s.Shade ∧ s.Shade ≤ 99 := by
      unfold growth_within at t5
      by_cases h1 : s.Shade ≥ 0 <;> simp [h1] at t5
      omega
    exact ⟨hall _ _ t1, hall _ _ t2, len1 _ t6, hsd.1, hsd.2, h.2⟩
/-! ### Growing -/
theorem index_ok (n : Nat) (age : Int) (h1 : 1 ≤ n) (h2 : n ≤ 1000) (h3 : 0 ≤ age) : decide (0 ≤ imin age (W ((n : Int) - 1)) ∧ imin age (W ((n : Int) - 1)) < (n : Int)) = true := by
  rw [W_id (by omega) (by omega)]
  unfold imin
  split <;> simp <;> omega
theorem weather_some (g : Xgrower) (u : Int) (w : XWeather) (h1 : 0 ≤ g.Species.Shade) (h2 : g.Species.Shade ≤ 99) : ∃ y, growth_grower_inWeather g u w = some y := by
  unfold growth_grower_inWeather
  have d : decide (W (100 * W (100 - g.Species.Shade)) ≠ 0) = true := by
    rw [W_id (n := 100 - g.Species.Shade) (by omega) (by omega), W_id (by omega) (by omega)]
    simp; omega
  rw [d]
  exact ⟨_, rfl⟩
theorem atAge_some (l : List Int) (age : Int) (h1 : 1 ≤ l.length) (h2 : l.length ≤ 1000) (h3 : 0 ≤ age) : ∃ y, growth_atAge l age = some y := by
  unfold growth_atAge
  rw [index_ok l.length age h1 h2 h3]
  exact ⟨_, rfl⟩
structure Good (s : XSpecies) : Prop where
  rise : 1 ≤ s.Rise.length ∧ s.Rise.length ≤ 70
  thick : 1 ≤ s.Thick.length ∧ s.Thick.length ≤ 70
  ladder : s.Ladder.length ≤ 25
  sprouts : 1 ≤ s.Sprouts.length ∧ s.Sprouts.length ≤ 70
  shade : 0 ≤ s.Shade ∧ s.Shade ≤ 99
  spans : ∀ x ∈ s.Sprouts, ref02_Span x 300 = true
theorem height_some (s : XSpecies) (hs : Good s) (x : XStand) (w : XWeather) (h : 0 ≤ x.Age) : ∃ y, growth_grower_height ⟨s⟩ x w = some y := by
  unfold growth_grower_height
  obtain ⟨a, ha⟩ := atAge_some s.Rise x.Age hs.rise.1 (by have := hs.rise.2; omega) h
  obtain ⟨b, hb⟩ := weather_some ⟨s⟩ a w hs.shade.1 hs.shade.2
  rw [ha, Option.bind_some, hb, Option.bind_some]
  cases decide (x.Height < s.Reach) <;> exact ⟨_, rfl⟩
theorem shootsL_some (fu : Nat) (s : XSpecies) (hs : s.Ladder.length ≤ 25) (x : XStand) (w : XWeather) (h : Int) : ∀ (fk i : Nat) (v : Int), i ≤ s.Ladder.length → s.Ladder.length - i < fk → ∃ y, growth_grower_shoots_L fu ⟨s⟩ x w fk v (i : Int) h = some y := by
  intro fk
  induction fk with
  | zero => intro i v _ h; omega
  | succ fk ih =>
    intro i v hi hf
    rw [growth_grower_shoots_L_s0]
    by_cases hlt : i < s.Ladder.length
    · have d1 : decide ((i : Int) < ((s.Ladder.length : Nat) : Int)) = true := by simp; omega
      have d2 : decide (0 ≤ (i : Int) ∧ (i : Int) < ((s.Ladder.length : Nat) : Int)) = true := by simp; omega
      have hw : W ((i : Int) + 1) = ((i + 1 : Nat) : Int) := by rw [W_id (by omega) (by omega)]; push_cast; rfl
      simp only [d1, d2, cond_true, hw]
      cases decide ((at_ zXRung s.Ladder (i : Int)).Height ≤ h)
      · exact ih (i + 1) v (by omega) (by omega)
      · exact ih (i + 1) _ (by omega) (by omega)
    · have d1 : decide ((i : Int) < ((s.Ladder.length : Nat) : Int)) = false := by simp; omega
      simp only [d1, cond_false]
      exact ⟨_, rfl⟩
theorem grow_some (fu : Nat) (hfu : 100 ≤ fu) (s : XSpecies) (hs : Good s) (x : XStand) (w : XWeather) (h : 0 ≤ x.Age) (h1 : 0 ≤ x.Shoots) (h2 : x.Shoots ≤ 300) : ∃ y, growth_grower_grow fu ⟨s⟩ x w = some y := by
  have e : growth_grower_grow fu ⟨s⟩ x w = Option.bind (growth_grower_shoots fu ⟨s⟩ x w) fun x2 => Option.bind (growth_grower_height ⟨s⟩ x w) fun x5 => Option.bind (growth_grower_girth ⟨s⟩ x w) fun x8 => some (⟨imin (W (x.Age + 1)) 100000, x2, x5, x8⟩ : XStand) := rfl
  rw [e]
  obtain ⟨b, hb⟩ := height_some s hs x w h
  have hsh : ∃ a, growth_grower_shoots fu ⟨s⟩ x w = some a := by
    unfold growth_grower_shoots
    rw [hb, Option.bind_some]
    exact shootsL_some fu s hs.ladder x w b fu 0 x.Shoots (by omega) (by have := hs.ladder; omega)
  have hg : ∃ c, growth_grower_girth ⟨s⟩ x w = some c := by
    unfold growth_grower_girth
    obtain ⟨a, ha⟩ := atAge_some s.Thick x.Age hs.thick.1 (by have := hs.thick.2; omega) h
    obtain ⟨b, hb⟩ := weather_some ⟨s⟩ a w hs.shade.1 hs.shade.2
    rw [ha, Option.bind_some, hb, Option.bind_some]
    have d : decide (W (100 + x.Shoots) ≠ 0) = true := by
      rw [W_id (by omega) (by omega)]
      simp; omega
    rw [d]
    exact ⟨_, rfl⟩
  obtain ⟨a, ha⟩ := hsh
  obtain ⟨c, hc⟩ := hg
  rw [ha, hb, hc]
  exact ⟨_, rfl⟩
theorem known_true : law02_known 2100 = some true := by kernel_rfl
theorem season_eq (q : XSeason) : growth_seasonIsDefined q = ref02_Season q := by
  unfold growth_seasonIsDefined ref02_Season
  rw [span_eq, span_eq, span_eq]
theorem within_iff (n a b : Int) : growth_within n a b = true ↔ a ≤ n ∧ n ≤ b := by
  unfold growth_within
  by_cases h : n ≥ a <;> simp [h]
theorem span_iff (x : XSpan) (m : Int) : ref02_Span x m = true ↔ 0 ≤ x.Low ∧ x.Low ≤ x.High ∧ x.High ≤ m := by
  rw [← span_eq]
  unfold growth_isPart
  by_cases h : x.Low ≥ 0 <;> by_cases h2 : x.Low ≤ x.High <;> simp [h, h2] <;> omega
theorem cond_and (a b : Bool) : (bif a then b else false) = (a && b) := by cases a <;> rfl
theorem stand_iff (x : XStand) : growth_standIsDefined x = true ↔ (0 ≤ x.Age ∧ x.Age ≤ 100000) ∧ (0 ≤ x.Shoots ∧ x.Shoots ≤ 300) ∧ (0 ≤ x.Height ∧ x.Height ≤ 40000) ∧ (0 ≤ x.Girth ∧ x.Girth ≤ 3000) := by
  unfold growth_standIsDefined
  simp only [cond_and, Bool.and_eq_true, within_iff]
theorem box_iff (b : XBox) : growth_boxIsDefined b = true ↔ growth_standIsDefined b.Low = true ∧ growth_standIsDefined b.High = true ∧ b.Low.Age = b.High.Age ∧ b.Low.Shoots ≤ b.High.Shoots ∧ b.Low.Height ≤ b.High.Height ∧ b.Low.Girth ≤ b.High.Girth := by
  unfold growth_boxIsDefined
  simp only [cond_and, Bool.and_eq_true, beq_iff_eq, decide_eq_true_eq]
theorem weather_iff (w : XWeather) : growth_weatherIsDefined w = true ↔ (0 ≤ w.Light ∧ w.Light ≤ 100) ∧ (0 ≤ w.Browse ∧ w.Browse ≤ 100) ∧ (0 ≤ w.Mild ∧ w.Mild ≤ 200) := by
  unfold growth_weatherIsDefined
  simp only [cond_and, Bool.and_eq_true, within_iff]
theorem season_iff (q : XSeason) : ref02_Season q = true ↔ (0 ≤ q.Light.Low ∧ q.Light.Low ≤ q.Light.High ∧ q.Light.High ≤ 100) ∧ (0 ≤ q.Browse.Low ∧ q.Browse.Low ≤ q.Browse.High ∧ q.Browse.High ≤ 100) ∧ (0 ≤ q.Mild.Low ∧ q.Mild.Low ≤ q.Mild.High ∧ q.Mild.High ≤ 200) := by
  unfold ref02_Season
  simp only [cond_and, Bool.and_eq_true, span_iff]
theorem Grow_eq (fu : Nat) (s : XSpecies) (x : XStand) (w : XWeather) (y : XStand) (h1 : growth_speciesIsDefined fu s = some true) (h2 : growth_standIsDefined x = true) (h3 : growth_weatherIsDefined w = true) (h4 : growth_grower_grow fu ⟨s⟩ x w = some y) :
    growth_Grow fu s x w = some (y, 0) := by
  unfold growth_Grow
  rw [h1]
  simp only [Option.bind_some, h2, h3, h4, cond_true]
theorem short_iff (s : XSpecies) : law02_short s = true ↔ s.Rise.length ≤ 70 ∧ s.Thick.length ≤ 70 ∧ s.Ladder.length ≤ 25 ∧ s.Sprouts.length ≤ 70 := by
  unfold law02_short
  simp only [cond_and, Bool.and_eq_true, decide_eq_true_eq]
  omega
theorem tight_core (fu : Nat) (hfu : 200 ≤ fu) (hk : law02_known fu = some true) (s : XSpecies) (b : XBox) (q : XSeason) : law02_GrowthTight fu s b q = some true := by
  unfold law02_GrowthTight
  rw [hk]
  rcases Bool.eq_false_or_eq_true (law02_short s) with hs | hs
  rotate_left
  · rw [hs]; rfl
  obtain ⟨B, e1, e2, e3⟩ := species_eq fu s hs hfu
  rw [hs, e1]
  simp only [cond_true, Option.bind_some]
  cases B
  · rfl
  have e3 := e3 rfl
  have hsh := (short_iff s).1 hs
  have hg : Good s := ⟨⟨e3.1, hsh.1⟩, ⟨e3.2.1, hsh.2.1⟩, hsh.2.2.1, ⟨e3.2.2.1, hsh.2.2.2⟩, ⟨e3.2.2.2.1, e3.2.2.2.2.1⟩, e3.2.2.2.2.2⟩
  rcases Bool.eq_false_or_eq_true (ref02_Box b) with hb | hb
  rotate_left
  · rw [hb]; rfl
  rcases Bool.eq_false_or_eq_true (ref02_Season q) with hq | hq
  rotate_left
  · rw [hb, hq]; rfl
  rw [hb, hq]
  simp only [cond_true]
  have hb' : growth_boxIsDefined b = true := hb
  obtain ⟨bl, bh, b1, b2, b3, b4⟩ := (box_iff b).1 hb'
  have bl' := (stand_iff _).1 bl
  have bh' := (stand_iff _).1 bh
  have hq' := (season_iff q).1 hq
  have wg : growth_weatherIsDefined (⟨q.Light.High, q.Browse.Low, q.Mild.High⟩ : XWeather) = true := (weather_iff _).2 (by simp only; omega)
  have wb : growth_weatherIsDefined (⟨q.Light.Low, q.Browse.High, q.Mild.Low⟩ : XWeather) = true := (weather_iff _).2 (by simp only; omega)
  have main : ∀ X : XBox, growth_standIsDefined X.Low = true → growth_standIsDefined X.High = true → X.Low.Age = X.High.Age → ∃ x3 x4 : XStand, growth_grower_grow fu ⟨s⟩ ((growth_crossed X).Low) (⟨q.Light.Low, q.Browse.High, q.Mild.Low⟩ : XWeather) = some x3 ∧
      growth_grower_grow fu ⟨s⟩ ((growth_crossed X).High) (⟨q.Light.High, q.Browse.Low, q.Mild.High⟩ : XWeather) = some x4 ∧
      growth_Grow fu s (⟨X.Low.Age, X.Low.Shoots, X.High.Height, X.High.Girth⟩ : XStand) (⟨q.Light.High, q.Browse.Low, q.Mild.High⟩ : XWeather) = some (x4, 0) ∧
      growth_Grow fu s (⟨X.Low.Age, X.High.Shoots, X.Low.Height, X.Low.Girth⟩ : XStand) (⟨q.Light.Low, q.Browse.High, q.Mild.Low⟩ : XWeather) = some (x3, 0) := by
    intro X h1 h2 h3
    have h1' := (stand_iff _).1 h1
    have h2' := (stand_iff _).1 h2
    obtain ⟨x3, g3⟩ := grow_some fu (by omega) s hg ((growth_crossed X).Low) (⟨q.Light.Low, q.Browse.High, q.Mild.Low⟩ : XWeather) (by show 0 ≤ X.Low.Age; omega) (by show 0 ≤ X.High.Shoots; omega) (by show X.High.Shoots ≤ 300; omega)
    obtain ⟨x4, g4⟩ := grow_some fu (by omega) s hg ((growth_crossed X).High) (⟨q.Light.High, q.Browse.Low, q.Mild.High⟩ : XWeather) (by show 0 ≤ X.High.Age; omega) (by show 0 ≤ X.Low.Shoots; omega) (by show X.Low.Shoots ≤ 300; omega)
    refine ⟨x3, x4, g3, g4, ?_, ?_⟩
    · refine Grow_eq fu s _ _ x4 e2 ((stand_iff _).2 (by simp only; omega)) wg ?_
      have : (⟨X.Low.Age, X.Low.Shoots, X.High.Height, X.High.Girth⟩ : XStand) = (growth_crossed X).High := by rw [h3]; rfl
      rw [this]
      exact g4
    · refine Grow_eq fu s _ _ x3 e2 ((stand_iff _).2 (by simp only; omega)) wb ?_
      exact g3
  have hstep : growth_Step fu s b q = Option.bind (growth_grower_step fu (⟨s⟩ : Xgrower) b q) fun x5 => some (x5, 0) := by
    unfold growth_Step
    rw [e2]
    simp only [Option.bind_some, cond_true, hb', season_eq, hq]
  rw [hstep]
  unfold growth_grower_step
  cases hcut : q.Cut
  · simp only [cond_false]
    obtain ⟨x3, x4, g3, g4, g5, g6⟩ := main b bl bh b1
    simp only [g3, g4, g5, g6, Option.bind_some]
    simp [growth_crossed]
  · simp only [cond_true]
    have hidx := index_ok s.Sprouts.length b.Low.Age hg.sprouts.1 (by have := hg.sprouts.2; omega) (by omega)
    have hc1 : growth_grower_cut ⟨s⟩ b = ref02_Cut s b.Low.Age := by
      unfold growth_grower_cut api_Span_1 ref02_Cut
      simp only [hidx, cond_true, Option.bind_some]
    obtain ⟨X, hX, x1, x2, x3⟩ : ∃ X, ref02_Cut s b.Low.Age = some X ∧ growth_standIsDefined X.Low = true ∧ growth_standIsDefined X.High = true ∧ X.Low.Age = X.High.Age := by
      unfold ref02_Cut
      rw [hidx]
      refine ⟨_, rfl, ?_, ?_, rfl⟩
      all_goals
        have hin : at_ zXSpan s.Sprouts (imin b.Low.Age (W (((s.Sprouts.length : Nat) : Int) - 1))) ∈ s.Sprouts := by
          have h := of_decide_eq_true hidx
          obtain ⟨n, hn⟩ := Int.eq_ofNat_of_zero_le h.1
          rw [hn] at h ⊢
          have hlt : n < s.Sprouts.length := by omega
          rw [show ((n : Nat) : Int) = (n : Int) from rfl, at_get zXSpan s.Sprouts n hlt]
          exact List.getElem_mem hlt
        have hsp := (span_iff _ _).1 (hg.spans _ hin)
        refine (stand_iff _).2 ?_
        simp only
        omega
    obtain ⟨y3, y4, g3, g4, g5, g6⟩ := main X x1 x2 x3
    rw [hc1, hX]
    simp only [Option.bind_some, g3, g4, g5, g6]
    simp [growth_crossed]
theorem tight_true (s : XSpecies) (b : XBox) (q : XSeason) : ∃ fu, law02_GrowthTight fu s b q = some true := ⟨2100, tight_core 2100 (by omega) known_true s b q⟩
end Go.Proofs.G2
