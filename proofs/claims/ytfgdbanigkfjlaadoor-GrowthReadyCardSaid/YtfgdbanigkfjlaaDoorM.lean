/- Growing, cutting and boxes in plain numbers, and what the program's functions say of them. No conditions. -/
import Derived.Test.YtfgdbanigkfjlaaDoorGc
namespace Go.Proofs.G2
open Go Go.Sim Go.Proofs
set_option maxRecDepth 4000
theorem W_id {n : Int} (h1 : -9000000000000000000 ≤ n) (h2 : n ≤ 9000000000000000000) : W n = n := by
  show IntKind.i64.wrap n = n
  simp [IntKind.wrap, IntKind.bits, IntKind.signed]
  omega
theorem at_get {X : Type} (z : X) (l : List X) (i : Nat) (h : i < l.length) : at_ z l (i : Int) = l[i] := by
  unfold at_
  simp [List.getD, List.getElem?_eq_getElem h]
theorem loop_all {X : Type} (l : List X) (z : X) (t : X → Bool) (e : Bool) (g : Nat → Int → Option Bool)
    (hg : ∀ fk v, g (fk + 1) v = bif decide (v < ((l.length : Nat) : Int)) then (bif decide (0 ≤ v ∧ v < ((l.length : Nat) : Int)) then (bif t (at_ z l v) then g fk (W (v + 1)) else some false) else none) else some e) (hlen : l.length ≤ 1000) :
    ∀ (fk i : Nat), i ≤ l.length → l.length - i < fk → g fk (i : Int) = some ((l.drop i).all t && e) := by
  intro fk
  induction fk with
  | zero => intro i _ h; omega
  | succ fk ih =>
    intro i hi hf
    rw [hg]
    by_cases hlt : i < l.length
    · have d1 : decide ((i : Int) < ((l.length : Nat) : Int)) = true := by simp; omega
      have d2 : decide (0 ≤ (i : Int) ∧ (i : Int) < ((l.length : Nat) : Int)) = true := by simp; omega
      have hw : W ((i : Int) + 1) = ((i + 1 : Nat) : Int) := by rw [W_id (by omega) (by omega)]; push_cast; rfl
      rw [d1, d2, cond_true, cond_true, at_get z l i hlt, hw, ih (i + 1) (by omega) (by omega), List.drop_eq_getElem_cons hlt]
      simp only [List.all_cons]
      cases t l[i] <;> simp
    · have d1 : decide ((i : Int) < ((l.length : Nat) : Int)) = false := by simp; omega
      rw [d1, cond_false, List.drop_of_length_le (by omega)]
      simp
theorem in_within (n a b : Int) : ref02_in n a b = growth_within n a b := rfl
theorem table_eq (fu : Nat) (l : List Int) (most : Int) (h : l.length ≤ 70) (hfu : 100 ≤ fu) :
    ref02_table fu l most = some ((l.all fun x => growth_within x 0 most) && growth_within ((l.length : Nat) : Int) 1 60) := by
  have := loop_all l 0 (fun x => ref02_in x 0 most) (ref02_in ((l.length : Nat) : Int) 1 60) (fun fk v => ref02_table_L fu l most fk false v) (fun fk v => ref02_table_L_s0 fu l most fk false v) (by omega) fu 0 (by omega) (by omega)
  simp only [List.drop_zero] at this
  exact this
theorem years_eq (fu : Nat) (l : List Int) (most : Int) (h : l.length ≤ 70) (hfu : 100 ≤ fu) :
    growth_yearsAreDefined fu l most = some ((l.all fun x => growth_within x 0 most) && growth_within ((l.length : Nat) : Int) 1 60) := by
  have := loop_all l 0 (fun x => growth_yearsAreDefined_1 x most) true (fun fk v => growth_all_L fu l most fk false v) (fun fk v => growth_all_L_s0 fu l most fk false v) (by omega) fu 0 (by omega) (by omega)
  have h2 : growth_all fu l most = some ((l.all fun x => growth_within x 0 most) && true) := by
    simp only [List.drop_zero] at this
    exact this
  unfold growth_yearsAreDefined
  rw [h2]
  cases growth_within ((l.length : Nat) : Int) 1 60 <;> simp
theorem span_eq (s : XSpan) (m : Int) : growth_isPart s m = ref02_Span s m := by
  unfold growth_isPart ref02_Span ref02_in
  cases decide (s.Low ≥ 0) <;> rfl
theorem sprouts_eq (fu : Nat) (l : List XSpan) (h : l.length ≤ 70) (hfu : 100 ≤ fu) :
    growth_sproutsAreDefined fu l = some (growth_within ((l.length : Nat) : Int) 1 60 && l.all fun x => ref02_Span x 300) := by
  have := loop_all l zXSpan (fun x => growth_sproutsAreDefined_1 x) true (fun fk v => api_Span_L fu l fk false v) (fun fk v => api_Span_L_s0 fu l fk false v) (by omega) fu 0 (by omega) (by omega)
  have h2 : api_Span fu l = some ((l.all fun x => ref02_Span x 300) && true) := by
    simp only [List.drop_zero] at this
    have e : (fun x => growth_sproutsAreDefined_1 x) = fun x => ref02_Span x 300 := by funext x; exact span_eq x 300
    rw [e] at this
    exact this
  unfold growth_sproutsAreDefined
  rw [h2]
  cases growth_within ((l.length : Nat) : Int) 1 60 <;> simp
theorem refSprouts (fu : Nat) (s : XSpecies) (h : s.Sprouts.length ≤ 70) (v : Bool) : ∀ (fk i : Nat), i ≤ s.Sprouts.length → s.Sprouts.length - i < fk → (ref02_Species_L fu s fk).2 v (i : Int) = some ((s.Sprouts.drop i).all (fun x => ref02_Span x 300) && true) :=
  loop_all s.Sprouts zXSpan (fun x => ref02_Span x 300) true (fun fk w => (ref02_Species_L fu s fk).2 v w) (fun fk w => ref02_Species_L_s1 fu s fk v w) (by omega)
theorem ladder_eq (fu : Nat) (s : XSpecies) (h1 : s.Ladder.length ≤ 25) (h2 : s.Sprouts.length ≤ 70) (v v' : Bool) : ∀ (fk i : Nat), i ≤ s.Ladder.length → (s.Ladder.length - i) + s.Sprouts.length + 1 < fk →
    ∃ b, growth_ladderIsDefined_L fu s.Ladder fk v (i : Int) = some b ∧ (ref02_Species_L fu s fk).1 v' (i : Int) = some (b && s.Sprouts.all fun x => ref02_Span x 300) := by
  intro fk
  induction fk with
  | zero => intro i _ h; omega
  | succ fk ih =>
    intro i hi hf
    rw [growth_ladderIsDefined_L_s0, ref02_Species_L_s0]
    by_cases hlt : i < s.Ladder.length
    · have d1 : decide ((i : Int) < ((s.Ladder.length : Nat) : Int)) = true := by simp; omega
      have d2 : decide (0 ≤ (i : Int) ∧ (i : Int) < ((s.Ladder.length : Nat) : Int)) = true := by simp; omega
      have hw : W ((i : Int) + 1) = ((i + 1 : Nat) : Int) := by rw [W_id (by omega) (by omega)]; push_cast; rfl
      obtain ⟨b, i1, i2⟩ := ih (i + 1) (by omega) (by omega)
      rw [d1, d2]
      simp only [cond_true, hw, i1, i2, in_within]
      cases growth_within (at_ zXRung s.Ladder (i : Int)).Height 1 40000
      · exact ⟨false, rfl, rfl⟩
      cases growth_within (at_ zXRung s.Ladder (i : Int)).Shoots 0 300
      · exact ⟨false, rfl, rfl⟩
      simp only [cond_true]
      by_cases h0 : (i : Int) > 0
      · have d3 : decide ((i : Int) > 0) = true := by simpa using h0
        have hw2 : W ((i : Int) - 1) = (i : Int) - 1 := W_id (by omega) (by omega)
        have d4 : decide (0 ≤ (i : Int) - 1 ∧ (i : Int) - 1 < ((s.Ladder.length : Nat) : Int)) = true := by simp; omega
        rw [d3, hw2, d4]
        simp only [cond_true]
        cases decide ((at_ zXRung s.Ladder (i : Int)).Height ≤ (at_ zXRung s.Ladder ((i : Int) - 1)).Height)
        · cases decide ((at_ zXRung s.Ladder (i : Int)).Shoots ≥ (at_ zXRung s.Ladder ((i : Int) - 1)).Shoots)
          · exact ⟨b, rfl, rfl⟩
          · exact ⟨false, rfl, rfl⟩
        · exact ⟨false, rfl, rfl⟩
      · have d3 : decide ((i : Int) > 0) = false := by simpa using h0
        rw [d3]
        exact ⟨b, rfl, rfl⟩
    · have d1 : decide ((i : Int) < ((s.Ladder.length : Nat) : Int)) = false := by simp; omega
      rw [d1]
      simp only [cond_false]
      refine ⟨true, rfl, ?_⟩
      have := refSprouts fu s h2 v' fk 0 (by omega) (by omega)
      simpa using this
/-- The species: both say the same; and what it means. -/
theorem species_eq (fu : Nat) (s : XSpecies) (hs : law02_short s = true) (hfu : 200 ≤ fu) :
    ∃ B, ref02_Species fu s = some B ∧ growth_speciesIsDefined fu s = some B ∧ (B = true → 1 ≤ s.Rise.length ∧ 1 ≤ s.Thick.length ∧ 1 ≤ s.Sprouts.length ∧ 0 ≤ s.Shade ∧ s.Shade ≤ 99 ∧ ∀ x ∈ s.Sprouts, ref02_Span x 300 = true) := by
  have hsh : s.Rise.length ≤ 70 ∧ s.Thick.length ≤ 70 ∧ s.Ladder.length ≤ 25 ∧ s.Sprouts.length ≤ 70 := by
    unfold law02_short at hs
    by_cases a1 : ((s.Rise.length : Nat) : Int) ≤ 70 <;> by_cases a2 : ((s.Thick.length : Nat) : Int) ≤ 70 <;> by_cases a3 : ((s.Ladder.length : Nat) : Int) ≤ 25 <;> by_cases a4 : ((s.Sprouts.length : Nat) : Int) ≤ 70 <;> simp [a1, a2, a3, a4] at hs
    omega
  obtain ⟨l1, l2, l3, l4⟩ := hsh
  obtain ⟨b, hb1, hb2⟩ := ladder_eq fu s l3 l4 false false fu 0 (by omega) (by omega)
  unfold ref02_Species growth_speciesIsDefined
  rw [table_eq fu s.Rise 5000 l1 (by omega), table_eq fu s.Thick 300 l2 (by omega), years_eq fu s.Rise 5000 l1 (by omega), years_eq fu s.Thick 300 l2 (by omega), sprouts_eq fu s.Sprouts l4 (by omega)]
  have hl : growth_ladderIsDefined fu s.Ladder = bif decide (((s.Ladder.length : Nat) : Int) > 20) then some false else some b := by
    unfold growth_ladderIsDefined
    rw [show growth_ladderIsDefined_L fu s.Ladder fu false 0 = some b from hb1]
  rw [hl, show (ref02_Species_L fu s fu).1 false 0 = _ from hb2]
  simp only [Option.bind_some, in_within]
  have len1 : ∀ n : Nat, growth_within (n : Int) 1 60 = true → 1 ≤ n := by
    intro n h
    unfold growth_within at h
    by_cases h1 : (n : Int) ≥ 1 <;> simp [h1] at h
    omega
  have hall : ∀ (l : List Int) (m : Int), ((l.all fun x => growth_within x 0 m) && growth_within ((l.length : Nat) : Int) 1 60) = true → 1 ≤ l.length := by
    intro l m h
    simp only [Bool.and_eq_true] at h
    exact len1 _ h.2
  rcases Bool.eq_false_or_eq_true ((s.Rise.all fun x => growth_within x 0 5000) && growth_within ((s.Rise.length : Nat) : Int) 1 60) with t1 | t1
  rotate_left
  · rw [t1]; exact ⟨false, rfl, rfl, fun h => by cases h⟩
  rcases Bool.eq_false_or_eq_true ((s.Thick.all fun x => growth_within x 0 300) && growth_within ((s.Thick.length : Nat) : Int) 1 60) with t2 | t2
  rotate_left
  · rw [t1, t2]; exact ⟨false, rfl, rfl, fun h => by cases h⟩
  rw [t1, t2]
  simp only [cond_true]
  cases growth_within s.Top 1 40000
  · exact ⟨false, rfl, rfl, fun h => by cases h⟩
  cases growth_within s.Stout 1 3000
  · exact ⟨false, rfl, rfl, fun h => by cases h⟩
  rcases Bool.eq_false_or_eq_true (growth_within s.Shade 0 99) with t5 | t5
  rotate_left
  · rw [t5]; exact ⟨false, rfl, rfl, fun h => by cases h⟩
  rw [t5]
  simp only [cond_true]
  cases growth_within s.Reach 0 40000
  · exact ⟨false, rfl, rfl, fun h => by cases h⟩
  simp only [cond_true]
  cases decide (((s.Ladder.length : Nat) : Int) > 20)
  rotate_left
  · exact ⟨false, rfl, rfl, fun h => by cases h⟩
  simp only [cond_false, Option.bind_some]
  rcases Bool.eq_false_or_eq_true (growth_within ((s.Sprouts.length : Nat) : Int) 1 60) with t6 | t6
  rotate_left
  · rw [t6]
    cases b
    · exact ⟨false, rfl, rfl, fun h => by cases h⟩
    · exact ⟨false, rfl, rfl, fun h => by cases h⟩
  rw [t6]
  simp only [cond_true, Bool.true_and]
  refine ⟨b && s.Sprouts.all fun x => ref02_Span x 300, rfl, ?_, ?_⟩
  · cases b <;> rfl
  · intro h
    simp only [Bool.and_eq_true, List.all_eq_true] at h
    have hsd : 0 ≤ s.Shade ∧ s.Shade ≤ 99 := by
      unfold growth_within at t5
      by_cases h1 : s.Shade ≥ 0 <;> simp [h1] at t5
      omega
    exact ⟨hall _ _ t1, hall _ _ t2, len1 _ t6, hsd.1, hsd.2, h.2⟩
/-! ### Growing -/
theorem index_ok (n : Nat) (age : Int) (h1 : 1 ≤ n) (h2 : n ≤ 1000) (h3 : 0 ≤ age) : decide (0 ≤ imin age (W ((n : Int) - 1)) ∧ imin age (W ((n : Int) - 1)) < (n : Int)) = true := by
  rw [W_id (by omega) (by omega)]
  unfold imin
  split <;> simp <;> omega
theorem weather_some (g : Xgrower) (u : Int) (w : XWeather) (h1 : 0 ≤ g.Species.Shade) (h2 : g.Species.Shade ≤ 99) : ∃ y, growth_grower_inWeather g u w = some y := by
  unfold growth_grower_inWeather
  have d : decide (W (100 * W (100 - g.Species.Shade)) ≠ 0) = true := by
    rw [W_id (n := 100 - g.Species.Shade) (by omega) (by omega), W_id (by omega) (by omega)]
    simp; omega
  rw [d]
  exact ⟨_, rfl⟩
theorem atAge_some (l : List Int) (age : Int) (h1 : 1 ≤ l.length) (h2 : l.length ≤ 1000) (h3 : 0 ≤ age) : ∃ y, growth_atAge l age = some y := by
  unfold growth_atAge
  rw [index_ok l.length age h1 h2 h3]
  exact ⟨_, rfl⟩
structure Good (s : XSpecies) : Prop where
  rise : 1 ≤ s.Rise.length ∧ s.Rise.length ≤ 70
  thick : 1 ≤ s.Thick.length ∧ s.Thick.length ≤ 70
  ladder : s.Ladder.length ≤ 25
  sprouts : 1 ≤ s.Sprouts.length ∧ s.Sprouts.length ≤ 70
  shade : 0 ≤ s.Shade ∧ s.Shade ≤ 99
  spans : ∀ x ∈ s.Sprouts, ref02_Span x 300 = true
theorem height_some (s : XSpecies) (hs : Good s) (x : XStand) (w : XWeather) (h : 0 ≤ x.Age) : ∃ y, growth_grower_height ⟨s⟩ x w = some y := by
  unfold growth_grower_height
  obtain ⟨a, ha⟩ := atAge_some s.Rise x.Age hs.rise.1 (by have := hs.rise.2; omega) h
  obtain ⟨b, hb⟩ := weather_some ⟨s⟩ a w hs.shade.1 hs.shade.2
  rw [ha, Option.bind_some, hb, Option.bind_some]
  cases decide (x.Height < s.Reach) <;> exact ⟨_, rfl⟩
theorem shootsL_some (fu : Nat) (s : XSpecies) (hs : s.Ladder.length ≤ 25) (x : XStand) (w : XWeather) (h : Int) : ∀ (fk i : Nat) (v : Int), i ≤ s.Ladder.length → s.Ladder.length - i < fk → ∃ y, growth_grower_shoots_L fu ⟨s⟩ x w fk v (i : Int) h = some y := by
  intro fk
  induction fk with
  | zero => intro i v _ h; omega
  | succ fk ih =>
    intro i v hi hf
    rw [growth_grower_shoots_L_s0]
    by_cases hlt : i < s.Ladder.length
    · have d1 : decide ((i : Int) < ((s.Ladder.length : Nat) : Int)) = true := by simp; omega
      have d2 : decide (0 ≤ (i : Int) ∧ (i : Int) < ((s.Ladder.length : Nat) : Int)) = true := by simp; omega
      have hw : W ((i : Int) + 1) = ((i + 1 : Nat) : Int) := by rw [W_id (by omega) (by omega)]; push_cast; rfl
      simp only [d1, d2, cond_true, hw]
      cases decide ((at_ zXRung s.Ladder (i : Int)).Height ≤ h)
      · exact ih (i + 1) v (by omega) (by omega)
      · exact ih (i + 1) _ (by omega) (by omega)
    · have d1 : decide ((i : Int) < ((s.Ladder.length : Nat) : Int)) = false := by simp; omega
      simp only [d1, cond_false]
      exact ⟨_, rfl⟩
theorem grow_some (fu : Nat) (hfu : 100 ≤ fu) (s : XSpecies) (hs : Good s) (x : XStand) (w : XWeather) (h : 0 ≤ x.Age) (h1 : 0 ≤ x.Shoots) (h2 : x.Shoots ≤ 300) : ∃ y, growth_grower_grow fu ⟨s⟩ x w = some y := by
  have e : growth_grower_grow fu ⟨s⟩ x w = Option.bind (growth_grower_shoots fu ⟨s⟩ x w) fun x2 => Option.bind (growth_grower_height ⟨s⟩ x w) fun x5 => Option.bind (growth_grower_girth ⟨s⟩ x w) fun x8 => some (⟨imin (W (x.Age + 1)) 100000, x2, x5, x8⟩ : XStand) := rfl
  rw [e]
  obtain ⟨b, hb⟩ := height_some s hs x w h
  have hsh : ∃ a, growth_grower_shoots fu ⟨s⟩ x w = some a := by
    unfold growth_grower_shoots
    rw [hb, Option.bind_some]
    exact shootsL_some fu s hs.ladder x w b fu 0 x.Shoots (by omega) (by have := hs.ladder; omega)
  have hg : ∃ c, growth_grower_girth ⟨s⟩ x w = some c := by
    unfold growth_grower_girth
    obtain ⟨a, ha⟩ := atAge_some s.Thick x.Age hs.thick.1 (by have := hs.thick.2; omega) h
    obtain ⟨b, hb⟩ := weather_some ⟨s⟩ a w hs.shade.1 hs.shade.2
    rw [ha, Option.bind_some, hb, Option.bind_some]
    have d : decide (W (100 + x.Shoots) ≠ 0) = true := by
      rw [W_id (by omega) (by omega)]
      simp; omega
    rw [d]
    exact ⟨_, rfl⟩
  obtain ⟨a, ha⟩ := hsh
  obtain ⟨c, hc⟩ := hg
  rw [ha, hb, hc]
  exact ⟨_, rfl⟩
theorem known_true : law02_known 2100 = some true := by kernel_rfl
theorem season_eq (q : XSeason) : growth_seasonIsDefined q = ref02_Season q := by
  unfold growth_seasonIsDefined ref02_Season
  rw [span_eq, span_eq, span_eq]
theorem within_iff (n a b : Int) : growth_within n a b = true ↔ a ≤ n ∧ n ≤ b := by
  unfold growth_within
  by_cases h : n ≥ a <;> simp [h]
theorem span_iff (x : XSpan) (m : Int) : ref02_Span x m = true ↔ 0 ≤ x.Low ∧ x.Low ≤ x.High ∧ x.High ≤ m := by
  rw [← span_eq]
  unfold growth_isPart
  by_cases h : x.Low ≥ 0 <;> by_cases h2 : x.Low ≤ x.High <;> simp [h, h2] <;> omega
theorem cond_and (a b : Bool) : (bif a then b else false) = (a && b) := by cases a <;> rfl
theorem stand_iff (x : XStand) : growth_standIsDefined x = true ↔ (0 ≤ x.Age ∧ x.Age ≤ 100000) ∧ (0 ≤ x.Shoots ∧ x.Shoots ≤ 300) ∧ (0 ≤ x.Height ∧ x.Height ≤ 40000) ∧ (0 ≤ x.Girth ∧ x.Girth ≤ 3000) := by
  unfold growth_standIsDefined
  simp only [cond_and, Bool.and_eq_true, within_iff]
theorem box_iff (b : XBox) : growth_boxIsDefined b = true ↔ growth_standIsDefined b.Low = true ∧ growth_standIsDefined b.High = true ∧ b.Low.Age = b.High.Age ∧ b.Low.Shoots ≤ b.High.Shoots ∧ b.Low.Height ≤ b.High.Height ∧ b.Low.Girth ≤ b.High.Girth := by
  unfold growth_boxIsDefined
  simp only [cond_and, Bool.and_eq_true, beq_iff_eq, decide_eq_true_eq]
theorem weather_iff (w : XWeather) : growth_weatherIsDefined w = true ↔ (0 ≤ w.Light ∧ w.Light ≤ 100) ∧ (0 ≤ w.Browse ∧ w.Browse ≤ 100) ∧ (0 ≤ w.Mild ∧ w.Mild ≤ 200) := by
  unfold growth_weatherIsDefined
  simp only [cond_and, Bool.and_eq_true, within_iff]
theorem season_iff (q : XSeason) : ref02_Season q = true ↔ (0 ≤ q.Light.Low ∧ q.Light.Low ≤ q.Light.High ∧ q.Light.High ≤ 100) ∧ (0 ≤ q.Browse.Low ∧ q.Browse.Low ≤ q.Browse.High ∧ q.Browse.High ≤ 100) ∧ (0 ≤ q.Mild.Low ∧ q.Mild.Low ≤ q.Mild.High ∧ q.Mild.High ≤ 200) := by
  unfold ref02_Season
  simp only [cond_and, Bool.and_eq_true, span_iff]
theorem Grow_eq (fu : Nat) (s : XSpecies) (x : XStand) (w : XWeather) (y : XStand) (h1 : growth_speciesIsDefined fu s = some true) (h2 : growth_standIsDefined x = true) (h3 : growth_weatherIsDefined w = true) (h4 : growth_grower_grow fu ⟨s⟩ x w = some y) :
    growth_Grow fu s x w = some (y, 0) := by
  unfold growth_Grow
  rw [h1]
  simp only [Option.bind_some, h2, h3, h4, cond_true]
theorem short_iff (s : XSpecies) : law02_short s = true ↔ s.Rise.length ≤ 70 ∧ s.Thick.length ≤ 70 ∧ s.Ladder.length ≤ 25 ∧ s.Sprouts.length ≤ 70 := by
  unfold law02_short
  simp only [cond_and, Bool.and_eq_true, decide_eq_true_eq]
  omega
end Go.Proofs.G2
namespace Go.Proofs.G2
open Go Go.Sim Go.Proofs
set_option maxRecDepth 4000
/-! ### Arithmetic -/
theorem mulb {a b A B : Int} (ha : 0 ≤ a) (ha' : a ≤ A) (hb : 0 ≤ b) (hb' : b ≤ B) : 0 ≤ a * b ∧ a * b ≤ A * B :=
  ⟨Int.mul_nonneg ha hb, Int.mul_le_mul ha' hb' hb (by omega)⟩
theorem tdiv_mono {a b c : Int} (ha : 0 ≤ a) (h : a ≤ b) (hc : 0 < c) : a.tdiv c ≤ b.tdiv c := by
  rw [Int.tdiv_eq_ediv_of_nonneg ha, Int.tdiv_eq_ediv_of_nonneg (by omega)]
  exact Int.ediv_le_ediv hc h
theorem tdiv_anti {a c d : Int} (ha : 0 ≤ a) (hc : 0 < c) (h : c ≤ d) : a.tdiv d ≤ a.tdiv c := by
  rw [Int.tdiv_eq_ediv_of_nonneg ha, Int.tdiv_eq_ediv_of_nonneg ha]
  refine (Int.le_ediv_iff_mul_le hc).2 ?_
  have h1 : 0 ≤ a / d := Int.ediv_nonneg ha (by omega)
  have h2 : a / d * d ≤ a := Int.ediv_mul_le a (by omega)
  exact Int.le_trans (Int.mul_le_mul_of_nonneg_left h h1) h2
theorem tdiv_nonneg {a c : Int} (ha : 0 ≤ a) (hc : 0 < c) : 0 ≤ a.tdiv c := Int.tdiv_nonneg ha (by omega)
theorem tdiv_le {a c : Int} (ha : 0 ≤ a) (_hc : 0 < c) : a.tdiv c ≤ a := by
  rw [Int.tdiv_eq_ediv_of_nonneg ha]
  exact Int.ediv_le_self c ha
theorem imin_le (a b : Int) : imin a b ≤ a ∧ imin a b ≤ b ∧ (imin a b = a ∨ imin a b = b) := by unfold imin; split <;> omega
theorem imax_le (a b : Int) : a ≤ imax a b ∧ b ≤ imax a b ∧ (imax a b = a ∨ imax a b = b) := by unfold imax; split <;> omega
theorem imin_mono {a b c d : Int} (h : a ≤ c) (k : b ≤ d) : imin a b ≤ imin c d := by unfold imin; split <;> split <;> omega
theorem imax_mono {a b c d : Int} (h : a ≤ c) (k : b ≤ d) : imax a b ≤ imax c d := by unfold imax; split <;> split <;> omega
/-! ### What is known of a species that is as defined -/
structure FineS (s : XSpecies) : Prop where
  rise : 1 ≤ s.Rise.length ∧ s.Rise.length ≤ 60
  rises : ∀ x ∈ s.Rise, 0 ≤ x ∧ x ≤ 5000
  thick : 1 ≤ s.Thick.length ∧ s.Thick.length ≤ 60
  thicks : ∀ x ∈ s.Thick, 0 ≤ x ∧ x ≤ 300
  top : 1 ≤ s.Top ∧ s.Top ≤ 40000
  stout : 1 ≤ s.Stout ∧ s.Stout ≤ 3000
  shade : 0 ≤ s.Shade ∧ s.Shade ≤ 99
  reach : 0 ≤ s.Reach ∧ s.Reach ≤ 40000
  ladder : s.Ladder.length ≤ 20
  rungs : ∀ r ∈ s.Ladder, 0 ≤ r.Shoots ∧ r.Shoots ≤ 300
  sprouts : 1 ≤ s.Sprouts.length ∧ s.Sprouts.length ≤ 60
  spans : ∀ x ∈ s.Sprouts, 0 ≤ x.Low ∧ x.Low ≤ x.High ∧ x.High ≤ 300
theorem ladder_rungs (fu : Nat) (l : List XRung) (hl : l.length ≤ 1000) : ∀ (fk : Nat) (v : Bool) (i : Nat), growth_ladderIsDefined_L fu l fk v (i : Int) = some true → ∀ r ∈ l.drop i, 0 ≤ r.Shoots ∧ r.Shoots ≤ 300 := by
  intro fk
  induction fk with
  | zero => intro v i h; cases h
  | succ fk ih =>
    intro v i h
    rw [growth_ladderIsDefined_L_s0] at h
    by_cases hlt : i < l.length
    · have d1 : decide ((i : Int) < ((l.length : Nat) : Int)) = true := by simp; omega
      have d2 : decide (0 ≤ (i : Int) ∧ (i : Int) < ((l.length : Nat) : Int)) = true := by simp; omega
      have hw : W ((i : Int) + 1) = ((i + 1 : Nat) : Int) := by rw [W_id (by omega) (by omega)]; push_cast; rfl
      rw [d1, d2] at h
      simp only [cond_true, hw] at h
      rw [List.drop_eq_getElem_cons hlt]
      rcases Bool.eq_false_or_eq_true (growth_within (at_ zXRung l (i : Int)).Height 1 40000) with t1 | t1
      rotate_left
      · rw [t1] at h; cases h
      rcases Bool.eq_false_or_eq_true (growth_within (at_ zXRung l (i : Int)).Shoots 0 300) with t2 | t2
      rotate_left
      · rw [t1, t2] at h; cases h
      rw [t1, t2] at h
      simp only [cond_true] at h
      have hsh := (within_iff _ _ _).1 t2
      rw [at_get zXRung l i hlt] at hsh
      have rest : ∀ r ∈ l.drop (i + 1), 0 ≤ r.Shoots ∧ r.Shoots ≤ 300 := by
        cases hgt : decide ((i : Int) > 0) with
        | false => rw [hgt] at h; exact ih _ _ h
        | true =>
          rw [hgt] at h
          simp only [cond_true] at h
          have h0 : (i : Int) > 0 := of_decide_eq_true hgt
          have hw2 : W ((i : Int) - 1) = (i : Int) - 1 := W_id (by omega) (by omega)
          have d4 : decide (0 ≤ (i : Int) - 1 ∧ (i : Int) - 1 < ((l.length : Nat) : Int)) = true := by simp; omega
          rw [hw2, d4] at h
          simp only [cond_true] at h
          cases ha : decide ((at_ zXRung l (i : Int)).Height ≤ (at_ zXRung l ((i : Int) - 1)).Height) with
          | true => rw [ha] at h; cases h
          | false =>
            rw [ha] at h
            simp only [cond_false] at h
            cases hb : decide ((at_ zXRung l (i : Int)).Shoots ≥ (at_ zXRung l ((i : Int) - 1)).Shoots) with
            | true => rw [hb] at h; cases h
            | false => rw [hb] at h; exact ih _ _ h
      intro r hr
      rcases List.mem_cons.1 hr with rfl | hr
      · exact hsh
      · exact rest r hr
    · rw [List.drop_of_length_le (by omega)]
      intro r hr
      cases hr
theorem fine_species (fu : Nat) (s : XSpecies) (hs : law02_short s = true) (hfu : 200 ≤ fu) (h : growth_speciesIsDefined fu s = some true) : FineS s := by
  have hsh := (short_iff s).1 hs
  have key : ∀ (l : List Int) (m : Int), ((l.all fun x => growth_within x 0 m) && growth_within ((l.length : Nat) : Int) 1 60) = true → (1 ≤ l.length ∧ l.length ≤ 60) ∧ ∀ x ∈ l, 0 ≤ x ∧ x ≤ m := by
    intro l m h
    simp only [Bool.and_eq_true, List.all_eq_true, within_iff] at h
    exact ⟨by omega, fun x hx => h.1 x hx⟩
  unfold growth_speciesIsDefined at h
  rw [years_eq fu s.Rise 5000 hsh.1 (by omega), years_eq fu s.Thick 300 hsh.2.1 (by omega), sprouts_eq fu s.Sprouts hsh.2.2.2 (by omega)] at h
  simp only [Option.bind_some] at h
  rcases Bool.eq_false_or_eq_true ((s.Rise.all fun x => growth_within x 0 5000) && growth_within ((s.Rise.length : Nat) : Int) 1 60) with t1 | t1
  rotate_left
  · rw [t1] at h; cases h
  rcases Bool.eq_false_or_eq_true ((s.Thick.all fun x => growth_within x 0 300) && growth_within ((s.Thick.length : Nat) : Int) 1 60) with t2 | t2
  rotate_left
  · rw [t1, t2] at h; cases h
  rw [t1, t2] at h
  simp only [cond_true] at h
  rcases Bool.eq_false_or_eq_true (growth_within s.Top 1 40000) with t3 | t3
  rotate_left
  · rw [t3] at h; cases h
  rcases Bool.eq_false_or_eq_true (growth_within s.Stout 1 3000) with t4 | t4
  rotate_left
  · rw [t3, t4] at h; cases h
  rcases Bool.eq_false_or_eq_true (growth_within s.Shade 0 99) with t5 | t5
  rotate_left
  · rw [t3, t4, t5] at h; cases h
  rcases Bool.eq_false_or_eq_true (growth_within s.Reach 0 40000) with t6 | t6
  rotate_left
  · rw [t3, t4, t5, t6] at h; cases h
  rw [t3, t4, t5, t6] at h
  simp only [cond_true] at h
  cases hl : growth_ladderIsDefined fu s.Ladder with
  | none => rw [hl] at h; cases h
  | some b =>
    rw [hl] at h
    simp only [Option.bind_some] at h
    cases b with
    | false => cases h
    | true =>
      simp only [cond_true] at h
      have h := Option.some.inj h
      simp only [Bool.and_eq_true, List.all_eq_true, within_iff, span_iff] at h
      have hlad : s.Ladder.length ≤ 20 ∧ ∀ r ∈ s.Ladder, 0 ≤ r.Shoots ∧ r.Shoots ≤ 300 := by
        unfold growth_ladderIsDefined at hl
        cases hgt : decide (((s.Ladder.length : Nat) : Int) > 20) with
        | true => rw [hgt] at hl; cases hl
        | false =>
          rw [hgt] at hl
          have hle : ¬ ((s.Ladder.length : Nat) : Int) > 20 := of_decide_eq_false hgt
          have := ladder_rungs fu s.Ladder (by omega) fu false 0 hl
          rw [List.drop_zero] at this
          exact ⟨by omega, this⟩
      exact ⟨(key _ _ t1).1, (key _ _ t1).2, (key _ _ t2).1, (key _ _ t2).2, (within_iff _ _ _).1 t3, (within_iff _ _ _).1 t4, (within_iff _ _ _).1 t5, (within_iff _ _ _).1 t6, hlad.1, hlad.2, by omega, h.2⟩
/-! ### Growing in plain numbers -/
def atZ (l : List Int) (age : Int) : Int := at_ 0 l (imin age (((l.length : Nat) : Int) - 1))
noncomputable def weatherZ (s : XSpecies) (u : Int) (w : XWeather) : Int := (u * imax 0 (w.Light - s.Shade) * w.Mild).tdiv (100 * (100 - s.Shade))
noncomputable def riseZ (s : XSpecies) (age h : Int) (w : XWeather) : Int :=
  if h < s.Reach then (weatherZ s (atZ s.Rise age) w * (100 - w.Browse)).tdiv 100 else weatherZ s (atZ s.Rise age) w
noncomputable def heightZ (s : XSpecies) (age h : Int) (w : XWeather) : Int := imin (h + riseZ s age h w) s.Top
noncomputable def girthZ (s : XSpecies) (age sh g : Int) (w : XWeather) : Int := imin (g + (weatherZ s (atZ s.Thick age) w * 100).tdiv (100 + sh)) s.Stout
def crowdZ (l : List XRung) (sh h : Int) : Int := l.foldl (fun v r => if r.Height ≤ h then imin v r.Shoots else v) sh
noncomputable def growZ (s : XSpecies) (x : XStand) (w : XWeather) : XStand :=
  ⟨imin (x.Age + 1) 100000, crowdZ s.Ladder x.Shoots (heightZ s x.Age x.Height w), heightZ s x.Age x.Height w, girthZ s x.Age x.Shoots x.Girth w⟩
structure OkS (x : XStand) : Prop where
  age : 0 ≤ x.Age ∧ x.Age ≤ 100000
  shoots : 0 ≤ x.Shoots ∧ x.Shoots ≤ 300
  height : 0 ≤ x.Height ∧ x.Height ≤ 40000
  girth : 0 ≤ x.Girth ∧ x.Girth ≤ 3000
structure OkW (w : XWeather) : Prop where
  light : 0 ≤ w.Light ∧ w.Light ≤ 100
  browse : 0 ≤ w.Browse ∧ w.Browse ≤ 100
  mild : 0 ≤ w.Mild ∧ w.Mild ≤ 200
theorem oks_iff (x : XStand) : growth_standIsDefined x = true ↔ OkS x := by
  rw [stand_iff]
  exact ⟨fun h => ⟨h.1, h.2.1, h.2.2.1, h.2.2.2⟩, fun h => ⟨h.1, h.2, h.3, h.4⟩⟩
theorem okw_iff (w : XWeather) : growth_weatherIsDefined w = true ↔ OkW w := by
  rw [weather_iff]
  exact ⟨fun h => ⟨h.1, h.2.1, h.2.2⟩, fun h => ⟨h.1, h.2, h.3⟩⟩
theorem at_mem {l : List Int} {i : Int} (h0 : 0 ≤ i) (h1 : i < ((l.length : Nat) : Int)) : at_ 0 l i ∈ l := by
  obtain ⟨n, hn⟩ := Int.eq_ofNat_of_zero_le h0
  rw [hn] at h1 ⊢
  have hlt : n < l.length := by omega
  rw [at_get 0 l n hlt]
  exact List.getElem_mem hlt
theorem atZ_in {l : List Int} (h : 1 ≤ l.length) {age : Int} (ha : 0 ≤ age) : atZ l age ∈ l := by
  unfold atZ
  have := imin_le age (((l.length : Nat) : Int) - 1)
  exact at_mem (by omega) (by omega)
theorem atAge_val {l : List Int} (h : 1 ≤ l.length) (h2 : l.length ≤ 1000) {age : Int} (ha : 0 ≤ age) : growth_atAge l age = some (atZ l age) := by
  unfold growth_atAge
  rw [index_ok l.length age h h2 ha, W_id (by omega) (by omega)]
  rfl
section
variable {s : XSpecies} (hs : FineS s) {w v : XWeather} (hw : OkW w) (hv : OkW v)
include hs hw
theorem weather_parts {u : Int} (hu : 0 ≤ u ∧ u ≤ 5000) : (0 ≤ u * imax 0 (w.Light - s.Shade) ∧ u * imax 0 (w.Light - s.Shade) ≤ 500000) ∧ (0 ≤ u * imax 0 (w.Light - s.Shade) * w.Mild ∧ u * imax 0 (w.Light - s.Shade) * w.Mild ≤ 100000000) := by
  have h1 := hs.shade; have h2 := hw.light; have h3 := hw.mild
  have h4 := imax_le 0 (w.Light - s.Shade)
  have h5 := mulb hu.1 hu.2 (b := imax 0 (w.Light - s.Shade)) (B := 100) (by omega) (by omega)
  have h6 := mulb h5.1 (A := 500000) (by omega) h3.1 h3.2
  exact ⟨⟨h5.1, by omega⟩, h6.1, by omega⟩
theorem weatherZ_bd {u : Int} (hu : 0 ≤ u ∧ u ≤ 5000) : 0 ≤ weatherZ s u w ∧ weatherZ s u w ≤ 100000000 := by
  have h := (weather_parts hs hw hu).2
  have h1 := hs.shade
  unfold weatherZ
  exact ⟨tdiv_nonneg h.1 (by omega), Int.le_trans (tdiv_le h.1 (by omega)) h.2⟩
theorem inWeather_val {u : Int} (hu : 0 ≤ u ∧ u ≤ 5000) : growth_grower_inWeather ⟨s⟩ u w = some (weatherZ s u w) := by
  unfold growth_grower_inWeather weatherZ
  have h := weather_parts hs hw hu
  have h1 := hs.shade; have h2 := hw.light
  have h4 := weatherZ_bd hs hw hu
  unfold weatherZ at h4
  show (bif decide (W (100 * W (100 - s.Shade)) ≠ 0) then some (W ((W (W (u * imax 0 (W (w.Light - s.Shade))) * w.Mild)).tdiv (W (100 * W (100 - s.Shade))))) else none) = _
  rw [W_id (n := 100 - s.Shade) (by omega) (by omega), W_id (n := 100 * (100 - s.Shade)) (by omega) (by omega), W_id (n := w.Light - s.Shade) (by omega) (by omega), W_id (n := u * _) (by omega) (by omega), W_id (n := u * _ * _) (by omega) (by omega), W_id (by omega) (by omega)]
  have d : decide (100 * (100 - s.Shade) ≠ 0) = true := by simp; omega
  rw [d]
  rfl
theorem riseZ_bd {age : Int} (ha : 0 ≤ age) (h : Int) : 0 ≤ riseZ s age h w ∧ riseZ s age h w ≤ 100000000 := by
  have hb := weatherZ_bd hs hw (hs.rises _ (atZ_in hs.rise.1 ha))
  have h3 := hw.browse
  have hm := mulb hb.1 hb.2 (b := 100 - w.Browse) (B := 100) (by omega) (by omega)
  unfold riseZ
  split
  · refine ⟨tdiv_nonneg hm.1 (by omega), ?_⟩
    have := tdiv_mono hm.1 hm.2 (c := 100) (by omega)
    exact Int.le_trans this (by decide)
  · exact hb
theorem height_val {x : XStand} (hx : OkS x) : growth_grower_height ⟨s⟩ x w = some (heightZ s x.Age x.Height w) := by
  have hu := hs.rises _ (atZ_in hs.rise.1 hx.age.1)
  have hb := weatherZ_bd hs hw hu
  have h3 := hw.browse
  have hm := mulb hb.1 hb.2 (b := 100 - w.Browse) (B := 100) (by omega) (by omega)
  have hr := riseZ_bd hs hw hx.age.1 x.Height
  have hh := hx.height
  unfold growth_grower_height
  rw [atAge_val hs.rise.1 (by have := hs.rise.2; omega) hx.age.1, Option.bind_some, inWeather_val hs hw hu, Option.bind_some]
  show (bif decide (x.Height < s.Reach) then _ else _) = _
  unfold heightZ
  by_cases hlt : x.Height < s.Reach
  · have e : riseZ s x.Age x.Height w = (weatherZ s (atZ s.Rise x.Age) w * (100 - w.Browse)).tdiv 100 := by unfold riseZ; rw [if_pos hlt]
    rw [show decide (x.Height < s.Reach) = true from decide_eq_true hlt, cond_true, W_id (n := 100 - w.Browse) (by omega) (by omega), W_id (n := _ * _) (by omega) (by omega), ← e, W_id (n := riseZ s x.Age x.Height w) (by omega) (by omega), W_id (by omega) (by omega)]
  · have e : riseZ s x.Age x.Height w = weatherZ s (atZ s.Rise x.Age) w := by unfold riseZ; rw [if_neg hlt]
    rw [show decide (x.Height < s.Reach) = false from decide_eq_false hlt, cond_false, ← e, W_id (by omega) (by omega)]
theorem girth_val {x : XStand} (hx : OkS x) : growth_grower_girth ⟨s⟩ x w = some (girthZ s x.Age x.Shoots x.Girth w) := by
  have hu0 := hs.thicks _ (atZ_in hs.thick.1 hx.age.1)
  have hu : 0 ≤ atZ s.Thick x.Age ∧ atZ s.Thick x.Age ≤ 5000 := by omega
  have hb := weatherZ_bd hs hw hu
  have hsh := hx.shoots; have hg := hx.girth
  have hq1 : 0 ≤ (weatherZ s (atZ s.Thick x.Age) w * 100).tdiv (100 + x.Shoots) := tdiv_nonneg (by omega) (by omega)
  have hq2 : (weatherZ s (atZ s.Thick x.Age) w * 100).tdiv (100 + x.Shoots) ≤ weatherZ s (atZ s.Thick x.Age) w * 100 := tdiv_le (by omega) (by omega)
  unfold growth_grower_girth
  rw [atAge_val hs.thick.1 (by have := hs.thick.2; omega) hx.age.1, Option.bind_some, inWeather_val hs hw hu, Option.bind_some]
  rw [W_id (n := 100 + x.Shoots) (by omega) (by omega), show decide (100 + x.Shoots ≠ 0) = true by simp; omega, cond_true, W_id (n := _ * 100) (by omega) (by omega), W_id (n := Int.tdiv _ _) (by omega) (by omega), W_id (by omega) (by omega)]
  rfl
omit hw in
theorem shootsL_val (fu : Nat) (x : XStand) (w : XWeather) (h : Int) : ∀ (fk i : Nat) (v : Int), i ≤ s.Ladder.length → s.Ladder.length - i < fk → growth_grower_shoots_L fu ⟨s⟩ x w fk v (i : Int) h = some (crowdZ (s.Ladder.drop i) v h) := by
  have hl := hs.ladder
  intro fk
  induction fk with
  | zero => intro i v _ h; omega
  | succ fk ih =>
    intro i v hi hf
    rw [growth_grower_shoots_L_s0]
    by_cases hlt : i < s.Ladder.length
    · have d1 : decide ((i : Int) < ((s.Ladder.length : Nat) : Int)) = true := by simp; omega
      have d2 : decide (0 ≤ (i : Int) ∧ (i : Int) < ((s.Ladder.length : Nat) : Int)) = true := by simp; omega
      have hw : W ((i : Int) + 1) = ((i + 1 : Nat) : Int) := by rw [W_id (by omega) (by omega)]; push_cast; rfl
      simp only [d1, d2, cond_true, hw, at_get zXRung s.Ladder i hlt]
      rw [List.drop_eq_getElem_cons hlt]
      by_cases hle : s.Ladder[i].Height ≤ h
      · rw [show decide (s.Ladder[i].Height ≤ h) = true from decide_eq_true hle, cond_true, ih (i + 1) _ (by omega) (by omega)]
        unfold crowdZ
        rw [List.foldl_cons, if_pos hle]
      · rw [show decide (s.Ladder[i].Height ≤ h) = false from decide_eq_false hle, cond_false, ih (i + 1) _ (by omega) (by omega)]
        unfold crowdZ
        rw [List.foldl_cons, if_neg hle]
    · have d1 : decide ((i : Int) < ((s.Ladder.length : Nat) : Int)) = false := by simp; omega
      simp only [d1, cond_false]
      rw [List.drop_of_length_le (by omega)]
      rfl
theorem grow_val {fu : Nat} (hfu : 100 ≤ fu) {x : XStand} (hx : OkS x) : growth_grower_grow fu ⟨s⟩ x w = some (growZ s x w) := by
  have e : growth_grower_grow fu ⟨s⟩ x w = Option.bind (growth_grower_shoots fu ⟨s⟩ x w) fun x2 => Option.bind (growth_grower_height ⟨s⟩ x w) fun x5 => Option.bind (growth_grower_girth ⟨s⟩ x w) fun x8 => some (⟨imin (W (x.Age + 1)) 100000, x2, x5, x8⟩ : XStand) := rfl
  have hsh : growth_grower_shoots fu ⟨s⟩ x w = some (crowdZ s.Ladder x.Shoots (heightZ s x.Age x.Height w)) := by
    unfold growth_grower_shoots
    rw [height_val hs hw hx, Option.bind_some]
    have := shootsL_val hs fu x w (heightZ s x.Age x.Height w) fu 0 x.Shoots (by omega) (by have := hs.ladder; omega)
    rw [List.drop_zero] at this
    exact this
  have ha := hx.age
  rw [e, hsh, height_val hs hw hx, girth_val hs hw hx, W_id (by omega) (by omega)]
  rfl
end
/-! ### More and less -/
theorem crowd_le : ∀ (l : List XRung) (a b h k : Int), a ≤ b → k ≤ h → crowdZ l a h ≤ crowdZ l b k := by
  intro l
  induction l with
  | nil => intro a b h k hab _; exact hab
  | cons r l ih =>
    intro a b h k hab hk
    unfold crowdZ
    rw [List.foldl_cons, List.foldl_cons]
    refine ih _ _ h k ?_ hk
    have := imin_le a r.Shoots
    have := imin_le b r.Shoots
    split <;> split <;> omega
theorem crowd_bd : ∀ (l : List XRung) (a h : Int), (∀ r ∈ l, 0 ≤ r.Shoots) → 0 ≤ a → 0 ≤ crowdZ l a h ∧ crowdZ l a h ≤ a := by
  intro l
  induction l with
  | nil => intro a h _ ha; exact ⟨ha, Int.le_refl _⟩
  | cons r l ih =>
    intro a h hr ha
    unfold crowdZ
    rw [List.foldl_cons]
    have h0 := hr r (by simp)
    have h1 := imin_le a r.Shoots
    have := ih (if r.Height ≤ h then imin a r.Shoots else a) h (fun x hx => hr x (by simp [hx])) (by split <;> omega)
    unfold crowdZ at this
    refine ⟨this.1, Int.le_trans this.2 ?_⟩
    split <;> omega
section
variable {s : XSpecies} (hs : FineS s) {w v : XWeather} (hw : OkW w) (hv : OkW v) (hlt : w.Light ≤ v.Light) (hmd : w.Mild ≤ v.Mild)
include hs hw hv hlt hmd
theorem weather_le {u : Int} (hu : 0 ≤ u ∧ u ≤ 5000) : weatherZ s u w ≤ weatherZ s u v := by
  have h1 := hs.shade
  have hp := weather_parts hs hw hu
  have hp2 := weather_parts hs hv hu
  unfold weatherZ
  refine tdiv_mono hp.2.1 ?_ (by omega)
  have h2 : imax 0 (w.Light - s.Shade) ≤ imax 0 (v.Light - s.Shade) := imax_mono (by omega) (by omega)
  exact Int.mul_le_mul (Int.mul_le_mul_of_nonneg_left h2 hu.1) hmd hw.mild.1 hp2.1.1
theorem height_le {age h k : Int} (ha : 0 ≤ age) (hhk : h ≤ k) (hbr : v.Browse ≤ w.Browse) : heightZ s age h w ≤ heightZ s age k v := by
  have hu := hs.rises _ (atZ_in hs.rise.1 ha)
  have hle := weather_le hs hw hv hlt hmd hu
  have hb := weatherZ_bd hs hw hu
  have hb2 := weatherZ_bd hs hv hu
  have hbw := hw.browse; have hbv := hv.browse
  unfold heightZ
  refine imin_mono ?_ (Int.le_refl _)
  have hr : riseZ s age h w ≤ riseZ s age k v ∨ riseZ s age h w ≤ riseZ s age k v := by
    left
    unfold riseZ
    have m1 := mulb hb.1 hb.2 (b := 100 - w.Browse) (B := 100) (by omega) (by omega)
    have m2 : weatherZ s (atZ s.Rise age) w * (100 - w.Browse) ≤ weatherZ s (atZ s.Rise age) v * (100 - v.Browse) := Int.mul_le_mul hle (by omega) (by omega) hb2.1
    have m3 : (weatherZ s (atZ s.Rise age) w * (100 - w.Browse)).tdiv 100 ≤ weatherZ s (atZ s.Rise age) w := by
      have : weatherZ s (atZ s.Rise age) w * (100 - w.Browse) ≤ weatherZ s (atZ s.Rise age) w * 100 := Int.mul_le_mul_of_nonneg_left (by omega) hb.1
      refine Int.le_trans (tdiv_mono m1.1 this (by omega)) ?_
      rw [Int.tdiv_eq_ediv_of_nonneg (by omega)]
      omega
    by_cases c1 : h < s.Reach <;> by_cases c2 : k < s.Reach
    · rw [if_pos c1, if_pos c2]; exact tdiv_mono m1.1 m2 (by omega)
    · rw [if_pos c1, if_neg c2]; omega
    · exact absurd c2 (by omega)
    · rw [if_neg c1, if_neg c2]; exact hle
  rcases hr with hr | hr <;> omega
theorem girth_le {age sh th g k : Int} (ha : 0 ≤ age) (hg : g ≤ k) (hth : 0 ≤ th) (hsh : th ≤ sh) : girthZ s age sh g w ≤ girthZ s age th k v := by
  have hu0 := hs.thicks _ (atZ_in hs.thick.1 ha)
  have hu : 0 ≤ atZ s.Thick age ∧ atZ s.Thick age ≤ 5000 := by omega
  have hle := weather_le hs hw hv hlt hmd hu
  have hb := weatherZ_bd hs hw hu
  unfold girthZ
  refine imin_mono ?_ (Int.le_refl _)
  have h1 := tdiv_mono (a := weatherZ s (atZ s.Thick age) w * 100) (b := weatherZ s (atZ s.Thick age) v * 100) (by omega) (by omega) (c := 100 + sh) (by omega)
  have h2 := tdiv_anti (a := weatherZ s (atZ s.Thick age) v * 100) (by omega) (c := 100 + th) (by omega) (d := 100 + sh) (by omega)
  omega
/-- A stand that is higher, thicker and has fewer shoots, in a better year, stays so. -/
theorem grow_le {x y : XStand} (hx : OkS x) (hy : OkS y) (hage : x.Age = y.Age) (hh : x.Height ≤ y.Height) (hg : x.Girth ≤ y.Girth) (hsh : y.Shoots ≤ x.Shoots) (hbr : v.Browse ≤ w.Browse) :
    (growZ s x w).Age = (growZ s y v).Age ∧ (growZ s x w).Height ≤ (growZ s y v).Height ∧ (growZ s x w).Girth ≤ (growZ s y v).Girth ∧ (growZ s y v).Shoots ≤ (growZ s x w).Shoots := by
  have h1 := height_le hs hw hv hlt hmd hx.age.1 hh hbr
  unfold growZ
  refine ⟨by simp only [hage], ?_, ?_, ?_⟩
  · simp only; rw [← hage]; exact h1
  · simp only; rw [← hage]; exact girth_le hs hw hv hlt hmd hx.age.1 hg hy.shoots.1 hsh
  · simp only; rw [← hage]; exact crowd_le _ _ _ _ _ hsh h1
end
theorem grow_ok {s : XSpecies} (hs : FineS s) {w : XWeather} (hw : OkW w) {x : XStand} (hx : OkS x) : OkS (growZ s x w) := by
  have h1 := hx.age; have h2 := hx.shoots; have h3 := hx.height; have h4 := hx.girth
  have ht := hs.top; have hst := hs.stout
  have hr := riseZ_bd hs hw hx.age.1 x.Height
  have hu0 := hs.thicks _ (atZ_in hs.thick.1 hx.age.1)
  have hb := weatherZ_bd hs hw (u := atZ s.Thick x.Age) (by omega)
  have hq1 : 0 ≤ (weatherZ s (atZ s.Thick x.Age) w * 100).tdiv (100 + x.Shoots) := tdiv_nonneg (by omega) (by omega)
  have hc := crowd_bd s.Ladder x.Shoots (heightZ s x.Age x.Height w) (fun r hr => (hs.rungs r hr).1) h2.1
  have i1 := imin_le (x.Age + 1) 100000
  have i2 := imin_le (x.Height + riseZ s x.Age x.Height w) s.Top
  have i3 := imin_le (x.Girth + (weatherZ s (atZ s.Thick x.Age) w * 100).tdiv (100 + x.Shoots)) s.Stout
  unfold growZ
  refine ⟨?_, ?_, ?_, ?_⟩
  · simp only; omega
  · simp only; omega
  · simp only [heightZ]; omega
  · simp only [girthZ]; omega
end Go.Proofs.G2
namespace Go.Proofs.G2
open Go Go.Sim Go.Proofs
set_option maxRecDepth 4000
/-! ### Boxes in plain numbers -/
structure OkB (b : XBox) : Prop where
  low : OkS b.Low
  high : OkS b.High
  age : b.Low.Age = b.High.Age
  shoots : b.Low.Shoots ≤ b.High.Shoots
  height : b.Low.Height ≤ b.High.Height
  girth : b.Low.Girth ≤ b.High.Girth
structure OkQ (q : XSeason) : Prop where
  light : 0 ≤ q.Light.Low ∧ q.Light.Low ≤ q.Light.High ∧ q.Light.High ≤ 100
  browse : 0 ≤ q.Browse.Low ∧ q.Browse.Low ≤ q.Browse.High ∧ q.Browse.High ≤ 100
  mild : 0 ≤ q.Mild.Low ∧ q.Mild.Low ≤ q.Mild.High ∧ q.Mild.High ≤ 200
theorem okb_iff (b : XBox) : growth_boxIsDefined b = true ↔ OkB b := by
  rw [box_iff, oks_iff, oks_iff]
  exact ⟨fun h => ⟨h.1, h.2.1, h.2.2.1, h.2.2.2.1, h.2.2.2.2.1, h.2.2.2.2.2⟩, fun h => ⟨h.1, h.2, h.3, h.4, h.5, h.6⟩⟩
theorem okq_iff (q : XSeason) : ref02_Season q = true ↔ OkQ q := by
  rw [season_iff]
  exact ⟨fun h => ⟨h.1, h.2.1, h.2.2⟩, fun h => ⟨h.1, h.2, h.3⟩⟩
def poor (q : XSeason) : XWeather := ⟨q.Light.Low, q.Browse.High, q.Mild.Low⟩
def rich (q : XSeason) : XWeather := ⟨q.Light.High, q.Browse.Low, q.Mild.High⟩
theorem poor_ok {q : XSeason} (h : OkQ q) : OkW (poor q) := by
  have h1 := h.light; have h2 := h.browse; have h3 := h.mild
  exact ⟨by simp only [poor]; omega, by simp only [poor]; omega, by simp only [poor]; omega⟩
theorem rich_ok {q : XSeason} (h : OkQ q) : OkW (rich q) := by
  have h1 := h.light; have h2 := h.browse; have h3 := h.mild
  exact ⟨by simp only [rich]; omega, by simp only [rich]; omega, by simp only [rich]; omega⟩
def sproutsZ (s : XSpecies) (age : Int) : XSpan := at_ zXSpan s.Sprouts (imin age (((s.Sprouts.length : Nat) : Int) - 1))
def cutZ (s : XSpecies) (age : Int) : XBox := ⟨⟨0, (sproutsZ s age).Low, 0, 0⟩, ⟨0, (sproutsZ s age).High, 0, 0⟩⟩
noncomputable def onZ (s : XSpecies) (b : XBox) (q : XSeason) : XBox :=
  let l := growZ s ⟨b.Low.Age, b.High.Shoots, b.Low.Height, b.Low.Girth⟩ (poor q)
  let h := growZ s ⟨b.High.Age, b.Low.Shoots, b.High.Height, b.High.Girth⟩ (rich q)
  ⟨⟨l.Age, h.Shoots, l.Height, l.Girth⟩, ⟨h.Age, l.Shoots, h.Height, h.Girth⟩⟩
noncomputable def stepZ (s : XSpecies) (b : XBox) (q : XSeason) : XBox := onZ s (bif q.Cut then cutZ s b.Low.Age else b) q
theorem at_memS {l : List XSpan} {i : Int} (h0 : 0 ≤ i) (h1 : i < ((l.length : Nat) : Int)) : at_ zXSpan l i ∈ l := by
  obtain ⟨n, hn⟩ := Int.eq_ofNat_of_zero_le h0
  rw [hn] at h1 ⊢
  have hlt : n < l.length := by omega
  rw [at_get zXSpan l n hlt]
  exact List.getElem_mem hlt
section
variable {s : XSpecies} (hs : FineS s)
include hs
theorem sprouts_in {age : Int} (ha : 0 ≤ age) : sproutsZ s age ∈ s.Sprouts := by
  unfold sproutsZ
  have := imin_le age (((s.Sprouts.length : Nat) : Int) - 1)
  have := hs.sprouts
  exact at_memS (by omega) (by omega)
theorem cut_ok {age : Int} (ha : 0 ≤ age) : OkB (cutZ s age) := by
  have h := hs.spans _ (sprouts_in hs ha)
  exact ⟨⟨by simp [cutZ], by simp only [cutZ]; omega, by simp [cutZ], by simp [cutZ]⟩, ⟨by simp [cutZ], by simp only [cutZ]; omega, by simp [cutZ], by simp [cutZ]⟩, rfl, by simp only [cutZ]; omega, by simp [cutZ], by simp [cutZ]⟩
theorem cut_val {b : XBox} (hb : OkB b) : growth_grower_cut ⟨s⟩ b = some (cutZ s b.Low.Age) := by
  unfold growth_grower_cut api_Span_1
  have h := hs.sprouts
  show Option.bind (bif decide (0 ≤ (imin b.Low.Age (W (((s.Sprouts.length : Nat) : Int) - 1))) ∧ (imin b.Low.Age (W (((s.Sprouts.length : Nat) : Int) - 1))) < ((s.Sprouts.length : Nat) : Int)) then some (at_ zXSpan s.Sprouts (imin b.Low.Age (W (((s.Sprouts.length : Nat) : Int) - 1)))) else none) _ = _
  rw [index_ok s.Sprouts.length b.Low.Age (by omega) (by omega) hb.low.age.1, W_id (by omega) (by omega)]
  rfl
omit hs in
theorem on_parts {b : XBox} (hb : OkB b) : OkS ⟨b.Low.Age, b.High.Shoots, b.Low.Height, b.Low.Girth⟩ ∧ OkS ⟨b.High.Age, b.Low.Shoots, b.High.Height, b.High.Girth⟩ :=
  ⟨⟨hb.low.age, hb.high.shoots, hb.low.height, hb.low.girth⟩, ⟨hb.high.age, hb.low.shoots, hb.high.height, hb.high.girth⟩⟩
theorem base_ok {b : XBox} (hb : OkB b) (c : Bool) : OkB (bif c then cutZ s b.Low.Age else b) := by
  cases c
  · exact hb
  · exact cut_ok hs hb.low.age.1
theorem step_val {fu : Nat} (hfu : 100 ≤ fu) {b : XBox} (hb : OkB b) {q : XSeason} (hq : OkQ q) : growth_grower_step fu ⟨s⟩ b q = some (stepZ s b q) := by
  have key : ∀ {c : XBox}, OkB c → (Option.bind (growth_grower_grow fu ⟨s⟩ ((growth_crossed c).Low) (⟨q.Light.Low, q.Browse.High, q.Mild.Low⟩ : XWeather)) fun x3 =>
      Option.bind (growth_grower_grow fu ⟨s⟩ ((growth_crossed c).High) (⟨q.Light.High, q.Browse.Low, q.Mild.High⟩ : XWeather)) fun x4 =>
      some (⟨((growth_crossed (⟨x3, x4⟩ : XBox)).Low), ((growth_crossed (⟨x3, x4⟩ : XBox)).High)⟩ : XBox)) = some (onZ s c q) := by
    intro c hc
    have hp := on_parts hc
    rw [show growth_grower_grow fu ⟨s⟩ ((growth_crossed c).Low) (⟨q.Light.Low, q.Browse.High, q.Mild.Low⟩ : XWeather) = _ from grow_val hs (poor_ok hq) hfu hp.1,
      show growth_grower_grow fu ⟨s⟩ ((growth_crossed c).High) (⟨q.Light.High, q.Browse.Low, q.Mild.High⟩ : XWeather) = _ from grow_val hs (rich_ok hq) hfu hp.2]
    rfl
  unfold growth_grower_step stepZ
  cases hc : q.Cut with
  | false => simp only [cond_false]; exact key hb
  | true =>
    simp only [cond_true]
    rw [cut_val hs hb, Option.bind_some]
    exact key (cut_ok hs hb.low.age.1)
theorem on_ok {b : XBox} (hb : OkB b) {q : XSeason} (hq : OkQ q) : OkB (onZ s b q) := by
  have hp := on_parts hb
  have g1 := grow_ok hs (poor_ok hq) hp.1
  have g2 := grow_ok hs (rich_ok hq) hp.2
  have hl := hq.light; have hbr := hq.browse; have hm := hq.mild
  have hle := grow_le hs (poor_ok hq) (rich_ok hq) (by simp only [poor, rich]; omega) (by simp only [poor, rich]; omega) hp.1 hp.2 hb.age hb.height hb.girth hb.shoots (by simp only [poor, rich]; omega)
  exact ⟨⟨g1.age, g2.shoots, g1.height, g1.girth⟩, ⟨g2.age, g1.shoots, g2.height, g2.girth⟩, hle.1, hle.2.2.2, hle.2.1, hle.2.2.1⟩
theorem step_ok {b : XBox} (hb : OkB b) {q : XSeason} (hq : OkQ q) : OkB (stepZ s b q) := on_ok hs (base_ok hs hb _) hq
end
/-- A box lies inside another one. -/
structure InB (b c : XBox) : Prop where
  age : b.Low.Age = c.Low.Age
  shoots : c.Low.Shoots ≤ b.Low.Shoots ∧ b.High.Shoots ≤ c.High.Shoots
  height : c.Low.Height ≤ b.Low.Height ∧ b.High.Height ≤ c.High.Height
  girth : c.Low.Girth ≤ b.Low.Girth ∧ b.High.Girth ≤ c.High.Girth
structure InQ (q p : XSeason) : Prop where
  light : p.Light.Low ≤ q.Light.Low ∧ q.Light.High ≤ p.Light.High
  browse : p.Browse.Low ≤ q.Browse.Low ∧ q.Browse.High ≤ p.Browse.High
  mild : p.Mild.Low ≤ q.Mild.Low ∧ q.Mild.High ≤ p.Mild.High
  cut : q.Cut = p.Cut
theorem InB.refl (b : XBox) : InB b b := ⟨rfl, by omega, by omega, by omega⟩
theorem InQ.refl (q : XSeason) : InQ q q := ⟨by omega, by omega, by omega, rfl⟩
theorem on_in {s : XSpecies} (hs : FineS s) {b c : XBox} (hb : OkB b) (hc : OkB c) (h : InB b c) {q p : XSeason} (hq : OkQ q) (hp : OkQ p) (k : InQ q p) : InB (onZ s b q) (onZ s c p) := by
  have pb := on_parts hb
  have pc := on_parts hc
  have a1 := hb.age; have a2 := hc.age; have a3 := h.age
  have k1 := k.light; have k2 := k.browse; have k3 := k.mild
  have l := grow_le hs (poor_ok hp) (poor_ok hq) k1.1 k3.1 pc.1 pb.1 (by simp only; omega) h.height.1 h.girth.1 h.shoots.2 k2.2
  have u := grow_le hs (rich_ok hq) (rich_ok hp) k1.2 k3.2 pb.2 pc.2 (by simp only; omega) h.height.2 h.girth.2 h.shoots.1 k2.1
  exact ⟨l.1.symm, ⟨u.2.2.2, l.2.2.2⟩, ⟨l.2.1, u.2.1⟩, ⟨l.2.2.1, u.2.2.1⟩⟩
theorem step_in {s : XSpecies} (hs : FineS s) {b c : XBox} (hb : OkB b) (hc : OkB c) (h : InB b c) {q p : XSeason} (hq : OkQ q) (hp : OkQ p) (k : InQ q p) : InB (stepZ s b q) (stepZ s c p) := by
  unfold stepZ
  rw [k.cut]
  cases p.Cut
  · exact on_in hs hb hc h hq hp k
  · simp only [cond_true]
    rw [h.age]
    have ho := cut_ok hs hc.low.age.1
    exact on_in hs ho ho (InB.refl _) hq hp k
/-! ### What the program says of it -/
theorem spanOf_1 (b : XBox) : growth_spanOf b 1 = ⟨b.Low.Shoots, b.High.Shoots⟩ := rfl
theorem spanOf_2 (b : XBox) : growth_spanOf b 2 = ⟨b.Low.Height, b.High.Height⟩ := rfl
theorem spanOf_3 (b : XBox) : growth_spanOf b 3 = ⟨b.Low.Girth, b.High.Girth⟩ := rfl
theorem keep_1 (b : XBox) (t : XSpan) : growth_keep b 1 t = bif decide (imax b.Low.Shoots t.Low > imin b.High.Shoots t.High) then (⟨⟨0, 0, 0, 0⟩, ⟨0, 0, 0, 0⟩⟩, false) else (⟨⟨b.Low.Age, imax b.Low.Shoots t.Low, b.Low.Height, b.Low.Girth⟩, ⟨b.High.Age, imin b.High.Shoots t.High, b.High.Height, b.High.Girth⟩⟩, true) := rfl
theorem keep_2 (b : XBox) (t : XSpan) : growth_keep b 2 t = bif decide (imax b.Low.Height t.Low > imin b.High.Height t.High) then (⟨⟨0, 0, 0, 0⟩, ⟨0, 0, 0, 0⟩⟩, false) else (⟨⟨b.Low.Age, b.Low.Shoots, imax b.Low.Height t.Low, b.Low.Girth⟩, ⟨b.High.Age, b.High.Shoots, imin b.High.Height t.High, b.High.Girth⟩⟩, true) := rfl
theorem keep_3 (b : XBox) (t : XSpan) : growth_keep b 3 t = bif decide (imax b.Low.Girth t.Low > imin b.High.Girth t.High) then (⟨⟨0, 0, 0, 0⟩, ⟨0, 0, 0, 0⟩⟩, false) else (⟨⟨b.Low.Age, b.Low.Shoots, b.Low.Height, imax b.Low.Girth t.Low⟩, ⟨b.High.Age, b.High.Shoots, b.High.Height, imin b.High.Girth t.High⟩⟩, true) := rfl
/-- The numbers that are in both boxes. -/
def meetZ (a b : XBox) : XBox := ⟨⟨a.Low.Age, imax a.Low.Shoots b.Low.Shoots, imax a.Low.Height b.Low.Height, imax a.Low.Girth b.Low.Girth⟩, ⟨a.High.Age, imin a.High.Shoots b.High.Shoots, imin a.High.Height b.High.Height, imin a.High.Girth b.High.Girth⟩⟩
def meetsZ (a b : XBox) : Bool := a.Low.Age == b.Low.Age && (decide (imax a.Low.Shoots b.Low.Shoots ≤ imin a.High.Shoots b.High.Shoots) && (decide (imax a.Low.Height b.Low.Height ≤ imin a.High.Height b.High.Height) && decide (imax a.Low.Girth b.Low.Girth ≤ imin a.High.Girth b.High.Girth)))
theorem gt_not (a b : Int) : decide (a > b) = !decide (a ≤ b) := by by_cases h : a ≤ b <;> simp [h] <;> omega
theorem common_val (a b : XBox) : growth_common a b = bif meetsZ a b then (meetZ a b, true) else (zXBox, false) := by
  unfold growth_common meetsZ meetZ
  rw [spanOf_1, spanOf_2, spanOf_3, keep_1]
  simp only [gt_not]
  cases a.Low.Age == b.Low.Age
  · rfl
  cases decide (imax a.Low.Shoots b.Low.Shoots ≤ imin a.High.Shoots b.High.Shoots)
  · rfl
  simp only [Bool.not_true, cond_false, cond_true, keep_2, gt_not, Bool.true_and]
  cases decide (imax a.Low.Height b.Low.Height ≤ imin a.High.Height b.High.Height)
  · rfl
  simp only [Bool.not_true, cond_false, cond_true, keep_3, gt_not, Bool.true_and]
  cases decide (imax a.Low.Girth b.Low.Girth ≤ imin a.High.Girth b.High.Girth)
  · rfl
  · rfl
/-- A stand is inside a box. -/
structure InS (x : XStand) (b : XBox) : Prop where
  age : x.Age = b.Low.Age
  shoots : b.Low.Shoots ≤ x.Shoots ∧ x.Shoots ≤ b.High.Shoots
  height : b.Low.Height ≤ x.Height ∧ x.Height ≤ b.High.Height
  girth : b.Low.Girth ≤ x.Girth ∧ x.Girth ≤ b.High.Girth
theorem inside_iff (b : XBox) (x : XStand) : growth_Inside b x = true ↔ OkB b ∧ OkS x ∧ InS x b := by
  unfold growth_Inside
  rw [common_val]
  simp only [cond_and, Bool.and_eq_true, okb_iff, oks_iff]
  refine and_congr_right fun hb => and_congr_right fun hx => ?_
  have e : (bif meetsZ b ⟨x, x⟩ then (meetZ b ⟨x, x⟩, true) else (zXBox, false)).2 = meetsZ b ⟨x, x⟩ := by cases meetsZ b ⟨x, x⟩ <;> rfl
  rw [e]
  unfold meetsZ
  simp only [Bool.and_eq_true, beq_iff_eq, decide_eq_true_eq]
  have m1 := imax_le b.Low.Shoots x.Shoots; have n1 := imin_le b.High.Shoots x.Shoots
  have m2 := imax_le b.Low.Height x.Height; have n2 := imin_le b.High.Height x.Height
  have m3 := imax_le b.Low.Girth x.Girth; have n3 := imin_le b.High.Girth x.Girth
  have b1 := hb.shoots; have b2 := hb.height; have b3 := hb.girth
  constructor
  · rintro ⟨h1, h2, h3, h4⟩
    exact ⟨h1.symm, by omega, by omega, by omega⟩
  · rintro ⟨h1, h2, h3, h4⟩
    exact ⟨h1.symm, by omega, by omega, by omega⟩
theorem Step_val {fu : Nat} (hfu : 100 ≤ fu) {s : XSpecies} (hs : FineS s) (hd : growth_speciesIsDefined fu s = some true) {b : XBox} (hb : OkB b) {q : XSeason} (hq : OkQ q) : growth_Step fu s b q = some (stepZ s b q, 0) := by
  unfold growth_Step
  rw [hd, Option.bind_some, (okb_iff b).2 hb, season_eq, (okq_iff q).2 hq, step_val hs hfu hb hq]
  rfl
theorem InB.lows {a c : XBox} (ha : OkB a) (h : InB a c) : InS a.Low c := ⟨h.age, ⟨h.shoots.1, Int.le_trans ha.shoots h.shoots.2⟩, ⟨h.height.1, Int.le_trans ha.height h.height.2⟩, ⟨h.girth.1, Int.le_trans ha.girth h.girth.2⟩⟩
theorem InB.highs {a c : XBox} (ha : OkB a) (h : InB a c) : InS a.High c := ⟨ha.age ▸ h.age, ⟨Int.le_trans h.shoots.1 ha.shoots, h.shoots.2⟩, ⟨Int.le_trans h.height.1 ha.height, h.height.2⟩, ⟨Int.le_trans h.girth.1 ha.girth, h.girth.2⟩⟩
/-- The cases in which the laws look no further. -/
theorem species_cases (fu : Nat) (s : XSpecies) (hs : law02_short s = true) (hfu : 200 ≤ fu) : ∃ B, ref02_Species fu s = some B ∧ growth_speciesIsDefined fu s = some B ∧ (B = true → FineS s) := by
  obtain ⟨B, e1, e2, _⟩ := species_eq fu s hs hfu
  exact ⟨B, e1, e2, fun h => fine_species fu s hs hfu (h ▸ e2)⟩
end Go.Proofs.G2
