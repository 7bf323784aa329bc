/- The law GrowthSteps on plain functions: it says true for each input. No conditions. -/
import Derived.Test.YtfgdbanigkfjlaaDoorM
namespace Go.Proofs.G2
open Go Go.Sim Go.Proofs
set_option maxRecDepth 4000
/-! ### What the specification says of steps -/
theorem imin_comm (a b : Int) : imin a b = imin b a := by unfold imin; split <;> split <;> omega
theorem crowd_shoots (fu fu' : Nat) (s : XSpecies) (sh h : Int) (x : XStand) (w : XWeather) : ∀ (fk : Nat) (v i : Int), ref02_crowd_L fu s sh h fk v i = growth_grower_shoots_L fu' ⟨s⟩ x w fk v i h := by
  intro fk
  induction fk with
  | zero => intro v i; rfl
  | succ fk ih =>
    intro v i
    rw [ref02_crowd_L_s0, growth_grower_shoots_L_s0]
    simp only [ih]
theorem height_eq (s : XSpecies) (x : XStand) (w : XWeather) : ref02_height s x.Age x.Height w = growth_grower_height ⟨s⟩ x w := by
  have e : ref02_height s x.Age x.Height w = Option.bind (growth_atAge s.Rise x.Age) fun x1 => Option.bind (growth_grower_inWeather ⟨s⟩ x1 w) fun x2 =>
    bif decide (x.Height < s.Reach) then some (imin s.Top (W (x.Height + (W ((W (x2 * (W (100 - w.Browse)))).tdiv 100))))) else some (imin s.Top (W (x.Height + x2))) := rfl
  rw [e]
  unfold growth_grower_height
  simp only [imin_comm s.Top]
theorem girth_eq (s : XSpecies) (x : XStand) (w : XWeather) : ref02_girth s x.Age x.Shoots x.Girth w = growth_grower_girth ⟨s⟩ x w := by
  have e : ref02_girth s x.Age x.Shoots x.Girth w = Option.bind (growth_atAge s.Thick x.Age) fun x1 => Option.bind (growth_grower_inWeather ⟨s⟩ x1 w) fun x2 =>
    bif decide ((W (100 + x.Shoots)) ≠ 0) then some (imin s.Stout (W (x.Girth + (W ((W (x2 * 100)).tdiv (W (100 + x.Shoots))))))) else none := rfl
  rw [e]
  unfold growth_grower_girth
  simp only [imin_comm s.Stout]
section
variable {s : XSpecies} (hs : FineS s)
include hs
theorem crowd_val {fu : Nat} (hfu : 100 ≤ fu) (sh h : Int) : ref02_crowd fu s sh h = some (crowdZ s.Ladder sh h) := by
  unfold ref02_crowd
  rw [crowd_shoots fu fu s sh h ⟨0, 0, 0, 0⟩ ⟨0, 0, 0⟩ fu sh 0]
  have := shootsL_val hs fu ⟨0, 0, 0, 0⟩ ⟨0, 0, 0⟩ h fu 0 sh (by omega) (by have := hs.ladder; omega)
  rw [List.drop_zero] at this
  exact this
theorem refCut_val {age : Int} (ha : 0 ≤ age) : ref02_Cut s age = some (cutZ s age) := by
  have h := hs.sprouts
  unfold ref02_Cut
  rw [index_ok s.Sprouts.length age (by omega) (by omega) ha, W_id (by omega) (by omega)]
  rfl
theorem refStep_val {fu : Nat} (hfu : 100 ≤ fu) {b : XBox} (hb : OkB b) {q : XSeason} (hq : OkQ q) : ref02_Step fu s b q = some (stepZ s b q) := by
  have key : ∀ {c : XBox}, OkB c → (Option.bind (ref02_height s c.Low.Age c.Low.Height (⟨q.Light.Low, q.Browse.High, q.Mild.Low⟩ : XWeather)) fun x3 =>
      Option.bind (ref02_height s c.Low.Age c.High.Height (⟨q.Light.High, q.Browse.Low, q.Mild.High⟩ : XWeather)) fun x4 =>
      Option.bind (ref02_crowd fu s c.Low.Shoots x4) fun x5 =>
      Option.bind (ref02_girth s c.Low.Age c.High.Shoots c.Low.Girth (⟨q.Light.Low, q.Browse.High, q.Mild.Low⟩ : XWeather)) fun x6 =>
      Option.bind (ref02_crowd fu s c.High.Shoots x3) fun x7 =>
      Option.bind (ref02_girth s c.Low.Age c.Low.Shoots c.High.Girth (⟨q.Light.High, q.Browse.Low, q.Mild.High⟩ : XWeather)) fun x8 =>
      some (⟨(⟨imin 100000 (W (c.Low.Age + 1)), x5, x3, x6⟩ : XStand), (⟨imin 100000 (W (c.Low.Age + 1)), x7, x4, x8⟩ : XStand)⟩ : XBox)) = some (onZ s c q) := by
    intro c hc
    have hp := on_parts hc
    have ha := hc.low.age
    have age := hc.age
    have e1 := (height_eq s ⟨c.Low.Age, c.High.Shoots, c.Low.Height, c.Low.Girth⟩ (poor q)).trans (height_val hs (poor_ok hq) hp.1)
    have e2 := (height_eq s ⟨c.High.Age, c.Low.Shoots, c.High.Height, c.High.Girth⟩ (rich q)).trans (height_val hs (rich_ok hq) hp.2)
    have e3 := (girth_eq s ⟨c.Low.Age, c.High.Shoots, c.Low.Height, c.Low.Girth⟩ (poor q)).trans (girth_val hs (poor_ok hq) hp.1)
    have e4 := (girth_eq s ⟨c.High.Age, c.Low.Shoots, c.High.Height, c.High.Girth⟩ (rich q)).trans (girth_val hs (rich_ok hq) hp.2)
    simp only [poor, rich] at e1 e2 e3 e4
    rw [e1]
    simp only [Option.bind_some]
    rw [age, e2]
    simp only [Option.bind_some]
    rw [crowd_val hs hfu]
    simp only [Option.bind_some]
    rw [← age, e3]
    simp only [Option.bind_some]
    rw [crowd_val hs hfu]
    simp only [Option.bind_some]
    rw [age, e4]
    simp only [Option.bind_some]
    rw [W_id (by omega) (by omega), imin_comm]
    unfold onZ growZ
    simp only [poor, rich, age]
  unfold ref02_Step stepZ
  cases hc : q.Cut with
  | false => simp only [cond_false]; exact key hb
  | true =>
    simp only [cond_true]
    rw [refCut_val hs hb.low.age.1, Option.bind_some]
    exact key (cut_ok hs hb.low.age.1)
end
/-! ### What the specification says of samples -/
end Go.Proofs.G2
namespace Go.Proofs.G2
open Go Go.Sim Go.Proofs
set_option maxRecDepth 4000
/-! ### Histories -/
noncomputable def histZ (s : XSpecies) : XBox → List XSeason → List XBox
  | b, [] => [b]
  | b, q :: l => b :: histZ s (stepZ s b q) l
theorem histZ_length (s : XSpecies) : ∀ (l : List XSeason) (b : XBox), (histZ s b l).length = l.length + 1 := by
  intro l
  induction l with
  | nil => intro b; rfl
  | cons q l ih => intro b; simp [histZ, ih]
theorem histZ_head (s : XSpecies) (l : List XSeason) (b : XBox) : ∃ t, histZ s b l = b :: t := by
  cases l with
  | nil => exact ⟨[], rfl⟩
  | cons q l => exact ⟨_, rfl⟩
theorem hist_val {fu : Nat} (hfu : 100 ≤ fu) {s : XSpecies} (hs : FineS s) : ∀ (l : List XSeason) (b : XBox), OkB b → (∀ q ∈ l, OkQ q) → growth_hist fu s b l = some (histZ s b l) := by
  intro l
  induction l with
  | nil => intro b _ _; rfl
  | cons q l ih =>
    intro b hb hq
    have h1 := hq q (by simp)
    show Option.bind (growth_grower_step fu (⟨s⟩ : Xgrower) b q) _ = _
    rw [step_val hs hfu hb h1, Option.bind_some, ih _ (step_ok hs hb h1) (fun x hx => hq x (by simp [hx])), Option.bind_some]
    rfl
theorem seasons_ref (fu : Nat) (l : List XSeason) (h : l.length ≤ 1000) (hfu : l.length < fu) : ref02_Seasons fu l = some (l.all fun q => ref02_Season q) := by
  have := loop_all l zXSeason (fun q => ref02_Season q) true (fun fk v => ref02_Seasons_L fu l fk false v) (fun fk v => ref02_Seasons_L_s0 fu l fk false v) h fu 0 (by omega) (by omega)
  simp only [List.drop_zero, Bool.and_true] at this
  exact this
theorem seasons_code (fu : Nat) (l : List XSeason) (h : l.length ≤ 1000) (hfu : l.length < fu) : api_Season fu l = some (l.all fun q => ref02_Season q) := by
  have := loop_all l zXSeason (fun q => growth_seasonIsDefined q) true (fun fk v => api_Season_L fu l fk false v) (fun fk v => api_Season_L_s0 fu l fk false v) h fu 0 (by omega) (by omega)
  simp only [List.drop_zero, Bool.and_true] at this
  have e : (fun q => growth_seasonIsDefined q) = fun q => ref02_Season q := by funext q; exact season_eq q
  rw [e] at this
  exact this
theorem seasons_ok {l : List XSeason} (h : (l.all fun q => ref02_Season q) = true) : ∀ q ∈ l, OkQ q := fun q hq => (okq_iff q).1 (List.all_eq_true.1 h q hq)
theorem check_val (fu : Nat) (s : XSpecies) (b : XBox) (l : List XSeason) (h : l.length ≤ 1000) (hfu : l.length < fu) (B : Bool) (hB : growth_speciesIsDefined fu s = some B) :
    growth_checkHistory fu s b l = some (bif decide (((l.length : Nat) : Int) > 100) then 3 else bif B && (growth_boxIsDefined b && l.all fun q => ref02_Season q) then 0 else 2) := by
  unfold growth_checkHistory
  rw [hB, seasons_code fu l h hfu]
  simp only [Option.bind_some]
  cases decide (((l.length : Nat) : Int) > 100) <;> cases B <;> cases growth_boxIsDefined b <;> cases (l.all fun q => ref02_Season q) <;> rfl
end Go.Proofs.G2
namespace Go.Proofs.G2
open Go Go.Sim Go.Proofs
set_option maxRecDepth 4000
/-! ### A box's step, and what is refused -/
theorem refInside_iff (b : XBox) (x : XStand) : ref02_Inside b x = true ↔ InS x b := by
  unfold ref02_Inside
  simp only [in_within, cond_and, Bool.and_eq_true, within_iff, beq_iff_eq]
  exact ⟨fun h => ⟨h.1, h.2.1, h.2.2.1, h.2.2.2⟩, fun h => ⟨h.1, h.2, h.3, h.4⟩⟩
theorem inside_tree (b : XBox) (x : XStand) (R1 R2 R3 : Option Bool) : (bif ref02_Box b then (bif ref02_Stand x then (bif !((growth_Inside b x) == (ref02_Inside b x)) then some false else R1) else (bif !((growth_Inside b x) == false) then some false else R2)) else (bif !((growth_Inside b x) == false) then some false else R3)) =
    bif ref02_Box b then (bif ref02_Stand x then R1 else R2) else R3 := by
  have kb : ref02_Box b = true ↔ OkB b := okb_iff b
  have kx : ref02_Stand x = true ↔ OkS x := oks_iff x
  have ki := inside_iff b x
  have kr := refInside_iff b x
  rcases Bool.eq_false_or_eq_true (ref02_Box b) with hb | hb
  · rcases Bool.eq_false_or_eq_true (ref02_Stand x) with hx | hx
    · have e : growth_Inside b x = ref02_Inside b x := by
        rw [Bool.eq_iff_iff, ki, kr]
        exact ⟨fun h => h.2.2, fun h => ⟨kb.1 hb, kx.1 hx, h⟩⟩
      rw [hb, hx, e]
      simp
    · have e : growth_Inside b x = false := by
        rw [Bool.eq_false_iff]
        intro h
        rw [kx.2 (ki.1 h).2.1] at hx
        cases hx
      rw [hb, hx, e]
      rfl
  · have e : growth_Inside b x = false := by
      rw [Bool.eq_false_iff]
      intro h
      rw [kb.2 (ki.1 h).1] at hb
      cases hb
    rw [hb, e]
    rfl
theorem Step_any {fu : Nat} (hfu : 100 ≤ fu) {s : XSpecies} {B F : Bool} (hs : B = true → FineS s) (hd : growth_speciesIsDefined fu s = some B) {b : XBox} (hF : F = (B && growth_boxIsDefined b)) (q : XSeason) :
    growth_Step fu s b q = some (bif F && ref02_Season q then (stepZ s b q, 0) else (⟨⟨0, 0, 0, 0⟩, ⟨0, 0, 0, 0⟩⟩, 2)) := by
  rcases Bool.eq_false_or_eq_true (F && ref02_Season q) with h | h
  · rw [h, cond_true]
    simp only [Bool.and_eq_true] at h
    obtain ⟨h1, h2⟩ := h
    rw [hF] at h1
    simp only [Bool.and_eq_true] at h1
    rw [h1.1] at hd
    exact Step_val hfu (hs h1.1) hd ((okb_iff b).1 h1.2) ((okq_iff q).1 h2)
  · rw [h, cond_false]
    unfold growth_Step
    rw [hd, Option.bind_some, season_eq]
    rw [hF] at h
    revert h
    cases B <;> cases growth_boxIsDefined b <;> cases ref02_Season q <;> intro h <;> first | rfl | cases h
theorem box_same (c : XBox) : (!(((c.Low.Age == c.Low.Age) && ((c.Low.Shoots == c.Low.Shoots) && ((c.Low.Height == c.Low.Height) && ((c.Low.Girth == c.Low.Girth) && true)))) && (((c.High.Age == c.High.Age) && ((c.High.Shoots == c.High.Shoots) && ((c.High.Height == c.High.Height) && ((c.High.Girth == c.High.Girth) && true)))) && true))) = false := by
  simp
theorem steps_refused (fu : Nat) (hfu : 200 ≤ fu) (hk : law02_known fu = some true) (s : XSpecies) (b : XBox) (l : List XSeason) (hl : l.length ≤ 12) (x : XStand) (B F : Bool) (hs : B = true → FineS s) (hd : growth_speciesIsDefined fu s = some B) (hF : F = (B && growth_boxIsDefined b))
    (hno : (F && l.all fun q => ref02_Season q) = false) (v : Bool) : ∀ (fk i : Nat), i ≤ l.length → l.length - i < fk → (law02_GrowthSteps_L fu s b l x fk).1 v F (i : Int) 2 = some true := by
  intro fk
  induction fk with
  | zero => intro i _ h; omega
  | succ fk ih =>
    intro i hi hf
    rw [law02_GrowthSteps_L_s0, hk]
    by_cases hlt : i < l.length
    · have d1 : decide ((i : Int) < ((l.length : Nat) : Int)) = true := by simp; omega
      have d2 : decide (0 ≤ (i : Int) ∧ (i : Int) < ((l.length : Nat) : Int)) = true := by simp; omega
      have hw : W ((i : Int) + 1) = ((i + 1 : Nat) : Int) := by rw [W_id (by omega) (by omega)]; push_cast; rfl
      rw [d1, d2, hw, ih (i + 1) (by omega) (by omega)]
      simp only [cond_true, at_get zXSeason l i hlt]
      have e : growth_Step fu s b (⟨l[i].Light, l[i].Browse, l[i].Mild, l[i].Cut⟩ : XSeason) = _ := Step_any (by omega) hs hd hF l[i]
      rw [e]
      simp only [Option.bind_some]
      rcases Bool.eq_false_or_eq_true (ref02_Season l[i]) with hq | hq
      · rw [show ref02_Season (⟨l[i].Light, l[i].Browse, l[i].Mild, l[i].Cut⟩ : XSeason) = true from hq]
        cases F with
        | false => rfl
        | true =>
          have h1 : B = true ∧ growth_boxIsDefined b = true := by
            have := hF.symm
            simp only [Bool.and_eq_true] at this
            exact this
          have e2 : ref02_Step fu s b (⟨l[i].Light, l[i].Browse, l[i].Mild, l[i].Cut⟩ : XSeason) = some (stepZ s b l[i]) := refStep_val (hs h1.1) (by omega) ((okb_iff b).1 h1.2) ((okq_iff l[i]).1 hq)
          rw [e2]
          simp only [Option.bind_some, cond_true, Bool.and_self, box_same]
          rfl
      · rw [show ref02_Season (⟨l[i].Light, l[i].Browse, l[i].Mild, l[i].Cut⟩ : XSeason) = false from hq]
        cases F <;> rfl
    · have d1 : decide ((i : Int) < ((l.length : Nat) : Int)) = false := by simp; omega
      rw [d1, seasons_ref fu l (by omega) (by omega)]
      cases F with
      | false => rfl
      | true =>
        rw [show (l.all fun q => ref02_Season q) = false from hno]
        rfl
theorem same_hist (fu : Nat) (a : List XBox) (ha : a.length ≤ 100) (v : Bool) : ∀ (fk i : Nat), i ≤ a.length → a.length - i < fk → ref02_Same_1_L fu a a fk v (i : Int) = some true := by
  intro fk
  induction fk with
  | zero => intro i _ h; omega
  | succ fk ih =>
    intro i hi hf
    rw [ref02_Same_1_L_s0]
    by_cases hlt : i < a.length
    · have d1 : decide ((i : Int) < ((a.length : Nat) : Int)) = true := by simp; omega
      have d2 : decide (0 ≤ (i : Int) ∧ (i : Int) < ((a.length : Nat) : Int)) = true := by simp; omega
      have hw : W ((i : Int) + 1) = ((i + 1 : Nat) : Int) := by rw [W_id (by omega) (by omega)]; push_cast; rfl
      rw [d1, d2, hw, ih (i + 1) (by omega) (by omega), box_same]
      rfl
    · have d1 : decide ((i : Int) < ((a.length : Nat) : Int)) = false := by simp; omega
      rw [d1]
      rfl
theorem refHist_val {fu : Nat} (hfu : 100 ≤ fu) {s : XSpecies} (hs : FineS s) : ∀ (l : List XSeason) (b : XBox), OkB b → (∀ q ∈ l, OkQ q) → ref02_hist fu s b l = some (histZ s b l) := by
  intro l
  induction l with
  | nil => intro b _ _; rfl
  | cons q l ih =>
    intro b hb hq
    have h1 := hq q (by simp)
    show Option.bind (ref02_Step fu s b q) _ = _
    rw [refStep_val hs hfu hb h1, Option.bind_some, ih _ (step_ok hs hb h1) (fun x hx => hq x (by simp [hx])), Option.bind_some]
    rfl
theorem same_1 (fu : Nat) (hfu : 200 ≤ fu) (a : List XBox) (ha : a.length ≤ 100) : ref02_Same_1 fu a a = some true := by
  unfold ref02_Same_1
  rw [show (((a.length : Nat) : Int) != ((a.length : Nat) : Int)) = false by simp, cond_false]
  exact same_hist fu a ha false fu 0 (by omega) (by omega)
theorem steps_given (fu : Nat) (hfu : 200 ≤ fu) (hk : law02_known fu = some true) {s : XSpecies} (hs : FineS s) (hd : growth_speciesIsDefined fu s = some true) {b : XBox} (hb : OkB b) (l : List XSeason) (hl : l.length ≤ 12) (x : XStand) (hq : (l.all fun q => ref02_Season q) = true) (v : Bool) :
    ∀ (fk i : Nat), i ≤ l.length → l.length - i < fk → (law02_GrowthSteps_L fu s b l x fk).2 v true (i : Int) (histZ s b l) = some true := by
  have kq := seasons_ok hq
  intro fk
  induction fk with
  | zero => intro i _ h; omega
  | succ fk ih =>
    intro i hi hf
    rw [law02_GrowthSteps_L_s1, hk]
    by_cases hlt : i < l.length
    · have d1 : decide ((i : Int) < ((l.length : Nat) : Int)) = true := by simp; omega
      have d2 : decide (0 ≤ (i : Int) ∧ (i : Int) < ((l.length : Nat) : Int)) = true := by simp; omega
      have hw : W ((i : Int) + 1) = ((i + 1 : Nat) : Int) := by rw [W_id (by omega) (by omega)]; push_cast; rfl
      rw [d1, d2, hw, ih (i + 1) (by omega) (by omega)]
      simp only [cond_true, at_get zXSeason l i hlt]
      have ki := kq _ (List.getElem_mem hlt)
      have e : growth_Step fu s b (⟨l[i].Light, l[i].Browse, l[i].Mild, l[i].Cut⟩ : XSeason) = some (stepZ s b l[i], 0) := Step_val (by omega) hs hd hb ki
      have e2 : ref02_Step fu s b (⟨l[i].Light, l[i].Browse, l[i].Mild, l[i].Cut⟩ : XSeason) = some (stepZ s b l[i]) := refStep_val hs (by omega) hb ki
      rw [e, e2, show ref02_Season (⟨l[i].Light, l[i].Browse, l[i].Mild, l[i].Cut⟩ : XSeason) = true from (okq_iff l[i]).2 ki]
      simp only [Option.bind_some, cond_true, box_same]
      rfl
    · have d1 : decide ((i : Int) < ((l.length : Nat) : Int)) = false := by simp; omega
      have hlen := histZ_length s l b
      rw [d1, seasons_ref fu l (by omega) (by omega), hq, refHist_val (by omega) hs l b hb kq, decide_eq_true hl]
      simp only [Option.bind_some, cond_true, cond_false]
      cases l with
      | nil =>
        rw [show histZ s b [] = [b] from rfl, same_1 fu hfu [b] (by simp)]
        rfl
      | cons q l =>
        rw [same_1 fu hfu _ (by omega)]
        rfl
theorem steps_core (fu : Nat) (hfu : 300 ≤ fu) (hk : law02_known fu = some true) (s : XSpecies) (b : XBox) (l : List XSeason) (x : XStand) : law02_GrowthSteps fu s b l x = some true := by
  unfold law02_GrowthSteps
  rw [hk]
  simp only [Option.bind_some, inside_tree]
  rcases Bool.eq_false_or_eq_true (law02_short s) with hs | hs
  rotate_left
  · rw [hs]; rfl
  rw [hs, cond_true]
  obtain ⟨B, e1, e2, e3⟩ := species_cases fu s hs (by omega)
  by_cases h12 : ((l.length : Nat) : Int) > 12
  · rw [decide_eq_true h12]
    by_cases h100 : ((l.length : Nat) : Int) ≤ 100
    · rw [decide_eq_true h100]; rfl
    rw [decide_eq_false h100]
    by_cases h200 : ((l.length : Nat) : Int) > 200
    · rw [decide_eq_true h200]; rfl
    rw [decide_eq_false h200, check_val fu s b l (by omega) (by omega) B e2, decide_eq_true (p := ((l.length : Nat) : Int) > 100) (by omega)]
    cases ref02_Box b <;> cases ref02_Stand x <;> rfl
  have hl : l.length ≤ 12 := by omega
  rw [decide_eq_false h12, decide_eq_false (p := ((l.length : Nat) : Int) > 200) (by omega), check_val fu s b l (by omega) (by omega) B e2, decide_eq_false (p := ((l.length : Nat) : Int) > 100) (by omega), e1, decide_eq_true hl]
  simp only [cond_true, cond_false, Option.bind_some]
  have eb : ref02_Box b = growth_boxIsDefined b := rfl
  rcases Bool.eq_false_or_eq_true ((B && growth_boxIsDefined b) && l.all fun q => ref02_Season q) with hall | hall
  · simp only [Bool.and_eq_true] at hall
    obtain ⟨⟨h1, h2⟩, h3⟩ := hall
    subst h1
    have kb := (okb_iff b).1 h2
    have hist := hist_val (fu := fu) (by omega) (e3 rfl) l b kb (seasons_ok h3)
    have key := steps_given fu (by omega) hk (e3 rfl) e2 kb l hl x h3 false fu 0 (by omega) (by omega)
    rw [eb, h2, h3, hist]
    simp only [Option.bind_some, Bool.and_self, cond_true]
    cases ref02_Stand x <;> exact key
  · have key := steps_refused fu (by omega) hk s b l hl x B (B && growth_boxIsDefined b) e3 e2 rfl hall false fu 0 (by omega) (by omega)
    have hall' : (B && (growth_boxIsDefined b && l.all fun q => ref02_Season q)) = false := by rw [← Bool.and_assoc]; exact hall
    rw [hall', eb]
    revert key
    cases growth_boxIsDefined b <;> cases B <;> cases ref02_Stand x <;> intro key <;> exact key
theorem steps_true (s : XSpecies) (b : XBox) (l : List XSeason) (x : XStand) : ∃ fu, law02_GrowthSteps fu s b l x = some true := ⟨2100, steps_core 2100 (by omega) known_true s b l x⟩
end Go.Proofs.G2
