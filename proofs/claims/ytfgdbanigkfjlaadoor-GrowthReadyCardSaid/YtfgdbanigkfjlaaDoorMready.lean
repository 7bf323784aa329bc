/- The law GrowthReady on plain functions: it says true for each input. No conditions. -/
import Derived.Test.YtfgdbanigkfjlaaDoorM
namespace Go.Proofs.G2
open Go Go.Sim Go.Proofs
set_option maxRecDepth 4000
/-! ### What the specification says of steps -/
theorem imin_comm (a b : Int) : imin a b = imin b a := by unfold imin; split <;> split <;> omega
theorem crowd_shoots (fu fu' : Nat) (s : XSpecies) (sh h : Int) (x : XStand) (w : XWeather) : ∀ (fk : Nat) (v i : Int), ref02_crowd_L fu s sh h fk v i = growth_grower_shoots_L fu' ⟨s⟩ x w fk v i h := by
  intro fk
  induction fk with
  | zero => intro v i; rfl
  | succ fk ih =>
    intro v i
    rw [ref02_crowd_L_s0, growth_grower_shoots_L_s0]
    simp only [ih]
theorem height_eq (s : XSpecies) (x : XStand) (w : XWeather) : ref02_height s x.Age x.Height w = growth_grower_height ⟨s⟩ x w := by
  have e : ref02_height s x.Age x.Height w = Option.bind (growth_atAge s.Rise x.Age) fun x1 => Option.bind (growth_grower_inWeather ⟨s⟩ x1 w) fun x2 =>
    bif decide (x.Height < s.Reach) then some (imin s.Top (W (x.Height + (W ((W (x2 * (W (100 - w.Browse)))).tdiv 100))))) else some (imin s.Top (W (x.Height + x2))) := rfl
  rw [e]
  unfold growth_grower_height
  simp only [imin_comm s.Top]
theorem girth_eq (s : XSpecies) (x : XStand) (w : XWeather) : ref02_girth s x.Age x.Shoots x.Girth w = growth_grower_girth ⟨s⟩ x w := by
  have e : ref02_girth s x.Age x.Shoots x.Girth w = Option.bind (growth_atAge s.Thick x.Age) fun x1 => Option.bind (growth_grower_inWeather ⟨s⟩ x1 w) fun x2 =>
    bif decide ((W (100 + x.Shoots)) ≠ 0) then some (imin s.Stout (W (x.Girth + (W ((W (x2 * 100)).tdiv (W (100 + x.Shoots))))))) else none := rfl
  rw [e]
  unfold growth_grower_girth
  simp only [imin_comm s.Stout]
section
variable {s : XSpecies} (hs : FineS s)
include hs
theorem crowd_val {fu : Nat} (hfu : 100 ≤ fu) (sh h : Int) : ref02_crowd fu s sh h = some (crowdZ s.Ladder sh h) := by
  unfold ref02_crowd
  rw [crowd_shoots fu fu s sh h ⟨0, 0, 0, 0⟩ ⟨0, 0, 0⟩ fu sh 0]
  have := shootsL_val hs fu ⟨0, 0, 0, 0⟩ ⟨0, 0, 0⟩ h fu 0 sh (by omega) (by have := hs.ladder; omega)
  rw [List.drop_zero] at this
  exact this
theorem refCut_val {age : Int} (ha : 0 ≤ age) : ref02_Cut s age = some (cutZ s age) := by
  have h := hs.sprouts
  unfold ref02_Cut
  rw [index_ok s.Sprouts.length age (by omega) (by omega) ha, W_id (by omega) (by omega)]
  rfl
theorem refStep_val {fu : Nat} (hfu : 100 ≤ fu) {b : XBox} (hb : OkB b) {q : XSeason} (hq : OkQ q) : ref02_Step fu s b q = some (stepZ s b q) := by
  have key : ∀ {c : XBox}, OkB c → (Option.bind (ref02_height s c.Low.Age c.Low.Height (⟨q.Light.Low, q.Browse.High, q.Mild.Low⟩ : XWeather)) fun x3 =>
      Option.bind (ref02_height s c.Low.Age c.High.Height (⟨q.Light.High, q.Browse.Low, q.Mild.High⟩ : XWeather)) fun x4 =>
      Option.bind (ref02_crowd fu s c.Low.Shoots x4) fun x5 =>
      Option.bind (ref02_girth s c.Low.Age c.High.Shoots c.Low.Girth (⟨q.Light.Low, q.Browse.High, q.Mild.Low⟩ : XWeather)) fun x6 =>
      Option.bind (ref02_crowd fu s c.High.Shoots x3) fun x7 =>
      Option.bind (ref02_girth s c.Low.Age c.Low.Shoots c.High.Girth (⟨q.Light.High, q.Browse.Low, q.Mild.High⟩ : XWeather)) fun x8 =>
      some (⟨(⟨imin 100000 (W (c.Low.Age + 1)), x5, x3, x6⟩ : XStand), (⟨imin 100000 (W (c.Low.Age + 1)), x7, x4, x8⟩ : XStand)⟩ : XBox)) = some (onZ s c q) := by
    intro c hc
    have hp := on_parts hc
    have ha := hc.low.age
    have age := hc.age
    have e1 := (height_eq s ⟨c.Low.Age, c.High.Shoots, c.Low.Height, c.Low.Girth⟩ (poor q)).trans (height_val hs (poor_ok hq) hp.1)
    have e2 := (height_eq s ⟨c.High.Age, c.Low.Shoots, c.High.Height, c.High.Girth⟩ (rich q)).trans (height_val hs (rich_ok hq) hp.2)
    have e3 := (girth_eq s ⟨c.Low.Age, c.High.Shoots, c.Low.Height, c.Low.Girth⟩ (poor q)).trans (girth_val hs (poor_ok hq) hp.1)
    have e4 := (girth_eq s ⟨c.High.Age, c.Low.Shoots, c.High.Height, c.High.Girth⟩ (rich q)).trans (girth_val hs (rich_ok hq) hp.2)
    simp only [poor, rich] at e1 e2 e3 e4
    rw [e1]
    simp only [Option.bind_some]
    rw [age, e2]
    simp only [Option.bind_some]
    rw [crowd_val hs hfu]
    simp only [Option.bind_some]
    rw [← age, e3]
    simp only [Option.bind_some]
    rw [crowd_val hs hfu]
    simp only [Option.bind_some]
    rw [age, e4]
    simp only [Option.bind_some]
    rw [W_id (by omega) (by omega), imin_comm]
    unfold onZ growZ
    simp only [poor, rich, age]
  unfold ref02_Step stepZ
  cases hc : q.Cut with
  | false => simp only [cond_false]; exact key hb
  | true =>
    simp only [cond_true]
    rw [refCut_val hs hb.low.age.1, Option.bind_some]
    exact key (cut_ok hs hb.low.age.1)
end
/-! ### What the specification says of samples -/
end Go.Proofs.G2
namespace Go.Proofs.G2
open Go Go.Sim Go.Proofs
set_option maxRecDepth 4000
/-! ### Histories -/
noncomputable def histZ (s : XSpecies) : XBox → List XSeason → List XBox
  | b, [] => [b]
  | b, q :: l => b :: histZ s (stepZ s b q) l
theorem histZ_length (s : XSpecies) : ∀ (l : List XSeason) (b : XBox), (histZ s b l).length = l.length + 1 := by
  intro l
  induction l with
  | nil => intro b; rfl
  | cons q l ih => intro b; simp [histZ, ih]
theorem histZ_head (s : XSpecies) (l : List XSeason) (b : XBox) : ∃ t, histZ s b l = b :: t := by
  cases l with
  | nil => exact ⟨[], rfl⟩
  | cons q l => exact ⟨_, rfl⟩
theorem seasons_ref (fu : Nat) (l : List XSeason) (h : l.length ≤ 1000) (hfu : l.length < fu) : ref02_Seasons fu l = some (l.all fun q => ref02_Season q) := by
  have := loop_all l zXSeason (fun q => ref02_Season q) true (fun fk v => ref02_Seasons_L fu l fk false v) (fun fk v => ref02_Seasons_L_s0 fu l fk false v) h fu 0 (by omega) (by omega)
  simp only [List.drop_zero, Bool.and_true] at this
  exact this
theorem seasons_code (fu : Nat) (l : List XSeason) (h : l.length ≤ 1000) (hfu : l.length < fu) : api_Season fu l = some (l.all fun q => ref02_Season q) := by
  have := loop_all l zXSeason (fun q => growth_seasonIsDefined q) true (fun fk v => api_Season_L fu l fk false v) (fun fk v => api_Season_L_s0 fu l fk false v) h fu 0 (by omega) (by omega)
  simp only [List.drop_zero, Bool.and_true] at this
  have e : (fun q => growth_seasonIsDefined q) = fun q => ref02_Season q := by funext q; exact season_eq q
  rw [e] at this
  exact this
theorem seasons_ok {l : List XSeason} (h : (l.all fun q => ref02_Season q) = true) : ∀ q ∈ l, OkQ q := fun q hq => (okq_iff q).1 (List.all_eq_true.1 h q hq)
theorem check_val (fu : Nat) (s : XSpecies) (b : XBox) (l : List XSeason) (h : l.length ≤ 1000) (hfu : l.length < fu) (B : Bool) (hB : growth_speciesIsDefined fu s = some B) :
    growth_checkHistory fu s b l = some (bif decide (((l.length : Nat) : Int) > 100) then 3 else bif B && (growth_boxIsDefined b && l.all fun q => ref02_Season q) then 0 else 2) := by
  unfold growth_checkHistory
  rw [hB, seasons_code fu l h hfu]
  simp only [Option.bind_some]
  cases decide (((l.length : Nat) : Int) > 100) <;> cases B <;> cases growth_boxIsDefined b <;> cases (l.all fun q => ref02_Season q) <;> rfl
end Go.Proofs.G2
namespace Go.Proofs.G2
open Go Go.Sim Go.Proofs
set_option maxRecDepth 4000
/-! ### Wood -/
theorem wood_parts {x : XStand} (hx : OkS x) : (0 ≤ x.Shoots * x.Height ∧ x.Shoots * x.Height ≤ 12000000) ∧ (0 ≤ x.Shoots * x.Height * x.Girth ∧ x.Shoots * x.Height * x.Girth ≤ 36000000000) ∧ (0 ≤ x.Shoots * x.Height * x.Girth * x.Girth ∧ x.Shoots * x.Height * x.Girth * x.Girth ≤ 108000000000000) := by
  have h1 := hx.shoots; have h2 := hx.height; have h3 := hx.girth
  have m1 := mulb h1.1 h1.2 h2.1 h2.2
  have m2 := mulb m1.1 m1.2 h3.1 h3.2
  have m3 := mulb m2.1 m2.2 h3.1 h3.2
  exact ⟨⟨m1.1, by omega⟩, ⟨m2.1, by omega⟩, m3.1, by omega⟩
theorem wood_val {x : XStand} (hx : OkS x) : growth_wood x = (x.Shoots * x.Height * x.Girth * x.Girth).tdiv 25000000 := by
  obtain ⟨h1, h2, h3⟩ := wood_parts hx
  unfold growth_wood
  have h4 : 0 ≤ (x.Shoots * x.Height * x.Girth * x.Girth).tdiv 25000000 := tdiv_nonneg h3.1 (by omega)
  have h5 : (x.Shoots * x.Height * x.Girth * x.Girth).tdiv 25000000 ≤ x.Shoots * x.Height * x.Girth * x.Girth := tdiv_le h3.1 (by omega)
  rw [W_id (n := x.Shoots * x.Height) (by omega) (by omega), W_id (n := x.Shoots * x.Height * x.Girth) (by omega) (by omega), W_id (n := x.Shoots * x.Height * x.Girth * x.Girth) (by omega) (by omega), W_id (by omega) (by omega)]
theorem wood_le {x y : XStand} (hx : OkS x) (hy : OkS y) (h1 : x.Shoots ≤ y.Shoots) (h2 : x.Height ≤ y.Height) (h3 : x.Girth ≤ y.Girth) : growth_wood x ≤ growth_wood y := by
  rw [wood_val hx, wood_val hy]
  obtain ⟨p1, p2, p3⟩ := wood_parts hx
  obtain ⟨q1, q2, q3⟩ := wood_parts hy
  refine tdiv_mono p3.1 ?_ (by omega)
  exact Int.mul_le_mul (Int.mul_le_mul (Int.mul_le_mul h1 h2 hx.height.1 hy.shoots.1) h3 hx.girth.1 q1.1) h3 hx.girth.1 q2.1
/-! ### The first box of a history -/
noncomputable def phZ (n : Int) (b : XBox) : Bool := decide (growth_wood b.High ≥ n)
noncomputable def plZ (n : Int) (b : XBox) : Bool := decide (growth_wood b.Low ≥ n)
theorem pl_ph {n : Int} {b : XBox} (hb : OkB b) (h : plZ n b = true) : phZ n b = true := by
  have := wood_le hb.low hb.high hb.shoots hb.height hb.girth
  have h1 : growth_wood b.Low ≥ n := of_decide_eq_true h
  exact decide_eq_true (by omega)
def fstZ (p : XBox → Bool) : List XBox → Int → Int
  | [], _ => -1
  | b :: l, i => bif p b then i else fstZ p l (i + 1)
theorem fst_le (p : XBox → Bool) : ∀ (l : List XBox) (i : Int) (j : Nat) (h : j < l.length), p l[j] = true → i ≤ fstZ p l i ∧ fstZ p l i ≤ i + j := by
  intro l
  induction l with
  | nil => intro i j h; cases h
  | cons b l ih =>
    intro i j h hp
    unfold fstZ
    rcases Bool.eq_false_or_eq_true (p b) with hb | hb
    · rw [hb, cond_true]; omega
    · rw [hb, cond_false]
      cases j with
      | zero => rw [List.getElem_cons_zero, hb] at hp; cases hp
      | succ j =>
        rw [List.getElem_cons_succ] at hp
        have := ih (i + 1) j (by simpa using h) hp
        push_cast
        omega
theorem fst_or (p : XBox → Bool) : ∀ (l : List XBox) (i : Int), fstZ p l i = -1 ∨ ∃ (j : Nat) (h : j < l.length), fstZ p l i = i + j ∧ p l[j] = true := by
  intro l
  induction l with
  | nil => intro i; exact .inl rfl
  | cons b l ih =>
    intro i
    unfold fstZ
    rcases Bool.eq_false_or_eq_true (p b) with hb | hb
    · rw [hb, cond_true]; exact .inr ⟨0, by simp, by simp, hb⟩
    · rw [hb, cond_false]
      rcases ih (i + 1) with h | ⟨j, h, h1, h2⟩
      · exact .inl h
      · exact .inr ⟨j + 1, by simpa using h, by push_cast; omega, h2⟩
/-! ### What Ready comes to -/
abbrev RTy := Nat × Bool × Int × Int × Int × Int × Int × Int × Int × Int × Int × Int × Int
noncomputable def RW (fu : Nat) (s : XSpecies) (b : XBox) (l : List XSeason) (n x1 : Int) (fk : Nat) (i can : Int) (y : XBox) : Option RTy :=
  growth_Ready_W0 fu s b l n x1 fk true i can (-1) y.Low.Age y.Low.Shoots y.Low.Height y.Low.Girth y.High.Age y.High.Shoots y.High.Height y.High.Girth
def RO (k : Nat) (i can must : Int) (y : XBox) : RTy := (k, true, i, can, must, y.Low.Age, y.Low.Shoots, y.Low.Height, y.Low.Girth, y.High.Age, y.High.Shoots, y.High.Height, y.High.Girth)
noncomputable def RG (fu : Nat) (s : XSpecies) (b : XBox) (l : List XSeason) (n x1 : Int) (fk : Nat) (i can : Int) (y : XBox) : Option RTy :=
  bif decide (can < 0) then (bif decide (growth_wood y.High ≥ n) then (bif decide (growth_wood y.Low ≥ n) then some (RO 0 i i i y) else RW fu s b l n x1 fk (W (i + 1)) i y) else (bif decide (growth_wood y.Low ≥ n) then some (RO 0 i can i y) else RW fu s b l n x1 fk (W (i + 1)) can y))
  else (bif decide (growth_wood y.Low ≥ n) then some (RO 0 i can i y) else RW fu s b l n x1 fk (W (i + 1)) can y)
theorem RW_s (fu : Nat) (s : XSpecies) (b : XBox) (l : List XSeason) (n x1 : Int) (fk : Nat) (i can : Int) (c : XBox) : RW fu s b l n x1 (fk + 1) i can c =
    (bif decide (i < W (((l.length : Nat) : Int) + 1)) then (bif decide (i > 0) then (bif decide (0 ≤ W (i - 1) ∧ W (i - 1) < ((l.length : Nat) : Int)) then (Option.bind (growth_grower_step fu (⟨s⟩ : Xgrower) c (at_ zXSeason l (W (i - 1)))) fun y => bif decide (i < 0) then none else RG fu s b l n x1 fk i can y) else none)
      else (bif decide (i < 0) then none else RG fu s b l n x1 fk i can c)) else some (RO 2 i can (-1) c)) := by
  unfold RW
  rw [growth_Ready_W0_s]
  rfl
def Res (o : Option RTy) (can must : Int) : Prop := ∃ r, o = some r ∧ (r.1 = 0 ∨ r.1 = 2) ∧ r.2.2.2.1 = can ∧ r.2.2.2.2.1 = must
theorem histZ_tail (s : XSpecies) (b : XBox) (q : XSeason) (l : List XSeason) : histZ s b (q :: l) = b :: histZ s (stepZ s b q) l := rfl
theorem rg_val {fu : Nat} (hfu : 100 ≤ fu) {s : XSpecies} (hs : FineS s) (b : XBox) (l : List XSeason) (hl : l.length ≤ 1000) (hq : ∀ q ∈ l, OkQ q) (n x1 : Int) : ∀ (fk i : Nat) (can : Int) (y : XBox), i ≤ l.length → l.length - i < fk → OkB y →
    Res (RG fu s b l n x1 fk (i : Int) can y) (if can < 0 then fstZ (phZ n) (histZ s y (l.drop i)) i else can) (fstZ (plZ n) (histZ s y (l.drop i)) i) ∨ (can < 0 ∧ can ≠ -1) := by
  intro fk
  induction fk with
  | zero => intro i can y _ h; omega
  | succ fk ih =>
    intro i can y hi hf hy
    by_cases hcan : can < 0 ∧ can ≠ -1
    · exact .inr hcan
    left
    have hw : W ((i : Int) + 1) = (i : Int) + 1 := W_id (by omega) (by omega)
    have hwl : W (((l.length : Nat) : Int) + 1) = ((l.length : Nat) : Int) + 1 := W_id (by omega) (by omega)
    have hw1 : W ((i : Int) + 1 - 1) = (i : Int) := by rw [W_id (by omega) (by omega)]; omega
    -- the rest of the list, behind this box
    have key : ∀ (can2 : Int), (0 ≤ can2 ∨ can2 = -1) → plZ n y = false → (can2 < 0 → phZ n y = false) →
        Res (RW fu s b l n x1 (fk + 1) (W ((i : Int) + 1)) can2 y) (if can2 < 0 then fstZ (phZ n) (histZ s y (l.drop i)) i else can2) (fstZ (plZ n) (histZ s y (l.drop i)) i) := by
      intro can2 hc2 hpl hph
      rw [hw, RW_s, hwl, hw1]
      by_cases hlt : i < l.length
      · have d1 : decide ((i : Int) + 1 < ((l.length : Nat) : Int) + 1) = true := decide_eq_true (by omega)
        have d2 : decide ((i : Int) + 1 > 0) = true := decide_eq_true (by omega)
        have d3 : decide (0 ≤ (i : Int) ∧ (i : Int) < ((l.length : Nat) : Int)) = true := decide_eq_true (by omega)
        have d4 : decide ((i : Int) + 1 < 0) = false := decide_eq_false (by omega)
        have ki := hq _ (List.getElem_mem hlt)
        have hc := step_ok hs hy ki
        rw [d1, d2, d3, d4, at_get zXSeason l i hlt, step_val hs hfu hy ki]
        simp only [cond_true, cond_false, Option.bind_some]
        have h1 := ih (i + 1) can2 (stepZ s y l[i]) (by omega) (by omega) hc
        have h2 : histZ s y (l.drop i) = y :: histZ s (stepZ s y l[i]) (l.drop (i + 1)) := by rw [List.drop_eq_getElem_cons hlt, histZ_tail]
        rw [h2]
        unfold fstZ
        rw [hpl, cond_false]
        rcases h1 with h1 | h1
        rotate_left
        · omega
        have e : ((i + 1 : Nat) : Int) = (i : Int) + 1 := by push_cast; rfl
        rw [e] at h1
        by_cases hn : can2 < 0
        · rw [if_pos hn] at h1 ⊢
          rw [hph hn, cond_false]
          exact h1
        · rw [if_neg hn] at h1 ⊢
          exact h1
      · have d1 : decide ((i : Int) + 1 < ((l.length : Nat) : Int) + 1) = false := decide_eq_false (by omega)
        rw [d1, cond_false, List.drop_of_length_le (by omega)]
        refine ⟨_, rfl, .inr rfl, ?_, ?_⟩
        · by_cases hn : can2 < 0
          · rw [if_pos hn]
            show can2 = fstZ (phZ n) [y] i
            unfold fstZ
            rw [hph hn, cond_false]
            show can2 = -1
            omega
          · rw [if_neg hn]; rfl
        · show -1 = fstZ (plZ n) [y] i
          unfold fstZ
          rw [hpl]
          rfl
    obtain ⟨u, hu⟩ := histZ_head s (l.drop i) y
    have atl : ∀ p : XBox → Bool, p y = true → fstZ p (histZ s y (l.drop i)) i = i := by
      intro p hp
      rw [hu]
      unfold fstZ
      rw [hp]
      rfl
    unfold RG
    rcases Bool.eq_false_or_eq_true (plZ n y) with hpl | hpl
    · have hph := pl_ph hy hpl
      rw [show decide (growth_wood y.High ≥ n) = true from hph, show decide (growth_wood y.Low ≥ n) = true from hpl, atl _ hph, atl _ hpl]
      by_cases hn : can < 0
      · rw [decide_eq_true hn, if_pos hn]
        exact ⟨_, rfl, .inl rfl, rfl, rfl⟩
      · rw [decide_eq_false hn, if_neg hn]
        exact ⟨_, rfl, .inl rfl, rfl, rfl⟩
    · rw [show decide (growth_wood y.Low ≥ n) = false from hpl]
      by_cases hn : can < 0
      · rw [decide_eq_true hn, if_pos hn]
        rcases Bool.eq_false_or_eq_true (phZ n y) with hph | hph
        · rw [show decide (growth_wood y.High ≥ n) = true from hph, atl _ hph]
          have := key i (by omega) hpl (by intro h; omega)
          rw [if_neg (by omega)] at this
          exact this
        · rw [show decide (growth_wood y.High ≥ n) = false from hph]
          have := key can (by omega) hpl (fun _ => hph)
          rw [if_pos hn] at this
          exact this
      · rw [decide_eq_false hn, if_neg hn]
        have := key can (by omega) hpl (fun h => absurd h hn)
        rw [if_neg hn] at this
        exact this
theorem ready_val {fu : Nat} (hfu : 200 ≤ fu) {s : XSpecies} (hs : FineS s) {b : XBox} (hb : OkB b) (l : List XSeason) (hl : l.length ≤ 100) (hq : ∀ q ∈ l, OkQ q) (n : Int) (hc : growth_checkHistory fu s b l = some 0) :
    growth_Ready fu s b l n = some (fstZ (phZ n) (histZ s b l) 0, fstZ (plZ n) (histZ s b l) 0, 0) := by
  have h0 : ∀ fk, 150 ≤ fk → Res (RW fu s b l n 0 fk 0 (-1) b) (fstZ (phZ n) (histZ s b l) 0) (fstZ (plZ n) (histZ s b l) 0) := by
    intro fk hfk
    cases fk with
    | zero => omega
    | succ fk =>
      have hwl : W (((l.length : Nat) : Int) + 1) = ((l.length : Nat) : Int) + 1 := W_id (by omega) (by omega)
      rw [RW_s, hwl, decide_eq_true (p := (0 : Int) < ((l.length : Nat) : Int) + 1) (by omega)]
      have h1 := rg_val (fu := fu) (by omega) hs b l (by omega) hq n 0 fk 0 (-1) b (by omega) (by omega) hb
      rcases h1 with h1 | h1
      · exact h1
      · omega
  obtain ⟨r, h1, h2, h3, h4⟩ := h0 fu (by omega)
  unfold growth_Ready
  rw [hc, Option.bind_some]
  have e : growth_Ready_W0 fu s b l n 0 fu true 0 (-1) (-1) b.Low.Age b.Low.Shoots b.Low.Height b.Low.Girth b.High.Age b.High.Shoots b.High.Height b.High.Girth = some r := h1
  rw [e, show ((0 : Int) != 0) = false from rfl, cond_false, Option.bind_some, h3, h4]
  rcases h2 with h2 | h2 <;> rw [h2] <;> rfl
end Go.Proofs.G2
namespace Go.Proofs.G2
open Go Go.Sim Go.Proofs
set_option maxRecDepth 4000
theorem refHist_val {fu : Nat} (hfu : 100 ≤ fu) {s : XSpecies} (hs : FineS s) : ∀ (l : List XSeason) (b : XBox), OkB b → (∀ q ∈ l, OkQ q) → ref02_hist fu s b l = some (histZ s b l) := by
  intro l
  induction l with
  | nil => intro b _ _; rfl
  | cons q l ih =>
    intro b hb hq
    have h1 := hq q (by simp)
    show Option.bind (ref02_Step fu s b q) _ = _
    rw [refStep_val hs hfu hb h1, Option.bind_some, ih _ (step_ok hs hb h1) (fun x hx => hq x (by simp [hx])), Option.bind_some]
    rfl
theorem refWood_eq (x : XStand) : ref02_Wood x = growth_wood x := rfl
theorem refReady_loop (fu : Nat) (L : List XBox) (hL : L.length ≤ 1000) (n : Int) : ∀ (fk i : Nat) (v w : Int), i ≤ L.length → L.length - i < fk → (v = -1 ∨ 0 ≤ v) → (w = -1 ∨ 0 ≤ w) →
    ref02_Ready_L fu L n fk v w (i : Int) = some (if v < 0 then fstZ (phZ n) (L.drop i) i else v, if w < 0 then fstZ (plZ n) (L.drop i) i else w) := by
  intro fk
  induction fk with
  | zero => intro i v w _ h; omega
  | succ fk ih =>
    intro i v w hi hf hv hw0
    rw [ref02_Ready_L_s0]
    by_cases hlt : i < L.length
    · have d1 : decide ((i : Int) < ((L.length : Nat) : Int)) = true := by simp; omega
      have d2 : decide (0 ≤ (i : Int) ∧ (i : Int) < ((L.length : Nat) : Int)) = true := by simp; omega
      have hw : W ((i : Int) + 1) = ((i + 1 : Nat) : Int) := by rw [W_id (by omega) (by omega)]; push_cast; rfl
      have e : ((i + 1 : Nat) : Int) = (i : Int) + 1 := by push_cast; rfl
      rw [d1, d2, hw, at_get zXBox L i hlt, refWood_eq, refWood_eq, List.drop_eq_getElem_cons hlt]
      simp only [cond_true]
      have g1 : fstZ (phZ n) (L[i] :: L.drop (i + 1)) i = bif decide (growth_wood L[i].High ≥ n) then (i : Int) else fstZ (phZ n) (L.drop (i + 1)) ((i : Int) + 1) := rfl
      have g2 : fstZ (plZ n) (L[i] :: L.drop (i + 1)) i = bif decide (growth_wood L[i].Low ≥ n) then (i : Int) else fstZ (plZ n) (L.drop (i + 1)) ((i : Int) + 1) := rfl
      rw [g1, g2]
      have hin : ¬ (i : Int) < 0 := by omega
      rcases hv with rfl | hv <;> rcases hw0 with rfl | hw0
      · simp only [show decide ((-1 : Int) < 0) = true from rfl, cond_true]
        by_cases a1 : growth_wood L[i].High ≥ n <;> by_cases a2 : growth_wood L[i].Low ≥ n <;> simp only [a1, a2, decide_true, decide_false, cond_true, cond_false] <;> rw [ih (i + 1) _ _ (by omega) (by omega) (by omega) (by omega)] <;> simp [hin]
      · have n2 : ¬ w < 0 := by omega
        simp only [show decide ((-1 : Int) < 0) = true from rfl, decide_eq_false n2, cond_true, cond_false]
        by_cases a1 : growth_wood L[i].High ≥ n <;> simp only [a1, decide_true, decide_false, cond_true, cond_false] <;> rw [ih (i + 1) _ _ (by omega) (by omega) (by omega) (by omega)] <;> simp [hin, n2]
      · have n1 : ¬ v < 0 := by omega
        simp only [show decide ((-1 : Int) < 0) = true from rfl, decide_eq_false n1, cond_true, cond_false]
        by_cases a2 : growth_wood L[i].Low ≥ n <;> simp only [a2, decide_true, decide_false, cond_true, cond_false] <;> rw [ih (i + 1) _ _ (by omega) (by omega) (by omega) (by omega)] <;> simp [hin, n1]
      · have n1 : ¬ v < 0 := by omega
        have n2 : ¬ w < 0 := by omega
        simp only [decide_eq_false n1, decide_eq_false n2, cond_false]
        rw [ih (i + 1) _ _ (by omega) (by omega) (by omega) (by omega)]
        simp [n1, n2]
    · have d1 : decide ((i : Int) < ((L.length : Nat) : Int)) = false := by simp; omega
      rw [d1, cond_false, List.drop_of_length_le (by omega)]
      unfold fstZ
      rcases hv with rfl | hv <;> rcases hw0 with rfl | hw0
      · rfl
      · rw [if_neg (show ¬ w < 0 by omega)]; rfl
      · rw [if_neg (show ¬ v < 0 by omega)]; rfl
      · rw [if_neg (show ¬ w < 0 by omega), if_neg (show ¬ v < 0 by omega)]
theorem refReady_val {fu : Nat} (hfu : 200 ≤ fu) (L : List XBox) (hL : L.length ≤ 100) (n : Int) : ref02_Ready fu L n = some (fstZ (phZ n) L 0, fstZ (plZ n) L 0) := by
  have := refReady_loop fu L (by omega) n fu 0 (-1) (-1) (by omega) (by omega) (.inl rfl) (.inl rfl)
  simp only [List.drop_zero] at this
  exact this
theorem woods_tree (b : XBox) (R1 R2 : Option Bool) : (bif ref02_Box b then (bif ((growth_Woods b).2.2) != 0 then some false
            else (bif ((growth_Woods b).1) != (ref02_Wood b.Low) then some false
              else (bif ((growth_Woods b).2.1) != (ref02_Wood b.High) then some false else R1))) else (bif ((growth_Woods b).2.2) != 2 then some false
            else (bif ((growth_Woods b).1) != 0 then some false
              else (bif ((growth_Woods b).2.1) != 0 then some false else R2)))) = bif ref02_Box b then R1 else R2 := by
  unfold growth_Woods
  rw [show ref02_Box b = growth_boxIsDefined b from rfl, refWood_eq, refWood_eq]
  cases growth_boxIsDefined b <;> simp
theorem ready_core (fu : Nat) (hfu : 300 ≤ fu) (hk : law02_known fu = some true) (s : XSpecies) (b : XBox) (l : List XSeason) (n : Int) : law02_GrowthReady fu s b l n = some true := by
  unfold law02_GrowthReady
  rw [hk]
  simp only [Option.bind_some, woods_tree]
  rcases Bool.eq_false_or_eq_true (law02_short s) with hs | hs
  rotate_left
  · rw [hs]; rfl
  rw [hs, cond_true]
  obtain ⟨B, e1, e2, e3⟩ := species_cases fu s hs (by omega)
  have refused : ∀ (e : Int), growth_checkHistory fu s b l = some e → e ≠ 0 → growth_Ready fu s b l n = some (0, 0, e) := by
    intro e h1 h2
    unfold growth_Ready
    rw [h1, Option.bind_some, show (e != 0) = true by simpa using h2]
    rfl
  by_cases h12 : ((l.length : Nat) : Int) > 12
  · rw [decide_eq_true h12]
    by_cases h100 : ((l.length : Nat) : Int) ≤ 100
    · rw [decide_eq_true h100]; rfl
    rw [decide_eq_false h100]
    by_cases h200 : ((l.length : Nat) : Int) > 200
    · rw [decide_eq_true h200]; rfl
    have hchk := check_val fu s b l (by omega) (by omega) B e2
    rw [decide_eq_true (p := ((l.length : Nat) : Int) > 100) (by omega), cond_true] at hchk
    rw [decide_eq_false h200, refused 3 hchk (by omega), decide_eq_true (p := ((l.length : Nat) : Int) > 100) (by omega)]
    cases ref02_Box b <;> rfl
  have hl : l.length ≤ 12 := by omega
  have hchk := check_val fu s b l (by omega) (by omega) B e2
  rw [decide_eq_false (p := ((l.length : Nat) : Int) > 100) (by omega), cond_false] at hchk
  have eb : ref02_Box b = growth_boxIsDefined b := rfl
  rw [decide_eq_false h12, decide_eq_false (p := ((l.length : Nat) : Int) > 200) (by omega), decide_eq_false (p := ((l.length : Nat) : Int) > 100) (by omega), e1, seasons_ref fu l (by omega) (by omega), decide_eq_true hl]
  simp only [cond_true, cond_false, Option.bind_some]
  rcases Bool.eq_false_or_eq_true (B && (growth_boxIsDefined b && l.all fun q => ref02_Season q)) with hall | hall
  · rw [hall, cond_true] at hchk
    simp only [Bool.and_eq_true] at hall
    obtain ⟨h1, h2, h3⟩ := hall
    subst h1
    have kb := (okb_iff b).1 h2
    have kq := seasons_ok h3
    have hlen := histZ_length s l b
    rw [eb, h2, h3, ready_val (by omega) (e3 rfl) kb l (by omega) kq n hchk, refHist_val (by omega) (e3 rfl) l b kb kq]
    simp only [cond_true, Option.bind_some]
    rw [refReady_val (by omega) (histZ s b l) (by omega)]
    by_cases h0 : 1 ≤ l.length
    · rw [decide_eq_true h0]
      simp
    · rw [decide_eq_false h0]
      have : l = [] := List.length_eq_zero_iff.1 (by omega)
      subst this
      rw [refReady_val (by omega) [b] (by simp)]
      simp [histZ]
  · rw [hall, cond_false] at hchk
    rw [refused 2 hchk (by omega), eb]
    revert hall
    cases B <;> cases growth_boxIsDefined b <;> cases (l.all fun q => ref02_Season q) <;> intro hall <;> first | rfl | cases hall
theorem ready_true (s : XSpecies) (b : XBox) (l : List XSeason) (n : Int) : ∃ fu, law02_GrowthReady fu s b l n = some true := ⟨2100, ready_core 2100 (by omega) known_true s b l n⟩
end Go.Proofs.G2
