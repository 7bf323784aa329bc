/- The law GrowthLiters on plain functions: it says true for each input. No conditions. -/
import Derived.Test.YtfgdbanigkfjlaaDoorM
namespace Go.Proofs.G2
open Go Go.Sim Go.Proofs
set_option maxRecDepth 4000
theorem Grow_val {fu : Nat} (hfu : 100 ≤ fu) {s : XSpecies} (hs : FineS s) (hd : growth_speciesIsDefined fu s = some true) {x : XStand} (hx : OkS x) {w : XWeather} (hw : OkW w) : growth_Grow fu s x w = some (growZ s x w, 0) :=
  Grow_eq fu s x w _ hd ((oks_iff x).2 hx) ((okw_iff w).2 hw) (grow_val hs hw hfu hx)
/-! ### What was really there -/
structure InW (w : XWeather) (q : XSeason) : Prop where
  light : q.Light.Low ≤ w.Light ∧ w.Light ≤ q.Light.High
  browse : q.Browse.Low ≤ w.Browse ∧ w.Browse ≤ q.Browse.High
  mild : q.Mild.Low ≤ w.Mild ∧ w.Mild ≤ q.Mild.High
theorem InW.ok {w : XWeather} {q : XSeason} (hq : OkQ q) (h : InW w q) : OkW w := by
  have h1 := hq.light; have h2 := hq.browse; have h3 := hq.mild
  have h4 := h.light; have h5 := h.browse; have h6 := h.mild
  exact ⟨by omega, by omega, by omega⟩
theorem on_true {s : XSpecies} (hs : FineS s) {b : XBox} (hb : OkB b) {q : XSeason} (hq : OkQ q) {x : XStand} (hx : OkS x) (hin : InS x b) {w : XWeather} (hw : InW w q) : InS (growZ s x w) (onZ s b q) := by
  have pb := on_parts hb
  have kw := hw.ok hq
  have h1 := hw.light; have h2 := hw.browse; have h3 := hw.mild
  have a1 := hb.age; have a2 := hin.age
  have l := grow_le hs (poor_ok hq) kw h1.1 h3.1 pb.1 hx a2.symm hin.height.1 hin.girth.1 hin.shoots.2 h2.2
  have u := grow_le hs kw (rich_ok hq) h1.2 h3.2 hx pb.2 (by simp only; omega) hin.height.2 hin.girth.2 hin.shoots.1 h2.1
  exact ⟨l.1.symm, ⟨u.2.2.2, l.2.2.2⟩, ⟨l.2.1, u.2.1⟩, ⟨l.2.2.1, u.2.2.1⟩⟩
theorem between_in {t : XSpan} (h0 : 0 ≤ t.Low) (h1 : t.Low ≤ t.High) (h2 : t.High ≤ 100000) {p : Int} (hp : 0 ≤ p ∧ p ≤ 100) : t.Low ≤ law02_between t p ∧ law02_between t p ≤ t.High := by
  have hm := mulb (a := t.High - t.Low) (A := 100000) (by omega) (by omega) hp.1 hp.2
  have hle : (t.High - t.Low) * p ≤ (t.High - t.Low) * 100 := Int.mul_le_mul_of_nonneg_left hp.2 (by omega)
  have hd : ((t.High - t.Low) * p).tdiv 100 = ((t.High - t.Low) * p) / 100 := Int.tdiv_eq_ediv_of_nonneg hm.1
  unfold law02_between
  rw [W_id (n := t.High - t.Low) (by omega) (by omega), W_id (n := (t.High - t.Low) * p) (by omega) (by omega), hd, W_id (n := _ / 100) (by omega) (by omega), W_id (by omega) (by omega)]
  omega
structure OkT (t : XTrue) : Prop where
  light : 0 ≤ t.Light ∧ t.Light ≤ 100
  browse : 0 ≤ t.Browse ∧ t.Browse ≤ 100
  mild : 0 ≤ t.Mild ∧ t.Mild ≤ 100
  sprouts : 0 ≤ t.Sprouts ∧ t.Sprouts ≤ 100
theorem right_iff (t : XTrue) : law02_right t = true ↔ OkT t := by
  unfold law02_right
  simp only [cond_and, Bool.and_eq_true, decide_eq_true_eq]
  exact ⟨fun h => ⟨by omega, by omega, by omega, by omega⟩, fun h => ⟨h.1.1, h.1.2, h.2.1, h.2.2, h.3.1, h.3.2, h.4.1, h.4.2⟩⟩
theorem Get_1 (b : XBox) : ref02_Get b 1 = ⟨b.Low.Shoots, b.High.Shoots⟩ := rfl
theorem Get_2 (b : XBox) : ref02_Get b 2 = ⟨b.Low.Height, b.High.Height⟩ := rfl
theorem Get_3 (b : XBox) : ref02_Get b 3 = ⟨b.Low.Girth, b.High.Girth⟩ := rfl
theorem stood_in {b : XBox} (hb : OkB b) {t : XTrue} (ht : OkT t) : OkS (law02_Stood b t) ∧ InS (law02_Stood b t) b := by
  have l1 := hb.low.shoots; have l2 := hb.low.height; have l3 := hb.low.girth
  have h1 := hb.high.shoots; have h2 := hb.high.height; have h3 := hb.high.girth
  have o1 := hb.shoots; have o2 := hb.height; have o3 := hb.girth
  have b1 := between_in (t := ⟨b.Low.Shoots, b.High.Shoots⟩) (by simp only; omega) (by simp only; omega) (by simp only; omega) ht.light
  have b2 := between_in (t := ⟨b.Low.Height, b.High.Height⟩) (by simp only; omega) (by simp only; omega) (by simp only; omega) ht.browse
  have b3 := between_in (t := ⟨b.Low.Girth, b.High.Girth⟩) (by simp only; omega) (by simp only; omega) (by simp only; omega) ht.mild
  simp only at b1 b2 b3
  unfold law02_Stood
  rw [Get_1, Get_2, Get_3]
  exact ⟨⟨hb.low.age, by simp only; omega, by simp only; omega, by simp only; omega⟩, rfl, by simp only; omega, by simp only; omega, by simp only; omega⟩
theorem weather_in' {q : XSeason} (hq : OkQ q) {t : XTrue} (ht : OkT t) : InW (law02_weather q t) q := by
  have h1 := hq.light; have h2 := hq.browse; have h3 := hq.mild
  exact ⟨between_in (by omega) (by omega) (by omega) ht.light, between_in (by omega) (by omega) (by omega) ht.browse, between_in (by omega) (by omega) (by omega) ht.mild⟩
/-- The stand from which a year begins: cut, where the season cuts. -/
noncomputable def fromZ (s : XSpecies) (x : XStand) (q : XSeason) (t : XTrue) : XStand := bif q.Cut then ⟨0, law02_between (sproutsZ s x.Age) t.Sprouts, 0, 0⟩ else x
theorem from_in {s : XSpecies} (hs : FineS s) {b : XBox} {x : XStand} (hx : OkS x) (hin : InS x b) {q : XSeason} {t : XTrue} (ht : OkT t) : OkS (fromZ s x q t) ∧ InS (fromZ s x q t) (bif q.Cut then cutZ s b.Low.Age else b) := by
  unfold fromZ
  cases q.Cut
  · exact ⟨hx, hin⟩
  · simp only [cond_true]
    have hsp := hs.spans _ (sprouts_in hs hx.age.1)
    have hb := between_in (t := sproutsZ s x.Age) hsp.1 hsp.2.1 (by omega) ht.sprouts
    refine ⟨⟨by simp, by simp only; omega, by simp, by simp⟩, ?_⟩
    unfold cutZ
    rw [← hin.age]
    exact ⟨rfl, hb, by simp, by simp⟩
theorem After_val {fu : Nat} (hfu : 100 ≤ fu) {s : XSpecies} (hs : FineS s) (hd : growth_speciesIsDefined fu s = some true) {x : XStand} (hx : OkS x) {q : XSeason} (hq : OkQ q) {t : XTrue} (ht : OkT t) :
    law02_After fu s x q t = some (growZ s (fromZ s x q t) (law02_weather q t), 0) := by
  have hw := (weather_in' hq ht).ok hq
  have hf := (from_in (b := ⟨x, x⟩) hs hx ⟨rfl, by simp, by simp, by simp⟩ (q := q) ht).1
  unfold fromZ at hf ⊢
  unfold law02_After
  cases hc : q.Cut with
  | false => simp only [cond_false]; rw [Grow_val hfu hs hd hx hw]; rfl
  | true =>
    rw [hc] at hf
    simp only [cond_true] at hf ⊢
    have h := hs.sprouts
    have e : imin x.Age (W (((s.Sprouts.length : Nat) : Int) - 1)) = imin x.Age (((s.Sprouts.length : Nat) : Int) - 1) := by rw [W_id (by omega) (by omega)]
    rw [index_ok s.Sprouts.length x.Age (by omega) (by omega) hx.age.1, cond_true, e]
    have e2 : at_ zXSpan s.Sprouts (imin x.Age (((s.Sprouts.length : Nat) : Int) - 1)) = sproutsZ s x.Age := rfl
    rw [e2, Grow_val hfu hs hd hf hw]
    rfl
/-- A true stand inside a box is, after a true year, inside the box's step. -/
theorem after_in {s : XSpecies} (hs : FineS s) {b : XBox} (hb : OkB b) {x : XStand} (hx : OkS x) (hin : InS x b) {q : XSeason} (hq : OkQ q) {t : XTrue} (ht : OkT t) :
    OkS (growZ s (fromZ s x q t) (law02_weather q t)) ∧ InS (growZ s (fromZ s x q t) (law02_weather q t)) (stepZ s b q) := by
  have hf := from_in hs hx hin (q := q) ht
  exact ⟨grow_ok hs ((weather_in' hq ht).ok hq) hf.1, on_true hs (base_ok hs hb q.Cut) hq hf.1 hf.2 (weather_in' hq ht)⟩
end Go.Proofs.G2
namespace Go.Proofs.G2
open Go Go.Sim Go.Proofs
set_option maxRecDepth 4000
/-! ### Histories -/
noncomputable def histZ (s : XSpecies) : XBox → List XSeason → List XBox
  | b, [] => [b]
  | b, q :: l => b :: histZ s (stepZ s b q) l
theorem histZ_length (s : XSpecies) : ∀ (l : List XSeason) (b : XBox), (histZ s b l).length = l.length + 1 := by
  intro l
  induction l with
  | nil => intro b; rfl
  | cons q l ih => intro b; simp [histZ, ih]
theorem histZ_head (s : XSpecies) (l : List XSeason) (b : XBox) : ∃ t, histZ s b l = b :: t := by
  cases l with
  | nil => exact ⟨[], rfl⟩
  | cons q l => exact ⟨_, rfl⟩
theorem seasons_ref (fu : Nat) (l : List XSeason) (h : l.length ≤ 1000) (hfu : l.length < fu) : ref02_Seasons fu l = some (l.all fun q => ref02_Season q) := by
  have := loop_all l zXSeason (fun q => ref02_Season q) true (fun fk v => ref02_Seasons_L fu l fk false v) (fun fk v => ref02_Seasons_L_s0 fu l fk false v) h fu 0 (by omega) (by omega)
  simp only [List.drop_zero, Bool.and_true] at this
  exact this
theorem seasons_code (fu : Nat) (l : List XSeason) (h : l.length ≤ 1000) (hfu : l.length < fu) : api_Season fu l = some (l.all fun q => ref02_Season q) := by
  have := loop_all l zXSeason (fun q => growth_seasonIsDefined q) true (fun fk v => api_Season_L fu l fk false v) (fun fk v => api_Season_L_s0 fu l fk false v) h fu 0 (by omega) (by omega)
  simp only [List.drop_zero, Bool.and_true] at this
  have e : (fun q => growth_seasonIsDefined q) = fun q => ref02_Season q := by funext q; exact season_eq q
  rw [e] at this
  exact this
theorem seasons_ok {l : List XSeason} (h : (l.all fun q => ref02_Season q) = true) : ∀ q ∈ l, OkQ q := fun q hq => (okq_iff q).1 (List.all_eq_true.1 h q hq)
theorem check_val (fu : Nat) (s : XSpecies) (b : XBox) (l : List XSeason) (h : l.length ≤ 1000) (hfu : l.length < fu) (B : Bool) (hB : growth_speciesIsDefined fu s = some B) :
    growth_checkHistory fu s b l = some (bif decide (((l.length : Nat) : Int) > 100) then 3 else bif B && (growth_boxIsDefined b && l.all fun q => ref02_Season q) then 0 else 2) := by
  unfold growth_checkHistory
  rw [hB, seasons_code fu l h hfu]
  simp only [Option.bind_some]
  cases decide (((l.length : Nat) : Int) > 100) <;> cases B <;> cases growth_boxIsDefined b <;> cases (l.all fun q => ref02_Season q) <;> rfl
end Go.Proofs.G2
namespace Go.Proofs.G2
open Go Go.Sim Go.Proofs
set_option maxRecDepth 4000
/-! ### Wood -/
theorem wood_parts {x : XStand} (hx : OkS x) : (0 ≤ x.Shoots * x.Height ∧ x.Shoots * x.Height ≤ 12000000) ∧ (0 ≤ x.Shoots * x.Height * x.Girth ∧ x.Shoots * x.Height * x.Girth ≤ 36000000000) ∧ (0 ≤ x.Shoots * x.Height * x.Girth * x.Girth ∧ x.Shoots * x.Height * x.Girth * x.Girth ≤ 108000000000000) := by
  have h1 := hx.shoots; have h2 := hx.height; have h3 := hx.girth
  have m1 := mulb h1.1 h1.2 h2.1 h2.2
  have m2 := mulb m1.1 m1.2 h3.1 h3.2
  have m3 := mulb m2.1 m2.2 h3.1 h3.2
  exact ⟨⟨m1.1, by omega⟩, ⟨m2.1, by omega⟩, m3.1, by omega⟩
theorem wood_val {x : XStand} (hx : OkS x) : growth_wood x = (x.Shoots * x.Height * x.Girth * x.Girth).tdiv 25000000 := by
  obtain ⟨h1, h2, h3⟩ := wood_parts hx
  unfold growth_wood
  have h4 : 0 ≤ (x.Shoots * x.Height * x.Girth * x.Girth).tdiv 25000000 := tdiv_nonneg h3.1 (by omega)
  have h5 : (x.Shoots * x.Height * x.Girth * x.Girth).tdiv 25000000 ≤ x.Shoots * x.Height * x.Girth * x.Girth := tdiv_le h3.1 (by omega)
  rw [W_id (n := x.Shoots * x.Height) (by omega) (by omega), W_id (n := x.Shoots * x.Height * x.Girth) (by omega) (by omega), W_id (n := x.Shoots * x.Height * x.Girth * x.Girth) (by omega) (by omega), W_id (by omega) (by omega)]
theorem wood_le {x y : XStand} (hx : OkS x) (hy : OkS y) (h1 : x.Shoots ≤ y.Shoots) (h2 : x.Height ≤ y.Height) (h3 : x.Girth ≤ y.Girth) : growth_wood x ≤ growth_wood y := by
  rw [wood_val hx, wood_val hy]
  obtain ⟨p1, p2, p3⟩ := wood_parts hx
  obtain ⟨q1, q2, q3⟩ := wood_parts hy
  refine tdiv_mono p3.1 ?_ (by omega)
  exact Int.mul_le_mul (Int.mul_le_mul (Int.mul_le_mul h1 h2 hx.height.1 hy.shoots.1) h3 hx.girth.1 q1.1) h3 hx.girth.1 q2.1
/-! ### The first box of a history -/
noncomputable def phZ (n : Int) (b : XBox) : Bool := decide (growth_wood b.High ≥ n)
noncomputable def plZ (n : Int) (b : XBox) : Bool := decide (growth_wood b.Low ≥ n)
theorem pl_ph {n : Int} {b : XBox} (hb : OkB b) (h : plZ n b = true) : phZ n b = true := by
  have := wood_le hb.low hb.high hb.shoots hb.height hb.girth
  have h1 : growth_wood b.Low ≥ n := of_decide_eq_true h
  exact decide_eq_true (by omega)
def fstZ (p : XBox → Bool) : List XBox → Int → Int
  | [], _ => -1
  | b :: l, i => bif p b then i else fstZ p l (i + 1)
theorem fst_le (p : XBox → Bool) : ∀ (l : List XBox) (i : Int) (j : Nat) (h : j < l.length), p l[j] = true → i ≤ fstZ p l i ∧ fstZ p l i ≤ i + j := by
  intro l
  induction l with
  | nil => intro i j h; cases h
  | cons b l ih =>
    intro i j h hp
    unfold fstZ
    rcases Bool.eq_false_or_eq_true (p b) with hb | hb
    · rw [hb, cond_true]; omega
    · rw [hb, cond_false]
      cases j with
      | zero => rw [List.getElem_cons_zero, hb] at hp; cases hp
      | succ j =>
        rw [List.getElem_cons_succ] at hp
        have := ih (i + 1) j (by simpa using h) hp
        push_cast
        omega
theorem fst_or (p : XBox → Bool) : ∀ (l : List XBox) (i : Int), fstZ p l i = -1 ∨ ∃ (j : Nat) (h : j < l.length), fstZ p l i = i + j ∧ p l[j] = true := by
  intro l
  induction l with
  | nil => intro i; exact .inl rfl
  | cons b l ih =>
    intro i
    unfold fstZ
    rcases Bool.eq_false_or_eq_true (p b) with hb | hb
    · rw [hb, cond_true]; exact .inr ⟨0, by simp, by simp, hb⟩
    · rw [hb, cond_false]
      rcases ih (i + 1) with h | ⟨j, h, h1, h2⟩
      · exact .inl h
      · exact .inr ⟨j + 1, by simpa using h, by push_cast; omega, h2⟩
/-! ### What Ready comes to -/
abbrev RTy := Nat × Bool × Int × Int × Int × Int × Int × Int × Int × Int × Int × Int × Int
noncomputable def RW (fu : Nat) (s : XSpecies) (b : XBox) (l : List XSeason) (n x1 : Int) (fk : Nat) (i can : Int) (y : XBox) : Option RTy :=
  growth_Ready_W0 fu s b l n x1 fk true i can (-1) y.Low.Age y.Low.Shoots y.Low.Height y.Low.Girth y.High.Age y.High.Shoots y.High.Height y.High.Girth
def RO (k : Nat) (i can must : Int) (y : XBox) : RTy := (k, true, i, can, must, y.Low.Age, y.Low.Shoots, y.Low.Height, y.Low.Girth, y.High.Age, y.High.Shoots, y.High.Height, y.High.Girth)
noncomputable def RG (fu : Nat) (s : XSpecies) (b : XBox) (l : List XSeason) (n x1 : Int) (fk : Nat) (i can : Int) (y : XBox) : Option RTy :=
  bif decide (can < 0) then (bif decide (growth_wood y.High ≥ n) then (bif decide (growth_wood y.Low ≥ n) then some (RO 0 i i i y) else RW fu s b l n x1 fk (W (i + 1)) i y) else (bif decide (growth_wood y.Low ≥ n) then some (RO 0 i can i y) else RW fu s b l n x1 fk (W (i + 1)) can y))
  else (bif decide (growth_wood y.Low ≥ n) then some (RO 0 i can i y) else RW fu s b l n x1 fk (W (i + 1)) can y)
theorem RW_s (fu : Nat) (s : XSpecies) (b : XBox) (l : List XSeason) (n x1 : Int) (fk : Nat) (i can : Int) (c : XBox) : RW fu s b l n x1 (fk + 1) i can c =
    (bif decide (i < W (((l.length : Nat) : Int) + 1)) then (bif decide (i > 0) then (bif decide (0 ≤ W (i - 1) ∧ W (i - 1) < ((l.length : Nat) : Int)) then (Option.bind (growth_grower_step fu (⟨s⟩ : Xgrower) c (at_ zXSeason l (W (i - 1)))) fun y => bif decide (i < 0) then none else RG fu s b l n x1 fk i can y) else none)
      else (bif decide (i < 0) then none else RG fu s b l n x1 fk i can c)) else some (RO 2 i can (-1) c)) := by
  unfold RW
  rw [growth_Ready_W0_s]
  rfl
def Res (o : Option RTy) (can must : Int) : Prop := ∃ r, o = some r ∧ (r.1 = 0 ∨ r.1 = 2) ∧ r.2.2.2.1 = can ∧ r.2.2.2.2.1 = must
theorem histZ_tail (s : XSpecies) (b : XBox) (q : XSeason) (l : List XSeason) : histZ s b (q :: l) = b :: histZ s (stepZ s b q) l := rfl
theorem rg_val {fu : Nat} (hfu : 100 ≤ fu) {s : XSpecies} (hs : FineS s) (b : XBox) (l : List XSeason) (hl : l.length ≤ 1000) (hq : ∀ q ∈ l, OkQ q) (n x1 : Int) : ∀ (fk i : Nat) (can : Int) (y : XBox), i ≤ l.length → l.length - i < fk → OkB y →
    Res (RG fu s b l n x1 fk (i : Int) can y) (if can < 0 then fstZ (phZ n) (histZ s y (l.drop i)) i else can) (fstZ (plZ n) (histZ s y (l.drop i)) i) ∨ (can < 0 ∧ can ≠ -1) := by
  intro fk
  induction fk with
  | zero => intro i can y _ h; omega
  | succ fk ih =>
    intro i can y hi hf hy
    by_cases hcan : can < 0 ∧ can ≠ -1
    · exact .inr hcan
    left
    have hw : W ((i : Int) + 1) = (i : Int) + 1 := W_id (by omega) (by omega)
    have hwl : W (((l.length : Nat) : Int) + 1) = ((l.length : Nat) : Int) + 1 := W_id (by omega) (by omega)
    have hw1 : W ((i : Int) + 1 - 1) = (i : Int) := by rw [W_id (by omega) (by omega)]; omega
    -- the rest of the list, behind this box
    have key : ∀ (can2 : Int), (0 ≤ can2 ∨ can2 = -1) → plZ n y = false → (can2 < 0 → phZ n y = false) →
        Res (RW fu s b l n x1 (fk + 1) (W ((i : Int) + 1)) can2 y) (if can2 < 0 then fstZ (phZ n) (histZ s y (l.drop i)) i else can2) (fstZ (plZ n) (histZ s y (l.drop i)) i) := by
      intro can2 hc2 hpl hph
      rw [hw, RW_s, hwl, hw1]
      by_cases hlt : i < l.length
      · have d1 : decide ((i : Int) + 1 < ((l.length : Nat) : Int) + 1) = true := decide_eq_true (by omega)
        have d2 : decide ((i : Int) + 1 > 0) = true := decide_eq_true (by omega)
        have d3 : decide (0 ≤ (i : Int) ∧ (i : Int) < ((l.length : Nat) : Int)) = true := decide_eq_true (by omega)
        have d4 : decide ((i : Int) + 1 < 0) = false := decide_eq_false (by omega)
        have ki := hq _ (List.getElem_mem hlt)
        have hc := step_ok hs hy ki
        rw [d1, d2, d3, d4, at_get zXSeason l i hlt, step_val hs hfu hy ki]
        simp only [cond_true, cond_false, Option.bind_some]
        have h1 := ih (i + 1) can2 (stepZ s y l[i]) (by omega) (by omega) hc
        have h2 : histZ s y (l.drop i) = y :: histZ s (stepZ s y l[i]) (l.drop (i + 1)) := by rw [List.drop_eq_getElem_cons hlt, histZ_tail]
        rw [h2]
        unfold fstZ
        rw [hpl, cond_false]
        rcases h1 with h1 | h1
        rotate_left
        · omega
        have e : ((i + 1 : Nat) : Int) = (i : Int) + 1 := by push_cast; rfl
        rw [e] at h1
        by_cases hn : can2 < 0
        · rw [if_pos hn] at h1 ⊢
          rw [hph hn, cond_false]
          exact h1
        · rw [if_neg hn] at h1 ⊢
          exact h1
      · have d1 : decide ((i : Int) + 1 < ((l.length : Nat) : Int) + 1) = false := decide_eq_false (by omega)
        rw [d1, cond_false, List.drop_of_length_le (by omega)]
        refine ⟨_, rfl, .inr rfl, ?_, ?_⟩
        · by_cases hn : can2 < 0
          · rw [if_pos hn]
            show can2 = fstZ (phZ n) [y] i
            unfold fstZ
            rw [hph hn, cond_false]
            show can2 = -1
            omega
          · rw [if_neg hn]; rfl
        · show -1 = fstZ (plZ n) [y] i
          unfold fstZ
          rw [hpl]
          rfl
    obtain ⟨u, hu⟩ := histZ_head s (l.drop i) y
    have atl : ∀ p : XBox → Bool, p y = true → fstZ p (histZ s y (l.drop i)) i = i := by
      intro p hp
      rw [hu]
      unfold fstZ
      rw [hp]
      rfl
    unfold RG
    rcases Bool.eq_false_or_eq_true (plZ n y) with hpl | hpl
    · have hph := pl_ph hy hpl
      rw [show decide (growth_wood y.High ≥ n) = true from hph, show decide (growth_wood y.Low ≥ n) = true from hpl, atl _ hph, atl _ hpl]
      by_cases hn : can < 0
      · rw [decide_eq_true hn, if_pos hn]
        exact ⟨_, rfl, .inl rfl, rfl, rfl⟩
      · rw [decide_eq_false hn, if_neg hn]
        exact ⟨_, rfl, .inl rfl, rfl, rfl⟩
    · rw [show decide (growth_wood y.Low ≥ n) = false from hpl]
      by_cases hn : can < 0
      · rw [decide_eq_true hn, if_pos hn]
        rcases Bool.eq_false_or_eq_true (phZ n y) with hph | hph
        · rw [show decide (growth_wood y.High ≥ n) = true from hph, atl _ hph]
          have := key i (by omega) hpl (by intro h; omega)
          rw [if_neg (by omega)] at this
          exact this
        · rw [show decide (growth_wood y.High ≥ n) = false from hph]
          have := key can (by omega) hpl (fun _ => hph)
          rw [if_pos hn] at this
          exact this
      · rw [decide_eq_false hn, if_neg hn]
        have := key can (by omega) hpl (fun h => absurd h hn)
        rw [if_neg hn] at this
        exact this
theorem ready_val {fu : Nat} (hfu : 200 ≤ fu) {s : XSpecies} (hs : FineS s) {b : XBox} (hb : OkB b) (l : List XSeason) (hl : l.length ≤ 100) (hq : ∀ q ∈ l, OkQ q) (n : Int) (hc : growth_checkHistory fu s b l = some 0) :
    growth_Ready fu s b l n = some (fstZ (phZ n) (histZ s b l) 0, fstZ (plZ n) (histZ s b l) 0, 0) := by
  have h0 : ∀ fk, 150 ≤ fk → Res (RW fu s b l n 0 fk 0 (-1) b) (fstZ (phZ n) (histZ s b l) 0) (fstZ (plZ n) (histZ s b l) 0) := by
    intro fk hfk
    cases fk with
    | zero => omega
    | succ fk =>
      have hwl : W (((l.length : Nat) : Int) + 1) = ((l.length : Nat) : Int) + 1 := W_id (by omega) (by omega)
      rw [RW_s, hwl, decide_eq_true (p := (0 : Int) < ((l.length : Nat) : Int) + 1) (by omega)]
      have h1 := rg_val (fu := fu) (by omega) hs b l (by omega) hq n 0 fk 0 (-1) b (by omega) (by omega) hb
      rcases h1 with h1 | h1
      · exact h1
      · omega
  obtain ⟨r, h1, h2, h3, h4⟩ := h0 fu (by omega)
  unfold growth_Ready
  rw [hc, Option.bind_some]
  have e : growth_Ready_W0 fu s b l n 0 fu true 0 (-1) (-1) b.Low.Age b.Low.Shoots b.Low.Height b.Low.Girth b.High.Age b.High.Shoots b.High.Height b.High.Girth = some r := h1
  rw [e, show ((0 : Int) != 0) = false from rfl, cond_false, Option.bind_some, h3, h4]
  rcases h2 with h2 | h2 <;> rw [h2] <;> rfl
end Go.Proofs.G2
namespace Go.Proofs.G2
open Go Go.Sim Go.Proofs
set_option maxRecDepth 4000
theorem Wood_val {x : XStand} (hx : OkS x) : growth_Wood x = (growth_wood x, 0) := by
  unfold growth_Wood
  rw [(oks_iff x).2 hx]
  rfl
theorem histZ_get (s : XSpecies) : ∀ (l : List XSeason) (b c : XBox) (i : Nat), (histZ s b l).drop i = histZ s c (l.drop i) → i ≤ l.length → ∃ h : i < (histZ s b l).length, (histZ s b l)[i] = c := by
  intro l b c i h hi
  have hlen := histZ_length s l b
  have hlt : i < (histZ s b l).length := by omega
  obtain ⟨u, hu⟩ := histZ_head s (l.drop i) c
  rw [hu, List.drop_eq_getElem_cons hlt] at h
  exact ⟨hlt, (List.cons.inj h).1⟩
theorem liters_loop (fu : Nat) (hfu : 200 ≤ fu) (hk : law02_known fu = some true) {s : XSpecies} (hs : FineS s) (hd : growth_speciesIsDefined fu s = some true) (b : XBox) (l : List XSeason) (hl : l.length ≤ 20) (hq : ∀ q ∈ l, OkQ q) (begin : XTrue) (t : List XTrue) (ht : t.length = l.length) (v : Bool) (n can must z : Int)
    (hcan : can = fstZ (phZ n) (histZ s b l) 0) (hmust : must = fstZ (plZ n) (histZ s b l) 0) :
    ∀ (fk i : Nat) (c : XBox) (x : XStand), i ≤ l.length → l.length + 1 - i < fk → OkB c → (histZ s b l).drop i = histZ s c (l.drop i) → OkS x → InS x c → law02_GrowthLiters_L fu s b l begin t n fk v (i : Int) (can, must, z) x.Age x.Shoots x.Height x.Girth = some true := by
  intro fk
  induction fk with
  | zero => intro i c x _ h; omega
  | succ fk ih =>
    intro i c x hi hf hc hdr hx hin
    obtain ⟨hlt0, hget⟩ := histZ_get s l b c i hdr hi
    have hwx : growth_Wood (⟨x.Age, x.Shoots, x.Height, x.Girth⟩ : XStand) = (growth_wood x, 0) := Wood_val hx
    have wlo : growth_wood c.Low ≤ growth_wood x := wood_le hc.low hx hin.shoots.1 hin.height.1 hin.girth.1
    have whi : growth_wood x ≤ growth_wood c.High := wood_le hx hc.high hin.shoots.2 hin.height.2 hin.girth.2
    have hp1 : growth_wood x ≥ n → 0 ≤ can ∧ can ≤ i := by
      intro h
      have hp : phZ n (histZ s b l)[i] = true := by rw [hget]; exact decide_eq_true (by omega)
      have := fst_le (phZ n) (histZ s b l) 0 i hlt0 hp
      omega
    have hp2 : (i : Int) = must → growth_wood x ≥ n := by
      intro h
      rcases fst_or (plZ n) (histZ s b l) 0 with h1 | ⟨j, hj, h1, h2⟩
      · omega
      · have hij : j = i := by omega
        subst hij
        rw [hget] at h2
        have := of_decide_eq_true h2
        omega
    rw [law02_GrowthLiters_L_s0, hk, hwx]
    have d0 : decide ((i : Int) ≤ ((l.length : Nat) : Int)) = true := decide_eq_true (by omega)
    have rest : (bif (i : Int) == ((l.length : Nat) : Int) then (Option.bind (some true) fun y0_5 => some y0_5)
                    else (bif decide (0 ≤ (i : Int) ∧ (i : Int) < ((t.length : Nat) : Int)) then (bif law02_right (at_ zXTrue t (i : Int)) then (bif decide (0 ≤ (i : Int) ∧ (i : Int) < ((l.length : Nat) : Int)) then (Option.bind (law02_After fu s x (at_ zXSeason l (i : Int)) (at_ zXTrue t (i : Int))) fun y =>
                        bif y.2 != 0 then some false
                        else law02_GrowthLiters_L fu s b l begin t n fk v (W ((i : Int) + 1)) (can, must, z) y.1.Age y.1.Shoots y.1.Height y.1.Girth) else none)
                      else (Option.bind (some true) fun y0_5 => some y0_5)) else none)) = some true := by
      by_cases hlt : i < l.length
      · have d1 : ((i : Int) == ((l.length : Nat) : Int)) = false := by simp only [beq_eq_false_iff_ne]; omega
        have d2 : decide (0 ≤ (i : Int) ∧ (i : Int) < ((l.length : Nat) : Int)) = true := decide_eq_true (by omega)
        have d3 : decide (0 ≤ (i : Int) ∧ (i : Int) < ((t.length : Nat) : Int)) = true := decide_eq_true (by omega)
        have hw : W ((i : Int) + 1) = ((i + 1 : Nat) : Int) := by rw [W_id (by omega) (by omega)]; push_cast; rfl
        rw [d1, d2, d3, hw, at_get zXTrue t i (by omega), at_get zXSeason l i hlt]
        simp only [cond_true, cond_false, Option.bind_some]
        rcases Bool.eq_false_or_eq_true (law02_right t[i]) with hr | hr
        rotate_left
        · rw [hr]; rfl
        have kt := (right_iff _).1 hr
        have kq := hq _ (List.getElem_mem hlt)
        rw [hr, cond_true, After_val (by omega) hs hd hx kq kt]
        simp only [Option.bind_some]
        obtain ⟨ky, iy⟩ := after_in hs hc hx hin kq kt
        have hc2 := step_ok hs hc kq
        have hdr2 : (histZ s b l).drop (i + 1) = histZ s (stepZ s c l[i]) (l.drop (i + 1)) := by
          rw [List.drop_eq_getElem_cons hlt, List.drop_eq_getElem_cons hlt0] at hdr
          exact (List.cons.inj hdr).2
        exact ih (i + 1) (stepZ s c l[i]) _ (by omega) (by omega) hc2 hdr2 ky iy
      · have d1 : ((i : Int) == ((l.length : Nat) : Int)) = true := by simp only [beq_iff_eq]; omega
        rw [d1]
        rfl
    rw [d0, cond_true]
    simp only []
    rw [show ((0 : Int) != 0) = false from rfl, cond_false]
    by_cases h1 : growth_wood x ≥ n
    · have h2 := hp1 h1
      rw [decide_eq_true h1, decide_eq_false (p := can < 0) (by omega), decide_eq_false (p := (i : Int) < can) (by omega), decide_eq_false (p := growth_wood x < n) (by omega)]
      simp only [cond_true, cond_false]
      rcases Bool.eq_false_or_eq_true ((i : Int) == must) with h3 | h3 <;> rw [h3] <;> exact rest
    · have h3 : ((i : Int) == must) = false := by
        rw [Bool.eq_false_iff]
        intro h
        exact h1 (hp2 (by simpa using h))
      rw [decide_eq_false h1, h3]
      exact rest
theorem liters_core (fu : Nat) (hfu : 200 ≤ fu) (hk : law02_known fu = some true) (s : XSpecies) (b : XBox) (l : List XSeason) (begin : XTrue) (t : List XTrue) (n : Int) : law02_GrowthLiters fu s b l begin t n = some true := by
  unfold law02_GrowthLiters
  rw [hk]
  simp only [Option.bind_some]
  rcases Bool.eq_false_or_eq_true (law02_short s) with hs | hs
  rotate_left
  · rw [hs]; rfl
  rw [hs, cond_true]
  by_cases hl : ((l.length : Nat) : Int) > 20
  · rw [decide_eq_true hl]; rfl
  rw [decide_eq_false hl, cond_false]
  have hl : l.length ≤ 20 := by omega
  rcases Bool.eq_false_or_eq_true (((t.length : Nat) : Int) != ((l.length : Nat) : Int)) with ht | ht
  · rw [ht]; rfl
  rw [ht, cond_false]
  have ht : t.length = l.length := by
    simp only [bne_eq_false_iff_eq] at ht
    omega
  rcases Bool.eq_false_or_eq_true (law02_right begin) with hb0 | hb0
  rotate_left
  · rw [hb0]; rfl
  obtain ⟨B, e1, e2, e3⟩ := species_cases fu s hs hfu
  rw [hb0, e1]
  simp only [cond_true, Option.bind_some]
  cases B
  · rfl
  have hg := e3 rfl
  rcases Bool.eq_false_or_eq_true (ref02_Box b) with hb | hb
  rotate_left
  · rw [hb]; rfl
  rw [hb, seasons_ref fu l (by omega) (by omega)]
  simp only [cond_true, Option.bind_some]
  rcases Bool.eq_false_or_eq_true (l.all fun q => ref02_Season q) with hq | hq
  rotate_left
  · rw [hq]; rfl
  have kb : OkB b := (okb_iff b).1 hb
  have kq := seasons_ok hq
  have kbe := (right_iff _).1 hb0
  have hchk : growth_checkHistory fu s b l = some 0 := by
    rw [check_val fu s b l (by omega) (by omega) true e2, (okb_iff b).2 kb, hq, show decide (((l.length : Nat) : Int) > 100) = false by simp; omega]
    rfl
  rw [hq, ready_val hfu hg kb l (by omega) kq n hchk]
  simp only [cond_true, Option.bind_some]
  obtain ⟨kx, ix⟩ := stood_in kb kbe
  have key := liters_loop fu hfu hk hg e2 b l hl kq begin t ht false n _ _ 0 rfl rfl fu 0 b (law02_Stood b begin) (by omega) (by omega) kb (by simp) kx ix
  rw [show ((0 : Int) != 0) = false from rfl, cond_false]
  by_cases hm : fstZ (plZ n) (histZ s b l) 0 ≥ 0
  · rcases fst_or (plZ n) (histZ s b l) 0 with h1 | ⟨j, hj, h1, h2⟩
    · omega
    · have hall : ∀ (l : List XSeason) (b : XBox), OkB b → (∀ q ∈ l, OkQ q) → ∀ c ∈ histZ s b l, OkB c := by
        intro l
        induction l with
        | nil => intro b hb _ c hc; rw [List.mem_singleton.1 hc]; exact hb
        | cons q l ih =>
          intro b hb hq c hc
          rcases List.mem_cons.1 hc with rfl | hc
          · exact hb
          · exact ih _ (step_ok hg hb (hq q (by simp))) (fun x hx => hq x (by simp [hx])) c hc
      have hph := fst_le (phZ n) (histZ s b l) 0 j hj (pl_ph (hall l b kb kq _ (List.getElem_mem hj)) h2)
      rw [decide_eq_true hm, decide_eq_false (p := fstZ (phZ n) (histZ s b l) 0 < 0) (by omega), decide_eq_false (p := fstZ (phZ n) (histZ s b l) 0 > fstZ (plZ n) (histZ s b l) 0) (by omega)]
      exact key
  · rw [decide_eq_false hm]
    exact key
theorem liters_true (s : XSpecies) (b : XBox) (l : List XSeason) (begin : XTrue) (t : List XTrue) (n : Int) : ∃ fu, law02_GrowthLiters fu s b l begin t n = some true := ⟨2100, liters_core 2100 (by omega) known_true s b l begin t n⟩
end Go.Proofs.G2
