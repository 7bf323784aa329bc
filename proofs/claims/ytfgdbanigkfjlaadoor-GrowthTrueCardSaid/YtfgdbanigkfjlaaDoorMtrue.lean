/- The law GrowthTrue on plain functions: it says true for each input. No conditions. -/
import Derived.Test.YtfgdbanigkfjlaaDoorM
namespace Go.Proofs.G2
open Go Go.Sim Go.Proofs
set_option maxRecDepth 4000
theorem Grow_val {fu : Nat} (hfu : 100 ≤ fu) {s : XSpecies} (hs : FineS s) (hd : growth_speciesIsDefined fu s = some true) {x : XStand} (hx : OkS x) {w : XWeather} (hw : OkW w) : growth_Grow fu s x w = some (growZ s x w, 0) :=
  Grow_eq fu s x w _ hd ((oks_iff x).2 hx) ((okw_iff w).2 hw) (grow_val hs hw hfu hx)
/-! ### What was really there -/
structure InW (w : XWeather) (q : XSeason) : Prop where
  light : q.Light.Low ≤ w.Light ∧ w.Light ≤ q.Light.High
  browse : q.Browse.Low ≤ w.Browse ∧ w.Browse ≤ q.Browse.High
  mild : q.Mild.Low ≤ w.Mild ∧ w.Mild ≤ q.Mild.High
theorem InW.ok {w : XWeather} {q : XSeason} (hq : OkQ q) (h : InW w q) : OkW w := by
  have h1 := hq.light; have h2 := hq.browse; have h3 := hq.mild
  have h4 := h.light; have h5 := h.browse; have h6 := h.mild
  exact ⟨by omega, by omega, by omega⟩
theorem on_true {s : XSpecies} (hs : FineS s) {b : XBox} (hb : OkB b) {q : XSeason} (hq : OkQ q) {x : XStand} (hx : OkS x) (hin : InS x b) {w : XWeather} (hw : InW w q) : InS (growZ s x w) (onZ s b q) := by
  have pb := on_parts hb
  have kw := hw.ok hq
  have h1 := hw.light; have h2 := hw.browse; have h3 := hw.mild
  have a1 := hb.age; have a2 := hin.age
  have l := grow_le hs (poor_ok hq) kw h1.1 h3.1 pb.1 hx a2.symm hin.height.1 hin.girth.1 hin.shoots.2 h2.2
  have u := grow_le hs kw (rich_ok hq) h1.2 h3.2 hx pb.2 (by simp only; omega) hin.height.2 hin.girth.2 hin.shoots.1 h2.1
  exact ⟨l.1.symm, ⟨u.2.2.2, l.2.2.2⟩, ⟨l.2.1, u.2.1⟩, ⟨l.2.2.1, u.2.2.1⟩⟩
theorem between_in {t : XSpan} (h0 : 0 ≤ t.Low) (h1 : t.Low ≤ t.High) (h2 : t.High ≤ 100000) {p : Int} (hp : 0 ≤ p ∧ p ≤ 100) : t.Low ≤ law02_between t p ∧ law02_between t p ≤ t.High := by
  have hm := mulb (a := t.High - t.Low) (A := 100000) (by omega) (by omega) hp.1 hp.2
  have hle : (t.High - t.Low) * p ≤ (t.High - t.Low) * 100 := Int.mul_le_mul_of_nonneg_left hp.2 (by omega)
  have hd : ((t.High - t.Low) * p).tdiv 100 = ((t.High - t.Low) * p) / 100 := Int.tdiv_eq_ediv_of_nonneg hm.1
  unfold law02_between
  rw [W_id (n := t.High - t.Low) (by omega) (by omega), W_id (n := (t.High - t.Low) * p) (by omega) (by omega), hd, W_id (n := _ / 100) (by omega) (by omega), W_id (by omega) (by omega)]
  omega
structure OkT (t : XTrue) : Prop where
  light : 0 ≤ t.Light ∧ t.Light ≤ 100
  browse : 0 ≤ t.Browse ∧ t.Browse ≤ 100
  mild : 0 ≤ t.Mild ∧ t.Mild ≤ 100
  sprouts : 0 ≤ t.Sprouts ∧ t.Sprouts ≤ 100
theorem right_iff (t : XTrue) : law02_right t = true ↔ OkT t := by
  unfold law02_right
  simp only [cond_and, Bool.and_eq_true, decide_eq_true_eq]
  exact ⟨fun h => ⟨by omega, by omega, by omega, by omega⟩, fun h => ⟨h.1.1, h.1.2, h.2.1, h.2.2, h.3.1, h.3.2, h.4.1, h.4.2⟩⟩
theorem Get_1 (b : XBox) : ref02_Get b 1 = ⟨b.Low.Shoots, b.High.Shoots⟩ := rfl
theorem Get_2 (b : XBox) : ref02_Get b 2 = ⟨b.Low.Height, b.High.Height⟩ := rfl
theorem Get_3 (b : XBox) : ref02_Get b 3 = ⟨b.Low.Girth, b.High.Girth⟩ := rfl
theorem stood_in {b : XBox} (hb : OkB b) {t : XTrue} (ht : OkT t) : OkS (law02_Stood b t) ∧ InS (law02_Stood b t) b := by
  have l1 := hb.low.shoots; have l2 := hb.low.height; have l3 := hb.low.girth
  have h1 := hb.high.shoots; have h2 := hb.high.height; have h3 := hb.high.girth
  have o1 := hb.shoots; have o2 := hb.height; have o3 := hb.girth
  have b1 := between_in (t := ⟨b.Low.Shoots, b.High.Shoots⟩) (by simp only; omega) (by simp only; omega) (by simp only; omega) ht.light
  have b2 := between_in (t := ⟨b.Low.Height, b.High.Height⟩) (by simp only; omega) (by simp only; omega) (by simp only; omega) ht.browse
  have b3 := between_in (t := ⟨b.Low.Girth, b.High.Girth⟩) (by simp only; omega) (by simp only; omega) (by simp only; omega) ht.mild
  simp only at b1 b2 b3
  unfold law02_Stood
  rw [Get_1, Get_2, Get_3]
  exact ⟨⟨hb.low.age, by simp only; omega, by simp only; omega, by simp only; omega⟩, rfl, by simp only; omega, by simp only; omega, by simp only; omega⟩
theorem weather_in' {q : XSeason} (hq : OkQ q) {t : XTrue} (ht : OkT t) : InW (law02_weather q t) q := by
  have h1 := hq.light; have h2 := hq.browse; have h3 := hq.mild
  exact ⟨between_in (by omega) (by omega) (by omega) ht.light, between_in (by omega) (by omega) (by omega) ht.browse, between_in (by omega) (by omega) (by omega) ht.mild⟩
/-- The stand from which a year begins: cut, where the season cuts. -/
noncomputable def fromZ (s : XSpecies) (x : XStand) (q : XSeason) (t : XTrue) : XStand := bif q.Cut then ⟨0, law02_between (sproutsZ s x.Age) t.Sprouts, 0, 0⟩ else x
theorem from_in {s : XSpecies} (hs : FineS s) {b : XBox} {x : XStand} (hx : OkS x) (hin : InS x b) {q : XSeason} {t : XTrue} (ht : OkT t) : OkS (fromZ s x q t) ∧ InS (fromZ s x q t) (bif q.Cut then cutZ s b.Low.Age else b) := by
  unfold fromZ
  cases q.Cut
  · exact ⟨hx, hin⟩
  · simp only [cond_true]
    have hsp := hs.spans _ (sprouts_in hs hx.age.1)
    have hb := between_in (t := sproutsZ s x.Age) hsp.1 hsp.2.1 (by omega) ht.sprouts
    refine ⟨⟨by simp, by simp only; omega, by simp, by simp⟩, ?_⟩
    unfold cutZ
    rw [← hin.age]
    exact ⟨rfl, hb, by simp, by simp⟩
theorem After_val {fu : Nat} (hfu : 100 ≤ fu) {s : XSpecies} (hs : FineS s) (hd : growth_speciesIsDefined fu s = some true) {x : XStand} (hx : OkS x) {q : XSeason} (hq : OkQ q) {t : XTrue} (ht : OkT t) :
    law02_After fu s x q t = some (growZ s (fromZ s x q t) (law02_weather q t), 0) := by
  have hw := (weather_in' hq ht).ok hq
  have hf := (from_in (b := ⟨x, x⟩) hs hx ⟨rfl, by simp, by simp, by simp⟩ (q := q) ht).1
  unfold fromZ at hf ⊢
  unfold law02_After
  cases hc : q.Cut with
  | false => simp only [cond_false]; rw [Grow_val hfu hs hd hx hw]; rfl
  | true =>
    rw [hc] at hf
    simp only [cond_true] at hf ⊢
    have h := hs.sprouts
    have e : imin x.Age (W (((s.Sprouts.length : Nat) : Int) - 1)) = imin x.Age (((s.Sprouts.length : Nat) : Int) - 1) := by rw [W_id (by omega) (by omega)]
    rw [index_ok s.Sprouts.length x.Age (by omega) (by omega) hx.age.1, cond_true, e]
    have e2 : at_ zXSpan s.Sprouts (imin x.Age (((s.Sprouts.length : Nat) : Int) - 1)) = sproutsZ s x.Age := rfl
    rw [e2, Grow_val hfu hs hd hf hw]
    rfl
/-- A true stand inside a box is, after a true year, inside the box's step. -/
theorem after_in {s : XSpecies} (hs : FineS s) {b : XBox} (hb : OkB b) {x : XStand} (hx : OkS x) (hin : InS x b) {q : XSeason} (hq : OkQ q) {t : XTrue} (ht : OkT t) :
    OkS (growZ s (fromZ s x q t) (law02_weather q t)) ∧ InS (growZ s (fromZ s x q t) (law02_weather q t)) (stepZ s b q) := by
  have hf := from_in hs hx hin (q := q) ht
  exact ⟨grow_ok hs ((weather_in' hq ht).ok hq) hf.1, on_true hs (base_ok hs hb q.Cut) hq hf.1 hf.2 (weather_in' hq ht)⟩
end Go.Proofs.G2
namespace Go.Proofs.G2
open Go Go.Sim Go.Proofs
set_option maxRecDepth 4000
/-! ### Histories -/
noncomputable def histZ (s : XSpecies) : XBox → List XSeason → List XBox
  | b, [] => [b]
  | b, q :: l => b :: histZ s (stepZ s b q) l
theorem histZ_length (s : XSpecies) : ∀ (l : List XSeason) (b : XBox), (histZ s b l).length = l.length + 1 := by
  intro l
  induction l with
  | nil => intro b; rfl
  | cons q l ih => intro b; simp [histZ, ih]
theorem histZ_head (s : XSpecies) (l : List XSeason) (b : XBox) : ∃ t, histZ s b l = b :: t := by
  cases l with
  | nil => exact ⟨[], rfl⟩
  | cons q l => exact ⟨_, rfl⟩
theorem hist_val {fu : Nat} (hfu : 100 ≤ fu) {s : XSpecies} (hs : FineS s) : ∀ (l : List XSeason) (b : XBox), OkB b → (∀ q ∈ l, OkQ q) → growth_hist fu s b l = some (histZ s b l) := by
  intro l
  induction l with
  | nil => intro b _ _; rfl
  | cons q l ih =>
    intro b hb hq
    have h1 := hq q (by simp)
    show Option.bind (growth_grower_step fu (⟨s⟩ : Xgrower) b q) _ = _
    rw [step_val hs hfu hb h1, Option.bind_some, ih _ (step_ok hs hb h1) (fun x hx => hq x (by simp [hx])), Option.bind_some]
    rfl
theorem seasons_ref (fu : Nat) (l : List XSeason) (h : l.length ≤ 1000) (hfu : l.length < fu) : ref02_Seasons fu l = some (l.all fun q => ref02_Season q) := by
  have := loop_all l zXSeason (fun q => ref02_Season q) true (fun fk v => ref02_Seasons_L fu l fk false v) (fun fk v => ref02_Seasons_L_s0 fu l fk false v) h fu 0 (by omega) (by omega)
  simp only [List.drop_zero, Bool.and_true] at this
  exact this
theorem seasons_code (fu : Nat) (l : List XSeason) (h : l.length ≤ 1000) (hfu : l.length < fu) : api_Season fu l = some (l.all fun q => ref02_Season q) := by
  have := loop_all l zXSeason (fun q => growth_seasonIsDefined q) true (fun fk v => api_Season_L fu l fk false v) (fun fk v => api_Season_L_s0 fu l fk false v) h fu 0 (by omega) (by omega)
  simp only [List.drop_zero, Bool.and_true] at this
  have e : (fun q => growth_seasonIsDefined q) = fun q => ref02_Season q := by funext q; exact season_eq q
  rw [e] at this
  exact this
theorem seasons_ok {l : List XSeason} (h : (l.all fun q => ref02_Season q) = true) : ∀ q ∈ l, OkQ q := fun q hq => (okq_iff q).1 (List.all_eq_true.1 h q hq)
theorem check_val (fu : Nat) (s : XSpecies) (b : XBox) (l : List XSeason) (h : l.length ≤ 1000) (hfu : l.length < fu) (B : Bool) (hB : growth_speciesIsDefined fu s = some B) :
    growth_checkHistory fu s b l = some (bif decide (((l.length : Nat) : Int) > 100) then 3 else bif B && (growth_boxIsDefined b && l.all fun q => ref02_Season q) then 0 else 2) := by
  unfold growth_checkHistory
  rw [hB, seasons_code fu l h hfu]
  simp only [Option.bind_some]
  cases decide (((l.length : Nat) : Int) > 100) <;> cases B <;> cases growth_boxIsDefined b <;> cases (l.all fun q => ref02_Season q) <;> rfl
end Go.Proofs.G2
namespace Go.Proofs.G2
open Go Go.Sim Go.Proofs
set_option maxRecDepth 4000
theorem true_loop (fu : Nat) (hfu : 200 ≤ fu) (hk : law02_known fu = some true) {s : XSpecies} (hs : FineS s) (hd : growth_speciesIsDefined fu s = some true) (b : XBox) (l : List XSeason) (hl : l.length ≤ 20) (hq : ∀ q ∈ l, OkQ q) (begin : XTrue) (t : List XTrue) (ht : t.length = l.length) (v : Bool) (h : List XBox) (hh : h.length = l.length + 1) :
    ∀ (fk i : Nat) (c : XBox) (x : XStand), i ≤ l.length → l.length - i < fk → OkB c → h.drop i = histZ s c (l.drop i) → OkS x → InS x c → law02_GrowthTrue_L fu s b l begin t fk v (i : Int) h x.Age x.Shoots x.Height x.Girth = some true := by
  intro fk
  induction fk with
  | zero => intro i c x _ h; omega
  | succ fk ih =>
    intro i c x hi hf hc hdr hx hin
    rw [law02_GrowthTrue_L_s0, hk]
    by_cases hlt : i < l.length
    · have d1 : decide ((i : Int) < ((l.length : Nat) : Int)) = true := by simp; omega
      have d2 : decide (0 ≤ (i : Int) ∧ (i : Int) < ((l.length : Nat) : Int)) = true := by simp; omega
      have d3 : decide (0 ≤ (i : Int) ∧ (i : Int) < ((t.length : Nat) : Int)) = true := by simp; omega
      have hw : W ((i : Int) + 1) = ((i + 1 : Nat) : Int) := by rw [W_id (by omega) (by omega)]; push_cast; rfl
      have d4 : decide (0 ≤ ((i + 1 : Nat) : Int) ∧ ((i + 1 : Nat) : Int) < ((h.length : Nat) : Int)) = true := by simp; omega
      rw [d1, d2, d3, hw, d4]
      simp only [cond_true, at_get zXTrue t i (by omega), at_get zXSeason l i hlt, at_get zXBox h (i + 1) (by omega)]
      rcases Bool.eq_false_or_eq_true (law02_right t[i]) with hr | hr
      rotate_left
      · rw [hr]; rfl
      have kt := (right_iff _).1 hr
      have kq := hq _ (List.getElem_mem hlt)
      rw [hr, cond_true]
      have ea : law02_After fu s (⟨x.Age, x.Shoots, x.Height, x.Girth⟩ : XStand) (⟨l[i].Light, l[i].Browse, l[i].Mild, l[i].Cut⟩ : XSeason) t[i] = some (growZ s (fromZ s x l[i] t[i]) (law02_weather l[i] t[i]), 0) := After_val (by omega) hs hd hx kq kt
      rw [ea]
      simp only [Option.bind_some]
      obtain ⟨ky, iy⟩ := after_in hs hc hx hin kq kt
      have hc2 := step_ok hs hc kq
      have hdr2 : h.drop (i + 1) = histZ s (stepZ s c l[i]) (l.drop (i + 1)) := by
        rw [List.drop_eq_getElem_cons hlt, List.drop_eq_getElem_cons (by omega)] at hdr
        exact (List.cons.inj hdr).2
      have hget : h[i + 1] = stepZ s c l[i] := by
        obtain ⟨u, hu⟩ := histZ_head s (l.drop (i + 1)) (stepZ s c l[i])
        rw [hu, List.drop_eq_getElem_cons (by omega)] at hdr2
        exact (List.cons.inj hdr2).1
      rw [hget]
      have ein : growth_Inside (⟨(stepZ s c l[i]).Low, (stepZ s c l[i]).High⟩ : XBox) (growZ s (fromZ s x l[i] t[i]) (law02_weather l[i] t[i])) = true := (inside_iff _ _).2 ⟨hc2, ky, iy⟩
      rw [ein, cond_true]
      exact ih (i + 1) (stepZ s c l[i]) _ (by omega) (by omega) hc2 hdr2 ky iy
    · have d1 : decide ((i : Int) < ((l.length : Nat) : Int)) = false := by simp; omega
      rw [d1]
      rfl
theorem true_core (fu : Nat) (hfu : 200 ≤ fu) (hk : law02_known fu = some true) (s : XSpecies) (b : XBox) (l : List XSeason) (begin : XTrue) (t : List XTrue) : law02_GrowthTrue fu s b l begin t = some true := by
  unfold law02_GrowthTrue
  rw [hk]
  simp only [Option.bind_some]
  rcases Bool.eq_false_or_eq_true (law02_short s) with hs | hs
  rotate_left
  · rw [hs]; rfl
  rw [hs, cond_true]
  by_cases hl : ((l.length : Nat) : Int) > 20
  · rw [decide_eq_true hl]; rfl
  rw [decide_eq_false hl, cond_false]
  have hl : l.length ≤ 20 := by omega
  rcases Bool.eq_false_or_eq_true (((t.length : Nat) : Int) != ((l.length : Nat) : Int)) with ht | ht
  · rw [ht]; rfl
  rw [ht, cond_false]
  have ht : t.length = l.length := by
    simp only [bne_eq_false_iff_eq] at ht
    omega
  rcases Bool.eq_false_or_eq_true (law02_right begin) with hb0 | hb0
  rotate_left
  · rw [hb0]; rfl
  obtain ⟨B, e1, e2, e3⟩ := species_cases fu s hs hfu
  rw [hb0, e1]
  simp only [cond_true, Option.bind_some]
  cases B
  · rfl
  have hg := e3 rfl
  rcases Bool.eq_false_or_eq_true (ref02_Box b) with hb | hb
  rotate_left
  · rw [hb]; rfl
  rw [hb, seasons_ref fu l (by omega) (by omega)]
  simp only [cond_true, Option.bind_some]
  rcases Bool.eq_false_or_eq_true (l.all fun q => ref02_Season q) with hq | hq
  rotate_left
  · rw [hq]; rfl
  have kb : OkB b := (okb_iff b).1 hb
  have kq := seasons_ok hq
  have kbe := (right_iff _).1 hb0
  rw [check_val fu s b l (by omega) (by omega) true e2, (okb_iff b).2 kb, hq, show decide (((l.length : Nat) : Int) > 100) = false by simp; omega, hist_val (by omega) hg l b kb kq, decide_eq_true hl]
  simp only [cond_true, cond_false, Option.bind_some, Bool.and_self]
  have hlen := histZ_length s l b
  have hw : W (((l.length : Nat) : Int) + 1) = (((histZ s b l).length : Nat) : Int) := by rw [W_id (by omega) (by omega), hlen]; push_cast; rfl
  obtain ⟨kx, ix⟩ := stood_in kb kbe
  obtain ⟨u, hu⟩ := histZ_head s l b
  have h0 : at_ zXBox (histZ s b l) (0 : Int) = b := by rw [hu]; rfl
  have d0 : decide (0 ≤ (0 : Int) ∧ (0 : Int) < (((histZ s b l).length : Nat) : Int)) = true := by simp; omega
  rw [hw, h0, d0, show growth_Inside (⟨b.Low, b.High⟩ : XBox) (law02_Stood b begin) = true from (inside_iff _ _).2 ⟨kb, kx, ix⟩]
  have hne : ((((histZ s b l).length : Nat) : Int) != (((histZ s b l).length : Nat) : Int)) = false := by simp
  rw [hne]
  simp only [cond_true, cond_false]
  exact true_loop fu hfu hk hg e2 b l hl kq begin t ht false (histZ s b l) hlen fu 0 b (law02_Stood b begin) (by omega) (by omega) kb (by simp) kx ix
theorem true_true (s : XSpecies) (b : XBox) (l : List XSeason) (begin : XTrue) (t : List XTrue) : ∃ fu, law02_GrowthTrue fu s b l begin t = some true := ⟨2100, true_core 2100 (by omega) known_true s b l begin t⟩
end Go.Proofs.G2
