/- The law GrowthKeeps on plain functions: it says true for each input. No conditions. -/
import Derived.Test.YtfgdbanigkfjlaaDoorM
namespace Go.Proofs.G2
open Go Go.Sim Go.Proofs
set_option maxRecDepth 4000
theorem Grow_val {fu : Nat} (hfu : 100 ≤ fu) {s : XSpecies} (hs : FineS s) (hd : growth_speciesIsDefined fu s = some true) {x : XStand} (hx : OkS x) {w : XWeather} (hw : OkW w) : growth_Grow fu s x w = some (growZ s x w, 0) :=
  Grow_eq fu s x w _ hd ((oks_iff x).2 hx) ((okw_iff w).2 hw) (grow_val hs hw hfu hx)
/-! ### What was really there -/
structure InW (w : XWeather) (q : XSeason) : Prop where
  light : q.Light.Low ≤ w.Light ∧ w.Light ≤ q.Light.High
  browse : q.Browse.Low ≤ w.Browse ∧ w.Browse ≤ q.Browse.High
  mild : q.Mild.Low ≤ w.Mild ∧ w.Mild ≤ q.Mild.High
theorem InW.ok {w : XWeather} {q : XSeason} (hq : OkQ q) (h : InW w q) : OkW w := by
  have h1 := hq.light; have h2 := hq.browse; have h3 := hq.mild
  have h4 := h.light; have h5 := h.browse; have h6 := h.mild
  exact ⟨by omega, by omega, by omega⟩
theorem on_true {s : XSpecies} (hs : FineS s) {b : XBox} (hb : OkB b) {q : XSeason} (hq : OkQ q) {x : XStand} (hx : OkS x) (hin : InS x b) {w : XWeather} (hw : InW w q) : InS (growZ s x w) (onZ s b q) := by
  have pb := on_parts hb
  have kw := hw.ok hq
  have h1 := hw.light; have h2 := hw.browse; have h3 := hw.mild
  have a1 := hb.age; have a2 := hin.age
  have l := grow_le hs (poor_ok hq) kw h1.1 h3.1 pb.1 hx a2.symm hin.height.1 hin.girth.1 hin.shoots.2 h2.2
  have u := grow_le hs kw (rich_ok hq) h1.2 h3.2 hx pb.2 (by simp only; omega) hin.height.2 hin.girth.2 hin.shoots.1 h2.1
  exact ⟨l.1.symm, ⟨u.2.2.2, l.2.2.2⟩, ⟨l.2.1, u.2.1⟩, ⟨l.2.2.1, u.2.2.1⟩⟩
theorem between_in {t : XSpan} (h0 : 0 ≤ t.Low) (h1 : t.Low ≤ t.High) (h2 : t.High ≤ 100000) {p : Int} (hp : 0 ≤ p ∧ p ≤ 100) : t.Low ≤ law02_between t p ∧ law02_between t p ≤ t.High := by
  have hm := mulb (a := t.High - t.Low) (A := 100000) (by omega) (by omega) hp.1 hp.2
  have hle : (t.High - t.Low) * p ≤ (t.High - t.Low) * 100 := Int.mul_le_mul_of_nonneg_left hp.2 (by omega)
  have hd : ((t.High - t.Low) * p).tdiv 100 = ((t.High - t.Low) * p) / 100 := Int.tdiv_eq_ediv_of_nonneg hm.1
  unfold law02_between
  rw [W_id (n := t.High - t.Low) (by omega) (by omega), W_id (n := (t.High - t.Low) * p) (by omega) (by omega), hd, W_id (n := _ / 100) (by omega) (by omega), W_id (by omega) (by omega)]
  omega
structure OkT (t : XTrue) : Prop where
  light : 0 ≤ t.Light ∧ t.Light ≤ 100
  browse : 0 ≤ t.Browse ∧ t.Browse ≤ 100
  mild : 0 ≤ t.Mild ∧ t.Mild ≤ 100
  sprouts : 0 ≤ t.Sprouts ∧ t.Sprouts ≤ 100
theorem right_iff (t : XTrue) : law02_right t = true ↔ OkT t := by
  unfold law02_right
  simp only [cond_and, Bool.and_eq_true, decide_eq_true_eq]
  exact ⟨fun h => ⟨by omega, by omega, by omega, by omega⟩, fun h => ⟨h.1.1, h.1.2, h.2.1, h.2.2, h.3.1, h.3.2, h.4.1, h.4.2⟩⟩
theorem Get_1 (b : XBox) : ref02_Get b 1 = ⟨b.Low.Shoots, b.High.Shoots⟩ := rfl
theorem Get_2 (b : XBox) : ref02_Get b 2 = ⟨b.Low.Height, b.High.Height⟩ := rfl
theorem Get_3 (b : XBox) : ref02_Get b 3 = ⟨b.Low.Girth, b.High.Girth⟩ := rfl
theorem stood_in {b : XBox} (hb : OkB b) {t : XTrue} (ht : OkT t) : OkS (law02_Stood b t) ∧ InS (law02_Stood b t) b := by
  have l1 := hb.low.shoots; have l2 := hb.low.height; have l3 := hb.low.girth
  have h1 := hb.high.shoots; have h2 := hb.high.height; have h3 := hb.high.girth
  have o1 := hb.shoots; have o2 := hb.height; have o3 := hb.girth
  have b1 := between_in (t := ⟨b.Low.Shoots, b.High.Shoots⟩) (by simp only; omega) (by simp only; omega) (by simp only; omega) ht.light
  have b2 := between_in (t := ⟨b.Low.Height, b.High.Height⟩) (by simp only; omega) (by simp only; omega) (by simp only; omega) ht.browse
  have b3 := between_in (t := ⟨b.Low.Girth, b.High.Girth⟩) (by simp only; omega) (by simp only; omega) (by simp only; omega) ht.mild
  simp only at b1 b2 b3
  unfold law02_Stood
  rw [Get_1, Get_2, Get_3]
  exact ⟨⟨hb.low.age, by simp only; omega, by simp only; omega, by simp only; omega⟩, rfl, by simp only; omega, by simp only; omega, by simp only; omega⟩
theorem weather_in' {q : XSeason} (hq : OkQ q) {t : XTrue} (ht : OkT t) : InW (law02_weather q t) q := by
  have h1 := hq.light; have h2 := hq.browse; have h3 := hq.mild
  exact ⟨between_in (by omega) (by omega) (by omega) ht.light, between_in (by omega) (by omega) (by omega) ht.browse, between_in (by omega) (by omega) (by omega) ht.mild⟩
/-- The stand from which a year begins: cut, where the season cuts. -/
noncomputable def fromZ (s : XSpecies) (x : XStand) (q : XSeason) (t : XTrue) : XStand := bif q.Cut then ⟨0, law02_between (sproutsZ s x.Age) t.Sprouts, 0, 0⟩ else x
theorem from_in {s : XSpecies} (hs : FineS s) {b : XBox} {x : XStand} (hx : OkS x) (hin : InS x b) {q : XSeason} {t : XTrue} (ht : OkT t) : OkS (fromZ s x q t) ∧ InS (fromZ s x q t) (bif q.Cut then cutZ s b.Low.Age else b) := by
  unfold fromZ
  cases q.Cut
  · exact ⟨hx, hin⟩
  · simp only [cond_true]
    have hsp := hs.spans _ (sprouts_in hs hx.age.1)
    have hb := between_in (t := sproutsZ s x.Age) hsp.1 hsp.2.1 (by omega) ht.sprouts
    refine ⟨⟨by simp, by simp only; omega, by simp, by simp⟩, ?_⟩
    unfold cutZ
    rw [← hin.age]
    exact ⟨rfl, hb, by simp, by simp⟩
theorem After_val {fu : Nat} (hfu : 100 ≤ fu) {s : XSpecies} (hs : FineS s) (hd : growth_speciesIsDefined fu s = some true) {x : XStand} (hx : OkS x) {q : XSeason} (hq : OkQ q) {t : XTrue} (ht : OkT t) :
    law02_After fu s x q t = some (growZ s (fromZ s x q t) (law02_weather q t), 0) := by
  have hw := (weather_in' hq ht).ok hq
  have hf := (from_in (b := ⟨x, x⟩) hs hx ⟨rfl, by simp, by simp, by simp⟩ (q := q) ht).1
  unfold fromZ at hf ⊢
  unfold law02_After
  cases hc : q.Cut with
  | false => simp only [cond_false]; rw [Grow_val hfu hs hd hx hw]; rfl
  | true =>
    rw [hc] at hf
    simp only [cond_true] at hf ⊢
    have h := hs.sprouts
    have e : imin x.Age (W (((s.Sprouts.length : Nat) : Int) - 1)) = imin x.Age (((s.Sprouts.length : Nat) : Int) - 1) := by rw [W_id (by omega) (by omega)]
    rw [index_ok s.Sprouts.length x.Age (by omega) (by omega) hx.age.1, cond_true, e]
    have e2 : at_ zXSpan s.Sprouts (imin x.Age (((s.Sprouts.length : Nat) : Int) - 1)) = sproutsZ s x.Age := rfl
    rw [e2, Grow_val hfu hs hd hf hw]
    rfl
/-- A true stand inside a box is, after a true year, inside the box's step. -/
theorem after_in {s : XSpecies} (hs : FineS s) {b : XBox} (hb : OkB b) {x : XStand} (hx : OkS x) (hin : InS x b) {q : XSeason} (hq : OkQ q) {t : XTrue} (ht : OkT t) :
    OkS (growZ s (fromZ s x q t) (law02_weather q t)) ∧ InS (growZ s (fromZ s x q t) (law02_weather q t)) (stepZ s b q) := by
  have hf := from_in hs hx hin (q := q) ht
  exact ⟨grow_ok hs ((weather_in' hq ht).ok hq) hf.1, on_true hs (base_ok hs hb q.Cut) hq hf.1 hf.2 (weather_in' hq ht)⟩
end Go.Proofs.G2
namespace Go.Proofs.G2
open Go Go.Sim Go.Proofs
set_option maxRecDepth 4000
/-! ### Looking for the first number -/
theorem first_val {lo hi : Int} (hlo : -1000000 ≤ lo) (hhi : hi ≤ 1000000) (ask : Int → Option Bool) (p : Int → Bool) (hask : ∀ n, lo ≤ n → n ≤ hi → ask n = some (p n)) (hmono : ∀ n m, lo ≤ n → n ≤ m → m ≤ hi → p n = true → p m = true) (g : Nat → Int → Int → Option Int)
    (hg : ∀ fk v0 v1, g (fk + 1) v0 v1 = bif decide (v0 ≤ v1) then (Option.bind (ask (W (v0 + (W ((W (v1 - v0)).tdiv 2))))) fun y => bif y then g fk v0 (W ((W (v0 + (W ((W (v1 - v0)).tdiv 2)))) - 1)) else g fk (W ((W (v0 + (W ((W (v1 - v0)).tdiv 2)))) + 1)) v1) else some v0) :
    ∀ (fk : Nat) (v0 v1 : Int), lo ≤ v0 → v1 ≤ hi → v0 ≤ v1 + 1 → v1 - v0 + 1 < (2 : Int) ^ fk → ∃ r, g (fk + 1) v0 v1 = some r ∧ v0 ≤ r ∧ r ≤ v1 + 1 ∧ ∀ n, v0 ≤ n → n ≤ v1 → (p n = true ↔ r ≤ n) := by
  intro fk
  induction fk with
  | zero =>
    intro v0 v1 h0 h1 h2 h3
    have e : (2 : Int) ^ 0 = 1 := rfl
    rw [e] at h3
    refine ⟨v0, ?_, by omega, by omega, fun n a b => by omega⟩
    rw [hg, show decide (v0 ≤ v1) = false by simp; omega]
    rfl
  | succ fk ih =>
    intro v0 v1 h0 h1 h2 h3
    rw [hg]
    by_cases hle : v0 ≤ v1
    · have e : (2 : Int) ^ (fk + 1) = 2 * 2 ^ fk := by rw [Int.pow_succ]; omega
      rw [e] at h3
      have hd : (v1 - v0).tdiv 2 = (v1 - v0) / 2 := Int.tdiv_eq_ediv_of_nonneg (by omega)
      rw [decide_eq_true hle, cond_true, W_id (n := v1 - v0) (by omega) (by omega), hd, W_id (n := (v1 - v0) / 2) (by omega) (by omega), W_id (n := v0 + (v1 - v0) / 2) (by omega) (by omega),
        W_id (n := v0 + (v1 - v0) / 2 - 1) (by omega) (by omega), W_id (n := v0 + (v1 - v0) / 2 + 1) (by omega) (by omega), hask _ (by omega) (by omega), Option.bind_some]
      cases hp : p (v0 + (v1 - v0) / 2) with
      | true =>
        obtain ⟨r, r1, r2, r3, r4⟩ := ih v0 (v0 + (v1 - v0) / 2 - 1) h0 (by omega) (by omega) (by omega)
        refine ⟨r, r1, r2, by omega, fun n a b => ?_⟩
        by_cases hn : n ≤ v0 + (v1 - v0) / 2 - 1
        · exact r4 n a hn
        · exact ⟨fun _ => by omega, fun _ => hmono _ n (by omega) (by omega) (by omega) hp⟩
      | false =>
        obtain ⟨r, r1, r2, r3, r4⟩ := ih (v0 + (v1 - v0) / 2 + 1) v1 (by omega) h1 (by omega) (by omega)
        refine ⟨r, r1, by omega, r3, fun n a b => ?_⟩
        by_cases hn : v0 + (v1 - v0) / 2 + 1 ≤ n
        · exact r4 n hn b
        · refine ⟨fun hpn => ?_, fun _ => by omega⟩
          have := hmono n _ (by omega) (show n ≤ v0 + (v1 - v0) / 2 by omega) (by omega) hpn
          rw [hp] at this
          cases this
    · refine ⟨v0, ?_, by omega, by omega, fun n a b => by omega⟩
      rw [show decide (v0 ≤ v1) = false by simp; omega]
      rfl
/-! ### One number of a box -/
noncomputable def lowZ (b : XBox) (k : Int) : Int := (growth_spanOf b k).Low
noncomputable def highZ (b : XBox) (k : Int) : Int := (growth_spanOf b k).High
/-- The box in which a number is that one. -/
noncomputable def aloneZ (b : XBox) (k n : Int) : XBox := (growth_keep b k ⟨n, n⟩).1
theorem alone_1 {b : XBox} {n : Int} (h1 : b.Low.Shoots ≤ n) (h2 : n ≤ b.High.Shoots) : aloneZ b 1 n = ⟨⟨b.Low.Age, n, b.Low.Height, b.Low.Girth⟩, ⟨b.High.Age, n, b.High.Height, b.High.Girth⟩⟩ := by
  have e1 : imax b.Low.Shoots n = n := by have := imax_le b.Low.Shoots n; omega
  have e2 : imin b.High.Shoots n = n := by have := imin_le b.High.Shoots n; omega
  unfold aloneZ
  rw [keep_1]
  simp only [e1, e2, show decide (n > n) = false by simp, cond_false]
theorem alone_2 {b : XBox} {n : Int} (h1 : b.Low.Height ≤ n) (h2 : n ≤ b.High.Height) : aloneZ b 2 n = ⟨⟨b.Low.Age, b.Low.Shoots, n, b.Low.Girth⟩, ⟨b.High.Age, b.High.Shoots, n, b.High.Girth⟩⟩ := by
  have e1 : imax b.Low.Height n = n := by have := imax_le b.Low.Height n; omega
  have e2 : imin b.High.Height n = n := by have := imin_le b.High.Height n; omega
  unfold aloneZ
  rw [keep_2]
  simp only [e1, e2, show decide (n > n) = false by simp, cond_false]
theorem alone_3 {b : XBox} {n : Int} (h1 : b.Low.Girth ≤ n) (h2 : n ≤ b.High.Girth) : aloneZ b 3 n = ⟨⟨b.Low.Age, b.Low.Shoots, b.Low.Height, n⟩, ⟨b.High.Age, b.High.Shoots, b.High.Height, n⟩⟩ := by
  have e1 : imax b.Low.Girth n = n := by have := imax_le b.Low.Girth n; omega
  have e2 : imin b.High.Girth n = n := by have := imin_le b.High.Girth n; omega
  unfold aloneZ
  rw [keep_3]
  simp only [e1, e2, show decide (n > n) = false by simp, cond_false]
def isK (k : Int) : Prop := k = 1 ∨ k = 2 ∨ k = 3
theorem alone_ok {b : XBox} (hb : OkB b) {k : Int} (hk : isK k) {n : Int} (h1 : lowZ b k ≤ n) (h2 : n ≤ highZ b k) : OkB (aloneZ b k n) := by
  have l1 := hb.low.shoots; have l2 := hb.low.height; have l3 := hb.low.girth
  have g1 := hb.high.shoots; have g2 := hb.high.height; have g3 := hb.high.girth
  rcases hk with rfl | rfl | rfl
  · have h1 : b.Low.Shoots ≤ n := h1
    have h2 : n ≤ b.High.Shoots := h2
    rw [alone_1 h1 h2]
    exact ⟨⟨hb.low.age, by simp only; omega, l2, l3⟩, ⟨hb.high.age, by simp only; omega, g2, g3⟩, hb.age, Int.le_refl _, hb.height, hb.girth⟩
  · have h1 : b.Low.Height ≤ n := h1
    have h2 : n ≤ b.High.Height := h2
    rw [alone_2 h1 h2]
    exact ⟨⟨hb.low.age, l1, by simp only; omega, l3⟩, ⟨hb.high.age, g1, by simp only; omega, g3⟩, hb.age, hb.shoots, Int.le_refl _, hb.girth⟩
  · have h1 : b.Low.Girth ≤ n := h1
    have h2 : n ≤ b.High.Girth := h2
    rw [alone_3 h1 h2]
    exact ⟨⟨hb.low.age, l1, l2, by simp only; omega⟩, ⟨hb.high.age, g1, g2, by simp only; omega⟩, hb.age, hb.shoots, hb.height, Int.le_refl _⟩
/-- With a greater number before, neither bound of the step is less. -/
theorem on_mono {s : XSpecies} (hs : FineS s) {b : XBox} (hb : OkB b) {q : XSeason} (hq : OkQ q) {k : Int} (hk : isK k) {n m : Int} (h1 : lowZ b k ≤ n) (hnm : n ≤ m) (h2 : m ≤ highZ b k) :
    lowZ (onZ s (aloneZ b k n) q) k ≤ lowZ (onZ s (aloneZ b k m) q) k ∧ highZ (onZ s (aloneZ b k n) q) k ≤ highZ (onZ s (aloneZ b k m) q) k := by
  have ha := hb.low.age; have ha2 := hb.high.age
  have l1 := hb.low.shoots; have g1 := hb.high.shoots
  rcases hk with rfl | rfl | rfl
  · have h1 : b.Low.Shoots ≤ n := h1
    have h2 : m ≤ b.High.Shoots := h2
    rw [alone_1 h1 (by omega), alone_1 (by omega) h2]
    exact ⟨crowd_le _ _ _ _ _ hnm (Int.le_refl _), crowd_le _ _ _ _ _ hnm (Int.le_refl _)⟩
  · have h1 : b.Low.Height ≤ n := h1
    have h2 : m ≤ b.High.Height := h2
    rw [alone_2 h1 (by omega), alone_2 (by omega) h2]
    exact ⟨height_le hs (poor_ok hq) (poor_ok hq) (Int.le_refl _) (Int.le_refl _) ha.1 hnm (Int.le_refl _), height_le hs (rich_ok hq) (rich_ok hq) (Int.le_refl _) (Int.le_refl _) ha2.1 hnm (Int.le_refl _)⟩
  · have h1 : b.Low.Girth ≤ n := h1
    have h2 : m ≤ b.High.Girth := h2
    rw [alone_3 h1 (by omega), alone_3 (by omega) h2]
    exact ⟨girth_le hs (poor_ok hq) (poor_ok hq) (Int.le_refl _) (Int.le_refl _) ha.1 hnm g1.1 (Int.le_refl _), girth_le hs (rich_ok hq) (rich_ok hq) (Int.le_refl _) (Int.le_refl _) ha2.1 hnm l1.1 (Int.le_refl _)⟩
theorem low_bd {b : XBox} (hb : OkB b) {k : Int} (hk : isK k) : 0 ≤ lowZ b k ∧ lowZ b k ≤ highZ b k ∧ highZ b k ≤ 40000 := by
  have l1 := hb.low.shoots; have l2 := hb.low.height; have l3 := hb.low.girth
  have g1 := hb.high.shoots; have g2 := hb.high.height; have g3 := hb.high.girth
  have o1 := hb.shoots; have o2 := hb.height; have o3 := hb.girth
  rcases hk with rfl | rfl | rfl
  · exact ⟨l1.1, o1, by show b.High.Shoots ≤ 40000; omega⟩
  · exact ⟨l2.1, o2, g2.2⟩
  · exact ⟨l3.1, o3, by show b.High.Girth ≤ 40000; omega⟩
/-- Whether a number of a kind stays. -/
noncomputable def staysZ (s : XSpecies) (b : XBox) (q : XSeason) (after : XBox) (k n : Int) : Prop := lowZ after k ≤ highZ (onZ s (aloneZ b k n) q) k ∧ lowZ (onZ s (aloneZ b k n) q) k ≤ highZ after k
theorem leading_val {fu : Nat} (hfu : 100 ≤ fu) {s : XSpecies} (hs : FineS s) {b : XBox} (hb : OkB b) {q : XSeason} (hq : OkQ q) (hc : q.Cut = false) {after : XBox} {k : Int} (hk : isK k) :
    ∃ t, growth_grower_leading fu ⟨s⟩ b q after k = some t ∧ lowZ b k ≤ t.Low ∧ t.High ≤ highZ b k ∧ ∀ n, lowZ b k ≤ n → n ≤ highZ b k → (staysZ s b q after k n ↔ t.Low ≤ n ∧ n ≤ t.High) := by
  have hbd := low_bd hb hk
  have hone : ∀ n, lowZ b k ≤ n → n ≤ highZ b k → growth_grower_leading_1 fu n b k ⟨s⟩ q = some (growth_spanOf (onZ s (aloneZ b k n) q) k) := by
    intro n h1 h2
    unfold growth_grower_leading_1
    have e : (⟨(growth_keep b k ⟨n, n⟩).1.Low, (growth_keep b k ⟨n, n⟩).1.High⟩ : XBox) = aloneZ b k n := rfl
    rw [e, step_val hs hfu (alone_ok hb hk h1 h2) hq, Option.bind_some]
    unfold stepZ
    rw [hc]
    rfl
  have hfk : ∃ f, fu = f + 1 + 20 := ⟨fu - 21, by omega⟩
  have hpow : highZ b k - lowZ b k + 1 < (2 : Int) ^ (fu - 1) := by
    obtain ⟨f, hf⟩ := hfk
    have e : fu - 1 = 20 + f := by omega
    rw [e, Int.pow_add]
    have h1 : (2 : Int) ^ 20 = 1048576 := by decide
    have h2 : (1 : Int) ≤ 2 ^ f := Int.pow_pos (by decide)
    rw [h1]
    have : (1048576 : Int) * 1 ≤ 1048576 * 2 ^ f := Int.mul_le_mul_of_nonneg_left h2 (by decide)
    omega
  have hfu1 : fu - 1 + 1 = fu := by omega
  obtain ⟨r, r1, r2, r3, r4⟩ := first_val (lo := lowZ b k) (hi := highZ b k) (by omega) (by omega) (fun n => growth_grower_leading_2 fu n b k ⟨s⟩ q (growth_spanOf after k)) (fun n => decide (highZ (onZ s (aloneZ b k n) q) k ≥ lowZ after k))
    (fun n h1 h2 => by unfold growth_grower_leading_2; rw [hone n h1 h2]; rfl)
    (fun n m h1 h2 h3 h4 => by have := (on_mono hs hb hq hk h1 h2 h3).2; have h4 := of_decide_eq_true h4; exact decide_eq_true (by omega))
    (fun fk v0 v1 => growth_first_L fu (lowZ b k) (highZ b k) b k ⟨s⟩ q (growth_spanOf after k) fk v0 v1) (fun fk v0 v1 => growth_first_L_s0 fu (lowZ b k) (highZ b k) b k ⟨s⟩ q (growth_spanOf after k) fk v0 v1)
    (fu - 1) (lowZ b k) (highZ b k) (Int.le_refl _) (Int.le_refl _) (by omega) hpow
  obtain ⟨u, u1, u2, u3, u4⟩ := first_val (lo := lowZ b k) (hi := highZ b k) (by omega) (by omega) (fun n => growth_grower_leading_3 fu n b k ⟨s⟩ q (growth_spanOf after k)) (fun n => decide (lowZ (onZ s (aloneZ b k n) q) k > highZ after k))
    (fun n h1 h2 => by unfold growth_grower_leading_3; rw [hone n h1 h2]; rfl)
    (fun n m h1 h2 h3 h4 => by have := (on_mono hs hb hq hk h1 h2 h3).1; have h4 := of_decide_eq_true h4; exact decide_eq_true (by omega))
    (fun fk v0 v1 => growth_first_1_L fu (lowZ b k) (highZ b k) b k ⟨s⟩ q (growth_spanOf after k) fk v0 v1) (fun fk v0 v1 => growth_first_1_L_s0 fu (lowZ b k) (highZ b k) b k ⟨s⟩ q (growth_spanOf after k) fk v0 v1)
    (fu - 1) (lowZ b k) (highZ b k) (Int.le_refl _) (Int.le_refl _) (by omega) hpow
  rw [hfu1] at r1 u1
  have q1 : growth_first fu (growth_spanOf b k).Low (growth_spanOf b k).High b k ⟨s⟩ q (growth_spanOf after k) = some r := r1
  have q2 : growth_first_1 fu (growth_spanOf b k).Low (growth_spanOf b k).High b k ⟨s⟩ q (growth_spanOf after k) = some u := u1
  refine ⟨⟨r, u - 1⟩, ?_, r2, by simp only; omega, fun n h1 h2 => ?_⟩
  · unfold growth_grower_leading
    rw [q1, Option.bind_some, q2, Option.bind_some, W_id (by omega) (by omega)]
  · have a1 := r4 n h1 h2
    have a2 := u4 n h1 h2
    simp only [decide_eq_true_eq] at a1 a2
    unfold staysZ
    simp only
    omega
/-- What is kept of the three numbers. -/
noncomputable def keptZ (b : XBox) (t1 t2 t3 : XSpan) : XBox := ⟨⟨b.Low.Age, imax b.Low.Shoots t1.Low, imax b.Low.Height t2.Low, imax b.Low.Girth t3.Low⟩, ⟨b.High.Age, imin b.High.Shoots t1.High, imin b.High.Height t2.High, imin b.High.Girth t3.High⟩⟩
def keepsZ (b : XBox) (t1 t2 t3 : XSpan) : Bool := decide (imax b.Low.Shoots t1.Low ≤ imin b.High.Shoots t1.High) && (decide (imax b.Low.Height t2.Low ≤ imin b.High.Height t2.High) && decide (imax b.Low.Girth t3.Low ≤ imin b.High.Girth t3.High))
theorem back_val {fu : Nat} (hfu : 100 ≤ fu) {s : XSpecies} (hs : FineS s) {b : XBox} (hb : OkB b) {q : XSeason} (hq : OkQ q) (hc : q.Cut = false) {after : XBox} :
    ∃ t1 t2 t3, growth_grower_leading fu ⟨s⟩ b q after 1 = some t1 ∧ growth_grower_leading fu ⟨s⟩ b q after 2 = some t2 ∧ growth_grower_leading fu ⟨s⟩ b q after 3 = some t3 ∧
      growth_grower_back fu ⟨s⟩ b q after = some (bif (stepZ s b q).Low.Age == after.Low.Age && keepsZ b t1 t2 t3 then (keptZ b t1 t2 t3, true) else (zXBox, false)) := by
  obtain ⟨t1, e1, _⟩ := leading_val hfu hs hb hq hc (after := after) (k := 1) (.inl rfl)
  obtain ⟨t2, e2, _⟩ := leading_val hfu hs hb hq hc (after := after) (k := 2) (.inr (.inl rfl))
  obtain ⟨t3, e3, _⟩ := leading_val hfu hs hb hq hc (after := after) (k := 3) (.inr (.inr rfl))
  refine ⟨t1, t2, t3, e1, e2, e3, ?_⟩
  unfold growth_grower_back keepsZ keptZ
  rw [step_val hs hfu hb hq, Option.bind_some, hc, cond_false]
  simp only [bne]
  cases hage : (stepZ s b q).Low.Age == after.Low.Age
  · rfl
  simp only [Bool.not_true, cond_false]
  rw [e1, Option.bind_some, e2, e3]
  simp only [Option.bind_some, keep_1, gt_not]
  cases decide (imax b.Low.Shoots t1.Low ≤ imin b.High.Shoots t1.High)
  · rfl
  simp only [Bool.not_true, cond_false, cond_true, keep_2, gt_not, Bool.true_and]
  cases decide (imax b.Low.Height t2.Low ≤ imin b.High.Height t2.High)
  · rfl
  simp only [Bool.not_true, cond_false, cond_true, keep_3, gt_not, Bool.true_and]
  cases decide (imax b.Low.Girth t3.Low ≤ imin b.High.Girth t3.High)
  · rfl
  · rfl
end Go.Proofs.G2
namespace Go.Proofs.G2
open Go Go.Sim Go.Proofs
set_option maxRecDepth 4000
/-- The stand with a number of its own lies in the box that has that number alone. -/
theorem in_alone {b : XBox} {x : XStand} (h : InS x b) : InS x (aloneZ b 1 x.Shoots) ∧ InS x (aloneZ b 2 x.Height) ∧ InS x (aloneZ b 3 x.Girth) := by
  have h1 := h.shoots; have h2 := h.height; have h3 := h.girth
  rw [alone_1 h1.1 h1.2, alone_2 h2.1 h2.2, alone_3 h3.1 h3.2]
  exact ⟨⟨h.age, ⟨Int.le_refl _, Int.le_refl _⟩, h2, h3⟩, ⟨h.age, h1, ⟨Int.le_refl _, Int.le_refl _⟩, h3⟩, ⟨h.age, h1, h2, ⟨Int.le_refl _, Int.le_refl _⟩⟩⟩
theorem keeps_core (fu : Nat) (hfu : 200 ≤ fu) (hk : law02_known fu = some true) (s : XSpecies) (b : XBox) (q : XSeason) (after : XBox) (begin t : XTrue) : law02_GrowthKeeps fu s b q after begin t = some true := by
  unfold law02_GrowthKeeps
  rw [hk]
  simp only [Option.bind_some]
  rcases Bool.eq_false_or_eq_true (law02_short s) with hs | hs
  rotate_left
  · rw [hs]; rfl
  rcases Bool.eq_false_or_eq_true (law02_right begin) with hb0 | hb0
  rotate_left
  · rw [hs, hb0]; rfl
  rcases Bool.eq_false_or_eq_true (law02_right t) with ht0 | ht0
  rotate_left
  · rw [hs, hb0, ht0]; rfl
  obtain ⟨B, e1, e2, e3⟩ := species_cases fu s hs hfu
  rw [hs, hb0, ht0, e1]
  simp only [cond_true, Option.bind_some]
  cases B
  · rfl
  have hg := e3 rfl
  rcases Bool.eq_false_or_eq_true (ref02_Box b) with hb | hb
  rotate_left
  · rw [hb]; rfl
  rcases Bool.eq_false_or_eq_true (ref02_Season q) with hq | hq
  rotate_left
  · rw [hb, hq]; rfl
  rcases Bool.eq_false_or_eq_true (ref02_Box after) with ha | ha
  rotate_left
  · rw [hb, hq, ha]; rfl
  have kb : OkB b := (okb_iff b).1 hb
  have kq : OkQ q := (okq_iff q).1 hq
  have ka : OkB after := (okb_iff after).1 ha
  have kbe := (right_iff _).1 hb0
  have kt := (right_iff _).1 ht0
  rw [hb, hq, ha]
  simp only [cond_true]
  obtain ⟨kx, ix⟩ := stood_in kb kbe
  generalize law02_Stood b begin = x at kx ix
  rw [After_val (by omega) hg e2 kx kq kt]
  simp only [Option.bind_some]
  obtain ⟨ky, iy⟩ := after_in hg kb kx ix kq kt
  rcases Bool.eq_false_or_eq_true (growth_Inside after (growZ s (fromZ s x q t) (law02_weather q t))) with hin | hin
  rotate_left
  · rw [hin]; rfl
  rw [hin]
  obtain ⟨_, _, ia⟩ := (inside_iff _ _).1 hin
  have hback : growth_Back fu s b q after = Option.bind (growth_grower_back fu (⟨s⟩ : Xgrower) b q after) fun x6 => some ((growth_orNone x6.1 x6.2).1, (growth_orNone x6.1 x6.2).2) := by
    unfold growth_Back
    rw [e2, Option.bind_some, (okb_iff b).2 kb, season_eq, (okq_iff q).2 kq, (okb_iff after).2 ka]
    rfl
  rw [hback]
  have fin : ∀ c : XBox, OkB c → InS x c → InB c b → (bif (0 : Int) == 0 then (bif growth_Inside c x then (bif growth_Inside b c.Low then (bif growth_Inside b c.High then some true else some false) else some false) else some false) else some false) = some true := by
    intro c kc icx icb
    rw [(inside_iff _ _).2 ⟨kc, kx, icx⟩, (inside_iff _ _).2 ⟨kb, kc.low, icb.lows kc⟩, (inside_iff _ _).2 ⟨kb, kc.high, icb.highs kc⟩]
    rfl
  cases hc : q.Cut with
  | true =>
    have e4 : growth_grower_back fu ⟨s⟩ b q after = some (b, (growth_common (stepZ s b q) after).2) := by
      unfold growth_grower_back
      rw [step_val hg (by omega) kb kq, hc]
      rfl
    have e5 : (growth_common (stepZ s b q) after).2 = true := by
      rw [common_val]
      have a1 := iy.age; have a2 := ia.age
      have s1 := iy.shoots; have s2 := ia.shoots; have h1 := iy.height; have h2 := ia.height; have g1 := iy.girth; have g2 := ia.girth
      have m1 := imax_le (stepZ s b q).Low.Shoots after.Low.Shoots; have n1 := imin_le (stepZ s b q).High.Shoots after.High.Shoots
      have m2 := imax_le (stepZ s b q).Low.Height after.Low.Height; have n2 := imin_le (stepZ s b q).High.Height after.High.Height
      have m3 := imax_le (stepZ s b q).Low.Girth after.Low.Girth; have n3 := imin_le (stepZ s b q).High.Girth after.High.Girth
      have : meetsZ (stepZ s b q) after = true := by
        unfold meetsZ
        simp only [Bool.and_eq_true, beq_iff_eq, decide_eq_true_eq]
        omega
      rw [this]
      rfl
    rw [e4, e5]
    exact fin b kb ix (InB.refl b)
  | false =>
    obtain ⟨t1, t2, t3, l1, l2, l3, e4⟩ := back_val (fu := fu) (by omega) hg kb kq hc (after := after)
    obtain ⟨u1, p1, r1, w1, z1⟩ := leading_val (fu := fu) (by omega) hg kb kq hc (after := after) (k := 1) (.inl rfl)
    obtain ⟨u2, p2, r2, w2, z2⟩ := leading_val (fu := fu) (by omega) hg kb kq hc (after := after) (k := 2) (.inr (.inl rfl))
    obtain ⟨u3, p3, r3, w3, z3⟩ := leading_val (fu := fu) (by omega) hg kb kq hc (after := after) (k := 3) (.inr (.inr rfl))
    rw [l1] at p1; rw [l2] at p2; rw [l3] at p3
    cases p1; cases p2; cases p3
    have hstep : stepZ s b q = onZ s b q := by unfold stepZ; rw [hc]; rfl
    have hfrom : fromZ s x q t = x := by unfold fromZ; rw [hc]; rfl
    rw [hfrom] at ia iy
    have hw := weather_in' kq kt
    obtain ⟨i1, i2, i3⟩ := in_alone ix
    have b1 := ix.shoots; have b2 := ix.height; have b3 := ix.girth
    have o1 := on_true hg (alone_ok kb (.inl rfl) b1.1 b1.2) kq kx i1 hw
    have o2 := on_true hg (alone_ok kb (.inr (.inl rfl)) b2.1 b2.2) kq kx i2 hw
    have o3 := on_true hg (alone_ok kb (.inr (.inr rfl)) b3.1 b3.2) kq kx i3 hw
    have s1 := (z1 x.Shoots b1.1 b1.2).1 ⟨Int.le_trans ia.shoots.1 o1.shoots.2, Int.le_trans o1.shoots.1 ia.shoots.2⟩
    have s2 := (z2 x.Height b2.1 b2.2).1 ⟨Int.le_trans ia.height.1 o2.height.2, Int.le_trans o2.height.1 ia.height.2⟩
    have s3 := (z3 x.Girth b3.1 b3.2).1 ⟨Int.le_trans ia.girth.1 o3.girth.2, Int.le_trans o3.girth.1 ia.girth.2⟩
    have m1 := imax_le b.Low.Shoots t1.Low; have n1 := imin_le b.High.Shoots t1.High
    have m2 := imax_le b.Low.Height t2.Low; have n2 := imin_le b.High.Height t2.High
    have m3 := imax_le b.Low.Girth t3.Low; have n3 := imin_le b.High.Girth t3.High
    have hkeep : keepsZ b t1 t2 t3 = true := by
      unfold keepsZ
      simp only [Bool.and_eq_true, decide_eq_true_eq]
      omega
    have hage : ((stepZ s b q).Low.Age == after.Low.Age) = true := by
      have := iy.age; have := ia.age
      simp only [beq_iff_eq]
      omega
    rw [e4, hkeep, hage]
    have kx1 := kx.shoots; have kx2 := kx.height; have kx3 := kx.girth
    have y1 := kb.low.shoots; have y2 := kb.low.height; have y3 := kb.low.girth
    have v1 := kb.high.shoots; have v2 := kb.high.height; have v3 := kb.high.girth
    refine fin (keptZ b t1 t2 t3) ?_ ?_ ?_
    · unfold keptZ
      exact ⟨⟨kb.low.age, by simp only; omega, by simp only; omega, by simp only; omega⟩, ⟨kb.high.age, by simp only; omega, by simp only; omega, by simp only; omega⟩, kb.age, by simp only; omega, by simp only; omega, by simp only; omega⟩
    · unfold keptZ
      exact ⟨ix.age, by simp only; omega, by simp only; omega, by simp only; omega⟩
    · unfold keptZ
      exact ⟨rfl, by simp only; omega, by simp only; omega, by simp only; omega⟩
theorem keeps_true (s : XSpecies) (b : XBox) (q : XSeason) (after : XBox) (begin t : XTrue) : ∃ fu, law02_GrowthKeeps fu s b q after begin t = some true := ⟨2100, keeps_core 2100 (by omega) known_true s b q after begin t⟩
end Go.Proofs.G2
