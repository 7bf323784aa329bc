/- The law GrowthBacks on plain functions: it says true for each input. No conditions. -/
import Derived.Test.YtfgdbanigkfjlaaDoorM
namespace Go.Proofs.G2
open Go Go.Sim Go.Proofs
set_option maxRecDepth 4000
/-! ### Looking for the first number -/
theorem first_val {lo hi : Int} (hlo : -1000000 ≤ lo) (hhi : hi ≤ 1000000) (ask : Int → Option Bool) (p : Int → Bool) (hask : ∀ n, lo ≤ n → n ≤ hi → ask n = some (p n)) (hmono : ∀ n m, lo ≤ n → n ≤ m → m ≤ hi → p n = true → p m = true) (g : Nat → Int → Int → Option Int)
    (hg : ∀ fk v0 v1, g (fk + 1) v0 v1 = bif decide (v0 ≤ v1) then (Option.bind (ask (W (v0 + (W ((W (v1 - v0)).tdiv 2))))) fun y => bif y then g fk v0 (W ((W (v0 + (W ((W (v1 - v0)).tdiv 2)))) - 1)) else g fk (W ((W (v0 + (W ((W (v1 - v0)).tdiv 2)))) + 1)) v1) else some v0) :
    ∀ (fk : Nat) (v0 v1 : Int), lo ≤ v0 → v1 ≤ hi → v0 ≤ v1 + 1 → v1 - v0 + 1 < (2 : Int) ^ fk → ∃ r, g (fk + 1) v0 v1 = some r ∧ v0 ≤ r ∧ r ≤ v1 + 1 ∧ ∀ n, v0 ≤ n → n ≤ v1 → (p n = true ↔ r ≤ n) := by
  intro fk
  induction fk with
  | zero =>
    intro v0 v1 h0 h1 h2 h3
    have e : (2 : Int) ^ 0 = 1 := rfl
    rw [e] at h3
    refine ⟨v0, ?_, by omega, by omega, fun n a b => by omega⟩
    rw [hg, show decide (v0 ≤ v1) = false by simp; omega]
    rfl
  | succ fk ih =>
    intro v0 v1 h0 h1 h2 h3
    rw [hg]
    by_cases hle : v0 ≤ v1
    · have e : (2 : Int) ^ (fk + 1) = 2 * 2 ^ fk := by rw [Int.pow_succ]; omega
      rw [e] at h3
      have hd : (v1 - v0).tdiv 2 = (v1 - v0) / 2 := Int.tdiv_eq_ediv_of_nonneg (by omega)
      rw [decide_eq_true hle, cond_true, W_id (n := v1 - v0) (by omega) (by omega), hd, W_id (n := (v1 - v0) / 2) (by omega) (by omega), W_id (n := v0 + (v1 - v0) / 2) (by omega) (by omega),
        W_id (n := v0 + (v1 - v0) / 2 - 1) (by omega) (by omega), W_id (n := v0 + (v1 - v0) / 2 + 1) (by omega) (by omega), hask _ (by omega) (by omega), Option.bind_some]
      cases hp : p (v0 + (v1 - v0) / 2) with
      | true =>
        obtain ⟨r, r1, r2, r3, r4⟩ := ih v0 (v0 + (v1 - v0) / 2 - 1) h0 (by omega) (by omega) (by omega)
        refine ⟨r, r1, r2, by omega, fun n a b => ?_⟩
        by_cases hn : n ≤ v0 + (v1 - v0) / 2 - 1
        · exact r4 n a hn
        · exact ⟨fun _ => by omega, fun _ => hmono _ n (by omega) (by omega) (by omega) hp⟩
      | false =>
        obtain ⟨r, r1, r2, r3, r4⟩ := ih (v0 + (v1 - v0) / 2 + 1) v1 (by omega) h1 (by omega) (by omega)
        refine ⟨r, r1, by omega, r3, fun n a b => ?_⟩
        by_cases hn : v0 + (v1 - v0) / 2 + 1 ≤ n
        · exact r4 n hn b
        · refine ⟨fun hpn => ?_, fun _ => by omega⟩
          have := hmono n _ (by omega) (show n ≤ v0 + (v1 - v0) / 2 by omega) (by omega) hpn
          rw [hp] at this
          cases this
    · refine ⟨v0, ?_, by omega, by omega, fun n a b => by omega⟩
      rw [show decide (v0 ≤ v1) = false by simp; omega]
      rfl
/-! ### One number of a box -/
noncomputable def lowZ (b : XBox) (k : Int) : Int := (growth_spanOf b k).Low
noncomputable def highZ (b : XBox) (k : Int) : Int := (growth_spanOf b k).High
/-- The box in which a number is that one. -/
noncomputable def aloneZ (b : XBox) (k n : Int) : XBox := (growth_keep b k ⟨n, n⟩).1
theorem alone_1 {b : XBox} {n : Int} (h1 : b.Low.Shoots ≤ n) (h2 : n ≤ b.High.Shoots) : aloneZ b 1 n = ⟨⟨b.Low.Age, n, b.Low.Height, b.Low.Girth⟩, ⟨b.High.Age, n, b.High.Height, b.High.Girth⟩⟩ := by
  have e1 : imax b.Low.Shoots n = n := by have := imax_le b.Low.Shoots n; omega
  have e2 : imin b.High.Shoots n = n := by have := imin_le b.High.Shoots n; omega
  unfold aloneZ
  rw [keep_1]
  simp only [e1, e2, show decide (n > n) = false by simp, cond_false]
theorem alone_2 {b : XBox} {n : Int} (h1 : b.Low.Height ≤ n) (h2 : n ≤ b.High.Height) : aloneZ b 2 n = ⟨⟨b.Low.Age, b.Low.Shoots, n, b.Low.Girth⟩, ⟨b.High.Age, b.High.Shoots, n, b.High.Girth⟩⟩ := by
  have e1 : imax b.Low.Height n = n := by have := imax_le b.Low.Height n; omega
  have e2 : imin b.High.Height n = n := by have := imin_le b.High.Height n; omega
  unfold aloneZ
  rw [keep_2]
  simp only [e1, e2, show decide (n > n) = false by simp, cond_false]
theorem alone_3 {b : XBox} {n : Int} (h1 : b.Low.Girth ≤ n) (h2 : n ≤ b.High.Girth) : aloneZ b 3 n = ⟨⟨b.Low.Age, b.Low.Shoots, b.Low.Height, n⟩, ⟨b.High.Age, b.High.Shoots, b.High.Height, n⟩⟩ := by
  have e1 : imax b.Low.Girth n = n := by have := imax_le b.Low.Girth n; omega
  have e2 : imin b.High.Girth n = n := by have := imin_le b.High.Girth n; omega
  unfold aloneZ
  rw [keep_3]
  simp only [e1, e2, show decide (n > n) = false by simp, cond_false]
def isK (k : Int) : Prop := k = 1 ∨ k = 2 ∨ k = 3
theorem alone_ok {b : XBox} (hb : OkB b) {k : Int} (hk : isK k) {n : Int} (h1 : lowZ b k ≤ n) (h2 : n ≤ highZ b k) : OkB (aloneZ b k n) := by
  have l1 := hb.low.shoots; have l2 := hb.low.height; have l3 := hb.low.girth
  have g1 := hb.high.shoots; have g2 := hb.high.height; have g3 := hb.high.girth
  rcases hk with rfl | rfl | rfl
  · have h1 : b.Low.Shoots ≤ n := h1
    have h2 : n ≤ b.High.Shoots := h2
    rw [alone_1 h1 h2]
    exact ⟨⟨hb.low.age, by simp only; omega, l2, l3⟩, ⟨hb.high.age, by simp only; omega, g2, g3⟩, hb.age, Int.le_refl _, hb.height, hb.girth⟩
  · have h1 : b.Low.Height ≤ n := h1
    have h2 : n ≤ b.High.Height := h2
    rw [alone_2 h1 h2]
    exact ⟨⟨hb.low.age, l1, by simp only; omega, l3⟩, ⟨hb.high.age, g1, by simp only; omega, g3⟩, hb.age, hb.shoots, Int.le_refl _, hb.girth⟩
  · have h1 : b.Low.Girth ≤ n := h1
    have h2 : n ≤ b.High.Girth := h2
    rw [alone_3 h1 h2]
    exact ⟨⟨hb.low.age, l1, l2, by simp only; omega⟩, ⟨hb.high.age, g1, g2, by simp only; omega⟩, hb.age, hb.shoots, hb.height, Int.le_refl _⟩
/-- With a greater number before, neither bound of the step is less. -/
theorem on_mono {s : XSpecies} (hs : FineS s) {b : XBox} (hb : OkB b) {q : XSeason} (hq : OkQ q) {k : Int} (hk : isK k) {n m : Int} (h1 : lowZ b k ≤ n) (hnm : n ≤ m) (h2 : m ≤ highZ b k) :
    lowZ (onZ s (aloneZ b k n) q) k ≤ lowZ (onZ s (aloneZ b k m) q) k ∧ highZ (onZ s (aloneZ b k n) q) k ≤ highZ (onZ s (aloneZ b k m) q) k := by
  have ha := hb.low.age; have ha2 := hb.high.age
  have l1 := hb.low.shoots; have g1 := hb.high.shoots
  rcases hk with rfl | rfl | rfl
  · have h1 : b.Low.Shoots ≤ n := h1
    have h2 : m ≤ b.High.Shoots := h2
    rw [alone_1 h1 (by omega), alone_1 (by omega) h2]
    exact ⟨crowd_le _ _ _ _ _ hnm (Int.le_refl _), crowd_le _ _ _ _ _ hnm (Int.le_refl _)⟩
  · have h1 : b.Low.Height ≤ n := h1
    have h2 : m ≤ b.High.Height := h2
    rw [alone_2 h1 (by omega), alone_2 (by omega) h2]
    exact ⟨height_le hs (poor_ok hq) (poor_ok hq) (Int.le_refl _) (Int.le_refl _) ha.1 hnm (Int.le_refl _), height_le hs (rich_ok hq) (rich_ok hq) (Int.le_refl _) (Int.le_refl _) ha2.1 hnm (Int.le_refl _)⟩
  · have h1 : b.Low.Girth ≤ n := h1
    have h2 : m ≤ b.High.Girth := h2
    rw [alone_3 h1 (by omega), alone_3 (by omega) h2]
    exact ⟨girth_le hs (poor_ok hq) (poor_ok hq) (Int.le_refl _) (Int.le_refl _) ha.1 hnm g1.1 (Int.le_refl _), girth_le hs (rich_ok hq) (rich_ok hq) (Int.le_refl _) (Int.le_refl _) ha2.1 hnm l1.1 (Int.le_refl _)⟩
theorem low_bd {b : XBox} (hb : OkB b) {k : Int} (hk : isK k) : 0 ≤ lowZ b k ∧ lowZ b k ≤ highZ b k ∧ highZ b k ≤ 40000 := by
  have l1 := hb.low.shoots; have l2 := hb.low.height; have l3 := hb.low.girth
  have g1 := hb.high.shoots; have g2 := hb.high.height; have g3 := hb.high.girth
  have o1 := hb.shoots; have o2 := hb.height; have o3 := hb.girth
  rcases hk with rfl | rfl | rfl
  · exact ⟨l1.1, o1, by show b.High.Shoots ≤ 40000; omega⟩
  · exact ⟨l2.1, o2, g2.2⟩
  · exact ⟨l3.1, o3, by show b.High.Girth ≤ 40000; omega⟩
/-- Whether a number of a kind stays. -/
noncomputable def staysZ (s : XSpecies) (b : XBox) (q : XSeason) (after : XBox) (k n : Int) : Prop := lowZ after k ≤ highZ (onZ s (aloneZ b k n) q) k ∧ lowZ (onZ s (aloneZ b k n) q) k ≤ highZ after k
theorem leading_val {fu : Nat} (hfu : 100 ≤ fu) {s : XSpecies} (hs : FineS s) {b : XBox} (hb : OkB b) {q : XSeason} (hq : OkQ q) (hc : q.Cut = false) {after : XBox} {k : Int} (hk : isK k) :
    ∃ t, growth_grower_leading fu ⟨s⟩ b q after k = some t ∧ lowZ b k ≤ t.Low ∧ t.High ≤ highZ b k ∧ ∀ n, lowZ b k ≤ n → n ≤ highZ b k → (staysZ s b q after k n ↔ t.Low ≤ n ∧ n ≤ t.High) := by
  have hbd := low_bd hb hk
  have hone : ∀ n, lowZ b k ≤ n → n ≤ highZ b k → growth_grower_leading_1 fu n b k ⟨s⟩ q = some (growth_spanOf (onZ s (aloneZ b k n) q) k) := by
    intro n h1 h2
    unfold growth_grower_leading_1
    have e : (⟨(growth_keep b k ⟨n, n⟩).1.Low, (growth_keep b k ⟨n, n⟩).1.High⟩ : XBox) = aloneZ b k n := rfl
    rw [e, step_val hs hfu (alone_ok hb hk h1 h2) hq, Option.bind_some]
    unfold stepZ
    rw [hc]
    rfl
  have hfk : ∃ f, fu = f + 1 + 20 := ⟨fu - 21, by omega⟩
  have hpow : highZ b k - lowZ b k + 1 < (2 : Int) ^ (fu - 1) := by
    obtain ⟨f, hf⟩ := hfk
    have e : fu - 1 = 20 + f := by omega
    rw [e, Int.pow_add]
    have h1 : (2 : Int) ^ 20 = 1048576 := by decide
    have h2 : (1 : Int) ≤ 2 ^ f := Int.pow_pos (by decide)
    rw [h1]
    have : (1048576 : Int) * 1 ≤ 1048576 * 2 ^ f := Int.mul_le_mul_of_nonneg_left h2 (by decide)
    omega
  have hfu1 : fu - 1 + 1 = fu := by omega
  obtain ⟨r, r1, r2, r3, r4⟩ := first_val (lo := lowZ b k) (hi := highZ b k) (by omega) (by omega) (fun n => growth_grower_leading_2 fu n b k ⟨s⟩ q (growth_spanOf after k)) (fun n => decide (highZ (onZ s (aloneZ b k n) q) k ≥ lowZ after k))
    (fun n h1 h2 => by unfold growth_grower_leading_2; rw [hone n h1 h2]; rfl)
    (fun n m h1 h2 h3 h4 => by have := (on_mono hs hb hq hk h1 h2 h3).2; have h4 := of_decide_eq_true h4; exact decide_eq_true (by omega))
    (fun fk v0 v1 => growth_first_L fu (lowZ b k) (highZ b k) b k ⟨s⟩ q (growth_spanOf after k) fk v0 v1) (fun fk v0 v1 => growth_first_L_s0 fu (lowZ b k) (highZ b k) b k ⟨s⟩ q (growth_spanOf after k) fk v0 v1)
    (fu - 1) (lowZ b k) (highZ b k) (Int.le_refl _) (Int.le_refl _) (by omega) hpow
  obtain ⟨u, u1, u2, u3, u4⟩ := first_val (lo := lowZ b k) (hi := highZ b k) (by omega) (by omega) (fun n => growth_grower_leading_3 fu n b k ⟨s⟩ q (growth_spanOf after k)) (fun n => decide (lowZ (onZ s (aloneZ b k n) q) k > highZ after k))
    (fun n h1 h2 => by unfold growth_grower_leading_3; rw [hone n h1 h2]; rfl)
    (fun n m h1 h2 h3 h4 => by have := (on_mono hs hb hq hk h1 h2 h3).1; have h4 := of_decide_eq_true h4; exact decide_eq_true (by omega))
    (fun fk v0 v1 => growth_first_1_L fu (lowZ b k) (highZ b k) b k ⟨s⟩ q (growth_spanOf after k) fk v0 v1) (fun fk v0 v1 => growth_first_1_L_s0 fu (lowZ b k) (highZ b k) b k ⟨s⟩ q (growth_spanOf after k) fk v0 v1)
    (fu - 1) (lowZ b k) (highZ b k) (Int.le_refl _) (Int.le_refl _) (by omega) hpow
  rw [hfu1] at r1 u1
  have q1 : growth_first fu (growth_spanOf b k).Low (growth_spanOf b k).High b k ⟨s⟩ q (growth_spanOf after k) = some r := r1
  have q2 : growth_first_1 fu (growth_spanOf b k).Low (growth_spanOf b k).High b k ⟨s⟩ q (growth_spanOf after k) = some u := u1
  refine ⟨⟨r, u - 1⟩, ?_, r2, by simp only; omega, fun n h1 h2 => ?_⟩
  · unfold growth_grower_leading
    rw [q1, Option.bind_some, q2, Option.bind_some, W_id (by omega) (by omega)]
  · have a1 := r4 n h1 h2
    have a2 := u4 n h1 h2
    simp only [decide_eq_true_eq] at a1 a2
    unfold staysZ
    simp only
    omega
/-- What is kept of the three numbers. -/
noncomputable def keptZ (b : XBox) (t1 t2 t3 : XSpan) : XBox := ⟨⟨b.Low.Age, imax b.Low.Shoots t1.Low, imax b.Low.Height t2.Low, imax b.Low.Girth t3.Low⟩, ⟨b.High.Age, imin b.High.Shoots t1.High, imin b.High.Height t2.High, imin b.High.Girth t3.High⟩⟩
def keepsZ (b : XBox) (t1 t2 t3 : XSpan) : Bool := decide (imax b.Low.Shoots t1.Low ≤ imin b.High.Shoots t1.High) && (decide (imax b.Low.Height t2.Low ≤ imin b.High.Height t2.High) && decide (imax b.Low.Girth t3.Low ≤ imin b.High.Girth t3.High))
theorem back_val {fu : Nat} (hfu : 100 ≤ fu) {s : XSpecies} (hs : FineS s) {b : XBox} (hb : OkB b) {q : XSeason} (hq : OkQ q) (hc : q.Cut = false) {after : XBox} :
    ∃ t1 t2 t3, growth_grower_leading fu ⟨s⟩ b q after 1 = some t1 ∧ growth_grower_leading fu ⟨s⟩ b q after 2 = some t2 ∧ growth_grower_leading fu ⟨s⟩ b q after 3 = some t3 ∧
      growth_grower_back fu ⟨s⟩ b q after = some (bif (stepZ s b q).Low.Age == after.Low.Age && keepsZ b t1 t2 t3 then (keptZ b t1 t2 t3, true) else (zXBox, false)) := by
  obtain ⟨t1, e1, _⟩ := leading_val hfu hs hb hq hc (after := after) (k := 1) (.inl rfl)
  obtain ⟨t2, e2, _⟩ := leading_val hfu hs hb hq hc (after := after) (k := 2) (.inr (.inl rfl))
  obtain ⟨t3, e3, _⟩ := leading_val hfu hs hb hq hc (after := after) (k := 3) (.inr (.inr rfl))
  refine ⟨t1, t2, t3, e1, e2, e3, ?_⟩
  unfold growth_grower_back keepsZ keptZ
  rw [step_val hs hfu hb hq, Option.bind_some, hc, cond_false]
  simp only [bne]
  cases hage : (stepZ s b q).Low.Age == after.Low.Age
  · rfl
  simp only [Bool.not_true, cond_false]
  rw [e1, Option.bind_some, e2, e3]
  simp only [Option.bind_some, keep_1, gt_not]
  cases decide (imax b.Low.Shoots t1.Low ≤ imin b.High.Shoots t1.High)
  · rfl
  simp only [Bool.not_true, cond_false, cond_true, keep_2, gt_not, Bool.true_and]
  cases decide (imax b.Low.Height t2.Low ≤ imin b.High.Height t2.High)
  · rfl
  simp only [Bool.not_true, cond_false, cond_true, keep_3, gt_not, Bool.true_and]
  cases decide (imax b.Low.Girth t3.Low ≤ imin b.High.Girth t3.High)
  · rfl
  · rfl
end Go.Proofs.G2
namespace Go.Proofs.G2
open Go Go.Sim Go.Proofs
set_option maxRecDepth 4000
/-! ### What the specification says of steps -/
theorem imin_comm (a b : Int) : imin a b = imin b a := by unfold imin; split <;> split <;> omega
theorem crowd_shoots (fu fu' : Nat) (s : XSpecies) (sh h : Int) (x : XStand) (w : XWeather) : ∀ (fk : Nat) (v i : Int), ref02_crowd_L fu s sh h fk v i = growth_grower_shoots_L fu' ⟨s⟩ x w fk v i h := by
  intro fk
  induction fk with
  | zero => intro v i; rfl
  | succ fk ih =>
    intro v i
    rw [ref02_crowd_L_s0, growth_grower_shoots_L_s0]
    simp only [ih]
theorem height_eq (s : XSpecies) (x : XStand) (w : XWeather) : ref02_height s x.Age x.Height w = growth_grower_height ⟨s⟩ x w := by
  have e : ref02_height s x.Age x.Height w = Option.bind (growth_atAge s.Rise x.Age) fun x1 => Option.bind (growth_grower_inWeather ⟨s⟩ x1 w) fun x2 =>
    bif decide (x.Height < s.Reach) then some (imin s.Top (W (x.Height + (W ((W (x2 * (W (100 - w.Browse)))).tdiv 100))))) else some (imin s.Top (W (x.Height + x2))) := rfl
  rw [e]
  unfold growth_grower_height
  simp only [imin_comm s.Top]
theorem girth_eq (s : XSpecies) (x : XStand) (w : XWeather) : ref02_girth s x.Age x.Shoots x.Girth w = growth_grower_girth ⟨s⟩ x w := by
  have e : ref02_girth s x.Age x.Shoots x.Girth w = Option.bind (growth_atAge s.Thick x.Age) fun x1 => Option.bind (growth_grower_inWeather ⟨s⟩ x1 w) fun x2 =>
    bif decide ((W (100 + x.Shoots)) ≠ 0) then some (imin s.Stout (W (x.Girth + (W ((W (x2 * 100)).tdiv (W (100 + x.Shoots))))))) else none := rfl
  rw [e]
  unfold growth_grower_girth
  simp only [imin_comm s.Stout]
section
variable {s : XSpecies} (hs : FineS s)
include hs
theorem crowd_val {fu : Nat} (hfu : 100 ≤ fu) (sh h : Int) : ref02_crowd fu s sh h = some (crowdZ s.Ladder sh h) := by
  unfold ref02_crowd
  rw [crowd_shoots fu fu s sh h ⟨0, 0, 0, 0⟩ ⟨0, 0, 0⟩ fu sh 0]
  have := shootsL_val hs fu ⟨0, 0, 0, 0⟩ ⟨0, 0, 0⟩ h fu 0 sh (by omega) (by have := hs.ladder; omega)
  rw [List.drop_zero] at this
  exact this
theorem refCut_val {age : Int} (ha : 0 ≤ age) : ref02_Cut s age = some (cutZ s age) := by
  have h := hs.sprouts
  unfold ref02_Cut
  rw [index_ok s.Sprouts.length age (by omega) (by omega) ha, W_id (by omega) (by omega)]
  rfl
theorem refStep_val {fu : Nat} (hfu : 100 ≤ fu) {b : XBox} (hb : OkB b) {q : XSeason} (hq : OkQ q) : ref02_Step fu s b q = some (stepZ s b q) := by
  have key : ∀ {c : XBox}, OkB c → (Option.bind (ref02_height s c.Low.Age c.Low.Height (⟨q.Light.Low, q.Browse.High, q.Mild.Low⟩ : XWeather)) fun x3 =>
      Option.bind (ref02_height s c.Low.Age c.High.Height (⟨q.Light.High, q.Browse.Low, q.Mild.High⟩ : XWeather)) fun x4 =>
      Option.bind (ref02_crowd fu s c.Low.Shoots x4) fun x5 =>
      Option.bind (ref02_girth s c.Low.Age c.High.Shoots c.Low.Girth (⟨q.Light.Low, q.Browse.High, q.Mild.Low⟩ : XWeather)) fun x6 =>
      Option.bind (ref02_crowd fu s c.High.Shoots x3) fun x7 =>
      Option.bind (ref02_girth s c.Low.Age c.Low.Shoots c.High.Girth (⟨q.Light.High, q.Browse.Low, q.Mild.High⟩ : XWeather)) fun x8 =>
      some (⟨(⟨imin 100000 (W (c.Low.Age + 1)), x5, x3, x6⟩ : XStand), (⟨imin 100000 (W (c.Low.Age + 1)), x7, x4, x8⟩ : XStand)⟩ : XBox)) = some (onZ s c q) := by
    intro c hc
    have hp := on_parts hc
    have ha := hc.low.age
    have age := hc.age
    have e1 := (height_eq s ⟨c.Low.Age, c.High.Shoots, c.Low.Height, c.Low.Girth⟩ (poor q)).trans (height_val hs (poor_ok hq) hp.1)
    have e2 := (height_eq s ⟨c.High.Age, c.Low.Shoots, c.High.Height, c.High.Girth⟩ (rich q)).trans (height_val hs (rich_ok hq) hp.2)
    have e3 := (girth_eq s ⟨c.Low.Age, c.High.Shoots, c.Low.Height, c.Low.Girth⟩ (poor q)).trans (girth_val hs (poor_ok hq) hp.1)
    have e4 := (girth_eq s ⟨c.High.Age, c.Low.Shoots, c.High.Height, c.High.Girth⟩ (rich q)).trans (girth_val hs (rich_ok hq) hp.2)
    simp only [poor, rich] at e1 e2 e3 e4
    rw [e1]
    simp only [Option.bind_some]
    rw [age, e2]
    simp only [Option.bind_some]
    rw [crowd_val hs hfu]
    simp only [Option.bind_some]
    rw [← age, e3]
    simp only [Option.bind_some]
    rw [crowd_val hs hfu]
    simp only [Option.bind_some]
    rw [age, e4]
    simp only [Option.bind_some]
    rw [W_id (by omega) (by omega), imin_comm]
    unfold onZ growZ
    simp only [poor, rich, age]
  unfold ref02_Step stepZ
  cases hc : q.Cut with
  | false => simp only [cond_false]; exact key hb
  | true =>
    simp only [cond_true]
    rw [refCut_val hs hb.low.age.1, Option.bind_some]
    exact key (cut_ok hs hb.low.age.1)
end
/-! ### What the specification says of samples -/
theorem Get_eq (b : XBox) (k : Int) : ref02_Get b k = growth_spanOf b k := rfl
noncomputable def narrowZ : List XSample → XBox → XBox × Bool
  | [], b => (b, true)
  | x :: l, b => bif decide (imax (growth_spanOf b x.Kind).Low x.Span.Low ≤ imin (growth_spanOf b x.Kind).High x.Span.High) then narrowZ l (ref02_Set b x.Kind ⟨imax (growth_spanOf b x.Kind).Low x.Span.Low, imin (growth_spanOf b x.Kind).High x.Span.High⟩) else (zXBox, false)
noncomputable def narL (fu : Nat) (b0 : XBox) (l : List XSample) (fk : Nat) (v : Bool) (i : Int) (b : XBox) : Option (XBox × Bool) := ref02_Narrow_L fu b0 l fk v i b.Low.Age b.Low.Shoots b.Low.Height b.Low.Girth b.High.Age b.High.Shoots b.High.Height b.High.Girth
theorem narL_s (fu : Nat) (b0 : XBox) (l : List XSample) (fk : Nat) (v : Bool) (i : Int) (b : XBox) : narL fu b0 l (fk + 1) v i b = bif decide (i < ((l.length : Nat) : Int)) then (bif decide (0 ≤ i ∧ i < ((l.length : Nat) : Int)) then (bif decide (imax (growth_spanOf b (at_ zXSample l i).Kind).Low (at_ zXSample l i).Span.Low ≤ imin (growth_spanOf b (at_ zXSample l i).Kind).High (at_ zXSample l i).Span.High) then narL fu b0 l fk v (W (i + 1)) (ref02_Set b (at_ zXSample l i).Kind ⟨imax (growth_spanOf b (at_ zXSample l i).Kind).Low (at_ zXSample l i).Span.Low, imin (growth_spanOf b (at_ zXSample l i).Kind).High (at_ zXSample l i).Span.High⟩)
    else some (zXBox, false)) else none) else some (b, true) := by
  have e : ∀ (x y : Int) (t u : Option (XBox × Bool)), (bif decide (x > y) then t else u) = (bif decide (x ≤ y) then u else t) := by
    intro x y t u
    rw [gt_not]
    cases decide (x ≤ y) <;> rfl
  unfold narL
  rw [ref02_Narrow_L_s0]
  simp only [e]
  rfl
theorem narL_val (fu : Nat) (b0 : XBox) (l : List XSample) (hl : l.length ≤ 1000) (v : Bool) : ∀ (fk i : Nat) (b : XBox), i ≤ l.length → l.length - i < fk → narL fu b0 l fk v (i : Int) b = some (narrowZ (l.drop i) b) := by
  intro fk
  induction fk with
  | zero => intro i b _ h; omega
  | succ fk ih =>
    intro i b hi hf
    rw [narL_s]
    by_cases hlt : i < l.length
    · have d1 : decide ((i : Int) < ((l.length : Nat) : Int)) = true := by simp; omega
      have d2 : decide (0 ≤ (i : Int) ∧ (i : Int) < ((l.length : Nat) : Int)) = true := by simp; omega
      have hw : W ((i : Int) + 1) = ((i + 1 : Nat) : Int) := by rw [W_id (by omega) (by omega)]; push_cast; rfl
      rw [d1, d2, cond_true, cond_true, at_get zXSample l i hlt, hw, ih (i + 1) _ (by omega) (by omega), List.drop_eq_getElem_cons hlt]
      have e : ∀ (c : Bool) (u v : XBox × Bool), (bif c then some u else some v) = some (bif c then u else v) := fun c u v => by cases c <;> rfl
      exact e _ _ _
    · have d1 : decide ((i : Int) < ((l.length : Nat) : Int)) = false := by simp; omega
      rw [d1, cond_false, List.drop_of_length_le (by omega)]
      rfl
theorem refNarrow_val {fu : Nat} (b : XBox) (l : List XSample) (hl : l.length ≤ 1000) (hfu : l.length < fu) : ref02_Narrow fu b l = some (narrowZ l b) := by
  have := narL_val fu b l hl false fu 0 b (by omega) (by omega)
  rw [List.drop_zero] at this
  exact this
theorem refMeet_val {fu : Nat} (hfu : 100 ≤ fu) (a b : XBox) : ref02_Meet fu a b = some (bif meetsZ a b then (meetZ a b, true) else (zXBox, false)) := by
  unfold ref02_Meet
  simp only [bne]
  unfold meetsZ meetZ
  cases a.Low.Age == b.Low.Age
  · rfl
  simp only [Bool.not_true, cond_false, Bool.true_and]
  rw [refNarrow_val a _ (by simp) (by simp; omega), Option.bind_some]
  have e : ∀ (x y : XBox × Bool), x = y → some (x.1, x.2) = some y := fun x y h => by rw [h]
  refine e _ _ ?_
  let x2 : XSample := ⟨2, ref02_Get b 2⟩
  let x3 : XSample := ⟨3, ref02_Get b 3⟩
  have c1 : narrowZ [⟨1, ref02_Get b 1⟩, x2, x3] a = bif decide (imax a.Low.Shoots b.Low.Shoots ≤ imin a.High.Shoots b.High.Shoots) then narrowZ [x2, x3] (ref02_Set a 1 ⟨imax a.Low.Shoots b.Low.Shoots, imin a.High.Shoots b.High.Shoots⟩) else (zXBox, false) := rfl
  have c2 : ∀ t, narrowZ [x2, x3] (ref02_Set a 1 t) = bif decide (imax a.Low.Height b.Low.Height ≤ imin a.High.Height b.High.Height) then narrowZ [x3] (ref02_Set (ref02_Set a 1 t) 2 ⟨imax a.Low.Height b.Low.Height, imin a.High.Height b.High.Height⟩) else (zXBox, false) := fun t => rfl
  have c3 : ∀ t u, narrowZ [x3] (ref02_Set (ref02_Set a 1 t) 2 u) = bif decide (imax a.Low.Girth b.Low.Girth ≤ imin a.High.Girth b.High.Girth) then (ref02_Set (ref02_Set (ref02_Set a 1 t) 2 u) 3 ⟨imax a.Low.Girth b.Low.Girth, imin a.High.Girth b.High.Girth⟩, true) else (zXBox, false) := fun t u => rfl
  rw [c1, c2, c3]
  cases decide (imax a.Low.Shoots b.Low.Shoots ≤ imin a.High.Shoots b.High.Shoots)
  · rfl
  cases decide (imax a.Low.Height b.Low.Height ≤ imin a.High.Height b.High.Height)
  · rfl
  cases decide (imax a.Low.Girth b.Low.Girth ≤ imin a.High.Girth b.High.Girth)
  · rfl
  · rfl
end Go.Proofs.G2
namespace Go.Proofs.G2
open Go Go.Sim Go.Proofs
set_option maxRecDepth 4000
theorem known_much : law02_known 90000 = some true := by kernel_rfl
theorem set_alone {b : XBox} {k : Int} (hk : isK k) {n : Int} (h1 : lowZ b k ≤ n) (h2 : n ≤ highZ b k) : ref02_Set b k ⟨n, n⟩ = aloneZ b k n := by
  rcases hk with rfl | rfl | rfl
  · have h1 : b.Low.Shoots ≤ n := h1
    have h2 : n ≤ b.High.Shoots := h2
    rw [alone_1 h1 h2]; rfl
  · have h1 : b.Low.Height ≤ n := h1
    have h2 : n ≤ b.High.Height := h2
    rw [alone_2 h1 h2]; rfl
  · have h1 : b.Low.Girth ≤ n := h1
    have h2 : n ≤ b.High.Girth := h2
    rw [alone_3 h1 h2]; rfl
theorem alone_age {b : XBox} {k : Int} (hk : isK k) {n : Int} (h1 : lowZ b k ≤ n) (h2 : n ≤ highZ b k) : (aloneZ b k n).Low.Age = b.Low.Age := by
  rcases hk with rfl | rfl | rfl
  · have h1 : b.Low.Shoots ≤ n := h1
    have h2 : n ≤ b.High.Shoots := h2
    rw [alone_1 h1 h2]
  · have h1 : b.Low.Height ≤ n := h1
    have h2 : n ≤ b.High.Height := h2
    rw [alone_2 h1 h2]
  · have h1 : b.Low.Girth ≤ n := h1
    have h2 : n ≤ b.High.Girth := h2
    rw [alone_3 h1 h2]
/-- A scan from below, then one from above. -/
theorem scan_val {lo hi : Int} (hlo : 0 ≤ lo) (hhi : hi ≤ 40000) (hle : lo ≤ hi) (ask : Int → Option Bool) (p : Int → Bool) (hask : ∀ n, lo ≤ n → n ≤ hi → ask n = some (p n)) (g1 : Nat → Int → Option (XSpan × Bool)) (g2 : Nat → Int → Int → Option (XSpan × Bool))
    (e1 : ∀ fk m, g1 (fk + 1) m = bif decide (m ≤ hi) then (Option.bind (ask m) fun y => bif y then g2 fk m hi else g1 fk (W (m + 1))) else g2 fk m hi)
    (e2 : ∀ fk m v, g2 (fk + 1) m v = bif decide (m ≤ v) then (Option.bind (ask v) fun y => bif y then some ((⟨m, v⟩ : XSpan), decide (m ≤ v)) else g2 fk m (W (v - 1))) else some ((⟨m, v⟩ : XSpan), decide (m ≤ v)))
    (a b : Int) (ha : lo ≤ a) (hb : b ≤ hi) (hp : ∀ n, lo ≤ n → n ≤ hi → (p n = true ↔ a ≤ n ∧ n ≤ b)) (fu : Nat) (hfu : 90000 ≤ fu) :
    g1 fu lo = some (bif decide (a ≤ b) then (⟨a, b⟩, true) else (⟨hi + 1, hi⟩, false)) := by
  -- from above
  have up : ∀ (fk : Nat) (m v : Int), lo ≤ m → v ≤ hi → m = a → a ≤ b → b ≤ v → v - b < fk → g2 fk m v = some (⟨a, b⟩, true) := by
    intro fk
    induction fk with
    | zero => intro m v _ _ _ _ _ h; omega
    | succ fk ih =>
      intro m v h1 h2 h3 h4 h5 h6
      subst h3
      rw [e2, show decide (m ≤ v) = true from decide_eq_true (by omega), cond_true, hask v (by omega) h2, Option.bind_some]
      cases hpv : p v with
      | true =>
        have := (hp v (by omega) h2).1 hpv
        have : v = b := by omega
        subst this
        rfl
      | false =>
        have hne : v ≠ b := by
          intro e
          have := (hp v (by omega) h2).2 ⟨by omega, by omega⟩
          rw [hpv] at this
          cases this
        rw [cond_false, W_id (by omega) (by omega)]
        exact ih m (v - 1) h1 (by omega) rfl h4 (by omega) (by omega)
  have down : ∀ (fk : Nat) (m : Int), lo ≤ m → m ≤ hi + 1 → (a ≤ b → m ≤ a) → (∀ n, lo ≤ n → n < m → p n = false) → (hi + 1 - m) + (hi - lo) + 2 < fk → g1 fk m = some (bif decide (a ≤ b) then (⟨a, b⟩, true) else (⟨hi + 1, hi⟩, false)) := by
    intro fk
    induction fk with
    | zero => intro m _ _ _ _ h; omega
    | succ fk ih =>
      intro m h1 h2 h3 h4 h5
      rw [e1]
      by_cases hm : m ≤ hi
      · rw [decide_eq_true hm, cond_true, hask m h1 hm, Option.bind_some]
        cases hpm : p m with
        | true =>
          have := (hp m h1 hm).1 hpm
          have hab : a ≤ b := by omega
          have := h3 hab
          rw [cond_true, decide_eq_true hab, cond_true]
          exact up fk m hi h1 (Int.le_refl _) (by omega) hab hb (by omega)
        | false =>
          rw [cond_false, W_id (by omega) (by omega)]
          refine ih (m + 1) (by omega) (by omega) (fun hab => ?_) (fun n a1 a2 => ?_) (by omega)
          · have h6 := h3 hab
            have : m ≠ a := by
              intro e
              have := (hp m h1 hm).2 ⟨by omega, by omega⟩
              rw [hpm] at this
              cases this
            omega
          · by_cases e : n = m
            · rw [e]; exact hpm
            · exact h4 n a1 (by omega)
      · have hm2 : m = hi + 1 := by omega
        have hab : ¬ a ≤ b := by
          intro hab
          have := h3 hab
          have h7 := (hp a (by omega) (by omega)).2 ⟨Int.le_refl _, hab⟩
          rw [h4 a ha (by omega)] at h7
          cases h7
        rw [decide_eq_false hm, cond_false, decide_eq_false hab, cond_false]
        cases fk with
        | zero => omega
        | succ fk =>
          rw [e2, show decide (m ≤ hi) = false from decide_eq_false hm, cond_false, hm2]
  refine down fu lo (Int.le_refl _) (by omega) (fun _ => ha) (fun n h1 h2 => by omega) (by omega)
theorem stays_val {fu : Nat} (hfu : 100 ≤ fu) {s : XSpecies} (hs : FineS s) {b : XBox} (hb : OkB b) {q : XSeason} (hq : OkQ q) (hc : q.Cut = false) {after : XBox} (ha : OkB after) {k : Int} (hk : isK k) {n : Int} (h1 : lowZ b k ≤ n) (h2 : n ≤ highZ b k) :
    ∃ p, ref02_stays fu s b q after k n = some p ∧ (p = true ↔ (stepZ s b q).Low.Age = after.Low.Age ∧ staysZ s b q after k n) := by
  have hal := alone_ok hb hk h1 h2
  have hon := on_ok hs hal hq
  have e0 : stepZ s (aloneZ b k n) q = onZ s (aloneZ b k n) q := by unfold stepZ; rw [hc]; rfl
  have eage : (onZ s (aloneZ b k n) q).Low.Age = (stepZ s b q).Low.Age := by
    have := alone_age hk h1 h2
    unfold stepZ onZ growZ
    rw [hc]
    simp only [cond_false, this]
  have l1 := low_bd hon hk
  have l2 := low_bd ha hk
  unfold ref02_stays
  have e1 : (⟨(ref02_Set b k ⟨n, n⟩).Low, (ref02_Set b k ⟨n, n⟩).High⟩ : XBox) = aloneZ b k n := set_alone hk h1 h2
  rw [e1, refStep_val hs hfu hal hq, Option.bind_some, e0, eage]
  cases hage : (stepZ s b q).Low.Age == after.Low.Age with
  | false =>
    refine ⟨false, rfl, ⟨fun h => (by cases h), fun h => ?_⟩⟩
    rw [beq_eq_false_iff_ne] at hage
    exact absurd h.1 hage
  | true =>
    refine ⟨_, rfl, ?_⟩
    rw [beq_iff_eq] at hage
    have m1 := imax_le (lowZ (onZ s (aloneZ b k n) q) k) (lowZ after k)
    have m2 := imin_le (highZ (onZ s (aloneZ b k n) q) k) (highZ after k)
    rw [decide_eq_true_eq, Get_eq, Get_eq]
    unfold staysZ
    have e2 : (growth_spanOf (onZ s (aloneZ b k n) q) k).Low = lowZ (onZ s (aloneZ b k n) q) k := rfl
    have e3 : (growth_spanOf (onZ s (aloneZ b k n) q) k).High = highZ (onZ s (aloneZ b k n) q) k := rfl
    have e4 : (growth_spanOf after k).Low = lowZ after k := rfl
    have e5 : (growth_spanOf after k).High = highZ after k := rfl
    rw [e2, e3, e4, e5]
    constructor
    · intro h; exact ⟨hage, by omega, by omega⟩
    · rintro ⟨_, h3, h4⟩; omega
theorem left_val {fu : Nat} (hfu : 90000 ≤ fu) {s : XSpecies} (hs : FineS s) {b : XBox} (hb : OkB b) {q : XSeason} (hq : OkQ q) (hc : q.Cut = false) {after : XBox} (ha : OkB after) {k : Int} (hk : isK k) {t : XSpan} (ht1 : lowZ b k ≤ t.Low) (ht2 : t.High ≤ highZ b k)
    (ht : ∀ n, lowZ b k ≤ n → n ≤ highZ b k → (staysZ s b q after k n ↔ t.Low ≤ n ∧ n ≤ t.High)) :
    ∃ u, ref02_left fu s b q after k = some u ∧ u.2 = ((stepZ s b q).Low.Age == after.Low.Age && decide (t.Low ≤ t.High)) ∧ (u.2 = true → u.1 = t) := by
  have hbd := low_bd hb hk
  let p : Int → Bool := fun n => (ref02_stays fu s b q after k n).getD false
  have hask : ∀ n, lowZ b k ≤ n → n ≤ highZ b k → ref02_stays fu s b q after k n = some (p n) := by
    intro n h1 h2
    obtain ⟨x, hx, _⟩ := stays_val (fu := fu) (by omega) hs hb hq hc ha hk h1 h2
    show _ = some ((ref02_stays fu s b q after k n).getD false)
    rw [hx]; rfl
  have hpv : ∀ n, lowZ b k ≤ n → n ≤ highZ b k → (p n = true ↔ (stepZ s b q).Low.Age = after.Low.Age ∧ staysZ s b q after k n) := by
    intro n h1 h2
    obtain ⟨x, hx, hx2⟩ := stays_val (fu := fu) (by omega) hs hb hq hc ha hk h1 h2
    have : p n = x := by show (ref02_stays fu s b q after k n).getD false = x; rw [hx]; rfl
    rw [this]
    exact hx2
  have go : ∀ (a c : Int), lowZ b k ≤ a → c ≤ highZ b k → (∀ n, lowZ b k ≤ n → n ≤ highZ b k → (p n = true ↔ a ≤ n ∧ n ≤ c)) → ref02_left fu s b q after k = some (bif decide (a ≤ c) then (⟨a, c⟩, true) else (⟨highZ b k + 1, highZ b k⟩, false)) := by
    intro a c h1 h2 h3
    exact scan_val hbd.1 hbd.2.2 hbd.2.1 (fun n => ref02_stays fu s b q after k n) p hask (fun fk m => (ref02_left_L fu s b q after k fk).1 m) (fun fk m v => (ref02_left_L fu s b q after k fk).2 m v)
      (fun fk m => ref02_left_L_s0 fu s b q after k fk m) (fun fk m v => ref02_left_L_s1 fu s b q after k fk m v) a c h1 h2 h3 fu hfu
  cases hage : (stepZ s b q).Low.Age == after.Low.Age with
  | false =>
    rw [beq_eq_false_iff_ne] at hage
    have := go (highZ b k + 1) (highZ b k) (by omega) (Int.le_refl _) (fun n h1 h2 => by
      rw [hpv n h1 h2]
      exact ⟨fun h => absurd h.1 hage, fun h => by omega⟩)
    rw [show decide (highZ b k + 1 ≤ highZ b k) = false by simp; omega, cond_false] at this
    exact ⟨_, this, rfl, fun h => by cases h⟩
  | true =>
    rw [beq_iff_eq] at hage
    have := go t.Low t.High ht1 ht2 (fun n h1 h2 => by
      rw [hpv n h1 h2, ← ht n h1 h2]
      exact ⟨fun h => h.2, fun h => ⟨hage, h⟩⟩)
    refine ⟨_, this, ?_, ?_⟩
    · cases decide (t.Low ≤ t.High) <;> rfl
    · cases decide (t.Low ≤ t.High)
      · intro h; cases h
      · intro _; rfl
theorem box_eq_self (b : XBox) : (((b.Low.Age == b.Low.Age) && ((b.Low.Shoots == b.Low.Shoots) && ((b.Low.Height == b.Low.Height) && ((b.Low.Girth == b.Low.Girth) && true)))) && (((b.High.Age == b.High.Age) && ((b.High.Shoots == b.High.Shoots) && ((b.High.Height == b.High.Height) && ((b.High.Girth == b.High.Girth) && true)))) && true)) = true := by simp
theorem backs_core (fu : Nat) (hfu : 90000 ≤ fu) (hk : law02_known fu = some true) (s : XSpecies) (b : XBox) (q : XSeason) (after : XBox) : law02_GrowthBacks fu s b q after = some true := by
  unfold law02_GrowthBacks
  rw [hk]
  simp only [Option.bind_some]
  rcases Bool.eq_false_or_eq_true (law02_short s) with hs | hs
  rotate_left
  · rw [hs]; rfl
  obtain ⟨B, e1, e2, e3⟩ := species_cases fu s hs (by omega)
  rw [hs, e1]
  simp only [cond_true, Option.bind_some]
  have hbad : ∀ (c1 c2 c3 c4 : Bool), c1 = growth_boxIsDefined b → c2 = ref02_Season q → c3 = growth_boxIsDefined after → (B && (c1 && (c2 && c3))) = false → growth_Back fu s b q after = some (zXBox, 2) := by
    intro c1 c2 c3 _ h1 h2 h3 hf
    unfold growth_Back
    rw [e2, Option.bind_some, season_eq, ← h1, ← h2, ← h3]
    cases B <;> cases c1 <;> cases c2 <;> cases c3 <;> first | rfl | cases hf
  cases B
  · rw [hbad _ _ _ true rfl rfl rfl rfl]; rfl
  have hg := e3 rfl
  have ebx : ∀ x : XBox, ref02_Box x = growth_boxIsDefined x := fun x => rfl
  rcases Bool.eq_false_or_eq_true (ref02_Box b) with hb | hb
  rotate_left
  · rw [hbad false _ _ true (by rw [← ebx, hb]) rfl rfl rfl, hb]; rfl
  rcases Bool.eq_false_or_eq_true (ref02_Season q) with hq | hq
  rotate_left
  · rw [hbad true false _ true (by rw [← ebx, hb]) hq.symm rfl rfl, hb, hq]; rfl
  rcases Bool.eq_false_or_eq_true (ref02_Box after) with ha | ha
  rotate_left
  · rw [hbad true true false true (by rw [← ebx, hb]) hq.symm (by rw [← ebx, ha]) rfl, hb, hq, ha]; rfl
  have kb : OkB b := (okb_iff b).1 hb
  have kq : OkQ q := (okq_iff q).1 hq
  have ka : OkB after := (okb_iff after).1 ha
  have hback : growth_Back fu s b q after = Option.bind (growth_grower_back fu (⟨s⟩ : Xgrower) b q after) fun x6 => some ((growth_orNone x6.1 x6.2).1, (growth_orNone x6.1 x6.2).2) := by
    unfold growth_Back
    rw [e2, Option.bind_some, (okb_iff b).2 kb, season_eq, (okq_iff q).2 kq, (okb_iff after).2 ka]
    rfl
  rw [hback, hb, hq, ha]
  simp only [cond_true]
  cases hc : q.Cut with
  | true =>
    have e4 : growth_grower_back fu ⟨s⟩ b q after = some (b, (growth_common (stepZ s b q) after).2) := by
      unfold growth_grower_back
      rw [step_val hg (by omega) kb kq, hc]
      rfl
    have e5 : ref02_Back fu s b q after = some (bif meetsZ (stepZ s b q) after then (b, true) else (zXBox, false)) := by
      unfold ref02_Back
      rw [hc, cond_true, refStep_val hg (by omega) kb kq, Option.bind_some, refMeet_val (by omega), Option.bind_some]
      cases meetsZ (stepZ s b q) after <;> rfl
    rw [e4, e5, common_val]
    cases meetsZ (stepZ s b q) after
    · rfl
    · simp only [cond_true, Option.bind_some, growth_orNone, box_eq_self]
      rfl
  | false =>
    obtain ⟨t1, t2, t3, l1, l2, l3, e4⟩ := back_val (fu := fu) (by omega) hg kb kq hc (after := after)
    obtain ⟨u1, p1, r1, w1, z1⟩ := leading_val (fu := fu) (by omega) hg kb kq hc (after := after) (k := 1) (.inl rfl)
    obtain ⟨u2, p2, r2, w2, z2⟩ := leading_val (fu := fu) (by omega) hg kb kq hc (after := after) (k := 2) (.inr (.inl rfl))
    obtain ⟨u3, p3, r3, w3, z3⟩ := leading_val (fu := fu) (by omega) hg kb kq hc (after := after) (k := 3) (.inr (.inr rfl))
    rw [l1] at p1; rw [l2] at p2; rw [l3] at p3
    cases p1; cases p2; cases p3
    obtain ⟨⟨v1, b1⟩, f1, g1, h1⟩ := left_val hfu hg kb kq hc ka (k := 1) (.inl rfl) r1 w1 z1
    obtain ⟨⟨v2, b2⟩, f2, g2, h2⟩ := left_val hfu hg kb kq hc ka (k := 2) (.inr (.inl rfl)) r2 w2 z2
    obtain ⟨⟨v3, b3⟩, f3, g3, h3⟩ := left_val hfu hg kb kq hc ka (k := 3) (.inr (.inr rfl)) r3 w3 z3
    simp only at g1 g2 g3 h1 h2 h3
    have y1 : imax b.Low.Shoots t1.Low = t1.Low := by have := imax_le b.Low.Shoots t1.Low; have : b.Low.Shoots ≤ t1.Low := r1; omega
    have y2 : imax b.Low.Height t2.Low = t2.Low := by have := imax_le b.Low.Height t2.Low; have : b.Low.Height ≤ t2.Low := r2; omega
    have y3 : imax b.Low.Girth t3.Low = t3.Low := by have := imax_le b.Low.Girth t3.Low; have : b.Low.Girth ≤ t3.Low := r3; omega
    have x1 : imin b.High.Shoots t1.High = t1.High := by have := imin_le b.High.Shoots t1.High; have : t1.High ≤ b.High.Shoots := w1; omega
    have x2 : imin b.High.Height t2.High = t2.High := by have := imin_le b.High.Height t2.High; have : t2.High ≤ b.High.Height := w2; omega
    have x3 : imin b.High.Girth t3.High = t3.High := by have := imin_le b.High.Girth t3.High; have : t3.High ≤ b.High.Girth := w3; omega
    have ekeep : keepsZ b t1 t2 t3 = (decide (t1.Low ≤ t1.High) && (decide (t2.Low ≤ t2.High) && decide (t3.Low ≤ t3.High))) := by unfold keepsZ; rw [y1, y2, y3, x1, x2, x3]
    have eback : ref02_Back fu s b q after = some (bif b1 && (b2 && b3) then (ref02_Set (ref02_Set (ref02_Set b 1 v1) 2 v2) 3 v3, true) else (zXBox, false)) := by
      unfold ref02_Back
      rw [hc, cond_false, f1, f2, f3]
      cases b1 <;> cases b2 <;> cases b3 <;> rfl
    have ecode : ((stepZ s b q).Low.Age == after.Low.Age && keepsZ b t1 t2 t3) = (b1 && (b2 && b3)) := by
      rw [ekeep, g1, g2, g3]
      cases (stepZ s b q).Low.Age == after.Low.Age <;> cases decide (t1.Low ≤ t1.High) <;> cases decide (t2.Low ≤ t2.High) <;> rfl
    rw [e4, eback, ecode]
    cases b1
    · rfl
    cases b2
    · rfl
    cases b3
    · rfl
    rw [h1 rfl, h2 rfl, h3 rfl]
    have ebox : keptZ b t1 t2 t3 = ref02_Set (ref02_Set (ref02_Set b 1 t1) 2 t2) 3 t3 := by unfold keptZ; rw [y1, y2, y3, x1, x2, x3]; rfl
    rw [ebox]
    simp only [Bool.true_and, cond_true, Option.bind_some, growth_orNone, box_eq_self]
    rfl
theorem backs_true (s : XSpecies) (b : XBox) (q : XSeason) (after : XBox) : ∃ fu, law02_GrowthBacks fu s b q after = some true := ⟨90000, backs_core 90000 (by omega) known_much s b q after⟩
end Go.Proofs.G2
