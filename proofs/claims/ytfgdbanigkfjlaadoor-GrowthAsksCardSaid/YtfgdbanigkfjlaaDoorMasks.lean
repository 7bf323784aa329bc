/- The law of asking on plain functions: it says true for each input. No conditions. -/
import Derived.Test.YtfgdbanigkfjlaaDoorM
namespace Go.Proofs.G2
open Go Go.Sim Go.Proofs
set_option maxRecDepth 4000
theorem known_more : law02_known 50000 = some true := by kernel_rfl
theorem prod_bound {a b A B : Int} (h1 : 0 ≤ a) (h2 : 0 ≤ b) (h3 : a ≤ A) (h4 : b ≤ B) : 0 ≤ a * b ∧ a * b ≤ A * B := ⟨Int.mul_nonneg h1 h2, Int.mul_le_mul h3 h4 h2 (by omega)⟩
/-- The wood of a stand that is as defined: no wrap. -/
structure Stands (x : XStand) : Prop where
  s : 0 ≤ x.Shoots ∧ x.Shoots ≤ 300
  h : 0 ≤ x.Height ∧ x.Height ≤ 40000
  g : 0 ≤ x.Girth ∧ x.Girth ≤ 3000
theorem wood_id (x : XStand) (hx : Stands x) : growth_wood x = (x.Shoots * x.Height * x.Girth * x.Girth) / 25000000 ∧ 0 ≤ x.Shoots * x.Height * x.Girth * x.Girth ∧ x.Shoots * x.Height * x.Girth * x.Girth ≤ 108000000000000 := by
  obtain ⟨a1, a2⟩ := prod_bound hx.s.1 hx.h.1 hx.s.2 hx.h.2
  obtain ⟨b1, b2⟩ := prod_bound a1 hx.g.1 a2 hx.g.2
  obtain ⟨c1, c2⟩ := prod_bound b1 hx.g.1 b2 hx.g.2
  have c2 : x.Shoots * x.Height * x.Girth * x.Girth ≤ 108000000000000 := by omega
  refine ⟨?_, c1, c2⟩
  unfold growth_wood
  rw [W_id (n := x.Shoots * x.Height) (by omega) (by omega), W_id (n := x.Shoots * x.Height * x.Girth) (by omega) (by omega), W_id (n := x.Shoots * x.Height * x.Girth * x.Girth) (by omega) (by omega), Int.tdiv_eq_ediv_of_nonneg c1]
  exact W_id (by omega) (by omega)
theorem wood_le (x y : XStand) (hx : Stands x) (hy : Stands y) (h1 : x.Shoots ≤ y.Shoots) (h2 : x.Height ≤ y.Height) (h3 : x.Girth ≤ y.Girth) : 0 ≤ growth_wood x ∧ growth_wood x ≤ growth_wood y ∧ growth_wood y ≤ 108000000000000 := by
  obtain ⟨e1, p1, q1⟩ := wood_id x hx
  obtain ⟨e2, p2, q2⟩ := wood_id y hy
  obtain ⟨a1, a2⟩ := prod_bound hx.s.1 hx.h.1 h1 h2
  obtain ⟨b1, b2⟩ := prod_bound a1 hx.g.1 a2 h3
  obtain ⟨c1, c2⟩ := prod_bound b1 hx.g.1 b2 h3
  rw [e1, e2]
  omega
theorem stands_of (x : XStand) (h : growth_standIsDefined x = true) : Stands x := by
  have := (stand_iff x).1 h
  exact ⟨this.2.1, this.2.2.1, this.2.2.2⟩
/-- What a box holds between two numbers of a kind. -/
def setK (b : XBox) (k : Int) (lo hi : Int) : XBox :=
  bif k == 1 then ⟨⟨b.Low.Age, lo, b.Low.Height, b.Low.Girth⟩, ⟨b.High.Age, hi, b.High.Height, b.High.Girth⟩⟩
  else bif k == 2 then ⟨⟨b.Low.Age, b.Low.Shoots, lo, b.Low.Girth⟩, ⟨b.High.Age, b.High.Shoots, hi, b.High.Girth⟩⟩
  else ⟨⟨b.Low.Age, b.Low.Shoots, b.Low.Height, lo⟩, ⟨b.High.Age, b.High.Shoots, b.High.Height, hi⟩⟩
theorem set_eq (b : XBox) (k : Int) (s : XSpan) : ref02_Set b k s = setK b k s.Low s.High := rfl
theorem get_eq (b : XBox) (k : Int) : ref02_Get b k = growth_spanOf b k := rfl
theorem keep_eq (b : XBox) (k : Int) (s : XSpan) (h : imax (growth_spanOf b k).Low s.Low ≤ imin (growth_spanOf b k).High s.High) : (growth_keep b k s).1 = setK b k (imax (growth_spanOf b k).Low s.Low) (imin (growth_spanOf b k).High s.High) := by
  unfold growth_keep setK growth_spanOf at *
  cases h1 : k == 1
  · cases h2 : k == 2
    · simp only [h1, h2, cond_false] at h ⊢
      have : ¬ (imax b.Low.Girth s.Low > imin b.High.Girth s.High) := by omega
      simp [this]
    · simp only [h1, h2, cond_false, cond_true] at h ⊢
      have : ¬ (imax b.Low.Height s.Low > imin b.High.Height s.High) := by omega
      simp [this]
  · simp only [h1, cond_true] at h ⊢
    have : ¬ (imax b.Low.Shoots s.Low > imin b.High.Shoots s.High) := by omega
    simp [this]
theorem le_imax (a b : Int) : a ≤ imax a b := by unfold imax; split <;> omega
theorem imax_le {a b B : Int} (h1 : a ≤ B) (h2 : b ≤ B) : imax a b ≤ B := by unfold imax; split <;> omega
structure Box (b : XBox) : Prop where
  low : Stands b.Low
  high : Stands b.High
  s : b.Low.Shoots ≤ b.High.Shoots
  h : b.Low.Height ≤ b.High.Height
  g : b.Low.Girth ≤ b.High.Girth
theorem span_box (b : XBox) (hb : Box b) (k : Int) : 0 ≤ (growth_spanOf b k).Low ∧ (growth_spanOf b k).Low ≤ (growth_spanOf b k).High ∧ (growth_spanOf b k).High ≤ 40000 := by
  unfold growth_spanOf
  have := hb.low.s; have := hb.low.h; have := hb.low.g
  have := hb.high.s; have := hb.high.h; have := hb.high.g
  have := hb.s; have := hb.h; have := hb.g
  cases k == 1
  · cases k == 2
    · simp only [cond_false]; omega
    · simp only [cond_false, cond_true]; omega
  · simp only [cond_true]; omega
theorem set_wood (b : XBox) (hb : Box b) (k lo hi : Int) (h1 : (growth_spanOf b k).Low ≤ lo) (h2 : lo ≤ hi) (h3 : hi ≤ (growth_spanOf b k).High) :
    growth_wood b.Low ≤ growth_wood (setK b k lo hi).Low ∧ growth_wood (setK b k lo hi).Low ≤ growth_wood (setK b k lo hi).High ∧ growth_wood (setK b k lo hi).High ≤ growth_wood b.High := by
  have l1 := hb.low.s; have l2 := hb.low.h; have l3 := hb.low.g
  have u1 := hb.high.s; have u2 := hb.high.h; have u3 := hb.high.g
  have b1 := hb.s; have b2 := hb.h; have b3 := hb.g
  unfold growth_spanOf at h1 h3
  have hlow : Stands (setK b k lo hi).Low ∧ Stands (setK b k lo hi).High ∧ b.Low.Shoots ≤ (setK b k lo hi).Low.Shoots ∧ b.Low.Height ≤ (setK b k lo hi).Low.Height ∧ b.Low.Girth ≤ (setK b k lo hi).Low.Girth ∧ (setK b k lo hi).Low.Shoots ≤ (setK b k lo hi).High.Shoots ∧ (setK b k lo hi).Low.Height ≤ (setK b k lo hi).High.Height ∧ (setK b k lo hi).Low.Girth ≤ (setK b k lo hi).High.Girth ∧ (setK b k lo hi).High.Shoots ≤ b.High.Shoots ∧ (setK b k lo hi).High.Height ≤ b.High.Height ∧ (setK b k lo hi).High.Girth ≤ b.High.Girth := by
    unfold setK
    cases hk : k == 1
    · cases hk2 : k == 2
      · simp only [hk, hk2, cond_false] at h1 h3 ⊢
        exact ⟨⟨l1, l2, by simp only; omega⟩, ⟨u1, u2, by simp only; omega⟩, by omega, by omega, by omega, by omega, by omega, by omega, by omega, by omega, by omega⟩
      · simp only [hk, hk2, cond_false, cond_true] at h1 h3 ⊢
        exact ⟨⟨l1, by simp only; omega, l3⟩, ⟨u1, by simp only; omega, u3⟩, by omega, by omega, by omega, by omega, by omega, by omega, by omega, by omega, by omega⟩
    · simp only [hk, cond_true] at h1 h3 ⊢
      exact ⟨⟨by simp only; omega, l2, l3⟩, ⟨by simp only; omega, u2, u3⟩, by omega, by omega, by omega, by omega, by omega, by omega, by omega, by omega, by omega⟩
  obtain ⟨x1, x2, c1, c2, c3, c4, c5, c6, c7, c8, c9⟩ := hlow
  exact ⟨(wood_le _ _ hb.low x1 c1 c2 c3).2.1, (wood_le _ _ x1 x2 c4 c5 c6).2.1, (wood_le _ _ x2 hb.high c7 c8 c9).2.1⟩
/-- Both promises come to the same, and not to more than the spread. -/
theorem promise_eq (fu : Nat) (b : XBox) (hb : Box b) (k wrong : Int) (hw : 0 ≤ wrong) (hw2 : wrong ≤ 100000) : ∀ (fk : Nat) (v m : Int), (growth_spanOf b k).Low ≤ m → m ≤ (growth_spanOf b k).High + 1 → (growth_spanOf b k).High + 1 - m < fk → 0 ≤ v → v ≤ growth_wood b.High - growth_wood b.Low →
    ∃ r, growth_promise_L fu b k wrong fk v m = some r ∧ ref02_Promise_L fu b k wrong fk v m = some r ∧ 0 ≤ r ∧ r ≤ growth_wood b.High - growth_wood b.Low := by
  have hsb := span_box b hb k
  intro fk
  induction fk with
  | zero => intro v m _ _ h; omega
  | succ fk ih =>
    intro v m h1 h2 h3 h4 h5
    rw [growth_promise_L_s0, ref02_Promise_L_s0, get_eq]
    by_cases hm : m ≤ (growth_spanOf b k).High
    · have d : decide (m ≤ (growth_spanOf b k).High) = true := by simpa using hm
      rw [d, W_id (n := m - wrong) (by omega) (by omega), W_id (n := m + wrong) (by omega) (by omega), W_id (n := m + 1) (by omega) (by omega)]
      simp only [cond_true]
      have hlo : (growth_spanOf b k).Low ≤ imax (growth_spanOf b k).Low (m - wrong) ∧ imax (growth_spanOf b k).Low (m - wrong) ≤ m := by unfold imax; split <;> omega
      have hhi : m ≤ imin (growth_spanOf b k).High (m + wrong) ∧ imin (growth_spanOf b k).High (m + wrong) ≤ (growth_spanOf b k).High := by unfold imin; split <;> omega
      have hk := keep_eq b k ⟨m - wrong, m + wrong⟩ (by simp only; omega)
      simp only at hk
      rw [hk]
      have hset := set_wood b hb k (imax (growth_spanOf b k).Low (m - wrong)) (imin (growth_spanOf b k).High (m + wrong)) hlo.1 (by omega) hhi.2
      obtain ⟨w1, w2, w3⟩ := hset
      have hs0 := wood_le _ _ hb.low hb.high hb.s hb.h hb.g
      have hsp : ref02_Spread ⟨(ref02_Set b k ⟨imax (growth_spanOf b k).Low (m - wrong), imin (growth_spanOf b k).High (m + wrong)⟩).Low, (ref02_Set b k ⟨imax (growth_spanOf b k).Low (m - wrong), imin (growth_spanOf b k).High (m + wrong)⟩).High⟩ =
          W (growth_wood (setK b k (imax (growth_spanOf b k).Low (m - wrong)) (imin (growth_spanOf b k).High (m + wrong))).High - growth_wood (setK b k (imax (growth_spanOf b k).Low (m - wrong)) (imin (growth_spanOf b k).High (m + wrong))).Low) := rfl
      rw [hsp, W_id (by omega) (by omega)]
      refine ih _ (m + 1) (by omega) (by omega) (by omega) ?_ ?_
      · exact Int.le_trans h4 (le_imax _ _)
      · exact imax_le h5 (by omega)
    · have d : decide (m ≤ (growth_spanOf b k).High) = false := by simpa using hm
      rw [d]
      exact ⟨v, rfl, rfl, h4, h5⟩
theorem tol_iff (t : XTolerance) : growth_toleranceIsDefined t = true ↔ (0 ≤ t.Shoots ∧ t.Shoots ≤ 100000) ∧ (0 ≤ t.Height ∧ t.Height ≤ 100000) ∧ (0 ≤ t.Girth ∧ t.Girth ≤ 100000) := by
  unfold growth_toleranceIsDefined
  simp only [cond_and, Bool.and_eq_true, within_iff]
theorem asks_core (fu : Nat) (hfu : 45000 ≤ fu) (hk : law02_known fu = some true) (b : XBox) (t : XTolerance) : law02_GrowthAsks fu b t = some true := by
  unfold law02_GrowthAsks
  rw [hk]
  have hbx : ref02_Box b = growth_boxIsDefined b := rfl
  rw [hbx]
  unfold growth_Ask
  rcases Bool.eq_false_or_eq_true (growth_boxIsDefined b) with hb | hb
  rotate_left
  · rw [hb]; rfl
  rw [hb]
  simp only [cond_true]
  by_cases ht : growth_toleranceIsDefined t = true
  rotate_left
  · have htf : growth_toleranceIsDefined t = false := by simpa using ht
    rw [tol_iff] at ht
    rw [htf]
    simp only [cond_false, Option.bind_some]
    by_cases a1 : t.Shoots < 0
    · simp [a1]
    by_cases a2 : t.Shoots > 100000
    · simp [a1, a2]
    by_cases a3 : t.Height < 0
    · simp [a1, a2, a3]
    by_cases a4 : t.Height > 100000
    · simp [a1, a2, a3, a4]
    by_cases a5 : t.Girth < 0
    · simp [a1, a2, a3, a4, a5]
    by_cases a6 : t.Girth > 100000
    · simp [a1, a2, a3, a4, a5, a6]
    exact absurd (by omega) ht
  have ht' := (tol_iff t).1 ht
  obtain ⟨bl, bh, b1, b2, b3, b4⟩ := (box_iff b).1 hb
  have hB : Box b := ⟨stands_of _ bl, stands_of _ bh, b2, b3, b4⟩
  have hs0 := wood_le _ _ hB.low hB.high b2 b3 b4
  have pr : ∀ k wrong : Int, 0 ≤ wrong → wrong ≤ 100000 → ∃ r, growth_promise fu b k wrong = some r ∧ ref02_Promise fu b k wrong = some r ∧ 0 ≤ r ∧ r ≤ growth_wood b.High - growth_wood b.Low := by
    intro k wrong h1 h2
    have hsb := span_box b hB k
    exact promise_eq fu b hB k wrong h1 h2 fu 0 _ (by omega) (by omega) (by omega) (by omega) (by omega)
  obtain ⟨r1, p1, q1, z1, y1⟩ := pr 1 t.Shoots ht'.1.1 ht'.1.2
  obtain ⟨r2, p2, q2, z2, y2⟩ := pr 2 t.Height ht'.2.1.1 ht'.2.1.2
  obtain ⟨r3, p3, q3, z3, y3⟩ := pr 3 t.Girth ht'.2.2.1 ht'.2.2.2
  have n1 : ¬ t.Shoots < 0 := by omega
  have n2 : ¬ t.Shoots > 100000 := by omega
  have n3 : ¬ t.Height < 0 := by omega
  have n4 : ¬ t.Height > 100000 := by omega
  have n5 : ¬ t.Girth < 0 := by omega
  have n6 : ¬ t.Girth > 100000 := by omega
  have hspread : ref02_Spread b = growth_wood b.High - growth_wood b.Low := by
    show W (growth_wood b.High - growth_wood b.Low) = _
    exact W_id (by omega) (by omega)
  unfold ref02_Ask
  rw [ht, p1, p2, p3, q1, q2, q3, hspread]
  simp only [cond_true, Option.bind_some, n1, n2, n3, n4, n5, n6, decide_false, cond_false]
  by_cases h12 : r2 < r1
  · simp only [h12, decide_true, cond_true]
    by_cases h3 : r3 < r2
    · simp [h3, y3]
    · simp [h3, y2]
  · simp only [h12, decide_false, cond_false]
    by_cases h3 : r3 < r1
    · simp [h3, y3]
    · simp [h3, y1]
theorem asks_true (b : XBox) (t : XTolerance) : ∃ fu, law02_GrowthAsks fu b t = some true := ⟨50000, asks_core 50000 (by omega) known_more b t⟩
end Go.Proofs.G2
