/- The law GrowthWider on plain functions: it says true for each input. No conditions. -/
import Derived.Test.YtfgdbanigkfjlaaDoorM
namespace Go.Proofs.G2
open Go Go.Sim Go.Proofs
set_option maxRecDepth 4000
theorem join_bd (a b : XSpan) : (law02_join a b).Low ≤ a.Low ∧ (law02_join a b).Low ≤ b.Low ∧ ((law02_join a b).Low = a.Low ∨ (law02_join a b).Low = b.Low) ∧ a.High ≤ (law02_join a b).High ∧ b.High ≤ (law02_join a b).High ∧ ((law02_join a b).High = a.High ∨ (law02_join a b).High = b.High) := by
  have h1 := imin_le a.Low b.Low
  have h2 := imax_le a.High b.High
  unfold law02_join
  simp only
  omega
theorem wider_core (fu : Nat) (hfu : 200 ≤ fu) (hk : law02_known fu = some true) (s : XSpecies) (b more : XBox) (q wide : XSeason) : law02_GrowthWider fu s b more q wide = some true := by
  unfold law02_GrowthWider
  rw [hk]
  rcases Bool.eq_false_or_eq_true (law02_short s) with hs | hs
  rotate_left
  · rw [hs]; rfl
  obtain ⟨B, e1, e2, e3⟩ := species_cases fu s hs hfu
  rw [hs, e1]
  simp only [cond_true, Option.bind_some]
  cases B
  · rfl
  have hg := e3 rfl
  rcases Bool.eq_false_or_eq_true (ref02_Box b) with hb | hb
  rotate_left
  · rw [hb]; rfl
  rcases Bool.eq_false_or_eq_true (ref02_Box more) with hm | hm
  rotate_left
  · rw [hb, hm]; rfl
  rcases Bool.eq_false_or_eq_true (ref02_Season q) with hq | hq
  rotate_left
  · rw [hb, hm, hq]; rfl
  rcases Bool.eq_false_or_eq_true (ref02_Season wide) with hw | hw
  rotate_left
  · rw [hb, hm, hq, hw]; rfl
  rw [hb, hm, hq, hw]
  simp only [cond_true]
  have kb : OkB b := (okb_iff b).1 hb
  have km : OkB more := (okb_iff more).1 hm
  have kq : OkQ q := (okq_iff q).1 hq
  have kw : OkQ wide := (okq_iff wide).1 hw
  -- the greater box, and the wider season
  have b1 := kb.low.age; have b2 := kb.low.shoots; have b3 := kb.low.height; have b4 := kb.low.girth
  have c2 := kb.high.shoots; have c3 := kb.high.height; have c4 := kb.high.girth
  have o2 := kb.shoots; have o3 := kb.height; have o4 := kb.girth
  have m2 := km.low.shoots; have m3 := km.low.height; have m4 := km.low.girth
  have n2 := km.high.shoots; have n3 := km.high.height; have n4 := km.high.girth
  have i2 := imin_le b.Low.Shoots more.Low.Shoots; have i3 := imin_le b.Low.Height more.Low.Height; have i4 := imin_le b.Low.Girth more.Low.Girth
  have j2 := imax_le b.High.Shoots more.High.Shoots; have j3 := imax_le b.High.Height more.High.Height; have j4 := imax_le b.High.Girth more.High.Girth
  have kg : OkB ⟨⟨b.Low.Age, imin b.Low.Shoots more.Low.Shoots, imin b.Low.Height more.Low.Height, imin b.Low.Girth more.Low.Girth⟩, ⟨b.Low.Age, imax b.High.Shoots more.High.Shoots, imax b.High.Height more.High.Height, imax b.High.Girth more.High.Girth⟩⟩ :=
    ⟨⟨b1, by simp only; omega, by simp only; omega, by simp only; omega⟩, ⟨b1, by simp only; omega, by simp only; omega, by simp only; omega⟩, rfl, by simp only; omega, by simp only; omega, by simp only; omega⟩
  have ig : InB b ⟨⟨b.Low.Age, imin b.Low.Shoots more.Low.Shoots, imin b.Low.Height more.Low.Height, imin b.Low.Girth more.Low.Girth⟩, ⟨b.Low.Age, imax b.High.Shoots more.High.Shoots, imax b.High.Height more.High.Height, imax b.High.Girth more.High.Girth⟩⟩ :=
    ⟨rfl, by simp only; omega, by simp only; omega, by simp only; omega⟩
  have q1 := kq.light; have q2 := kq.browse; have q3 := kq.mild
  have w1 := kw.light; have w2 := kw.browse; have w3 := kw.mild
  have z1 := join_bd q.Light wide.Light; have z2 := join_bd q.Browse wide.Browse; have z3 := join_bd q.Mild wide.Mild
  have kj : OkQ ⟨law02_join q.Light wide.Light, law02_join q.Browse wide.Browse, law02_join q.Mild wide.Mild, q.Cut⟩ := ⟨by simp only; omega, by simp only; omega, by simp only; omega⟩
  have ij : InQ q ⟨law02_join q.Light wide.Light, law02_join q.Browse wide.Browse, law02_join q.Mild wide.Mild, q.Cut⟩ := ⟨by simp only; omega, by simp only; omega, by simp only; omega, rfl⟩
  rw [Step_val (by omega) hg e2 kb kq, Step_val (by omega) hg e2 kg kq, Step_val (by omega) hg e2 kb kj]
  simp only [Option.bind_some]
  have sb := step_ok hg kb kq
  have sg := step_ok hg kg kq
  have sj := step_ok hg kb kj
  have t1 := step_in hg kb kg ig kq kq (InQ.refl q)
  have t2 := step_in hg kb kb (InB.refl b) kq kj ij
  rw [(inside_iff _ _).2 ⟨sg, sb.low, t1.lows sb⟩, (inside_iff _ _).2 ⟨sg, sb.high, t1.highs sb⟩, (inside_iff _ _).2 ⟨sj, sb.low, t2.lows sb⟩, (inside_iff _ _).2 ⟨sj, sb.high, t2.highs sb⟩]
  have kl : OkB ⟨b.Low, b.Low⟩ := ⟨kb.low, kb.low, rfl, Int.le_refl _, Int.le_refl _, Int.le_refl _⟩
  have ks : OkQ ⟨⟨q.Light.Low, q.Light.Low⟩, ⟨q.Browse.Low, q.Browse.Low⟩, ⟨q.Mild.Low, q.Mild.Low⟩, false⟩ := ⟨by simp only; omega, by simp only; omega, by simp only; omega⟩
  have kv : OkW ⟨q.Light.Low, q.Browse.Low, q.Mild.Low⟩ := ⟨by simp only; omega, by simp only; omega, by simp only; omega⟩
  rw [Step_val (by omega) hg e2 kl ks, Grow_eq fu s b.Low ⟨q.Light.Low, q.Browse.Low, q.Mild.Low⟩ (growZ s b.Low ⟨q.Light.Low, q.Browse.Low, q.Mild.Low⟩) e2 ((oks_iff _).2 kb.low) ((okw_iff _).2 kv) (grow_val hg kv (by omega) kb.low)]
  have es : stepZ s ⟨b.Low, b.Low⟩ ⟨⟨q.Light.Low, q.Light.Low⟩, ⟨q.Browse.Low, q.Browse.Low⟩, ⟨q.Mild.Low, q.Mild.Low⟩, false⟩ = ⟨growZ s b.Low ⟨q.Light.Low, q.Browse.Low, q.Mild.Low⟩, growZ s b.Low ⟨q.Light.Low, q.Browse.Low, q.Mild.Low⟩⟩ := rfl
  rw [es]
  simp
theorem wider_true (s : XSpecies) (b more : XBox) (q wide : XSeason) : ∃ fu, law02_GrowthWider fu s b more q wide = some true := ⟨2100, wider_core 2100 (by omega) known_true s b more q wide⟩
end Go.Proofs.G2
