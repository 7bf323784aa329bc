/- The law GrowthMonotone on plain functions: it says true for each input. No conditions. -/
import Derived.Test.YtfgdbanigkfjlaaDoorM
namespace Go.Proofs.G2
open Go Go.Sim Go.Proofs
set_option maxRecDepth 4000
theorem Grow_val {fu : Nat} (hfu : 100 ≤ fu) {s : XSpecies} (hs : FineS s) (hd : growth_speciesIsDefined fu s = some true) {x : XStand} (hx : OkS x) {w : XWeather} (hw : OkW w) : growth_Grow fu s x w = some (growZ s x w, 0) :=
  Grow_eq fu s x w _ hd ((oks_iff x).2 hx) ((okw_iff w).2 hw) (grow_val hs hw hfu hx)
theorem monotone_core (fu : Nat) (hfu : 200 ≤ fu) (hk : law02_known fu = some true) (s : XSpecies) (x : XStand) (w : XWeather) (light mild browse higher thicker : Int) : law02_GrowthMonotone fu s x w light mild browse higher thicker = some true := by
  unfold law02_GrowthMonotone
  rw [hk]
  simp only [Option.bind_some]
  rcases Bool.eq_false_or_eq_true (law02_short s) with hs | hs
  rotate_left
  · rw [hs]; rfl
  obtain ⟨B, e1, e2, e3⟩ := species_cases fu s hs hfu
  rw [hs, e1]
  simp only [cond_true, Option.bind_some]
  cases B
  · rfl
  have hg := e3 rfl
  rcases Bool.eq_false_or_eq_true (ref02_Stand x) with hx | hx
  rotate_left
  · rw [hx]; rfl
  rcases Bool.eq_false_or_eq_true (ref02_Weather w) with hw | hw
  rotate_left
  · rw [hx, hw]; rfl
  have kx : OkS x := (oks_iff x).1 hx
  have kw : OkW w := (okw_iff w).1 hw
  rw [hx, hw]
  simp only [cond_true]
  have dec : ∀ (p : Prop) [Decidable p] (t : Option Bool), (¬ p → t = some true) → (bif decide p then some true else t) = some true := by
    intro p _ t h
    by_cases hp : p
    · rw [decide_eq_true hp]; rfl
    · rw [decide_eq_false hp]; exact h hp
  refine dec _ _ fun l1 => dec _ _ fun l2 => dec _ _ fun l3 => dec _ _ fun l4 => dec _ _ fun l5 => dec _ _ fun l6 => dec _ _ fun l7 => dec _ _ fun l8 => dec _ _ fun l9 => dec _ _ fun l10 => ?_
  have w1 := kw.light; have w2 := kw.browse; have w3 := kw.mild
  have x2 := kx.height; have x3 := kx.girth
  rw [W_id (n := w.Light + light) (by omega) (by omega), W_id (n := w.Mild + mild) (by omega) (by omega), W_id (n := w.Browse + browse) (by omega) (by omega), W_id (n := x.Height + higher) (by omega) (by omega), W_id (n := x.Girth + thicker) (by omega) (by omega)]
  have i1 := imin_le 100 (w.Light + light); have i2 := imin_le 200 (w.Mild + mild); have i3 := imin_le 100 (w.Browse + browse); have i4 := imin_le 40000 (x.Height + higher); have i5 := imin_le 3000 (x.Girth + thicker)
  have kg : OkW ⟨imin 100 (w.Light + light), w.Browse, imin 200 (w.Mild + mild)⟩ := ⟨by simp only; omega, w2, by simp only; omega⟩
  have ke : OkW ⟨w.Light, imin 100 (w.Browse + browse), w.Mild⟩ := ⟨w1, by simp only; omega, w3⟩
  have km : OkS ⟨x.Age, x.Shoots, imin 40000 (x.Height + higher), imin 3000 (x.Girth + thicker)⟩ := ⟨kx.age, kx.shoots, by simp only; omega, by simp only; omega⟩
  rw [Grow_val (by omega) hg e2 kx kw, Grow_val (by omega) hg e2 kx kg, Grow_val (by omega) hg e2 kx ke, Grow_val (by omega) hg e2 km kw]
  simp only [Option.bind_some]
  have m1 := grow_le hg kw kg (by simp only; omega) (by simp only; omega) kx kx rfl (Int.le_refl _) (Int.le_refl _) (Int.le_refl _) (by simp only; omega)
  have m2 := grow_le hg ke kw (by simp only; omega) (by simp only; omega) kx kx rfl (Int.le_refl _) (Int.le_refl _) (Int.le_refl _) (by simp only; omega)
  have m3 := grow_le hg kw kw (Int.le_refl _) (Int.le_refl _) kx km rfl (by simp only; omega) (by simp only; omega) (Int.le_refl _) (Int.le_refl _)
  have e4 : (growZ s x ⟨w.Light, imin 100 (w.Browse + browse), w.Mild⟩).Girth = (growZ s x w).Girth := rfl
  rw [e4]
  have g1 : decide ((growZ s x ⟨imin 100 (w.Light + light), w.Browse, imin 200 (w.Mild + mild)⟩).Height ≥ (growZ s x w).Height) = true := decide_eq_true m1.2.1
  have g2 : decide ((growZ s x ⟨imin 100 (w.Light + light), w.Browse, imin 200 (w.Mild + mild)⟩).Girth ≥ (growZ s x w).Girth) = true := decide_eq_true m1.2.2.1
  have g3 : decide ((growZ s x ⟨imin 100 (w.Light + light), w.Browse, imin 200 (w.Mild + mild)⟩).Shoots ≤ (growZ s x w).Shoots) = true := decide_eq_true m1.2.2.2
  have g4 : decide ((growZ s x ⟨w.Light, imin 100 (w.Browse + browse), w.Mild⟩).Height ≤ (growZ s x w).Height) = true := decide_eq_true m2.2.1
  have g5 : decide ((growZ s ⟨x.Age, x.Shoots, imin 40000 (x.Height + higher), imin 3000 (x.Girth + thicker)⟩ w).Height ≥ (growZ s x w).Height) = true := decide_eq_true m3.2.1
  have g6 : decide ((growZ s ⟨x.Age, x.Shoots, imin 40000 (x.Height + higher), imin 3000 (x.Girth + thicker)⟩ w).Girth ≥ (growZ s x w).Girth) = true := decide_eq_true m3.2.2.1
  rw [g1, g2, g3, g4, g5, g6]
  simp
theorem monotone_true (s : XSpecies) (x : XStand) (w : XWeather) (light mild browse higher thicker : Int) : ∃ fu, law02_GrowthMonotone fu s x w light mild browse higher thicker = some true := ⟨2100, monotone_core 2100 (by omega) known_true s x w light mild browse higher thicker⟩
end Go.Proofs.G2
