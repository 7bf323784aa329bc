/- The law of growing on plain functions: it says true for each input. No conditions. -/
import Derived.Test.YtfgdbanigkfjlaaDoorM
namespace Go.Proofs.G2
open Go Go.Sim Go.Proofs
set_option maxRecDepth 4000
theorem imin_comm (a b : Int) : imin a b = imin b a := by unfold imin; split <;> split <;> omega
theorem crowd_shoots (fu fu' : Nat) (s : XSpecies) (sh h : Int) (x : XStand) (w : XWeather) : ∀ (fk : Nat) (v i : Int), ref02_crowd_L fu s sh h fk v i = growth_grower_shoots_L fu' ⟨s⟩ x w fk v i h := by
  intro fk
  induction fk with
  | zero => intro v i; rfl
  | succ fk ih =>
    intro v i
    rw [ref02_crowd_L_s0, growth_grower_shoots_L_s0]
    simp only [ih]
theorem height_eq (s : XSpecies) (x : XStand) (w : XWeather) : ref02_height s x.Age x.Height w = growth_grower_height ⟨s⟩ x w := by
  have e : ref02_height s x.Age x.Height w = Option.bind (growth_atAge s.Rise x.Age) fun x1 => Option.bind (growth_grower_inWeather ⟨s⟩ x1 w) fun x2 =>
    bif decide (x.Height < s.Reach) then some (imin s.Top (W (x.Height + (W ((W (x2 * (W (100 - w.Browse)))).tdiv 100))))) else some (imin s.Top (W (x.Height + x2))) := rfl
  rw [e]
  unfold growth_grower_height
  simp only [imin_comm s.Top]
theorem girth_eq (s : XSpecies) (x : XStand) (w : XWeather) : ref02_girth s x.Age x.Shoots x.Girth w = growth_grower_girth ⟨s⟩ x w := by
  have e : ref02_girth s x.Age x.Shoots x.Girth w = Option.bind (growth_atAge s.Thick x.Age) fun x1 => Option.bind (growth_grower_inWeather ⟨s⟩ x1 w) fun x2 =>
    bif decide ((W (100 + x.Shoots)) ≠ 0) then some (imin s.Stout (W (x.Girth + (W ((W (x2 * 100)).tdiv (W (100 + x.Shoots))))))) else none := rfl
  rw [e]
  unfold growth_grower_girth
  simp only [imin_comm s.Stout]
theorem grow_eq (fu : Nat) (s : XSpecies) (x : XStand) (w : XWeather) : ref02_Grow fu s x w = growth_grower_grow fu ⟨s⟩ x w := by
  have e : growth_grower_grow fu ⟨s⟩ x w = Option.bind (growth_grower_shoots fu ⟨s⟩ x w) fun x2 => Option.bind (growth_grower_height ⟨s⟩ x w) fun x5 => Option.bind (growth_grower_girth ⟨s⟩ x w) fun x8 => some (⟨imin (W (x.Age + 1)) 100000, x2, x5, x8⟩ : XStand) := rfl
  rw [e]
  unfold ref02_Grow growth_grower_shoots ref02_crowd
  rw [height_eq, girth_eq, imin_comm]
  cases growth_grower_height ⟨s⟩ x w with
  | none => rfl
  | some h =>
    simp only [Option.bind_some]
    rw [crowd_shoots fu fu s x.Shoots h x w fu x.Shoots 0]
theorem grows_core (fu : Nat) (hfu : 200 ≤ fu) (hk : law02_known fu = some true) (s : XSpecies) (x : XStand) (w : XWeather) : law02_GrowthGrows fu s x w = some true := by
  unfold law02_GrowthGrows
  rw [hk]
  rcases Bool.eq_false_or_eq_true (law02_short s) with hs | hs
  rotate_left
  · rw [hs]; rfl
  obtain ⟨B, e1, e2, e3⟩ := species_eq fu s hs hfu
  have hck : growth_Check fu s = some (bif B then 0 else 2) := by
    unfold growth_Check
    rw [e2]
    cases B <;> rfl
  have hgr : growth_Grow fu s x w = bif B then (bif growth_standIsDefined x then (bif growth_weatherIsDefined w then (Option.bind (growth_grower_grow fu (⟨s⟩ : Xgrower) x w) fun x5 => some (x5, 0)) else some ((⟨0, 0, 0, 0⟩ : XStand), 2)) else some ((⟨0, 0, 0, 0⟩ : XStand), 2)) else some ((⟨0, 0, 0, 0⟩ : XStand), 2) := by
    unfold growth_Grow
    rw [e2]
    rfl
  have hst : ref02_Stand x = growth_standIsDefined x := rfl
  have hwe : ref02_Weather w = growth_weatherIsDefined w := rfl
  have hwo : ref02_Wood x = growth_wood x := rfl
  have hwd : growth_Wood x = bif growth_standIsDefined x then (growth_wood x, 0) else (0, 2) := rfl
  rw [hs, e1, hck, hgr, hst, hwe, hwo, hwd]
  simp only [cond_true]
  cases B
  · cases growth_standIsDefined x <;> simp
  · have e3 := e3 rfl
    have hsh := (short_iff s).1 hs
    have hg : Good s := ⟨⟨e3.1, hsh.1⟩, ⟨e3.2.1, hsh.2.1⟩, hsh.2.2.1, ⟨e3.2.2.1, hsh.2.2.2⟩, ⟨e3.2.2.2.1, e3.2.2.2.2.1⟩, e3.2.2.2.2.2⟩
    rcases Bool.eq_false_or_eq_true (growth_standIsDefined x) with h1 | h1
    · rw [h1]
      simp only [cond_true]
      cases growth_weatherIsDefined w
      · simp
      · have hx := (stand_iff x).1 h1
        obtain ⟨y, hy⟩ := grow_some fu (by omega) s hg x w (by omega) (by omega) (by omega)
        rw [grow_eq, hy]
        simp
    · rw [h1]
      simp
theorem grows_true (s : XSpecies) (x : XStand) (w : XWeather) : ∃ fu, law02_GrowthGrows fu s x w = some true := ⟨2100, grows_core 2100 (by omega) known_true s x w⟩
end Go.Proofs.G2
