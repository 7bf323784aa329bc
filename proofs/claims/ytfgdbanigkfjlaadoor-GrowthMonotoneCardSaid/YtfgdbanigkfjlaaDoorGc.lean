/- Contracts of the functions that the law runs, part 3: made by a program, checked by the kernel. No conditions. -/
import Derived.Test.YtfgdbanigkfjlaaDoorGb
namespace Go.Proofs.G2
open Go.Sim Go.Proofs
set_option maxRecDepth 20000
set_option maxHeartbeats 1000000
/- greenhew/growth.Inside -/
noncomputable abbrev growth_Inside_i0 (b : XBox) (x_1 : XStand) : Hint := (hC (.tuple #[.agg #[I ((((growth_common b (⟨x_1, x_1⟩ : XBox)).1).Low).Age), I ((((growth_common b (⟨x_1, x_1⟩ : XBox)).1).Low).Shoots), I ((((growth_common b (⟨x_1, x_1⟩ : XBox)).1).Low).Height), I ((((growth_common b (⟨x_1, x_1⟩ : XBox)).1).Low).Girth), I ((((growth_common b (⟨x_1, x_1⟩ : XBox)).1).High).Age), I ((((growth_common b (⟨x_1, x_1⟩ : XBox)).1).High).Shoots), I ((((growth_common b (⟨x_1, x_1⟩ : XBox)).1).High).Height), I ((((growth_common b (⟨x_1, x_1⟩ : XBox)).1).High).Girth)], .bool ((growth_common b (⟨x_1, x_1⟩ : XBox)).2)]))
abbrev growth_Inside_r1 (b : XBox) : Prop := FC P GG 68 (A_growth_boxIsDefined b) [] (.bool (growth_boxIsDefined b))
abbrev growth_Inside_r2 (x_1 : XStand) : Prop := FC P GG 58 (A_growth_standIsDefined x_1) [] (.bool (growth_standIsDefined x_1))
abbrev growth_Inside_r3 (b : XBox) (x_1 : XStand) : Prop := FC P GG 69 (A_growth_common b (⟨x_1, x_1⟩ : XBox)) [] (.tuple #[.agg #[I ((((growth_common b (⟨x_1, x_1⟩ : XBox)).1).Low).Age), I ((((growth_common b (⟨x_1, x_1⟩ : XBox)).1).Low).Shoots), I ((((growth_common b (⟨x_1, x_1⟩ : XBox)).1).Low).Height), I ((((growth_common b (⟨x_1, x_1⟩ : XBox)).1).Low).Girth), I ((((growth_common b (⟨x_1, x_1⟩ : XBox)).1).High).Age), I ((((growth_common b (⟨x_1, x_1⟩ : XBox)).1).High).Shoots), I ((((growth_common b (⟨x_1, x_1⟩ : XBox)).1).High).Height), I ((((growth_common b (⟨x_1, x_1⟩ : XBox)).1).High).Girth)], .bool ((growth_common b (⟨x_1, x_1⟩ : XBox)).2)])
abbrev A_growth_Inside (b : XBox) (x_1 : XStand) : List Value := [.agg #[I (b.Low.Age), I (b.Low.Shoots), I (b.Low.Height), I (b.Low.Girth), I (b.High.Age), I (b.High.Shoots), I (b.High.Height), I (b.High.Girth)], .agg #[I (x_1.Age), I (x_1.Shoots), I (x_1.Height), I (x_1.Girth)]]
noncomputable def growth_Inside (b : XBox) (x_1 : XStand) : Bool :=
  bif growth_boxIsDefined b then (bif growth_standIsDefined x_1 then (growth_common b (⟨x_1, x_1⟩ : XBox)).2
    else false)
  else false
theorem growth_Inside_fc (b : XBox) (x_1 : XStand) : FC P GG 27 [.agg #[I (b.Low.Age), I (b.Low.Shoots), I (b.Low.Height), I (b.Low.Girth), I (b.High.Age), I (b.High.Shoots), I (b.High.Height), I (b.High.Girth)], .agg #[I (x_1.Age), I (x_1.Shoots), I (x_1.Height), I (x_1.Girth)]] [] (.bool (growth_Inside b x_1)) := by
  refine FC.of_fsat 24 100 Tryd.func27 (by kernel_rfl) (by kernel_rfl) (by kernel_rfl) trivial ?_
  rcases Bool.eq_false_or_eq_true (growth_boxIsDefined b) with h1 | h1
  · skip
    rcases Bool.eq_false_or_eq_true (growth_standIsDefined x_1) with h2 | h2
    · skip
      have e : growth_Inside b x_1 = (growth_common b (⟨x_1, x_1⟩ : XBox)).2 := by unfold growth_Inside; rw [h1, cond_true, h2, cond_true]; first | done | rfl
      rw [e]
      exact FSat.done pfT (fuel := 17) (hs := (hR 4 ((hB (hC (.bool (growth_boxIsDefined b))) true) :: hE :: hE :: hE :: (hB (hC (.bool (growth_standIsDefined x_1))) true) :: (hR 6 ((growth_Inside_i0 b x_1) :: (hR 8 [])))))) (ss := []) (R := [(growth_Inside_r1 b), (growth_boxIsDefined b) = true, (growth_Inside_r2 x_1), (growth_standIsDefined x_1) = true, (growth_Inside_r3 b x_1)]) (by kernel_rfl) ⟨growth_boxIsDefined_fc b, h1, growth_standIsDefined_fc x_1, h2, growth_common_fc b (⟨x_1, x_1⟩ : XBox), trivial⟩ (by kernel_rfl)
    · skip
      have e : growth_Inside b x_1 = false := by unfold growth_Inside; rw [h1, cond_true, h2, cond_false]; first | done | rfl
      rw [e]
      exact FSat.done pfT (fuel := 14) (hs := (hR 4 [(hB (hC (.bool (growth_boxIsDefined b))) true), hE, hE, hE, (hB (hC (.bool (growth_standIsDefined x_1))) false), hE, hE, hE])) (ss := []) (R := [(growth_Inside_r1 b), (growth_boxIsDefined b) = true, (growth_Inside_r2 x_1), (growth_standIsDefined x_1) = false]) (by kernel_rfl) ⟨growth_boxIsDefined_fc b, h1, growth_standIsDefined_fc x_1, h2, trivial⟩ (by kernel_rfl)
  · skip
    have e : growth_Inside b x_1 = false := by unfold growth_Inside; rw [h1, cond_false]; first | done | rfl
    rw [e]
    exact FSat.done pfT (fuel := 14) (hs := (hR 4 ((hB (hC (.bool (growth_boxIsDefined b))) false) :: (hR 4 [])))) (ss := []) (R := [(growth_Inside_r1 b), (growth_boxIsDefined b) = false]) (by kernel_rfl) ⟨growth_boxIsDefined_fc b, h1, trivial⟩ (by kernel_rfl)

/- greenhew/greenhewref02.Season -/
abbrev ref02_Season_r0 (q : XSeason) : Prop := FC P GG 64 (A_ref02_Span q.Light 100) [] (.bool (ref02_Span q.Light 100))
abbrev ref02_Season_r1 (q : XSeason) : Prop := FC P GG 64 (A_ref02_Span q.Browse 100) [] (.bool (ref02_Span q.Browse 100))
abbrev ref02_Season_r2 (q : XSeason) : Prop := FC P GG 64 (A_ref02_Span q.Mild 200) [] (.bool (ref02_Span q.Mild 200))
abbrev A_ref02_Season (q : XSeason) : List Value := [.agg #[I (q.Light.Low), I (q.Light.High), I (q.Browse.Low), I (q.Browse.High), I (q.Mild.Low), I (q.Mild.High), .bool (q.Cut)]]
noncomputable def ref02_Season (q : XSeason) : Bool :=
  bif ref02_Span q.Light 100 then (bif ref02_Span q.Browse 100 then ref02_Span q.Mild 200
    else false)
  else false
theorem ref02_Season_fc (q : XSeason) : FC P GG 32 [.agg #[I (q.Light.Low), I (q.Light.High), I (q.Browse.Low), I (q.Browse.High), I (q.Mild.Low), I (q.Mild.High), .bool (q.Cut)]] [] (.bool (ref02_Season q)) := by
  refine FC.of_fsat 16 100 Tryd.func32 (by kernel_rfl) (by kernel_rfl) (by kernel_rfl) trivial ?_
  rcases Bool.eq_false_or_eq_true (ref02_Span q.Light 100) with h1 | h1
  · skip
    rcases Bool.eq_false_or_eq_true (ref02_Span q.Browse 100) with h2 | h2
    · skip
      have e : ref02_Season q = ref02_Span q.Mild 200 := by unfold ref02_Season; rw [h1, cond_true, h2, cond_true]; first | done | rfl
      rw [e]
      exact FSat.done pfT (fuel := 10) (hs := (hR 4 ((hB (hC (.bool (ref02_Span q.Light 100))) true) :: hE :: hE :: hE :: (hB (hC (.bool (ref02_Span q.Browse 100))) true) :: (hR 4 [(hC (.bool (ref02_Span q.Mild 200))), hE, hE])))) (ss := []) (R := [(ref02_Season_r0 q), (ref02_Span q.Light 100) = true, (ref02_Season_r1 q), (ref02_Span q.Browse 100) = true, (ref02_Season_r2 q)]) (by kernel_rfl) ⟨ref02_Span_fc q.Light 100, h1, ref02_Span_fc q.Browse 100, h2, ref02_Span_fc q.Mild 200, trivial⟩ (by kernel_rfl)
    · skip
      have e : ref02_Season q = false := by unfold ref02_Season; rw [h1, cond_true, h2, cond_false]; first | done | rfl
      rw [e]
      exact FSat.done pfT (fuel := 10) (hs := (hR 4 ((hB (hC (.bool (ref02_Span q.Light 100))) true) :: hE :: hE :: hE :: (hB (hC (.bool (ref02_Span q.Browse 100))) false) :: (hR 4 [])))) (ss := []) (R := [(ref02_Season_r0 q), (ref02_Span q.Light 100) = true, (ref02_Season_r1 q), (ref02_Span q.Browse 100) = false]) (by kernel_rfl) ⟨ref02_Span_fc q.Light 100, h1, ref02_Span_fc q.Browse 100, h2, trivial⟩ (by kernel_rfl)
  · skip
    have e : ref02_Season q = false := by unfold ref02_Season; rw [h1, cond_false]; first | done | rfl
    rw [e]
    exact FSat.done pfT (fuel := 10) (hs := (hR 4 ((hB (hC (.bool (ref02_Span q.Light 100))) false) :: (hR 5 [])))) (ss := []) (R := [(ref02_Season_r0 q), (ref02_Span q.Light 100) = false]) (by kernel_rfl) ⟨ref02_Span_fc q.Light 100, h1, trivial⟩ (by kernel_rfl)



end Go.Proofs.G2
