/- For every input GrowthSteps returns true and leaves its input as it was. Conditions: the package variable growth.kinds holds what the text of the program lays there. -/
import Derived.Test.YtfgdbanigkfjlaaDoorStepsA
import Derived.Test.YtfgdbanigkfjlaaDoorMsteps
namespace Go.Proofs.G2
open Go Go.Sim Go.Proofs Go.Proofs.YtfgdbanigkfjlaaDoor
set_option maxRecDepth 20000
theorem steps_card (steps_true : ∀ (a0 : XSpecies) (a1 : XBox) (a2 : List XSeason) (a3 : XStand), ∃ fu, law02_GrowthSteps fu a0 a1 a2 a3 = some true) : Rows.GrowthStepsCardSaid :=
  Claim7.holds_tied_plain_at .later [] [.data] true (true, "3d762f3adc66156c51b1d5001e66e008ac41d833046e4c61f1652d89ea6706f7") false
    (steps_holds steps_true) (fun _ h => by cases h) (by kernel_rfl) (fun _ h => by cases h) growthSteps_row_tie rfl ⟨rfl, rfl⟩ (by kernel_rfl) rfl
    (fun f fn hf hfn => by
      obtain rfl : f = 5 := Option.some.inj ((show Tryd.prog.funcNamed "greenhew/greenhewlaw02.GrowthSteps" = some 5 by kernel_rfl).symm.trans hf) |>.symm
      obtain rfl : fn = Tryd.f5 := (Option.some.inj (Tryd.func5.symm.trans hfn)).symm
      exact ⟨by kernel_rfl, fun j t ht => by
        rw [Tryd.params5] at ht
        have hj : t ∈ [26, 46, 47, 28] := by
          rcases j with _ | _ | _ | _ | j
          · have e : 26 = t := by simpa using ht
            rw [← e]; simp
          · have e : 46 = t := by simpa using ht
            rw [← e]; simp
          · have e : 47 = t := by simpa using ht
            rw [← e]; simp
          · have e : 28 = t := by simpa using ht
            rw [← e]; simp
          · simp at ht
        simp only [List.mem_cons, List.not_mem_nil, or_false] at hj
        rcases hj with rfl | rfl | rfl | rfl
        · exact (show Tryd.prog.wantsStandIn 26 = false by kernel_rfl)
        · exact (show Tryd.prog.wantsStandIn 46 = false by kernel_rfl)
        · exact (show Tryd.prog.wantsStandIn 47 = false by kernel_rfl)
        · exact (show Tryd.prog.wantsStandIn 28 = false by kernel_rfl)⟩)
    (by kernel_rfl)
end Go.Proofs.G2
namespace Go.Proofs.YtfgdbanigkfjlaaDoor
theorem growthSteps_card : Rows.GrowthStepsCardSaid := Go.Proofs.G2.steps_card Go.Proofs.G2.steps_true
end Go.Proofs.YtfgdbanigkfjlaaDoor
