/- For every input GrowthMonotone returns true and leaves its input as it was. Conditions: the package variable growth.kinds holds what the text of the program lays there. -/
import Derived.Test.YtfgdbanigkfjlaaDoorMonotoneA
import Derived.Test.YtfgdbanigkfjlaaDoorMmonotone
namespace Go.Proofs.G2
open Go Go.Sim Go.Proofs Go.Proofs.YtfgdbanigkfjlaaDoor
set_option maxRecDepth 20000
theorem monotone_card (monotone_true : ∀ (a0 : XSpecies) (a1 : XStand) (a2 : XWeather) (a3 : Int) (a4 : Int) (a5 : Int) (a6 : Int) (a7 : Int), ∃ fu, law02_GrowthMonotone fu a0 a1 a2 a3 a4 a5 a6 a7 = some true) : Rows.GrowthMonotoneCardSaid :=
  Claim7.holds_tied_plain_at .later [] [.data] true (true, "3d762f3adc66156c51b1d5001e66e008ac41d833046e4c61f1652d89ea6706f7") false
    (monotone_holds monotone_true) (fun _ h => by cases h) (by kernel_rfl) (fun _ h => by cases h) growthMonotone_row_tie rfl ⟨rfl, rfl⟩ (by kernel_rfl) rfl
    (fun f fn hf hfn => by
      obtain rfl : f = 4 := Option.some.inj ((show Tryd.prog.funcNamed "greenhew/greenhewlaw02.GrowthMonotone" = some 4 by kernel_rfl).symm.trans hf) |>.symm
      obtain rfl : fn = Tryd.f4 := (Option.some.inj (Tryd.func4.symm.trans hfn)).symm
      exact ⟨by kernel_rfl, fun j t ht => by
        rw [Tryd.params4] at ht
        have hj : t ∈ [26, 28, 30, 3, 3, 3, 3, 3] := by
          rcases j with _ | _ | _ | _ | _ | _ | _ | _ | j
          · have e : 26 = t := by simpa using ht
            rw [← e]; simp
          · have e : 28 = t := by simpa using ht
            rw [← e]; simp
          · have e : 30 = t := by simpa using ht
            rw [← e]; simp
          · have e : 3 = t := by simpa using ht
            rw [← e]; simp
          · have e : 3 = t := by simpa using ht
            rw [← e]; simp
          · have e : 3 = t := by simpa using ht
            rw [← e]; simp
          · have e : 3 = t := by simpa using ht
            rw [← e]; simp
          · have e : 3 = t := by simpa using ht
            rw [← e]; simp
          · simp at ht
        simp only [List.mem_cons, List.not_mem_nil, or_false] at hj
        rcases hj with rfl | rfl | rfl | rfl | rfl | rfl | rfl | rfl
        · exact (show Tryd.prog.wantsStandIn 26 = false by kernel_rfl)
        · exact (show Tryd.prog.wantsStandIn 28 = false by kernel_rfl)
        · exact (show Tryd.prog.wantsStandIn 30 = false by kernel_rfl)
        · exact (show Tryd.prog.wantsStandIn 3 = false by kernel_rfl)
        · exact (show Tryd.prog.wantsStandIn 3 = false by kernel_rfl)
        · exact (show Tryd.prog.wantsStandIn 3 = false by kernel_rfl)
        · exact (show Tryd.prog.wantsStandIn 3 = false by kernel_rfl)
        · exact (show Tryd.prog.wantsStandIn 3 = false by kernel_rfl)⟩)
    (by kernel_rfl)
end Go.Proofs.G2
namespace Go.Proofs.YtfgdbanigkfjlaaDoor
theorem growthMonotone_card : Rows.GrowthMonotoneCardSaid := Go.Proofs.G2.monotone_card Go.Proofs.G2.monotone_true
end Go.Proofs.YtfgdbanigkfjlaaDoor
