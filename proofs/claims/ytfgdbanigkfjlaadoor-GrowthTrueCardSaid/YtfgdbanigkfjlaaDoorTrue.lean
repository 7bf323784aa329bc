/- For every input GrowthTrue returns true and leaves its input as it was. Conditions: the package variable growth.kinds holds what the text of the program lays there. -/
import Derived.Test.YtfgdbanigkfjlaaDoorTrueA
import Derived.Test.YtfgdbanigkfjlaaDoorMtrue
namespace Go.Proofs.G2
open Go Go.Sim Go.Proofs Go.Proofs.YtfgdbanigkfjlaaDoor
set_option maxRecDepth 20000
theorem true_card (true_true : ∀ (a0 : XSpecies) (a1 : XBox) (a2 : List XSeason) (a3 : XTrue) (a4 : List XTrue), ∃ fu, law02_GrowthTrue fu a0 a1 a2 a3 a4 = some true) : Rows.GrowthTrueCardSaid :=
  Claim7.holds_tied_plain_at .later [] [.data] true (true, "3d762f3adc66156c51b1d5001e66e008ac41d833046e4c61f1652d89ea6706f7") false
    (true_holds true_true) (fun _ h => by cases h) (by kernel_rfl) (fun _ h => by cases h) growthTrue_row_tie rfl ⟨rfl, rfl⟩ (by kernel_rfl) rfl
    (fun f fn hf hfn => by
      obtain rfl : f = 6 := Option.some.inj ((show Tryd.prog.funcNamed "greenhew/greenhewlaw02.GrowthTrue" = some 6 by kernel_rfl).symm.trans hf) |>.symm
      obtain rfl : fn = Tryd.f6 := (Option.some.inj (Tryd.func6.symm.trans hfn)).symm
      exact ⟨by kernel_rfl, fun j t ht => by
        rw [Tryd.params6] at ht
        have hj : t ∈ [26, 46, 47, 66, 67] := by
          rcases j with _ | _ | _ | _ | _ | j
          · have e : 26 = t := by simpa using ht
            rw [← e]; simp
          · have e : 46 = t := by simpa using ht
            rw [← e]; simp
          · have e : 47 = t := by simpa using ht
            rw [← e]; simp
          · have e : 66 = t := by simpa using ht
            rw [← e]; simp
          · have e : 67 = t := by simpa using ht
            rw [← e]; simp
          · simp at ht
        simp only [List.mem_cons, List.not_mem_nil, or_false] at hj
        rcases hj with rfl | rfl | rfl | rfl | rfl
        · exact (show Tryd.prog.wantsStandIn 26 = false by kernel_rfl)
        · exact (show Tryd.prog.wantsStandIn 46 = false by kernel_rfl)
        · exact (show Tryd.prog.wantsStandIn 47 = false by kernel_rfl)
        · exact (show Tryd.prog.wantsStandIn 66 = false by kernel_rfl)
        · exact (show Tryd.prog.wantsStandIn 67 = false by kernel_rfl)⟩)
    (by kernel_rfl)
end Go.Proofs.G2
namespace Go.Proofs.YtfgdbanigkfjlaaDoor
theorem growthTrue_card : Rows.GrowthTrueCardSaid := Go.Proofs.G2.true_card Go.Proofs.G2.true_true
end Go.Proofs.YtfgdbanigkfjlaaDoor
