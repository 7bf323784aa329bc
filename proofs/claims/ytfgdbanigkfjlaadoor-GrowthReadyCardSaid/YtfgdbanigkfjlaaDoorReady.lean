/- For every input GrowthReady returns true and leaves its input as it was. Conditions: the package variable growth.kinds holds what the text of the program lays there. -/
import Derived.Test.YtfgdbanigkfjlaaDoorReadyA
import Derived.Test.YtfgdbanigkfjlaaDoorMready
namespace Go.Proofs.G2
open Go Go.Sim Go.Proofs Go.Proofs.YtfgdbanigkfjlaaDoor
set_option maxRecDepth 20000
theorem ready_card (ready_true : ∀ (a0 : XSpecies) (a1 : XBox) (a2 : List XSeason) (a3 : Int), ∃ fu, law02_GrowthReady fu a0 a1 a2 a3 = some true) : Rows.GrowthReadyCardSaid :=
  Claim7.holds_tied_plain_at .later [] [.data] true (true, "3d762f3adc66156c51b1d5001e66e008ac41d833046e4c61f1652d89ea6706f7") false
    (ready_holds ready_true) (fun _ h => by cases h) (by kernel_rfl) (fun _ h => by cases h) growthReady_row_tie rfl ⟨rfl, rfl⟩ (by kernel_rfl) rfl
    (fun f fn hf hfn => by
      obtain rfl : f = 8 := Option.some.inj ((show Tryd.prog.funcNamed "greenhew/greenhewlaw02.GrowthReady" = some 8 by kernel_rfl).symm.trans hf) |>.symm
      obtain rfl : fn = Tryd.f8 := (Option.some.inj (Tryd.func8.symm.trans hfn)).symm
      exact ⟨by kernel_rfl, fun j t ht => by
        rw [Tryd.params8] at ht
        have hj : t ∈ [26, 46, 47, 3] := by
          rcases j with _ | _ | _ | _ | j
          · have e : 26 = t := by simpa using ht
            rw [← e]; simp
          · have e : 46 = t := by simpa using ht
            rw [← e]; simp
          · have e : 47 = t := by simpa using ht
            rw [← e]; simp
          · have e : 3 = t := by simpa using ht
            rw [← e]; simp
          · simp at ht
        simp only [List.mem_cons, List.not_mem_nil, or_false] at hj
        rcases hj with rfl | rfl | rfl | rfl
        · exact (show Tryd.prog.wantsStandIn 26 = false by kernel_rfl)
        · exact (show Tryd.prog.wantsStandIn 46 = false by kernel_rfl)
        · exact (show Tryd.prog.wantsStandIn 47 = false by kernel_rfl)
        · exact (show Tryd.prog.wantsStandIn 3 = false by kernel_rfl)⟩)
    (by kernel_rfl)
end Go.Proofs.G2
namespace Go.Proofs.YtfgdbanigkfjlaaDoor
theorem growthReady_card : Rows.GrowthReadyCardSaid := Go.Proofs.G2.ready_card Go.Proofs.G2.ready_true
end Go.Proofs.YtfgdbanigkfjlaaDoor
