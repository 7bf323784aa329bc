/- For every input GrowthNarrows returns true and leaves its input as it was. Conditions: the package variable growth.kinds holds what the text of the program lays there. -/
import Derived.Test.YtfgdbanigkfjlaaDoorNarrowsA
import Derived.Test.YtfgdbanigkfjlaaDoorMnarrows
namespace Go.Proofs.G2
open Go Go.Sim Go.Proofs Go.Proofs.YtfgdbanigkfjlaaDoor
set_option maxRecDepth 20000
theorem narrows_card (narrows_true : ∀ (a0 : XBox) (a1 : List XSample), ∃ fu, law02_GrowthNarrows fu a0 a1 = some true) : Rows.GrowthNarrowsCardSaid :=
  Claim7.holds_tied_plain_at .later [] [.data] true (true, "3d762f3adc66156c51b1d5001e66e008ac41d833046e4c61f1652d89ea6706f7") false
    (narrows_holds narrows_true) (fun _ h => by cases h) (by kernel_rfl) (fun _ h => by cases h) growthNarrows_row_tie rfl ⟨rfl, rfl⟩ (by kernel_rfl) rfl
    (fun f fn hf hfn => by
      obtain rfl : f = 10 := Option.some.inj ((show Tryd.prog.funcNamed "greenhew/greenhewlaw02.GrowthNarrows" = some 10 by kernel_rfl).symm.trans hf) |>.symm
      obtain rfl : fn = Tryd.f10 := (Option.some.inj (Tryd.func10.symm.trans hfn)).symm
      exact ⟨by kernel_rfl, fun j t ht => by
        rw [Tryd.params10] at ht
        have hj : t ∈ [46, 81] := by
          rcases j with _ | _ | j
          · have e : 46 = t := by simpa using ht
            rw [← e]; simp
          · have e : 81 = t := by simpa using ht
            rw [← e]; simp
          · simp at ht
        simp only [List.mem_cons, List.not_mem_nil, or_false] at hj
        rcases hj with rfl | rfl
        · exact (show Tryd.prog.wantsStandIn 46 = false by kernel_rfl)
        · exact (show Tryd.prog.wantsStandIn 81 = false by kernel_rfl)⟩)
    (by kernel_rfl)
end Go.Proofs.G2
namespace Go.Proofs.YtfgdbanigkfjlaaDoor
theorem growthNarrows_card : Rows.GrowthNarrowsCardSaid := Go.Proofs.G2.narrows_card Go.Proofs.G2.narrows_true
end Go.Proofs.YtfgdbanigkfjlaaDoor
