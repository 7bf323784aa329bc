/- For every input GrowthTight returns true and leaves its input as it was. Conditions: the package variable growth.kinds holds what the text of the program lays there. -/
import Derived.Test.YtfgdbanigkfjlaaDoorRc
import Derived.Test.YtfgdbanigkfjlaaDoorM
namespace Go.Proofs.G2
open Go Go.Sim Go.Proofs Go.Proofs.YtfgdbanigkfjlaaDoor
set_option maxRecDepth 20000
theorem tight_card (tight_true : ∀ s b q, ∃ fu, law02_GrowthTight fu s b q = some true) : Rows.GrowthTightCardSaid :=
  Claim7.holds_tied_plain_at .later [] [.data] true (true, "3d762f3adc66156c51b1d5001e66e008ac41d833046e4c61f1652d89ea6706f7") false
    (tight_holds tight_true) (fun _ h => by cases h) (by kernel_rfl) (fun _ h => by cases h) growthTight_row_tie rfl ⟨rfl, rfl⟩ (by kernel_rfl) rfl
    (fun f fn hf hfn => by
      obtain rfl : f = 7 := Option.some.inj ((show Tryd.prog.funcNamed "greenhew/greenhewlaw02.GrowthTight" = some 7 by kernel_rfl).symm.trans hf) |>.symm
      obtain rfl : fn = Tryd.f7 := (Option.some.inj (Tryd.func7.symm.trans hfn)).symm
      exact ⟨by kernel_rfl, fun j t ht => by
        rw [Tryd.params7] at ht
        have h3 : t = 26 ∨ t = 46 ∨ t = 58 := by
          rcases j with _ | _ | _ | j
          · exact .inl (by simpa using ht.symm)
          · exact .inr (.inl (by simpa using ht.symm))
          · exact .inr (.inr (by simpa using ht.symm))
          · simp at ht
        rcases h3 with rfl | rfl | rfl
        · exact (show Tryd.prog.wantsStandIn 26 = false by kernel_rfl)
        · exact (show Tryd.prog.wantsStandIn 46 = false by kernel_rfl)
        · exact (show Tryd.prog.wantsStandIn 58 = false by kernel_rfl)⟩)
    (by kernel_rfl)
end Go.Proofs.G2
namespace Go.Proofs.YtfgdbanigkfjlaaDoor
theorem growthTight_card : Rows.GrowthTightCardSaid := Go.Proofs.G2.tight_card Go.Proofs.G2.tight_true
end Go.Proofs.YtfgdbanigkfjlaaDoor
