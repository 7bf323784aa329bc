/- For every input GrowthAsks returns true and leaves its input as it was. Conditions: the package variable growth.kinds holds what the text of the program lays there. -/
import Derived.Test.YtfgdbanigkfjlaaDoorAsksA
import Derived.Test.YtfgdbanigkfjlaaDoorMasks
namespace Go.Proofs.G2
open Go Go.Sim Go.Proofs Go.Proofs.YtfgdbanigkfjlaaDoor Go.RowKit Go.ChangeShapes Go.WideShapes Go.ChangeAt Go.WideMaps Go.WideElems
set_option maxRecDepth 20000
theorem asks_card (asks_true : ∀ b t, ∃ fu, law02_GrowthAsks fu b t = some true) : Rows.GrowthAsksCardSaid :=
  Claim7.holds_tied_plain_at .later [] [.data] true (true, "3d762f3adc66156c51b1d5001e66e008ac41d833046e4c61f1652d89ea6706f7") false
    (asks_holds asks_true) (fun _ h => by cases h) (by kernel_rfl) (fun _ h => by cases h) growthAsks_row_tie rfl ⟨rfl, rfl⟩ (by kernel_rfl) rfl
    (fun f fn hf hfn => by
      obtain rfl : f = 15 := Option.some.inj ((show Tryd.prog.funcNamed "greenhew/greenhewlaw02.GrowthAsks" = some 15 by kernel_rfl).symm.trans hf) |>.symm
      obtain rfl : fn = Tryd.f15 := (Option.some.inj (Tryd.func15.symm.trans hfn)).symm
      exact ⟨by kernel_rfl, fun j t ht => by
        rw [Tryd.params15] at ht
        have h3 : t = 46 ∨ t = 103 := by
          rcases j with _ | _ | j
          · exact .inl (by simpa using ht.symm)
          · exact .inr (by simpa using ht.symm)
          · simp at ht
        rcases h3 with rfl | rfl
        · exact (show Tryd.prog.wantsStandIn 46 = false by kernel_rfl)
        · exact (show Tryd.prog.wantsStandIn 103 = false by kernel_rfl)⟩)
    (by kernel_rfl)
end Go.Proofs.G2
namespace Go.Proofs.YtfgdbanigkfjlaaDoor
theorem growthAsks_card : Rows.GrowthAsksCardSaid := Go.Proofs.G2.asks_card Go.Proofs.G2.asks_true
end Go.Proofs.YtfgdbanigkfjlaaDoor
