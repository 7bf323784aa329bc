/- For every input GrowthKeeps returns true and leaves its input as it was. Conditions: the package variable growth.kinds holds what the text of the program lays there. -/
import Derived.Test.YtfgdbanigkfjlaaDoorKeepsA
import Derived.Test.YtfgdbanigkfjlaaDoorMkeeps
namespace Go.Proofs.G2
open Go Go.Sim Go.Proofs Go.Proofs.YtfgdbanigkfjlaaDoor
set_option maxRecDepth 20000
theorem keeps_card (keeps_true : ∀ (a0 : XSpecies) (a1 : XBox) (a2 : XSeason) (a3 : XBox) (a4 : XTrue) (a5 : XTrue), ∃ fu, law02_GrowthKeeps fu a0 a1 a2 a3 a4 a5 = some true) : Rows.GrowthKeepsCardSaid :=
  Claim7.holds_tied_plain_at .later [] [.data] true (true, "3d762f3adc66156c51b1d5001e66e008ac41d833046e4c61f1652d89ea6706f7") false
    (keeps_holds keeps_true) (fun _ h => by cases h) (by kernel_rfl) (fun _ h => by cases h) growthKeeps_row_tie rfl ⟨rfl, rfl⟩ (by kernel_rfl) rfl
    (fun f fn hf hfn => by
      obtain rfl : f = 12 := Option.some.inj ((show Tryd.prog.funcNamed "greenhew/greenhewlaw02.GrowthKeeps" = some 12 by kernel_rfl).symm.trans hf) |>.symm
      obtain rfl : fn = Tryd.f12 := (Option.some.inj (Tryd.func12.symm.trans hfn)).symm
      exact ⟨by kernel_rfl, fun j t ht => by
        rw [Tryd.params12] at ht
        have hj : t ∈ [26, 46, 58, 46, 66, 66] := by
          rcases j with _ | _ | _ | _ | _ | _ | j
          · have e : 26 = t := by simpa using ht
            rw [← e]; simp
          · have e : 46 = t := by simpa using ht
            rw [← e]; simp
          · have e : 58 = t := by simpa using ht
            rw [← e]; simp
          · have e : 46 = t := by simpa using ht
            rw [← e]; simp
          · have e : 66 = t := by simpa using ht
            rw [← e]; simp
          · have e : 66 = t := by simpa using ht
            rw [← e]; simp
          · simp at ht
        simp only [List.mem_cons, List.not_mem_nil, or_false] at hj
        rcases hj with rfl | rfl | rfl | rfl | rfl | rfl
        · exact (show Tryd.prog.wantsStandIn 26 = false by kernel_rfl)
        · exact (show Tryd.prog.wantsStandIn 46 = false by kernel_rfl)
        · exact (show Tryd.prog.wantsStandIn 58 = false by kernel_rfl)
        · exact (show Tryd.prog.wantsStandIn 46 = false by kernel_rfl)
        · exact (show Tryd.prog.wantsStandIn 66 = false by kernel_rfl)
        · exact (show Tryd.prog.wantsStandIn 66 = false by kernel_rfl)⟩)
    (by kernel_rfl)
end Go.Proofs.G2
namespace Go.Proofs.YtfgdbanigkfjlaaDoor
theorem growthKeeps_card : Rows.GrowthKeepsCardSaid := Go.Proofs.G2.keeps_card Go.Proofs.G2.keeps_true
end Go.Proofs.YtfgdbanigkfjlaaDoor
