/-
  DERIVED. GIVEN WITH THE SEED: THE CARDS: each row of YtfgdbanigkfjlaaDoorRows.lean that lists a variable, with what it lists TIED to the program's text (the seventh form; the later family's looks); each row that meets fmt, with fmt's text TOLD by the authors' own Lean function (tested against real Go, not proved from fmt's source: count such statements apart). THE CARD IS WHAT COUNTS. Prove the row's statement (the work); the ties are given (YtfgdbanigkfjlaaDoorTie.lean); close each card by the builder's one call (the guide's Derived/Test/ToyasCard.lean, 'card_holds'). Laid BY PROGRAM, IN A SANDBOX (cutbox-door.mjs). By AI agents, Wed Nov 11 2026. No macro, syntax, notation, axiom, sorry.
-/
import Derived.Test.YtfgdbanigkfjlaaDoorRows
import GoSem.ClaimSeven
namespace Go.Proofs.YtfgdbanigkfjlaaDoor
namespace Rows

/-- THE TIED CARD OF 'greenhewlaw02.GrowthGrows'. -/
def growthGrowsCard : Claim7 := { stood := { row := growthGrowsRow, standIns := [], harness := (true, "3d762f3adc66156c51b1d5001e66e008ac41d833046e4c61f1652d89ea6706f7"), looks := false }, kinds := [], alts := [], laidByText := true, laidKinds := [.data], laidTests := true, laidLooks := .later }
def GrowthGrowsCardSaid : Prop := Claim7.holds Tryd.pinned (.plain (OpenSpec.ofChange growthGrowsSpec)) growthGrowsCard

/-- THE TIED CARD OF 'greenhewlaw02.GrowthMonotone'. -/
def growthMonotoneCard : Claim7 := { stood := { row := growthMonotoneRow, standIns := [], harness := (true, "3d762f3adc66156c51b1d5001e66e008ac41d833046e4c61f1652d89ea6706f7"), looks := false }, kinds := [], alts := [], laidByText := true, laidKinds := [.data], laidTests := true, laidLooks := .later }
def GrowthMonotoneCardSaid : Prop := Claim7.holds Tryd.pinned (.plain (OpenSpec.ofChange growthMonotoneSpec)) growthMonotoneCard

/-- THE TIED CARD OF 'greenhewlaw02.GrowthSteps'. -/
def growthStepsCard : Claim7 := { stood := { row := growthStepsRow, standIns := [], harness := (true, "3d762f3adc66156c51b1d5001e66e008ac41d833046e4c61f1652d89ea6706f7"), looks := false }, kinds := [], alts := [], laidByText := true, laidKinds := [.data], laidTests := true, laidLooks := .later }
def GrowthStepsCardSaid : Prop := Claim7.holds Tryd.pinned (.plain (OpenSpec.ofChange growthStepsSpec)) growthStepsCard

/-- THE TIED CARD OF 'greenhewlaw02.GrowthTrue'. -/
def growthTrueCard : Claim7 := { stood := { row := growthTrueRow, standIns := [], harness := (true, "3d762f3adc66156c51b1d5001e66e008ac41d833046e4c61f1652d89ea6706f7"), looks := false }, kinds := [], alts := [], laidByText := true, laidKinds := [.data], laidTests := true, laidLooks := .later }
def GrowthTrueCardSaid : Prop := Claim7.holds Tryd.pinned (.plain (OpenSpec.ofChange growthTrueSpec)) growthTrueCard

/-- THE TIED CARD OF 'greenhewlaw02.GrowthTight'. -/
def growthTightCard : Claim7 := { stood := { row := growthTightRow, standIns := [], harness := (true, "3d762f3adc66156c51b1d5001e66e008ac41d833046e4c61f1652d89ea6706f7"), looks := false }, kinds := [], alts := [], laidByText := true, laidKinds := [.data], laidTests := true, laidLooks := .later }
def GrowthTightCardSaid : Prop := Claim7.holds Tryd.pinned (.plain (OpenSpec.ofChange growthTightSpec)) growthTightCard

/-- THE TIED CARD OF 'greenhewlaw02.GrowthReady'. -/
def growthReadyCard : Claim7 := { stood := { row := growthReadyRow, standIns := [], harness := (true, "3d762f3adc66156c51b1d5001e66e008ac41d833046e4c61f1652d89ea6706f7"), looks := false }, kinds := [], alts := [], laidByText := true, laidKinds := [.data], laidTests := true, laidLooks := .later }
def GrowthReadyCardSaid : Prop := Claim7.holds Tryd.pinned (.plain (OpenSpec.ofChange growthReadySpec)) growthReadyCard

/-- THE TIED CARD OF 'greenhewlaw02.GrowthLiters'. -/
def growthLitersCard : Claim7 := { stood := { row := growthLitersRow, standIns := [], harness := (true, "3d762f3adc66156c51b1d5001e66e008ac41d833046e4c61f1652d89ea6706f7"), looks := false }, kinds := [], alts := [], laidByText := true, laidKinds := [.data], laidTests := true, laidLooks := .later }
def GrowthLitersCardSaid : Prop := Claim7.holds Tryd.pinned (.plain (OpenSpec.ofChange growthLitersSpec)) growthLitersCard

/-- THE TIED CARD OF 'greenhewlaw02.GrowthNarrows'. -/
def growthNarrowsCard : Claim7 := { stood := { row := growthNarrowsRow, standIns := [], harness := (true, "3d762f3adc66156c51b1d5001e66e008ac41d833046e4c61f1652d89ea6706f7"), looks := false }, kinds := [], alts := [], laidByText := true, laidKinds := [.data], laidTests := true, laidLooks := .later }
def GrowthNarrowsCardSaid : Prop := Claim7.holds Tryd.pinned (.plain (OpenSpec.ofChange growthNarrowsSpec)) growthNarrowsCard

/-- THE TIED CARD OF 'greenhewlaw02.GrowthBacks'. -/
def growthBacksCard : Claim7 := { stood := { row := growthBacksRow, standIns := [], harness := (true, "3d762f3adc66156c51b1d5001e66e008ac41d833046e4c61f1652d89ea6706f7"), looks := false }, kinds := [], alts := [], laidByText := true, laidKinds := [.data], laidTests := true, laidLooks := .later }
def GrowthBacksCardSaid : Prop := Claim7.holds Tryd.pinned (.plain (OpenSpec.ofChange growthBacksSpec)) growthBacksCard

/-- THE TIED CARD OF 'greenhewlaw02.GrowthKeeps'. -/
def growthKeepsCard : Claim7 := { stood := { row := growthKeepsRow, standIns := [], harness := (true, "3d762f3adc66156c51b1d5001e66e008ac41d833046e4c61f1652d89ea6706f7"), looks := false }, kinds := [], alts := [], laidByText := true, laidKinds := [.data], laidTests := true, laidLooks := .later }
def GrowthKeepsCardSaid : Prop := Claim7.holds Tryd.pinned (.plain (OpenSpec.ofChange growthKeepsSpec)) growthKeepsCard

/-- THE TIED CARD OF 'greenhewlaw02.GrowthSmooths'. -/
def growthSmoothsCard : Claim7 := { stood := { row := growthSmoothsRow, standIns := [], harness := (true, "3d762f3adc66156c51b1d5001e66e008ac41d833046e4c61f1652d89ea6706f7"), looks := false }, kinds := [], alts := [], laidByText := true, laidKinds := [.data], laidTests := true, laidLooks := .later }
def GrowthSmoothsCardSaid : Prop := Claim7.holds Tryd.pinned (.plain (OpenSpec.ofChange growthSmoothsSpec)) growthSmoothsCard

/-- THE TIED CARD OF 'greenhewlaw02.GrowthSurveyed'. -/
def growthSurveyedCard : Claim7 := { stood := { row := growthSurveyedRow, standIns := [], harness := (true, "3d762f3adc66156c51b1d5001e66e008ac41d833046e4c61f1652d89ea6706f7"), looks := false }, kinds := [], alts := [], laidByText := true, laidKinds := [.data], laidTests := true, laidLooks := .later }
def GrowthSurveyedCardSaid : Prop := Claim7.holds Tryd.pinned (.plain (OpenSpec.ofChange growthSurveyedSpec)) growthSurveyedCard

/-- THE TIED CARD OF 'greenhewlaw02.GrowthAsks'. -/
def growthAsksCard : Claim7 := { stood := { row := growthAsksRow, standIns := [], harness := (true, "3d762f3adc66156c51b1d5001e66e008ac41d833046e4c61f1652d89ea6706f7"), looks := false }, kinds := [], alts := [], laidByText := true, laidKinds := [.data], laidTests := true, laidLooks := .later }
def GrowthAsksCardSaid : Prop := Claim7.holds Tryd.pinned (.plain (OpenSpec.ofChange growthAsksSpec)) growthAsksCard

/-- THE TIED CARD OF 'greenhewlaw02.GrowthWider'. -/
def growthWiderCard : Claim7 := { stood := { row := growthWiderRow, standIns := [], harness := (true, "3d762f3adc66156c51b1d5001e66e008ac41d833046e4c61f1652d89ea6706f7"), looks := false }, kinds := [], alts := [], laidByText := true, laidKinds := [.data], laidTests := true, laidLooks := .later }
def GrowthWiderCardSaid : Prop := Claim7.holds Tryd.pinned (.plain (OpenSpec.ofChange growthWiderSpec)) growthWiderCard

/-- THE SECOND FORM's CARD OF 'greenhewlaw02.GrowthGrows'. -/
def growthGrowsUptoCard : Claim7 := { stood := { row := growthGrowsUptoRow, standIns := [], harness := (true, "3d762f3adc66156c51b1d5001e66e008ac41d833046e4c61f1652d89ea6706f7"), looks := false }, kinds := [], alts := [], laidByText := true, laidKinds := [.data], laidTests := true, laidLooks := .later }
def GrowthGrowsUptoCardSaid : Prop := Claim7.holds Tryd.pinned (.plain (OpenSpec.upto growthGrowsSpec)) growthGrowsUptoCard

/-- THE SECOND FORM's CARD OF 'greenhewlaw02.GrowthMonotone'. -/
def growthMonotoneUptoCard : Claim7 := { stood := { row := growthMonotoneUptoRow, standIns := [], harness := (true, "3d762f3adc66156c51b1d5001e66e008ac41d833046e4c61f1652d89ea6706f7"), looks := false }, kinds := [], alts := [], laidByText := true, laidKinds := [.data], laidTests := true, laidLooks := .later }
def GrowthMonotoneUptoCardSaid : Prop := Claim7.holds Tryd.pinned (.plain (OpenSpec.upto growthMonotoneSpec)) growthMonotoneUptoCard

/-- THE SECOND FORM's CARD OF 'greenhewlaw02.GrowthSteps'. -/
def growthStepsUptoCard : Claim7 := { stood := { row := growthStepsUptoRow, standIns := [], harness := (true, "3d762f3adc66156c51b1d5001e66e008ac41d833046e4c61f1652d89ea6706f7"), looks := false }, kinds := [], alts := [], laidByText := true, laidKinds := [.data], laidTests := true, laidLooks := .later }
def GrowthStepsUptoCardSaid : Prop := Claim7.holds Tryd.pinned (.plain (OpenSpec.upto growthStepsSpec)) growthStepsUptoCard

/-- THE SECOND FORM's CARD OF 'greenhewlaw02.GrowthTrue'. -/
def growthTrueUptoCard : Claim7 := { stood := { row := growthTrueUptoRow, standIns := [], harness := (true, "3d762f3adc66156c51b1d5001e66e008ac41d833046e4c61f1652d89ea6706f7"), looks := false }, kinds := [], alts := [], laidByText := true, laidKinds := [.data], laidTests := true, laidLooks := .later }
def GrowthTrueUptoCardSaid : Prop := Claim7.holds Tryd.pinned (.plain (OpenSpec.upto growthTrueSpec)) growthTrueUptoCard

/-- THE SECOND FORM's CARD OF 'greenhewlaw02.GrowthTight'. -/
def growthTightUptoCard : Claim7 := { stood := { row := growthTightUptoRow, standIns := [], harness := (true, "3d762f3adc66156c51b1d5001e66e008ac41d833046e4c61f1652d89ea6706f7"), looks := false }, kinds := [], alts := [], laidByText := true, laidKinds := [.data], laidTests := true, laidLooks := .later }
def GrowthTightUptoCardSaid : Prop := Claim7.holds Tryd.pinned (.plain (OpenSpec.upto growthTightSpec)) growthTightUptoCard

/-- THE SECOND FORM's CARD OF 'greenhewlaw02.GrowthReady'. -/
def growthReadyUptoCard : Claim7 := { stood := { row := growthReadyUptoRow, standIns := [], harness := (true, "3d762f3adc66156c51b1d5001e66e008ac41d833046e4c61f1652d89ea6706f7"), looks := false }, kinds := [], alts := [], laidByText := true, laidKinds := [.data], laidTests := true, laidLooks := .later }
def GrowthReadyUptoCardSaid : Prop := Claim7.holds Tryd.pinned (.plain (OpenSpec.upto growthReadySpec)) growthReadyUptoCard

/-- THE SECOND FORM's CARD OF 'greenhewlaw02.GrowthLiters'. -/
def growthLitersUptoCard : Claim7 := { stood := { row := growthLitersUptoRow, standIns := [], harness := (true, "3d762f3adc66156c51b1d5001e66e008ac41d833046e4c61f1652d89ea6706f7"), looks := false }, kinds := [], alts := [], laidByText := true, laidKinds := [.data], laidTests := true, laidLooks := .later }
def GrowthLitersUptoCardSaid : Prop := Claim7.holds Tryd.pinned (.plain (OpenSpec.upto growthLitersSpec)) growthLitersUptoCard

/-- THE SECOND FORM's CARD OF 'greenhewlaw02.GrowthNarrows'. -/
def growthNarrowsUptoCard : Claim7 := { stood := { row := growthNarrowsUptoRow, standIns := [], harness := (true, "3d762f3adc66156c51b1d5001e66e008ac41d833046e4c61f1652d89ea6706f7"), looks := false }, kinds := [], alts := [], laidByText := true, laidKinds := [.data], laidTests := true, laidLooks := .later }
def GrowthNarrowsUptoCardSaid : Prop := Claim7.holds Tryd.pinned (.plain (OpenSpec.upto growthNarrowsSpec)) growthNarrowsUptoCard

/-- THE SECOND FORM's CARD OF 'greenhewlaw02.GrowthBacks'. -/
def growthBacksUptoCard : Claim7 := { stood := { row := growthBacksUptoRow, standIns := [], harness := (true, "3d762f3adc66156c51b1d5001e66e008ac41d833046e4c61f1652d89ea6706f7"), looks := false }, kinds := [], alts := [], laidByText := true, laidKinds := [.data], laidTests := true, laidLooks := .later }
def GrowthBacksUptoCardSaid : Prop := Claim7.holds Tryd.pinned (.plain (OpenSpec.upto growthBacksSpec)) growthBacksUptoCard

/-- THE SECOND FORM's CARD OF 'greenhewlaw02.GrowthKeeps'. -/
def growthKeepsUptoCard : Claim7 := { stood := { row := growthKeepsUptoRow, standIns := [], harness := (true, "3d762f3adc66156c51b1d5001e66e008ac41d833046e4c61f1652d89ea6706f7"), looks := false }, kinds := [], alts := [], laidByText := true, laidKinds := [.data], laidTests := true, laidLooks := .later }
def GrowthKeepsUptoCardSaid : Prop := Claim7.holds Tryd.pinned (.plain (OpenSpec.upto growthKeepsSpec)) growthKeepsUptoCard

/-- THE SECOND FORM's CARD OF 'greenhewlaw02.GrowthSmooths'. -/
def growthSmoothsUptoCard : Claim7 := { stood := { row := growthSmoothsUptoRow, standIns := [], harness := (true, "3d762f3adc66156c51b1d5001e66e008ac41d833046e4c61f1652d89ea6706f7"), looks := false }, kinds := [], alts := [], laidByText := true, laidKinds := [.data], laidTests := true, laidLooks := .later }
def GrowthSmoothsUptoCardSaid : Prop := Claim7.holds Tryd.pinned (.plain (OpenSpec.upto growthSmoothsSpec)) growthSmoothsUptoCard

/-- THE SECOND FORM's CARD OF 'greenhewlaw02.GrowthSurveyed'. -/
def growthSurveyedUptoCard : Claim7 := { stood := { row := growthSurveyedUptoRow, standIns := [], harness := (true, "3d762f3adc66156c51b1d5001e66e008ac41d833046e4c61f1652d89ea6706f7"), looks := false }, kinds := [], alts := [], laidByText := true, laidKinds := [.data], laidTests := true, laidLooks := .later }
def GrowthSurveyedUptoCardSaid : Prop := Claim7.holds Tryd.pinned (.plain (OpenSpec.upto growthSurveyedSpec)) growthSurveyedUptoCard

/-- THE SECOND FORM's CARD OF 'greenhewlaw02.GrowthAsks'. -/
def growthAsksUptoCard : Claim7 := { stood := { row := growthAsksUptoRow, standIns := [], harness := (true, "3d762f3adc66156c51b1d5001e66e008ac41d833046e4c61f1652d89ea6706f7"), looks := false }, kinds := [], alts := [], laidByText := true, laidKinds := [.data], laidTests := true, laidLooks := .later }
def GrowthAsksUptoCardSaid : Prop := Claim7.holds Tryd.pinned (.plain (OpenSpec.upto growthAsksSpec)) growthAsksUptoCard

/-- THE SECOND FORM's CARD OF 'greenhewlaw02.GrowthWider'. -/
def growthWiderUptoCard : Claim7 := { stood := { row := growthWiderUptoRow, standIns := [], harness := (true, "3d762f3adc66156c51b1d5001e66e008ac41d833046e4c61f1652d89ea6706f7"), looks := false }, kinds := [], alts := [], laidByText := true, laidKinds := [.data], laidTests := true, laidLooks := .later }
def GrowthWiderUptoCardSaid : Prop := Claim7.holds Tryd.pinned (.plain (OpenSpec.upto growthWiderSpec)) growthWiderUptoCard
end Rows
end Go.Proofs.YtfgdbanigkfjlaaDoor
