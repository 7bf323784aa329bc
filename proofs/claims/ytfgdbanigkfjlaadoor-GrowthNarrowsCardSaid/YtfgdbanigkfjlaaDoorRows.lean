/-
  NARROWER THAN 'FOR EVERY INPUT', by the rows' own cells (each row's printed sentence says how): GrowthGrows: laid · GrowthMonotone: laid · GrowthSteps: laid · GrowthTrue: laid · GrowthTight: laid · GrowthReady: laid · GrowthLiters: laid · GrowthNarrows: laid · GrowthBacks: laid · GrowthKeeps: laid · GrowthSmooths: laid · GrowthSurveyed: laid · GrowthAsks: laid · GrowthWider: laid.
  DERIVED. THE GIVEN ROWS OF THIS SEAT. 14 by the template 'for every input the law returns true; each argument reads behind the call as it read before'; 0 by the template 'total and deterministic' (their statements: YtfgdbanigkfjlaaDoorTotals.lean).
  GIVEN WITH THE SEED: the statements are not yours to turn. If you find one false, say at which input.
  Laid BY PROGRAM, IN A SANDBOX (cutbox-rows.mjs): the forced cells as the released guide's own fill.sh prints them over the translation b9c9a181842f8039… (all of the seat's roots in one cut). By AI agents, Wed Nov 11 2026. No macro, syntax, notation, axiom, sorry.
-/
import Derived.Test.YtfgdbanigkfjlaaDoorChecked
import GoSem.Claim
import GoSem.ClaimJoined
import GoSem.ClaimMapViews
import Derived.JoinedTies
import Derived.KernelRfl
namespace Go.Proofs.YtfgdbanigkfjlaaDoor
/- THE CELL 'sum', in the pinned program and in every row, IS THE sha256 OF THE DUMP (.gsa) THAT YtfgdbanigkfjlaaDoorProg.lean LOADS. Nothing in Lean hashes anything: it is a label: what it is worth is what the hold of that sum in a sandbox is worth. -/
noncomputable def Tryd.pinned : Pinned := { name := "ytfgdbanigkfjlaadoor", sum := "b9c9a181842f8039f74689eb7aef9a82af96b392ef866a0b45ddc50ca858f48a", checked := Tryd.checked }
namespace Rows
def none {H : Type} : Left H := { results := [], args := [] }

/- WHAT THE LISTED PACKAGE-LEVEL VARIABLES READ AS WHEN THE CALL BEGINS. Each datum BY PROGRAM (the guide's laid-datum.mjs) off the statement by which the dump's own 'gosem.cut.vars' lays the variable. In a bare row this is a premise. The card (YtfgdbanigkfjlaaDoorCards.lean) ties it to the program's text. -/
def laid_greenhew_growth_kinds {H : Type} : DataW H := .agg [.lit (.int .i64 1), .lit (.int .i64 2), .lit (.int .i64 3)]

/-- 'greenhewlaw02.GrowthGrows': WHATEVER THE INPUT: true; the input reads as it did. -/
def growthGrowsSpec : ChangeSpec := { name := "growthGrows", fn := fun _ => fun
  | [d1, d2, d3] => { results := [.lit (.bool true)], args := [d1, d2, d3] }
  | _ => none }
def growthGrowsRow : OpenClaim := { program := "ytfgdbanigkfjlaadoor", sum := "b9c9a181842f8039f74689eb7aef9a82af96b392ef866a0b45ddc50ca858f48a", func := "greenhew/greenhewlaw02.GrowthGrows", spec := "growthGrows", unfollowed := true, recurses := true, named := ["greenhew/growth.kinds"], apart := false, laid := [("greenhew/growth.kinds", laid_greenhew_growth_kinds)] }
def GrowthGrowsSaid : Prop := growthGrowsRow.holds Tryd.pinned (OpenSpec.ofChange growthGrowsSpec)

/-- ITS FALSE NEIGHBOUR: 'it returns false'. Refute it at one input. -/
def growthGrowsWrong : ChangeSpec := { name := "growthGrows", fn := fun _ => fun
  | [d1, d2, d3] => { results := [.lit (.bool false)], args := [d1, d2, d3] }
  | _ => none }
def GrowthGrowsWrongFalsely : Prop := growthGrowsRow.holds Tryd.pinned (OpenSpec.ofChange growthGrowsWrong)

/-- 'greenhewlaw02.GrowthMonotone': WHATEVER THE INPUT: true; the input reads as it did. -/
def growthMonotoneSpec : ChangeSpec := { name := "growthMonotone", fn := fun _ => fun
  | [d1, d2, d3, d4, d5, d6, d7, d8] => { results := [.lit (.bool true)], args := [d1, d2, d3, d4, d5, d6, d7, d8] }
  | _ => none }
def growthMonotoneRow : OpenClaim := { program := "ytfgdbanigkfjlaadoor", sum := "b9c9a181842f8039f74689eb7aef9a82af96b392ef866a0b45ddc50ca858f48a", func := "greenhew/greenhewlaw02.GrowthMonotone", spec := "growthMonotone", unfollowed := true, recurses := true, named := ["greenhew/growth.kinds"], apart := false, laid := [("greenhew/growth.kinds", laid_greenhew_growth_kinds)] }
def GrowthMonotoneSaid : Prop := growthMonotoneRow.holds Tryd.pinned (OpenSpec.ofChange growthMonotoneSpec)

/-- ITS FALSE NEIGHBOUR: 'it returns false'. Refute it at one input. -/
def growthMonotoneWrong : ChangeSpec := { name := "growthMonotone", fn := fun _ => fun
  | [d1, d2, d3, d4, d5, d6, d7, d8] => { results := [.lit (.bool false)], args := [d1, d2, d3, d4, d5, d6, d7, d8] }
  | _ => none }
def GrowthMonotoneWrongFalsely : Prop := growthMonotoneRow.holds Tryd.pinned (OpenSpec.ofChange growthMonotoneWrong)

/-- 'greenhewlaw02.GrowthSteps': WHATEVER THE INPUT: true; the input reads as it did. -/
def growthStepsSpec : ChangeSpec := { name := "growthSteps", fn := fun _ => fun
  | [d1, d2, d3, d4] => { results := [.lit (.bool true)], args := [d1, d2, d3, d4] }
  | _ => none }
def growthStepsRow : OpenClaim := { program := "ytfgdbanigkfjlaadoor", sum := "b9c9a181842f8039f74689eb7aef9a82af96b392ef866a0b45ddc50ca858f48a", func := "greenhew/greenhewlaw02.GrowthSteps", spec := "growthSteps", unfollowed := true, recurses := true, named := ["greenhew/growth.kinds"], apart := false, laid := [("greenhew/growth.kinds", laid_greenhew_growth_kinds)] }
def GrowthStepsSaid : Prop := growthStepsRow.holds Tryd.pinned (OpenSpec.ofChange growthStepsSpec)

/-- ITS FALSE NEIGHBOUR: 'it returns false'. Refute it at one input. -/
def growthStepsWrong : ChangeSpec := { name := "growthSteps", fn := fun _ => fun
  | [d1, d2, d3, d4] => { results := [.lit (.bool false)], args := [d1, d2, d3, d4] }
  | _ => none }
def GrowthStepsWrongFalsely : Prop := growthStepsRow.holds Tryd.pinned (OpenSpec.ofChange growthStepsWrong)

/-- 'greenhewlaw02.GrowthTrue': WHATEVER THE INPUT: true; the input reads as it did. -/
def growthTrueSpec : ChangeSpec := { name := "growthTrue", fn := fun _ => fun
  | [d1, d2, d3, d4, d5] => { results := [.lit (.bool true)], args := [d1, d2, d3, d4, d5] }
  | _ => none }
def growthTrueRow : OpenClaim := { program := "ytfgdbanigkfjlaadoor", sum := "b9c9a181842f8039f74689eb7aef9a82af96b392ef866a0b45ddc50ca858f48a", func := "greenhew/greenhewlaw02.GrowthTrue", spec := "growthTrue", unfollowed := true, recurses := true, named := ["greenhew/growth.kinds"], apart := false, laid := [("greenhew/growth.kinds", laid_greenhew_growth_kinds)] }
def GrowthTrueSaid : Prop := growthTrueRow.holds Tryd.pinned (OpenSpec.ofChange growthTrueSpec)

/-- ITS FALSE NEIGHBOUR: 'it returns false'. Refute it at one input. -/
def growthTrueWrong : ChangeSpec := { name := "growthTrue", fn := fun _ => fun
  | [d1, d2, d3, d4, d5] => { results := [.lit (.bool false)], args := [d1, d2, d3, d4, d5] }
  | _ => none }
def GrowthTrueWrongFalsely : Prop := growthTrueRow.holds Tryd.pinned (OpenSpec.ofChange growthTrueWrong)

/-- 'greenhewlaw02.GrowthTight': WHATEVER THE INPUT: true; the input reads as it did. -/
def growthTightSpec : ChangeSpec := { name := "growthTight", fn := fun _ => fun
  | [d1, d2, d3] => { results := [.lit (.bool true)], args := [d1, d2, d3] }
  | _ => none }
def growthTightRow : OpenClaim := { program := "ytfgdbanigkfjlaadoor", sum := "b9c9a181842f8039f74689eb7aef9a82af96b392ef866a0b45ddc50ca858f48a", func := "greenhew/greenhewlaw02.GrowthTight", spec := "growthTight", unfollowed := true, recurses := true, named := ["greenhew/growth.kinds"], apart := false, laid := [("greenhew/growth.kinds", laid_greenhew_growth_kinds)] }
def GrowthTightSaid : Prop := growthTightRow.holds Tryd.pinned (OpenSpec.ofChange growthTightSpec)

/-- ITS FALSE NEIGHBOUR: 'it returns false'. Refute it at one input. -/
def growthTightWrong : ChangeSpec := { name := "growthTight", fn := fun _ => fun
  | [d1, d2, d3] => { results := [.lit (.bool false)], args := [d1, d2, d3] }
  | _ => none }
def GrowthTightWrongFalsely : Prop := growthTightRow.holds Tryd.pinned (OpenSpec.ofChange growthTightWrong)

/-- 'greenhewlaw02.GrowthReady': WHATEVER THE INPUT: true; the input reads as it did. -/
def growthReadySpec : ChangeSpec := { name := "growthReady", fn := fun _ => fun
  | [d1, d2, d3, d4] => { results := [.lit (.bool true)], args := [d1, d2, d3, d4] }
  | _ => none }
def growthReadyRow : OpenClaim := { program := "ytfgdbanigkfjlaadoor", sum := "b9c9a181842f8039f74689eb7aef9a82af96b392ef866a0b45ddc50ca858f48a", func := "greenhew/greenhewlaw02.GrowthReady", spec := "growthReady", unfollowed := true, recurses := true, named := ["greenhew/growth.kinds"], apart := false, laid := [("greenhew/growth.kinds", laid_greenhew_growth_kinds)] }
def GrowthReadySaid : Prop := growthReadyRow.holds Tryd.pinned (OpenSpec.ofChange growthReadySpec)

/-- ITS FALSE NEIGHBOUR: 'it returns false'. Refute it at one input. -/
def growthReadyWrong : ChangeSpec := { name := "growthReady", fn := fun _ => fun
  | [d1, d2, d3, d4] => { results := [.lit (.bool false)], args := [d1, d2, d3, d4] }
  | _ => none }
def GrowthReadyWrongFalsely : Prop := growthReadyRow.holds Tryd.pinned (OpenSpec.ofChange growthReadyWrong)

/-- 'greenhewlaw02.GrowthLiters': WHATEVER THE INPUT: true; the input reads as it did. -/
def growthLitersSpec : ChangeSpec := { name := "growthLiters", fn := fun _ => fun
  | [d1, d2, d3, d4, d5, d6] => { results := [.lit (.bool true)], args := [d1, d2, d3, d4, d5, d6] }
  | _ => none }
def growthLitersRow : OpenClaim := { program := "ytfgdbanigkfjlaadoor", sum := "b9c9a181842f8039f74689eb7aef9a82af96b392ef866a0b45ddc50ca858f48a", func := "greenhew/greenhewlaw02.GrowthLiters", spec := "growthLiters", unfollowed := true, recurses := true, named := ["greenhew/growth.kinds"], apart := false, laid := [("greenhew/growth.kinds", laid_greenhew_growth_kinds)] }
def GrowthLitersSaid : Prop := growthLitersRow.holds Tryd.pinned (OpenSpec.ofChange growthLitersSpec)

/-- ITS FALSE NEIGHBOUR: 'it returns false'. Refute it at one input. -/
def growthLitersWrong : ChangeSpec := { name := "growthLiters", fn := fun _ => fun
  | [d1, d2, d3, d4, d5, d6] => { results := [.lit (.bool false)], args := [d1, d2, d3, d4, d5, d6] }
  | _ => none }
def GrowthLitersWrongFalsely : Prop := growthLitersRow.holds Tryd.pinned (OpenSpec.ofChange growthLitersWrong)

/-- 'greenhewlaw02.GrowthNarrows': WHATEVER THE INPUT: true; the input reads as it did. -/
def growthNarrowsSpec : ChangeSpec := { name := "growthNarrows", fn := fun _ => fun
  | [d1, d2] => { results := [.lit (.bool true)], args := [d1, d2] }
  | _ => none }
def growthNarrowsRow : OpenClaim := { program := "ytfgdbanigkfjlaadoor", sum := "b9c9a181842f8039f74689eb7aef9a82af96b392ef866a0b45ddc50ca858f48a", func := "greenhew/greenhewlaw02.GrowthNarrows", spec := "growthNarrows", unfollowed := true, recurses := true, named := ["greenhew/growth.kinds"], apart := false, laid := [("greenhew/growth.kinds", laid_greenhew_growth_kinds)] }
def GrowthNarrowsSaid : Prop := growthNarrowsRow.holds Tryd.pinned (OpenSpec.ofChange growthNarrowsSpec)

/-- ITS FALSE NEIGHBOUR: 'it returns false'. Refute it at one input. -/
def growthNarrowsWrong : ChangeSpec := { name := "growthNarrows", fn := fun _ => fun
  | [d1, d2] => { results := [.lit (.bool false)], args := [d1, d2] }
  | _ => none }
def GrowthNarrowsWrongFalsely : Prop := growthNarrowsRow.holds Tryd.pinned (OpenSpec.ofChange growthNarrowsWrong)

/-- 'greenhewlaw02.GrowthBacks': WHATEVER THE INPUT: true; the input reads as it did. -/
def growthBacksSpec : ChangeSpec := { name := "growthBacks", fn := fun _ => fun
  | [d1, d2, d3, d4] => { results := [.lit (.bool true)], args := [d1, d2, d3, d4] }
  | _ => none }
def growthBacksRow : OpenClaim := { program := "ytfgdbanigkfjlaadoor", sum := "b9c9a181842f8039f74689eb7aef9a82af96b392ef866a0b45ddc50ca858f48a", func := "greenhew/greenhewlaw02.GrowthBacks", spec := "growthBacks", unfollowed := true, recurses := true, named := ["greenhew/growth.kinds"], apart := false, laid := [("greenhew/growth.kinds", laid_greenhew_growth_kinds)] }
def GrowthBacksSaid : Prop := growthBacksRow.holds Tryd.pinned (OpenSpec.ofChange growthBacksSpec)

/-- ITS FALSE NEIGHBOUR: 'it returns false'. Refute it at one input. -/
def growthBacksWrong : ChangeSpec := { name := "growthBacks", fn := fun _ => fun
  | [d1, d2, d3, d4] => { results := [.lit (.bool false)], args := [d1, d2, d3, d4] }
  | _ => none }
def GrowthBacksWrongFalsely : Prop := growthBacksRow.holds Tryd.pinned (OpenSpec.ofChange growthBacksWrong)

/-- 'greenhewlaw02.GrowthKeeps': WHATEVER THE INPUT: true; the input reads as it did. -/
def growthKeepsSpec : ChangeSpec := { name := "growthKeeps", fn := fun _ => fun
  | [d1, d2, d3, d4, d5, d6] => { results := [.lit (.bool true)], args := [d1, d2, d3, d4, d5, d6] }
  | _ => none }
def growthKeepsRow : OpenClaim := { program := "ytfgdbanigkfjlaadoor", sum := "b9c9a181842f8039f74689eb7aef9a82af96b392ef866a0b45ddc50ca858f48a", func := "greenhew/greenhewlaw02.GrowthKeeps", spec := "growthKeeps", unfollowed := true, recurses := true, named := ["greenhew/growth.kinds"], apart := false, laid := [("greenhew/growth.kinds", laid_greenhew_growth_kinds)] }
def GrowthKeepsSaid : Prop := growthKeepsRow.holds Tryd.pinned (OpenSpec.ofChange growthKeepsSpec)

/-- ITS FALSE NEIGHBOUR: 'it returns false'. Refute it at one input. -/
def growthKeepsWrong : ChangeSpec := { name := "growthKeeps", fn := fun _ => fun
  | [d1, d2, d3, d4, d5, d6] => { results := [.lit (.bool false)], args := [d1, d2, d3, d4, d5, d6] }
  | _ => none }
def GrowthKeepsWrongFalsely : Prop := growthKeepsRow.holds Tryd.pinned (OpenSpec.ofChange growthKeepsWrong)

/-- 'greenhewlaw02.GrowthSmooths': WHATEVER THE INPUT: true; the input reads as it did. -/
def growthSmoothsSpec : ChangeSpec := { name := "growthSmooths", fn := fun _ => fun
  | [d1, d2, d3, d4] => { results := [.lit (.bool true)], args := [d1, d2, d3, d4] }
  | _ => none }
def growthSmoothsRow : OpenClaim := { program := "ytfgdbanigkfjlaadoor", sum := "b9c9a181842f8039f74689eb7aef9a82af96b392ef866a0b45ddc50ca858f48a", func := "greenhew/greenhewlaw02.GrowthSmooths", spec := "growthSmooths", unfollowed := true, recurses := true, named := ["greenhew/growth.kinds"], apart := false, laid := [("greenhew/growth.kinds", laid_greenhew_growth_kinds)] }
def GrowthSmoothsSaid : Prop := growthSmoothsRow.holds Tryd.pinned (OpenSpec.ofChange growthSmoothsSpec)

/-- ITS FALSE NEIGHBOUR: 'it returns false'. Refute it at one input. -/
def growthSmoothsWrong : ChangeSpec := { name := "growthSmooths", fn := fun _ => fun
  | [d1, d2, d3, d4] => { results := [.lit (.bool false)], args := [d1, d2, d3, d4] }
  | _ => none }
def GrowthSmoothsWrongFalsely : Prop := growthSmoothsRow.holds Tryd.pinned (OpenSpec.ofChange growthSmoothsWrong)

/-- 'greenhewlaw02.GrowthSurveyed': WHATEVER THE INPUT: true; the input reads as it did. -/
def growthSurveyedSpec : ChangeSpec := { name := "growthSurveyed", fn := fun _ => fun
  | [d1, d2, d3, d4, d5, d6] => { results := [.lit (.bool true)], args := [d1, d2, d3, d4, d5, d6] }
  | _ => none }
def growthSurveyedRow : OpenClaim := { program := "ytfgdbanigkfjlaadoor", sum := "b9c9a181842f8039f74689eb7aef9a82af96b392ef866a0b45ddc50ca858f48a", func := "greenhew/greenhewlaw02.GrowthSurveyed", spec := "growthSurveyed", unfollowed := true, recurses := true, named := ["greenhew/growth.kinds"], apart := false, laid := [("greenhew/growth.kinds", laid_greenhew_growth_kinds)] }
def GrowthSurveyedSaid : Prop := growthSurveyedRow.holds Tryd.pinned (OpenSpec.ofChange growthSurveyedSpec)

/-- ITS FALSE NEIGHBOUR: 'it returns false'. Refute it at one input. -/
def growthSurveyedWrong : ChangeSpec := { name := "growthSurveyed", fn := fun _ => fun
  | [d1, d2, d3, d4, d5, d6] => { results := [.lit (.bool false)], args := [d1, d2, d3, d4, d5, d6] }
  | _ => none }
def GrowthSurveyedWrongFalsely : Prop := growthSurveyedRow.holds Tryd.pinned (OpenSpec.ofChange growthSurveyedWrong)

/-- 'greenhewlaw02.GrowthAsks': WHATEVER THE INPUT: true; the input reads as it did. -/
def growthAsksSpec : ChangeSpec := { name := "growthAsks", fn := fun _ => fun
  | [d1, d2] => { results := [.lit (.bool true)], args := [d1, d2] }
  | _ => none }
def growthAsksRow : OpenClaim := { program := "ytfgdbanigkfjlaadoor", sum := "b9c9a181842f8039f74689eb7aef9a82af96b392ef866a0b45ddc50ca858f48a", func := "greenhew/greenhewlaw02.GrowthAsks", spec := "growthAsks", unfollowed := true, recurses := true, named := ["greenhew/growth.kinds"], apart := false, laid := [("greenhew/growth.kinds", laid_greenhew_growth_kinds)] }
def GrowthAsksSaid : Prop := growthAsksRow.holds Tryd.pinned (OpenSpec.ofChange growthAsksSpec)

/-- ITS FALSE NEIGHBOUR: 'it returns false'. Refute it at one input. -/
def growthAsksWrong : ChangeSpec := { name := "growthAsks", fn := fun _ => fun
  | [d1, d2] => { results := [.lit (.bool false)], args := [d1, d2] }
  | _ => none }
def GrowthAsksWrongFalsely : Prop := growthAsksRow.holds Tryd.pinned (OpenSpec.ofChange growthAsksWrong)

/-- 'greenhewlaw02.GrowthWider': WHATEVER THE INPUT: true; the input reads as it did. -/
def growthWiderSpec : ChangeSpec := { name := "growthWider", fn := fun _ => fun
  | [d1, d2, d3, d4, d5] => { results := [.lit (.bool true)], args := [d1, d2, d3, d4, d5] }
  | _ => none }
def growthWiderRow : OpenClaim := { program := "ytfgdbanigkfjlaadoor", sum := "b9c9a181842f8039f74689eb7aef9a82af96b392ef866a0b45ddc50ca858f48a", func := "greenhew/greenhewlaw02.GrowthWider", spec := "growthWider", unfollowed := true, recurses := true, named := ["greenhew/growth.kinds"], apart := false, laid := [("greenhew/growth.kinds", laid_greenhew_growth_kinds)] }
def GrowthWiderSaid : Prop := growthWiderRow.holds Tryd.pinned (OpenSpec.ofChange growthWiderSpec)

/-- ITS FALSE NEIGHBOUR: 'it returns false'. Refute it at one input. -/
def growthWiderWrong : ChangeSpec := { name := "growthWider", fn := fun _ => fun
  | [d1, d2, d3, d4, d5] => { results := [.lit (.bool false)], args := [d1, d2, d3, d4, d5] }
  | _ => none }
def GrowthWiderWrongFalsely : Prop := growthWiderRow.holds Tryd.pinned (OpenSpec.ofChange growthWiderWrong)

/- THE SECOND FORM. 'bulk': how many values and letters a reading holds, each counted each time it is reached (what is shared counts as often as it is met; a slice's spare places count too). A statement '..UptoSaid' is the law's where the arguments, and the package variables that the reading takes, are together of bulk at most 1048576: NARROWER than '..Said'. Prove '..Said' where nothing that the law and all that it calls make is longer than what came in: it says more and counts as full. Else prove '..UptoSaid'. A law counts once. -/
mutual
def uptoBulk {H : Type} : DataW H → Nat
  | .lit (.string bytes) => bytes.length + 1
  | .lit _ => 1
  | .nil => 1
  | .ptr d => uptoBulk d + 1
  | .slice elems spare => uptoBulkAll elems + uptoBulkAll spare + 1
  | .agg parts => uptoBulkAll parts + 1
  | .iface _ d => uptoBulk d + 1
  | .map entries => uptoBulkEntries entries + 1
  | .held _ => 1
def uptoBulkAll {H : Type} : List (DataW H) → Nat
  | [] => 0
  | d :: r => uptoBulk d + uptoBulkAll r
def uptoBulkEntries {H : Type} : List (Lit × DataW H) → Nat
  | [] => 0
  | x :: r => uptoBulkEntry x + uptoBulkEntries r
def uptoBulkEntry {H : Type} : Lit × DataW H → Nat
  | (.string bytes, d) => bytes.length + uptoBulk d + 1
  | (_, d) => uptoBulk d + 1
 end
def uptoSmall : (H : Type) → List (DataW H) → Bool := fun _ ds => decide (uptoBulkAll ds ≤ 1048576)
def OpenSpec.upto (s : _root_.Go.ChangeSpec) : _root_.Go.OpenSpec := { _root_.Go.OpenSpec.ofChange s with cond := some uptoSmall }

/-- 'greenhewlaw02.GrowthGrows', WHERE WHAT IT READS IS OF BULK AT MOST 1048576: true; the input reads as it did. -/
def growthGrowsUptoRow : OpenClaim := { program := "ytfgdbanigkfjlaadoor", sum := "b9c9a181842f8039f74689eb7aef9a82af96b392ef866a0b45ddc50ca858f48a", func := "greenhew/greenhewlaw02.GrowthGrows", spec := "growthGrows", unfollowed := true, recurses := true, named := ["greenhew/growth.kinds"], apart := false, laid := [("greenhew/growth.kinds", laid_greenhew_growth_kinds)], narrowed := true }
def GrowthGrowsUptoSaid : Prop := growthGrowsUptoRow.holds Tryd.pinned (OpenSpec.upto growthGrowsSpec)

/-- 'greenhewlaw02.GrowthMonotone', WHERE WHAT IT READS IS OF BULK AT MOST 1048576: true; the input reads as it did. -/
def growthMonotoneUptoRow : OpenClaim := { program := "ytfgdbanigkfjlaadoor", sum := "b9c9a181842f8039f74689eb7aef9a82af96b392ef866a0b45ddc50ca858f48a", func := "greenhew/greenhewlaw02.GrowthMonotone", spec := "growthMonotone", unfollowed := true, recurses := true, named := ["greenhew/growth.kinds"], apart := false, laid := [("greenhew/growth.kinds", laid_greenhew_growth_kinds)], narrowed := true }
def GrowthMonotoneUptoSaid : Prop := growthMonotoneUptoRow.holds Tryd.pinned (OpenSpec.upto growthMonotoneSpec)

/-- 'greenhewlaw02.GrowthSteps', WHERE WHAT IT READS IS OF BULK AT MOST 1048576: true; the input reads as it did. -/
def growthStepsUptoRow : OpenClaim := { program := "ytfgdbanigkfjlaadoor", sum := "b9c9a181842f8039f74689eb7aef9a82af96b392ef866a0b45ddc50ca858f48a", func := "greenhew/greenhewlaw02.GrowthSteps", spec := "growthSteps", unfollowed := true, recurses := true, named := ["greenhew/growth.kinds"], apart := false, laid := [("greenhew/growth.kinds", laid_greenhew_growth_kinds)], narrowed := true }
def GrowthStepsUptoSaid : Prop := growthStepsUptoRow.holds Tryd.pinned (OpenSpec.upto growthStepsSpec)

/-- 'greenhewlaw02.GrowthTrue', WHERE WHAT IT READS IS OF BULK AT MOST 1048576: true; the input reads as it did. -/
def growthTrueUptoRow : OpenClaim := { program := "ytfgdbanigkfjlaadoor", sum := "b9c9a181842f8039f74689eb7aef9a82af96b392ef866a0b45ddc50ca858f48a", func := "greenhew/greenhewlaw02.GrowthTrue", spec := "growthTrue", unfollowed := true, recurses := true, named := ["greenhew/growth.kinds"], apart := false, laid := [("greenhew/growth.kinds", laid_greenhew_growth_kinds)], narrowed := true }
def GrowthTrueUptoSaid : Prop := growthTrueUptoRow.holds Tryd.pinned (OpenSpec.upto growthTrueSpec)

/-- 'greenhewlaw02.GrowthTight', WHERE WHAT IT READS IS OF BULK AT MOST 1048576: true; the input reads as it did. -/
def growthTightUptoRow : OpenClaim := { program := "ytfgdbanigkfjlaadoor", sum := "b9c9a181842f8039f74689eb7aef9a82af96b392ef866a0b45ddc50ca858f48a", func := "greenhew/greenhewlaw02.GrowthTight", spec := "growthTight", unfollowed := true, recurses := true, named := ["greenhew/growth.kinds"], apart := false, laid := [("greenhew/growth.kinds", laid_greenhew_growth_kinds)], narrowed := true }
def GrowthTightUptoSaid : Prop := growthTightUptoRow.holds Tryd.pinned (OpenSpec.upto growthTightSpec)

/-- 'greenhewlaw02.GrowthReady', WHERE WHAT IT READS IS OF BULK AT MOST 1048576: true; the input reads as it did. -/
def growthReadyUptoRow : OpenClaim := { program := "ytfgdbanigkfjlaadoor", sum := "b9c9a181842f8039f74689eb7aef9a82af96b392ef866a0b45ddc50ca858f48a", func := "greenhew/greenhewlaw02.GrowthReady", spec := "growthReady", unfollowed := true, recurses := true, named := ["greenhew/growth.kinds"], apart := false, laid := [("greenhew/growth.kinds", laid_greenhew_growth_kinds)], narrowed := true }
def GrowthReadyUptoSaid : Prop := growthReadyUptoRow.holds Tryd.pinned (OpenSpec.upto growthReadySpec)

/-- 'greenhewlaw02.GrowthLiters', WHERE WHAT IT READS IS OF BULK AT MOST 1048576: true; the input reads as it did. -/
def growthLitersUptoRow : OpenClaim := { program := "ytfgdbanigkfjlaadoor", sum := "b9c9a181842f8039f74689eb7aef9a82af96b392ef866a0b45ddc50ca858f48a", func := "greenhew/greenhewlaw02.GrowthLiters", spec := "growthLiters", unfollowed := true, recurses := true, named := ["greenhew/growth.kinds"], apart := false, laid := [("greenhew/growth.kinds", laid_greenhew_growth_kinds)], narrowed := true }
def GrowthLitersUptoSaid : Prop := growthLitersUptoRow.holds Tryd.pinned (OpenSpec.upto growthLitersSpec)

/-- 'greenhewlaw02.GrowthNarrows', WHERE WHAT IT READS IS OF BULK AT MOST 1048576: true; the input reads as it did. -/
def growthNarrowsUptoRow : OpenClaim := { program := "ytfgdbanigkfjlaadoor", sum := "b9c9a181842f8039f74689eb7aef9a82af96b392ef866a0b45ddc50ca858f48a", func := "greenhew/greenhewlaw02.GrowthNarrows", spec := "growthNarrows", unfollowed := true, recurses := true, named := ["greenhew/growth.kinds"], apart := false, laid := [("greenhew/growth.kinds", laid_greenhew_growth_kinds)], narrowed := true }
def GrowthNarrowsUptoSaid : Prop := growthNarrowsUptoRow.holds Tryd.pinned (OpenSpec.upto growthNarrowsSpec)

/-- 'greenhewlaw02.GrowthBacks', WHERE WHAT IT READS IS OF BULK AT MOST 1048576: true; the input reads as it did. -/
def growthBacksUptoRow : OpenClaim := { program := "ytfgdbanigkfjlaadoor", sum := "b9c9a181842f8039f74689eb7aef9a82af96b392ef866a0b45ddc50ca858f48a", func := "greenhew/greenhewlaw02.GrowthBacks", spec := "growthBacks", unfollowed := true, recurses := true, named := ["greenhew/growth.kinds"], apart := false, laid := [("greenhew/growth.kinds", laid_greenhew_growth_kinds)], narrowed := true }
def GrowthBacksUptoSaid : Prop := growthBacksUptoRow.holds Tryd.pinned (OpenSpec.upto growthBacksSpec)

/-- 'greenhewlaw02.GrowthKeeps', WHERE WHAT IT READS IS OF BULK AT MOST 1048576: true; the input reads as it did. -/
def growthKeepsUptoRow : OpenClaim := { program := "ytfgdbanigkfjlaadoor", sum := "b9c9a181842f8039f74689eb7aef9a82af96b392ef866a0b45ddc50ca858f48a", func := "greenhew/greenhewlaw02.GrowthKeeps", spec := "growthKeeps", unfollowed := true, recurses := true, named := ["greenhew/growth.kinds"], apart := false, laid := [("greenhew/growth.kinds", laid_greenhew_growth_kinds)], narrowed := true }
def GrowthKeepsUptoSaid : Prop := growthKeepsUptoRow.holds Tryd.pinned (OpenSpec.upto growthKeepsSpec)

/-- 'greenhewlaw02.GrowthSmooths', WHERE WHAT IT READS IS OF BULK AT MOST 1048576: true; the input reads as it did. -/
def growthSmoothsUptoRow : OpenClaim := { program := "ytfgdbanigkfjlaadoor", sum := "b9c9a181842f8039f74689eb7aef9a82af96b392ef866a0b45ddc50ca858f48a", func := "greenhew/greenhewlaw02.GrowthSmooths", spec := "growthSmooths", unfollowed := true, recurses := true, named := ["greenhew/growth.kinds"], apart := false, laid := [("greenhew/growth.kinds", laid_greenhew_growth_kinds)], narrowed := true }
def GrowthSmoothsUptoSaid : Prop := growthSmoothsUptoRow.holds Tryd.pinned (OpenSpec.upto growthSmoothsSpec)

/-- 'greenhewlaw02.GrowthSurveyed', WHERE WHAT IT READS IS OF BULK AT MOST 1048576: true; the input reads as it did. -/
def growthSurveyedUptoRow : OpenClaim := { program := "ytfgdbanigkfjlaadoor", sum := "b9c9a181842f8039f74689eb7aef9a82af96b392ef866a0b45ddc50ca858f48a", func := "greenhew/greenhewlaw02.GrowthSurveyed", spec := "growthSurveyed", unfollowed := true, recurses := true, named := ["greenhew/growth.kinds"], apart := false, laid := [("greenhew/growth.kinds", laid_greenhew_growth_kinds)], narrowed := true }
def GrowthSurveyedUptoSaid : Prop := growthSurveyedUptoRow.holds Tryd.pinned (OpenSpec.upto growthSurveyedSpec)

/-- 'greenhewlaw02.GrowthAsks', WHERE WHAT IT READS IS OF BULK AT MOST 1048576: true; the input reads as it did. -/
def growthAsksUptoRow : OpenClaim := { program := "ytfgdbanigkfjlaadoor", sum := "b9c9a181842f8039f74689eb7aef9a82af96b392ef866a0b45ddc50ca858f48a", func := "greenhew/greenhewlaw02.GrowthAsks", spec := "growthAsks", unfollowed := true, recurses := true, named := ["greenhew/growth.kinds"], apart := false, laid := [("greenhew/growth.kinds", laid_greenhew_growth_kinds)], narrowed := true }
def GrowthAsksUptoSaid : Prop := growthAsksUptoRow.holds Tryd.pinned (OpenSpec.upto growthAsksSpec)

/-- 'greenhewlaw02.GrowthWider', WHERE WHAT IT READS IS OF BULK AT MOST 1048576: true; the input reads as it did. -/
def growthWiderUptoRow : OpenClaim := { program := "ytfgdbanigkfjlaadoor", sum := "b9c9a181842f8039f74689eb7aef9a82af96b392ef866a0b45ddc50ca858f48a", func := "greenhew/greenhewlaw02.GrowthWider", spec := "growthWider", unfollowed := true, recurses := true, named := ["greenhew/growth.kinds"], apart := false, laid := [("greenhew/growth.kinds", laid_greenhew_growth_kinds)], narrowed := true }
def GrowthWiderUptoSaid : Prop := growthWiderUptoRow.holds Tryd.pinned (OpenSpec.upto growthWiderSpec)

end Rows
end Go.Proofs.YtfgdbanigkfjlaaDoor
