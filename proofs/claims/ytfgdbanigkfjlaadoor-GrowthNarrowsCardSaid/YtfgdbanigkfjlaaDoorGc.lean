/- Contracts of the functions that the law runs, part 3: made by a program, checked by the kernel. No conditions. -/
import Derived.Test.YtfgdbanigkfjlaaDoorGb
namespace Go.Proofs.G2
open Go.Sim Go.Proofs
set_option maxRecDepth 20000
set_option maxHeartbeats 1000000
/- greenhew/greenhewlaw02.GrowthNarrows -/
noncomputable abbrev z63i0 (b : XBox) (l_0 l_1 l_2 l_3 l_4 l_5 l_6 : XSample) (q10 : Nat) (x1 : XBox × Int) : Hint := (hM (.tuple #[.agg #[I (x1.1.Low.Age), I (x1.1.Low.Shoots), I (x1.1.Low.Height), I (x1.1.Low.Girth), I (x1.1.High.Age), I (x1.1.High.Shoots), I (x1.1.High.Height), I (x1.1.High.Girth)], I (x1.2)]) (.tuple #[.agg #[I (x1.1.Low.Age), I (x1.1.Low.Shoots), I (x1.1.Low.Height), I (x1.1.Low.Girth), I (x1.1.High.Age), I (x1.1.High.Shoots), I (x1.1.High.Height), I (x1.1.High.Girth)], I (x1.2)]) (A_growth_Narrow b ([l_0, l_1, l_2, l_3, l_4, l_5, l_6]) q10) (K_growth_Narrow ([l_0, l_1, l_2, l_3, l_4, l_5, l_6])) [(10, 10, 0)])
noncomputable abbrev z63i1 (l_0 l_1 l_2 l_3 l_4 l_5 l_6 : XSample) (q10 : Nat) (x2 : Bool) : Hint := (hB (hM (.bool (x2)) (.bool (x2)) (A_ref02_Samples ([l_0, l_1, l_2, l_3, l_4, l_5, l_6]) q10) (K_ref02_Samples ([l_0, l_1, l_2, l_3, l_4, l_5, l_6])) [(10, 10, 0)]) true)
noncomputable abbrev z63i2 (b : XBox) (l_0 l_1 l_2 l_3 l_4 l_5 l_6 : XSample) (x3 : XBox × Int) : Hint := (hM (.tuple #[.agg #[I (x3.1.Low.Age), I (x3.1.Low.Shoots), I (x3.1.Low.Height), I (x3.1.Low.Girth), I (x3.1.High.Age), I (x3.1.High.Shoots), I (x3.1.High.Height), I (x3.1.High.Girth)], I (x3.2)]) (.tuple #[.agg #[I (x3.1.Low.Age), I (x3.1.Low.Shoots), I (x3.1.Low.Height), I (x3.1.Low.Girth), I (x3.1.High.Age), I (x3.1.High.Shoots), I (x3.1.High.Height), I (x3.1.High.Girth)], I (x3.2)]) (A_growth_Narrow b ([l_6, l_5, l_4, l_3, l_2, l_1, l_0, l_0, l_1, l_2, l_3, l_4, l_5, l_6]) 14) (K_growth_Narrow ([l_6, l_5, l_4, l_3, l_2, l_1, l_0, l_0, l_1, l_2, l_3, l_4, l_5, l_6])) [(10, 116, 0)])
noncomputable abbrev z63i3 (b : XBox) (l_0 l_1 l_2 l_3 l_4 l_5 l_6 : XSample) (q10 : Nat) (x4 : XBox × Bool) : Hint := (hM (.tuple #[.agg #[I (x4.1.Low.Age), I (x4.1.Low.Shoots), I (x4.1.Low.Height), I (x4.1.Low.Girth), I (x4.1.High.Age), I (x4.1.High.Shoots), I (x4.1.High.Height), I (x4.1.High.Girth)], .bool (x4.2)]) (.tuple #[.agg #[I (x4.1.Low.Age), I (x4.1.Low.Shoots), I (x4.1.Low.Height), I (x4.1.Low.Girth), I (x4.1.High.Age), I (x4.1.High.Shoots), I (x4.1.High.Height), I (x4.1.High.Girth)], .bool (x4.2)]) (A_ref02_Narrow b ([l_0, l_1, l_2, l_3, l_4, l_5, l_6]) q10) (K_ref02_Narrow ([l_0, l_1, l_2, l_3, l_4, l_5, l_6])) [(10, 10, 0)])
theorem z63p4 (b : XBox) (l_0 l_1 l_2 l_3 l_4 l_5 l_6 : XSample) (q10 : Nat) : VRs (Ren.emb [(10, 10, 0)]) (A_growth_Narrow b ([l_0, l_1, l_2, l_3, l_4, l_5, l_6]) q10) [.agg #[I (b.Low.Age), I (b.Low.Shoots), I (b.Low.Height), I (b.Low.Girth), I (b.High.Age), I (b.High.Shoots), I (b.High.Height), I (b.High.Girth)], .slice (some ⟨10, 0, none⟩) (7) (q10)] := (.cons _ _ _ _ (VR.of_pf rfl) (.cons _ _ _ _ (.slc 10 0 _ _ _ ⟨10, 0, 0, 0⟩ rfl (.inl rfl)) .nil))
theorem z63p5 (l_0 l_1 l_2 l_3 l_4 l_5 l_6 : XSample) (q10 : Nat) : VRs (Ren.emb [(10, 10, 0)]) (A_ref02_Samples ([l_0, l_1, l_2, l_3, l_4, l_5, l_6]) q10) [.slice (some ⟨10, 0, none⟩) (7) (q10)] := (.cons _ _ _ _ (.slc 10 0 _ _ _ ⟨10, 0, 0, 0⟩ rfl (.inl rfl)) .nil)
theorem z63p6 (b : XBox) (l_0 l_1 l_2 l_3 l_4 l_5 l_6 : XSample) : VRs (Ren.emb [(10, 116, 0)]) (A_growth_Narrow b ([l_6, l_5, l_4, l_3, l_2, l_1, l_0, l_0, l_1, l_2, l_3, l_4, l_5, l_6]) 14) [.agg #[I (b.Low.Age), I (b.Low.Shoots), I (b.Low.Height), I (b.Low.Girth), I (b.High.Age), I (b.High.Shoots), I (b.High.Height), I (b.High.Girth)], .slice (some ⟨116, 0, none⟩) (14) (14)] := (.cons _ _ _ _ (VR.of_pf rfl) (.cons _ _ _ _ (.slc 10 0 _ _ _ ⟨116, 0, 0, 0⟩ rfl (.inl rfl)) .nil))
theorem z63p7 (b : XBox) (l_0 l_1 l_2 l_3 l_4 l_5 l_6 : XSample) (q10 : Nat) : VRs (Ren.emb [(10, 10, 0)]) (A_ref02_Narrow b ([l_0, l_1, l_2, l_3, l_4, l_5, l_6]) q10) [.agg #[I (b.Low.Age), I (b.Low.Shoots), I (b.Low.Height), I (b.Low.Girth), I (b.High.Age), I (b.High.Shoots), I (b.High.Height), I (b.High.Girth)], .slice (some ⟨10, 0, none⟩) (7) (q10)] := (.cons _ _ _ _ (VR.of_pf rfl) (.cons _ _ _ _ (.slc 10 0 _ _ _ ⟨10, 0, 0, 0⟩ rfl (.inl rfl)) .nil))
abbrev z63r8 (l_0 l_1 l_2 l_3 l_4 l_5 l_6 : XSample) : Prop := MemAt (Ren.emb [(10, 10, 0)]) (encL cXSample ([l_0, l_1, l_2, l_3, l_4, l_5, l_6])) 0 ([I (l_0.Kind), I (l_0.Span.Low), I (l_0.Span.High), I (l_1.Kind), I (l_1.Span.Low), I (l_1.Span.High), I (l_2.Kind), I (l_2.Span.Low), I (l_2.Span.High), I (l_3.Kind), I (l_3.Span.Low), I (l_3.Span.High), I (l_4.Kind), I (l_4.Span.Low), I (l_4.Span.High), I (l_5.Kind), I (l_5.Span.Low), I (l_5.Span.High), I (l_6.Kind), I (l_6.Span.Low), I (l_6.Span.High)]) ∧ True
abbrev z63r9 (x1 : XBox × Int) : Prop := VR (Ren.emb [(10, 10, 0)]) (.tuple #[.agg #[I (x1.1.Low.Age), I (x1.1.Low.Shoots), I (x1.1.Low.Height), I (x1.1.Low.Girth), I (x1.1.High.Age), I (x1.1.High.Shoots), I (x1.1.High.Height), I (x1.1.High.Girth)], I (x1.2)]) (.tuple #[.agg #[I (x1.1.Low.Age), I (x1.1.Low.Shoots), I (x1.1.Low.Height), I (x1.1.Low.Girth), I (x1.1.High.Age), I (x1.1.High.Shoots), I (x1.1.High.Height), I (x1.1.High.Girth)], I (x1.2)])
abbrev z63r10 (l_0 l_1 l_2 l_3 l_4 l_5 l_6 : XSample) : Prop := MemAt (Ren.emb [(10, 116, 0)]) (encL cXSample ([l_6, l_5, l_4, l_3, l_2, l_1, l_0, l_0, l_1, l_2, l_3, l_4, l_5, l_6])) 0 ([I (l_6.Kind), I (l_6.Span.Low), I (l_6.Span.High), I (l_5.Kind), I (l_5.Span.Low), I (l_5.Span.High), I (l_4.Kind), I (l_4.Span.Low), I (l_4.Span.High), I (l_3.Kind), I (l_3.Span.Low), I (l_3.Span.High), I (l_2.Kind), I (l_2.Span.Low), I (l_2.Span.High), I (l_1.Kind), I (l_1.Span.Low), I (l_1.Span.High), I (l_0.Kind), I (l_0.Span.Low), I (l_0.Span.High), I (l_0.Kind), I (l_0.Span.Low), I (l_0.Span.High), I (l_1.Kind), I (l_1.Span.Low), I (l_1.Span.High), I (l_2.Kind), I (l_2.Span.Low), I (l_2.Span.High), I (l_3.Kind), I (l_3.Span.Low), I (l_3.Span.High), I (l_4.Kind), I (l_4.Span.Low), I (l_4.Span.High), I (l_5.Kind), I (l_5.Span.Low), I (l_5.Span.High), I (l_6.Kind), I (l_6.Span.Low), I (l_6.Span.High)]) ∧ True
abbrev z63r11 (x3 : XBox × Int) : Prop := VR (Ren.emb [(10, 116, 0)]) (.tuple #[.agg #[I (x3.1.Low.Age), I (x3.1.Low.Shoots), I (x3.1.Low.Height), I (x3.1.Low.Girth), I (x3.1.High.Age), I (x3.1.High.Shoots), I (x3.1.High.Height), I (x3.1.High.Girth)], I (x3.2)]) (.tuple #[.agg #[I (x3.1.Low.Age), I (x3.1.Low.Shoots), I (x3.1.Low.Height), I (x3.1.Low.Girth), I (x3.1.High.Age), I (x3.1.High.Shoots), I (x3.1.High.Height), I (x3.1.High.Girth)], I (x3.2)])
abbrev z63r12 (b : XBox) : Prop := (.agg #[I (b.Low.Age), I (b.Low.Shoots), I (b.Low.Height), I (b.Low.Girth), I (b.High.Age), I (b.High.Shoots), I (b.High.Height), I (b.High.Girth)] : Value) = .agg #[I (b.Low.Age), I (b.Low.Shoots), I (b.Low.Height), I (b.Low.Girth), I (b.High.Age), I (b.High.Shoots), I (b.High.Height), I (b.High.Girth)]
abbrev z63r13 (x3 : XBox × Int) : Prop := (.tuple #[.agg #[I (x3.1.Low.Age), I (x3.1.Low.Shoots), I (x3.1.Low.Height), I (x3.1.Low.Girth), I (x3.1.High.Age), I (x3.1.High.Shoots), I (x3.1.High.Height), I (x3.1.High.Girth)], I (x3.2)] : Value) = .tuple #[.agg #[I (x3.1.Low.Age), I (x3.1.Low.Shoots), I (x3.1.Low.Height), I (x3.1.Low.Girth), I (x3.1.High.Age), I (x3.1.High.Shoots), I (x3.1.High.Height), I (x3.1.High.Girth)], I (x3.2)]
abbrev z63r14 (x3 : XBox × Int) : Prop := (.agg #[I (x3.1.Low.Age), I (x3.1.Low.Shoots), I (x3.1.Low.Height), I (x3.1.Low.Girth), I (x3.1.High.Age), I (x3.1.High.Shoots), I (x3.1.High.Height), I (x3.1.High.Girth)] : Value) = .agg #[I (x3.1.Low.Age), I (x3.1.Low.Shoots), I (x3.1.Low.Height), I (x3.1.Low.Girth), I (x3.1.High.Age), I (x3.1.High.Shoots), I (x3.1.High.Height), I (x3.1.High.Girth)]
abbrev z63r15 (x4 : XBox × Bool) : Prop := VR (Ren.emb [(10, 10, 0)]) (.tuple #[.agg #[I (x4.1.Low.Age), I (x4.1.Low.Shoots), I (x4.1.Low.Height), I (x4.1.Low.Girth), I (x4.1.High.Age), I (x4.1.High.Shoots), I (x4.1.High.Height), I (x4.1.High.Girth)], .bool (x4.2)]) (.tuple #[.agg #[I (x4.1.Low.Age), I (x4.1.Low.Shoots), I (x4.1.Low.Height), I (x4.1.Low.Girth), I (x4.1.High.Age), I (x4.1.High.Shoots), I (x4.1.High.Height), I (x4.1.High.Girth)], .bool (x4.2)])
noncomputable abbrev z63i16 (l_0 l_1 l_2 l_3 l_4 l_5 l_6 : XSample) (q10 : Nat) (x2 : Bool) : Hint := (hB (hM (.bool (x2)) (.bool (x2)) (A_ref02_Samples ([l_0, l_1, l_2, l_3, l_4, l_5, l_6]) q10) (K_ref02_Samples ([l_0, l_1, l_2, l_3, l_4, l_5, l_6])) [(10, 10, 0)]) false)
noncomputable def z63b0 (b : XBox) (l_0 l_1 l_2 l_3 l_4 l_5 l_6 : XSample) (q10 : Nat) (x1 : XBox × Int) : List Hint := (hR 14 ((z63i0 b l_0 l_1 l_2 l_3 l_4 l_5 l_6 q10 x1) :: (hR 10 [])))
def z63q0 (fu : Nat) (b : XBox) (l_0 l_1 l_2 l_3 l_4 l_5 l_6 : XSample) (q10 : Nat) (x1 : XBox × Int) (h1 : (growth_Narrow fu b ([l_0, l_1, l_2, l_3, l_4, l_5, l_6])) = some x1) := PA.mk <| pc (growth_Narrow_fc fu b ([l_0, l_1, l_2, l_3, l_4, l_5, l_6]) q10 x1 h1) <| pc (z63p4 b l_0 l_1 l_2 l_3 l_4 l_5 l_6 q10) <| pt (z63r8 l_0 l_1 l_2 l_3 l_4 l_5 l_6) (⟨MemAt.same _ (encL_pf cXSample_pf _), trivial⟩) <| pt (z63r9 x1) (selfB_self 9 _ rfl _) <| pc (ref02_Box_fc b) <| pn
noncomputable def z63b1 (b : XBox) : List Hint := [(hB (hC (.bool (ref02_Box b))) true), hE, hE, hE]
def z63q1 (fu : Nat) (b : XBox) (l_0 l_1 l_2 l_3 l_4 l_5 l_6 : XSample) (q10 : Nat) (x2 : Bool) (h2 : (ref02_Box b) = true) (h3 : (ref02_Samples fu ([l_0, l_1, l_2, l_3, l_4, l_5, l_6])) = some x2) := PA.mk <| pc h2 <| pc (ref02_Samples_fc fu ([l_0, l_1, l_2, l_3, l_4, l_5, l_6]) q10 x2 h3) <| pc (z63p5 l_0 l_1 l_2 l_3 l_4 l_5 l_6 q10) <| pt (z63r8 l_0 l_1 l_2 l_3 l_4 l_5 l_6) (⟨MemAt.same _ (encL_pf cXSample_pf _), trivial⟩) <| pt (VR (Ren.emb [(10, 10, 0)]) (.bool (x2)) (.bool (x2))) (selfB_self 9 _ rfl _) <| pn
noncomputable def z63b2 (b : XBox) (l_0 l_1 l_2 l_3 l_4 l_5 l_6 : XSample) (q10 : Nat) (x2 : Bool) (x3 : XBox × Int) (x4 : XBox × Bool) : List Hint := ((z63i1 l_0 l_1 l_2 l_3 l_4 l_5 l_6 q10 x2) :: (hR 100 ((hED 8 [3]) :: (hR 4 ((z63i2 b l_0 l_1 l_2 l_3 l_4 l_5 l_6 x3) :: (hR 8 [(z63i3 b l_0 l_1 l_2 l_3 l_4 l_5 l_6 q10 x4), hE, hE]))))))
def z63q2 (fu : Nat) (b : XBox) (l_0 l_1 l_2 l_3 l_4 l_5 l_6 : XSample) (q10 : Nat) (x2 : Bool) (x3 : XBox × Int) (x4 : XBox × Bool) (h4 : (x2) = true) (h5 : (growth_Narrow fu b ([l_6, l_5, l_4, l_3, l_2, l_1, l_0, l_0, l_1, l_2, l_3, l_4, l_5, l_6])) = some x3) (h6 : (ref02_Narrow fu b ([l_0, l_1, l_2, l_3, l_4, l_5, l_6])) = some x4) := PA.mk <| pc h4 <| pc (growth_Narrow_fc fu b ([l_6, l_5, l_4, l_3, l_2, l_1, l_0, l_0, l_1, l_2, l_3, l_4, l_5, l_6]) 14 x3 h5) <| pc (z63p6 b l_0 l_1 l_2 l_3 l_4 l_5 l_6) <| pt (z63r10 l_0 l_1 l_2 l_3 l_4 l_5 l_6) (⟨MemAt.same _ (encL_pf cXSample_pf _), trivial⟩) <| pt (z63r11 x3) (selfB_self 9 _ rfl _) <| pt (z63r12 b) rfl <| pt (z63r12 b) rfl <| pc (growth_Narrow_fc fu b ([l_6, l_5, l_4, l_3, l_2, l_1, l_0, l_0, l_1, l_2, l_3, l_4, l_5, l_6]) 14 x3 h5) <| pc (z63p6 b l_0 l_1 l_2 l_3 l_4 l_5 l_6) <| pt (z63r10 l_0 l_1 l_2 l_3 l_4 l_5 l_6) (⟨MemAt.same _ (encL_pf cXSample_pf _), trivial⟩) <| pt (z63r11 x3) (selfB_self 9 _ rfl _) <| pt (z63r13 x3) rfl <| pt (z63r13 x3) rfl <| pt (z63r14 x3) rfl <| pt ((I (x3.2) : Value) = I (x3.2)) rfl <| pt ((I (x3.2) : Value) = I (x3.2)) rfl <| pc (ref02_Narrow_fc fu b ([l_0, l_1, l_2, l_3, l_4, l_5, l_6]) q10 x4 h6) <| pc (z63p7 b l_0 l_1 l_2 l_3 l_4 l_5 l_6 q10) <| pt (z63r8 l_0 l_1 l_2 l_3 l_4 l_5 l_6) (⟨MemAt.same _ (encL_pf cXSample_pf _), trivial⟩) <| pt (z63r15 x4) (selfB_self 9 _ rfl _) <| pn
abbrev A_law02_GrowthNarrows_n7 (b : XBox) (q10 : Nat) : List Value := [.agg #[I (b.Low.Age), I (b.Low.Shoots), I (b.Low.Height), I (b.Low.Girth), I (b.High.Age), I (b.High.Shoots), I (b.High.Height), I (b.High.Girth)], .slice (some ⟨10, 0, none⟩) (7) (q10)]
abbrev K_law02_GrowthNarrows_n7 (l_0 l_1 l_2 l_3 l_4 l_5 l_6 : XSample) : List (Nat × List Value) := [(10, encL cXSample [l_0, l_1, l_2, l_3, l_4, l_5, l_6])]
noncomputable def law02_GrowthNarrows_n7 (fu : Nat) (b : XBox) (l_0 l_1 l_2 l_3 l_4 l_5 l_6 : XSample) : Option Bool :=
  Option.bind (growth_Narrow fu b ([l_0, l_1, l_2, l_3, l_4, l_5, l_6])) fun x1 =>
  bif ref02_Box b then (Option.bind (ref02_Samples fu ([l_0, l_1, l_2, l_3, l_4, l_5, l_6])) fun x2 =>
    bif x2 then (Option.bind (growth_Narrow fu b ([l_6, l_5, l_4, l_3, l_2, l_1, l_0, l_0, l_1, l_2, l_3, l_4, l_5, l_6])) fun x3 =>
      Option.bind (ref02_Narrow fu b ([l_0, l_1, l_2, l_3, l_4, l_5, l_6])) fun x4 =>
      bif x4.2 then (bif x1.2 == 0 then (bif x3.2 == 0 then (bif (((x1.1.Low.Age == x4.1.Low.Age) && ((x1.1.Low.Shoots == x4.1.Low.Shoots) && ((x1.1.Low.Height == x4.1.Low.Height) && ((x1.1.Low.Girth == x4.1.Low.Girth) && true)))) && (((x1.1.High.Age == x4.1.High.Age) && ((x1.1.High.Shoots == x4.1.High.Shoots) && ((x1.1.High.Height == x4.1.High.Height) && ((x1.1.High.Girth == x4.1.High.Girth) && true)))) && true)) then (bif (((x3.1.Low.Age == x4.1.Low.Age) && ((x3.1.Low.Shoots == x4.1.Low.Shoots) && ((x3.1.Low.Height == x4.1.Low.Height) && ((x3.1.Low.Girth == x4.1.Low.Girth) && true)))) && (((x3.1.High.Age == x4.1.High.Age) && ((x3.1.High.Shoots == x4.1.High.Shoots) && ((x3.1.High.Height == x4.1.High.Height) && ((x3.1.High.Girth == x4.1.High.Girth) && true)))) && true)) then (Option.bind (law02_known fu) fun x5 =>
                some x5)
              else some false)
            else some false)
          else some false)
        else some false)
      else (bif x1.2 == 5 then (bif x3.2 == 5 then (bif (((x1.1.Low.Age == 0) && ((x1.1.Low.Shoots == 0) && ((x1.1.Low.Height == 0) && ((x1.1.Low.Girth == 0) && true)))) && (((x1.1.High.Age == 0) && ((x1.1.High.Shoots == 0) && ((x1.1.High.Height == 0) && ((x1.1.High.Girth == 0) && true)))) && true)) then (bif (((x3.1.Low.Age == 0) && ((x3.1.Low.Shoots == 0) && ((x3.1.Low.Height == 0) && ((x3.1.Low.Girth == 0) && true)))) && (((x3.1.High.Age == 0) && ((x3.1.High.Shoots == 0) && ((x3.1.High.Height == 0) && ((x3.1.High.Girth == 0) && true)))) && true)) then (Option.bind (law02_known fu) fun x5 =>
                some x5)
              else some false)
            else some false)
          else some false)
        else some false))
    else (bif x1.2 == 2 then (bif (((x1.1.Low.Age == 0) && ((x1.1.Low.Shoots == 0) && ((x1.1.Low.Height == 0) && ((x1.1.Low.Girth == 0) && true)))) && (((x1.1.High.Age == 0) && ((x1.1.High.Shoots == 0) && ((x1.1.High.Height == 0) && ((x1.1.High.Girth == 0) && true)))) && true)) then (Option.bind (law02_known fu) fun x5 =>
          some x5)
        else some false)
      else some false))
  else (bif x1.2 == 2 then (bif (((x1.1.Low.Age == 0) && ((x1.1.Low.Shoots == 0) && ((x1.1.Low.Height == 0) && ((x1.1.Low.Girth == 0) && true)))) && (((x1.1.High.Age == 0) && ((x1.1.High.Shoots == 0) && ((x1.1.High.Height == 0) && ((x1.1.High.Girth == 0) && true)))) && true)) then (Option.bind (law02_known fu) fun x5 =>
        some x5)
      else some false)
    else some false)
theorem law02_GrowthNarrows_n7_fc (fu : Nat) (b : XBox) (l_0 l_1 l_2 l_3 l_4 l_5 l_6 : XSample) (q10 : Nat) (r : Bool) (hh : law02_GrowthNarrows_n7 fu b l_0 l_1 l_2 l_3 l_4 l_5 l_6 = some r) : FC P GG 10 (A_law02_GrowthNarrows_n7 b q10) (K_law02_GrowthNarrows_n7 l_0 l_1 l_2 l_3 l_4 l_5 l_6) (.bool (r)) := by
  unfold law02_GrowthNarrows_n7 at hh
  cases h1 : growth_Narrow fu b ([l_0, l_1, l_2, l_3, l_4, l_5, l_6]) with
  | none => rw [h1, oN] at hh; cases hh
  | some x1 =>
   rw [h1, oS] at hh
   rcases bb (ref02_Box b) with h2 | h2
   ·rw [h2, cT] at hh
    cases h3 : ref02_Samples fu ([l_0, l_1, l_2, l_3, l_4, l_5, l_6]) with
    | none => rw [h3, oN] at hh; cases hh
    | some x2 =>
     rw [h3, oS] at hh
     rcases bb (x2) with h4 | h4
     ·rw [h4, cT] at hh
      cases h5 : growth_Narrow fu b ([l_6, l_5, l_4, l_3, l_2, l_1, l_0, l_0, l_1, l_2, l_3, l_4, l_5, l_6]) with
      | none => rw [h5, oN] at hh; cases hh
      | some x3 =>
       rw [h5, oS] at hh
       cases h6 : ref02_Narrow fu b ([l_0, l_1, l_2, l_3, l_4, l_5, l_6]) with
       | none => rw [h6, oN] at hh; cases hh
       | some x4 =>
        rw [h6, oS] at hh
        rcases bb (x4.2) with h7 | h7
        ·rw [h7, cT] at hh
         rcases bb (x1.2 == 0) with h8 | h8
         ·rw [h8, cT] at hh
          rcases bb (x3.2 == 0) with h9 | h9
          ·rw [h9, cT] at hh
           rcases bb ((((x1.1.Low.Age == x4.1.Low.Age) && ((x1.1.Low.Shoots == x4.1.Low.Shoots) && ((x1.1.Low.Height == x4.1.Low.Height) && ((x1.1.Low.Girth == x4.1.Low.Girth) && true)))) && (((x1.1.High.Age == x4.1.High.Age) && ((x1.1.High.Shoots == x4.1.High.Shoots) && ((x1.1.High.Height == x4.1.High.Height) && ((x1.1.High.Girth == x4.1.High.Girth) && true)))) && true))) with h10 | h10
           ·rw [h10, cT] at hh
            rcases bb ((((x3.1.Low.Age == x4.1.Low.Age) && ((x3.1.Low.Shoots == x4.1.Low.Shoots) && ((x3.1.Low.Height == x4.1.Low.Height) && ((x3.1.Low.Girth == x4.1.Low.Girth) && true)))) && (((x3.1.High.Age == x4.1.High.Age) && ((x3.1.High.Shoots == x4.1.High.Shoots) && ((x3.1.High.Height == x4.1.High.Height) && ((x3.1.High.Girth == x4.1.High.Girth) && true)))) && true))) with h11 | h11
            ·rw [h11, cT] at hh
             cases h12 : law02_known fu with
             | none => rw [h12, oN] at hh; cases hh
             | some x5 =>
              rw [h12, oS] at hh
              rw [← sI hh]
              refine FC.x pfT 100 60 (z63b0 b l_0 l_1 l_2 l_3 l_4 l_5 l_6 q10 x1 ++ (z63b1 b ++ (z63b2 b l_0 l_1 l_2 l_3 l_4 l_5 l_6 q10 x2 x3 x4 ++ ((hT :: (hR 6 (hT :: hE :: hE :: hT :: (hR 4 ((hB hQ true) :: (hR 4 [(hB hQ true), hE, hE, (hC (.bool (x5))), hE, hE])))))))))) (aa (z63q0 fu b l_0 l_1 l_2 l_3 l_4 l_5 l_6 q10 x1 h1) <| aa (z63q1 fu b l_0 l_1 l_2 l_3 l_4 l_5 l_6 q10 x2 h2 h3) <| aa (z63q2 fu b l_0 l_1 l_2 l_3 l_4 l_5 l_6 q10 x2 x3 x4 h4 h5 h6) <| pc h7 <| pc h8 <| pc h9 <| pc h10 <| pc h11 <| pc (law02_known_fc fu  x5 h12) <| pn) (by kernel_rfl) (by kernel_rfl) ?_ (by kernel_rfl)
              exact ⟨PinL.pf (encL_pf cXSample_pf _), trivial⟩
            ·rw [h11, cF] at hh
             rw [← sI hh]
             refine FC.x pfT 100 60 (z63b0 b l_0 l_1 l_2 l_3 l_4 l_5 l_6 q10 x1 ++ (z63b1 b ++ (z63b2 b l_0 l_1 l_2 l_3 l_4 l_5 l_6 q10 x2 x3 x4 ++ ((hT :: (hR 6 (hT :: hE :: hE :: hT :: (hR 4 ((hB hQ true) :: (hR 4 ((hB hQ false) :: (hR 4 [])))))))))))) (aa (z63q0 fu b l_0 l_1 l_2 l_3 l_4 l_5 l_6 q10 x1 h1) <| aa (z63q1 fu b l_0 l_1 l_2 l_3 l_4 l_5 l_6 q10 x2 h2 h3) <| aa (z63q2 fu b l_0 l_1 l_2 l_3 l_4 l_5 l_6 q10 x2 x3 x4 h4 h5 h6) <| pc h7 <| pc h8 <| pc h9 <| pc h10 <| pc h11 <| pn) (by kernel_rfl) (by kernel_rfl) ?_ (by kernel_rfl)
             exact ⟨PinL.pf (encL_pf cXSample_pf _), trivial⟩
           ·rw [h10, cF] at hh
            rw [← sI hh]
            refine FC.x pfT 100 60 (z63b0 b l_0 l_1 l_2 l_3 l_4 l_5 l_6 q10 x1 ++ (z63b1 b ++ (z63b2 b l_0 l_1 l_2 l_3 l_4 l_5 l_6 q10 x2 x3 x4 ++ ((hT :: (hR 6 (hT :: hE :: hE :: hT :: (hR 4 ((hB hQ false) :: (hR 6 [])))))))))) (aa (z63q0 fu b l_0 l_1 l_2 l_3 l_4 l_5 l_6 q10 x1 h1) <| aa (z63q1 fu b l_0 l_1 l_2 l_3 l_4 l_5 l_6 q10 x2 h2 h3) <| aa (z63q2 fu b l_0 l_1 l_2 l_3 l_4 l_5 l_6 q10 x2 x3 x4 h4 h5 h6) <| pc h7 <| pc h8 <| pc h9 <| pc h10 <| pn) (by kernel_rfl) (by kernel_rfl) ?_ (by kernel_rfl)
            exact ⟨PinL.pf (encL_pf cXSample_pf _), trivial⟩
          ·rw [h9, cF] at hh
           rw [← sI hh]
           refine FC.x pfT 100 60 (z63b0 b l_0 l_1 l_2 l_3 l_4 l_5 l_6 q10 x1 ++ (z63b1 b ++ (z63b2 b l_0 l_1 l_2 l_3 l_4 l_5 l_6 q10 x2 x3 x4 ++ ((hT :: (hR 6 (hT :: hE :: hE :: hF :: (hR 8 [])))))))) (aa (z63q0 fu b l_0 l_1 l_2 l_3 l_4 l_5 l_6 q10 x1 h1) <| aa (z63q1 fu b l_0 l_1 l_2 l_3 l_4 l_5 l_6 q10 x2 h2 h3) <| aa (z63q2 fu b l_0 l_1 l_2 l_3 l_4 l_5 l_6 q10 x2 x3 x4 h4 h5 h6) <| pc h7 <| pc h8 <| pc h9 <| pn) (by kernel_rfl) (by kernel_rfl) ?_ (by kernel_rfl)
           exact ⟨PinL.pf (encL_pf cXSample_pf _), trivial⟩
         ·rw [h8, cF] at hh
          rw [← sI hh]
          refine FC.x pfT 100 60 (z63b0 b l_0 l_1 l_2 l_3 l_4 l_5 l_6 q10 x1 ++ (z63b1 b ++ (z63b2 b l_0 l_1 l_2 l_3 l_4 l_5 l_6 q10 x2 x3 x4 ++ ((hT :: (hR 6 (hF :: (hR 9 [])))))))) (aa (z63q0 fu b l_0 l_1 l_2 l_3 l_4 l_5 l_6 q10 x1 h1) <| aa (z63q1 fu b l_0 l_1 l_2 l_3 l_4 l_5 l_6 q10 x2 h2 h3) <| aa (z63q2 fu b l_0 l_1 l_2 l_3 l_4 l_5 l_6 q10 x2 x3 x4 h4 h5 h6) <| pc h7 <| pc h8 <| pn) (by kernel_rfl) (by kernel_rfl) ?_ (by kernel_rfl)
          exact ⟨PinL.pf (encL_pf cXSample_pf _), trivial⟩
        ·rw [h7, cF] at hh
         rcases bb (x1.2 == 5) with h8 | h8
         ·rw [h8, cT] at hh
          rcases bb (x3.2 == 5) with h9 | h9
          ·rw [h9, cT] at hh
           rcases bb ((((x1.1.Low.Age == 0) && ((x1.1.Low.Shoots == 0) && ((x1.1.Low.Height == 0) && ((x1.1.Low.Girth == 0) && true)))) && (((x1.1.High.Age == 0) && ((x1.1.High.Shoots == 0) && ((x1.1.High.Height == 0) && ((x1.1.High.Girth == 0) && true)))) && true))) with h10 | h10
           ·rw [h10, cT] at hh
            rcases bb ((((x3.1.Low.Age == 0) && ((x3.1.Low.Shoots == 0) && ((x3.1.Low.Height == 0) && ((x3.1.Low.Girth == 0) && true)))) && (((x3.1.High.Age == 0) && ((x3.1.High.Shoots == 0) && ((x3.1.High.Height == 0) && ((x3.1.High.Girth == 0) && true)))) && true))) with h11 | h11
            ·rw [h11, cT] at hh
             cases h12 : law02_known fu with
             | none => rw [h12, oN] at hh; cases hh
             | some x5 =>
              rw [h12, oS] at hh
              rw [← sI hh]
              refine FC.x pfT 100 60 (z63b0 b l_0 l_1 l_2 l_3 l_4 l_5 l_6 q10 x1 ++ (z63b1 b ++ (z63b2 b l_0 l_1 l_2 l_3 l_4 l_5 l_6 q10 x2 x3 x4 ++ ((hF :: (hR 6 (hT :: hE :: hE :: hT :: (hR 4 ((hB hQ true) :: (hR 4 [(hB hQ true), hE, hE, (hC (.bool (x5))), hE, hE])))))))))) (aa (z63q0 fu b l_0 l_1 l_2 l_3 l_4 l_5 l_6 q10 x1 h1) <| aa (z63q1 fu b l_0 l_1 l_2 l_3 l_4 l_5 l_6 q10 x2 h2 h3) <| aa (z63q2 fu b l_0 l_1 l_2 l_3 l_4 l_5 l_6 q10 x2 x3 x4 h4 h5 h6) <| pc h7 <| pc h8 <| pc h9 <| pc h10 <| pc h11 <| pc (law02_known_fc fu  x5 h12) <| pn) (by kernel_rfl) (by kernel_rfl) ?_ (by kernel_rfl)
              exact ⟨PinL.pf (encL_pf cXSample_pf _), trivial⟩
            ·rw [h11, cF] at hh
             rw [← sI hh]
             refine FC.x pfT 100 60 (z63b0 b l_0 l_1 l_2 l_3 l_4 l_5 l_6 q10 x1 ++ (z63b1 b ++ (z63b2 b l_0 l_1 l_2 l_3 l_4 l_5 l_6 q10 x2 x3 x4 ++ ((hF :: (hR 6 (hT :: hE :: hE :: hT :: (hR 4 ((hB hQ true) :: (hR 4 ((hB hQ false) :: (hR 4 [])))))))))))) (aa (z63q0 fu b l_0 l_1 l_2 l_3 l_4 l_5 l_6 q10 x1 h1) <| aa (z63q1 fu b l_0 l_1 l_2 l_3 l_4 l_5 l_6 q10 x2 h2 h3) <| aa (z63q2 fu b l_0 l_1 l_2 l_3 l_4 l_5 l_6 q10 x2 x3 x4 h4 h5 h6) <| pc h7 <| pc h8 <| pc h9 <| pc h10 <| pc h11 <| pn) (by kernel_rfl) (by kernel_rfl) ?_ (by kernel_rfl)
             exact ⟨PinL.pf (encL_pf cXSample_pf _), trivial⟩
           ·rw [h10, cF] at hh
            rw [← sI hh]
            refine FC.x pfT 100 60 (z63b0 b l_0 l_1 l_2 l_3 l_4 l_5 l_6 q10 x1 ++ (z63b1 b ++ (z63b2 b l_0 l_1 l_2 l_3 l_4 l_5 l_6 q10 x2 x3 x4 ++ ((hF :: (hR 6 (hT :: hE :: hE :: hT :: (hR 4 ((hB hQ false) :: (hR 6 [])))))))))) (aa (z63q0 fu b l_0 l_1 l_2 l_3 l_4 l_5 l_6 q10 x1 h1) <| aa (z63q1 fu b l_0 l_1 l_2 l_3 l_4 l_5 l_6 q10 x2 h2 h3) <| aa (z63q2 fu b l_0 l_1 l_2 l_3 l_4 l_5 l_6 q10 x2 x3 x4 h4 h5 h6) <| pc h7 <| pc h8 <| pc h9 <| pc h10 <| pn) (by kernel_rfl) (by kernel_rfl) ?_ (by kernel_rfl)
            exact ⟨PinL.pf (encL_pf cXSample_pf _), trivial⟩
          ·rw [h9, cF] at hh
           rw [← sI hh]
           refine FC.x pfT 100 60 (z63b0 b l_0 l_1 l_2 l_3 l_4 l_5 l_6 q10 x1 ++ (z63b1 b ++ (z63b2 b l_0 l_1 l_2 l_3 l_4 l_5 l_6 q10 x2 x3 x4 ++ ((hF :: (hR 6 (hT :: hE :: hE :: hF :: (hR 8 [])))))))) (aa (z63q0 fu b l_0 l_1 l_2 l_3 l_4 l_5 l_6 q10 x1 h1) <| aa (z63q1 fu b l_0 l_1 l_2 l_3 l_4 l_5 l_6 q10 x2 h2 h3) <| aa (z63q2 fu b l_0 l_1 l_2 l_3 l_4 l_5 l_6 q10 x2 x3 x4 h4 h5 h6) <| pc h7 <| pc h8 <| pc h9 <| pn) (by kernel_rfl) (by kernel_rfl) ?_ (by kernel_rfl)
           exact ⟨PinL.pf (encL_pf cXSample_pf _), trivial⟩
         ·rw [h8, cF] at hh
          rw [← sI hh]
          refine FC.x pfT 100 60 (z63b0 b l_0 l_1 l_2 l_3 l_4 l_5 l_6 q10 x1 ++ (z63b1 b ++ (z63b2 b l_0 l_1 l_2 l_3 l_4 l_5 l_6 q10 x2 x3 x4 ++ ((hF :: (hR 6 (hF :: (hR 9 [])))))))) (aa (z63q0 fu b l_0 l_1 l_2 l_3 l_4 l_5 l_6 q10 x1 h1) <| aa (z63q1 fu b l_0 l_1 l_2 l_3 l_4 l_5 l_6 q10 x2 h2 h3) <| aa (z63q2 fu b l_0 l_1 l_2 l_3 l_4 l_5 l_6 q10 x2 x3 x4 h4 h5 h6) <| pc h7 <| pc h8 <| pn) (by kernel_rfl) (by kernel_rfl) ?_ (by kernel_rfl)
          exact ⟨PinL.pf (encL_pf cXSample_pf _), trivial⟩
     ·rw [h4, cF] at hh
      rcases bb (x1.2 == 2) with h5 | h5
      ·rw [h5, cT] at hh
       rcases bb ((((x1.1.Low.Age == 0) && ((x1.1.Low.Shoots == 0) && ((x1.1.Low.Height == 0) && ((x1.1.Low.Girth == 0) && true)))) && (((x1.1.High.Age == 0) && ((x1.1.High.Shoots == 0) && ((x1.1.High.Height == 0) && ((x1.1.High.Girth == 0) && true)))) && true))) with h6 | h6
       ·rw [h6, cT] at hh
        cases h7 : law02_known fu with
        | none => rw [h7, oN] at hh; cases hh
        | some x5 =>
         rw [h7, oS] at hh
         rw [← sI hh]
         refine FC.x pfT 100 60 (z63b0 b l_0 l_1 l_2 l_3 l_4 l_5 l_6 q10 x1 ++ (z63b1 b ++ ([(z63i16 l_0 l_1 l_2 l_3 l_4 l_5 l_6 q10 x2), hE, hE, hE, hT, hE, hE, hE, (hB hQ true), hE, hE, (hC (.bool (x5))), hE, hE]))) (aa (z63q0 fu b l_0 l_1 l_2 l_3 l_4 l_5 l_6 q10 x1 h1) <| aa (z63q1 fu b l_0 l_1 l_2 l_3 l_4 l_5 l_6 q10 x2 h2 h3) <| pc h4 <| pc h5 <| pc h6 <| pc (law02_known_fc fu  x5 h7) <| pn) (by kernel_rfl) (by kernel_rfl) ?_ (by kernel_rfl)
         exact ⟨PinL.pf (encL_pf cXSample_pf _), trivial⟩
       ·rw [h6, cF] at hh
        rw [← sI hh]
        refine FC.x pfT 100 60 (z63b0 b l_0 l_1 l_2 l_3 l_4 l_5 l_6 q10 x1 ++ (z63b1 b ++ (((z63i16 l_0 l_1 l_2 l_3 l_4 l_5 l_6 q10 x2) :: hE :: hE :: hE :: hT :: hE :: hE :: hE :: (hB hQ false) :: (hR 4 []))))) (aa (z63q0 fu b l_0 l_1 l_2 l_3 l_4 l_5 l_6 q10 x1 h1) <| aa (z63q1 fu b l_0 l_1 l_2 l_3 l_4 l_5 l_6 q10 x2 h2 h3) <| pc h4 <| pc h5 <| pc h6 <| pn) (by kernel_rfl) (by kernel_rfl) ?_ (by kernel_rfl)
        exact ⟨PinL.pf (encL_pf cXSample_pf _), trivial⟩
      ·rw [h5, cF] at hh
       rw [← sI hh]
       refine FC.x pfT 100 60 (z63b0 b l_0 l_1 l_2 l_3 l_4 l_5 l_6 q10 x1 ++ (z63b1 b ++ (((z63i16 l_0 l_1 l_2 l_3 l_4 l_5 l_6 q10 x2) :: hE :: hE :: hE :: hF :: (hR 5 []))))) (aa (z63q0 fu b l_0 l_1 l_2 l_3 l_4 l_5 l_6 q10 x1 h1) <| aa (z63q1 fu b l_0 l_1 l_2 l_3 l_4 l_5 l_6 q10 x2 h2 h3) <| pc h4 <| pc h5 <| pn) (by kernel_rfl) (by kernel_rfl) ?_ (by kernel_rfl)
       exact ⟨PinL.pf (encL_pf cXSample_pf _), trivial⟩
   ·rw [h2, cF] at hh
    rcases bb (x1.2 == 2) with h3 | h3
    ·rw [h3, cT] at hh
     rcases bb ((((x1.1.Low.Age == 0) && ((x1.1.Low.Shoots == 0) && ((x1.1.Low.Height == 0) && ((x1.1.Low.Girth == 0) && true)))) && (((x1.1.High.Age == 0) && ((x1.1.High.Shoots == 0) && ((x1.1.High.Height == 0) && ((x1.1.High.Girth == 0) && true)))) && true))) with h4 | h4
     ·rw [h4, cT] at hh
      cases h5 : law02_known fu with
      | none => rw [h5, oN] at hh; cases hh
      | some x5 =>
       rw [h5, oS] at hh
       rw [← sI hh]
       refine FC.x pfT 100 60 (z63b0 b l_0 l_1 l_2 l_3 l_4 l_5 l_6 q10 x1 ++ (((hB (hC (.bool (ref02_Box b))) false) :: (hR 4 [hT, hE, hE, hE, (hB hQ true), hE, hE, (hC (.bool (x5))), hE, hE])))) (aa (z63q0 fu b l_0 l_1 l_2 l_3 l_4 l_5 l_6 q10 x1 h1) <| pc h2 <| pc h3 <| pc h4 <| pc (law02_known_fc fu  x5 h5) <| pn) (by kernel_rfl) (by kernel_rfl) ?_ (by kernel_rfl)
       exact ⟨PinL.pf (encL_pf cXSample_pf _), trivial⟩
     ·rw [h4, cF] at hh
      rw [← sI hh]
      refine FC.x pfT 100 60 (z63b0 b l_0 l_1 l_2 l_3 l_4 l_5 l_6 q10 x1 ++ (((hB (hC (.bool (ref02_Box b))) false) :: (hR 4 (hT :: hE :: hE :: hE :: (hB hQ false) :: (hR 4 [])))))) (aa (z63q0 fu b l_0 l_1 l_2 l_3 l_4 l_5 l_6 q10 x1 h1) <| pc h2 <| pc h3 <| pc h4 <| pn) (by kernel_rfl) (by kernel_rfl) ?_ (by kernel_rfl)
      exact ⟨PinL.pf (encL_pf cXSample_pf _), trivial⟩
    ·rw [h3, cF] at hh
     rw [← sI hh]
     refine FC.x pfT 100 60 (z63b0 b l_0 l_1 l_2 l_3 l_4 l_5 l_6 q10 x1 ++ (((hB (hC (.bool (ref02_Box b))) false) :: (hR 4 (hF :: (hR 5 [])))))) (aa (z63q0 fu b l_0 l_1 l_2 l_3 l_4 l_5 l_6 q10 x1 h1) <| pc h2 <| pc h3 <| pn) (by kernel_rfl) (by kernel_rfl) ?_ (by kernel_rfl)
     exact ⟨PinL.pf (encL_pf cXSample_pf _), trivial⟩

/- greenhew/greenhewlaw02.GrowthNarrows -/
noncomputable abbrev z64i0 (b : XBox) (l_0 l_1 l_2 l_3 l_4 l_5 l_6 l_7 : XSample) (q10 : Nat) (x1 : XBox × Int) : Hint := (hM (.tuple #[.agg #[I (x1.1.Low.Age), I (x1.1.Low.Shoots), I (x1.1.Low.Height), I (x1.1.Low.Girth), I (x1.1.High.Age), I (x1.1.High.Shoots), I (x1.1.High.Height), I (x1.1.High.Girth)], I (x1.2)]) (.tuple #[.agg #[I (x1.1.Low.Age), I (x1.1.Low.Shoots), I (x1.1.Low.Height), I (x1.1.Low.Girth), I (x1.1.High.Age), I (x1.1.High.Shoots), I (x1.1.High.Height), I (x1.1.High.Girth)], I (x1.2)]) (A_growth_Narrow b ([l_0, l_1, l_2, l_3, l_4, l_5, l_6, l_7]) q10) (K_growth_Narrow ([l_0, l_1, l_2, l_3, l_4, l_5, l_6, l_7])) [(10, 10, 0)])
noncomputable abbrev z64i1 (l_0 l_1 l_2 l_3 l_4 l_5 l_6 l_7 : XSample) (q10 : Nat) (x2 : Bool) : Hint := (hB (hM (.bool (x2)) (.bool (x2)) (A_ref02_Samples ([l_0, l_1, l_2, l_3, l_4, l_5, l_6, l_7]) q10) (K_ref02_Samples ([l_0, l_1, l_2, l_3, l_4, l_5, l_6, l_7])) [(10, 10, 0)]) true)
noncomputable abbrev z64i2 (b : XBox) (l_0 l_1 l_2 l_3 l_4 l_5 l_6 l_7 : XSample) (x3 : XBox × Int) : Hint := (hM (.tuple #[.agg #[I (x3.1.Low.Age), I (x3.1.Low.Shoots), I (x3.1.Low.Height), I (x3.1.Low.Girth), I (x3.1.High.Age), I (x3.1.High.Shoots), I (x3.1.High.Height), I (x3.1.High.Girth)], I (x3.2)]) (.tuple #[.agg #[I (x3.1.Low.Age), I (x3.1.Low.Shoots), I (x3.1.Low.Height), I (x3.1.Low.Girth), I (x3.1.High.Age), I (x3.1.High.Shoots), I (x3.1.High.Height), I (x3.1.High.Girth)], I (x3.2)]) (A_growth_Narrow b ([l_7, l_6, l_5, l_4, l_3, l_2, l_1, l_0, l_0, l_1, l_2, l_3, l_4, l_5, l_6, l_7]) 16) (K_growth_Narrow ([l_7, l_6, l_5, l_4, l_3, l_2, l_1, l_0, l_0, l_1, l_2, l_3, l_4, l_5, l_6, l_7])) [(10, 118, 0)])
noncomputable abbrev z64i3 (b : XBox) (l_0 l_1 l_2 l_3 l_4 l_5 l_6 l_7 : XSample) (q10 : Nat) (x4 : XBox × Bool) : Hint := (hM (.tuple #[.agg #[I (x4.1.Low.Age), I (x4.1.Low.Shoots), I (x4.1.Low.Height), I (x4.1.Low.Girth), I (x4.1.High.Age), I (x4.1.High.Shoots), I (x4.1.High.Height), I (x4.1.High.Girth)], .bool (x4.2)]) (.tuple #[.agg #[I (x4.1.Low.Age), I (x4.1.Low.Shoots), I (x4.1.Low.Height), I (x4.1.Low.Girth), I (x4.1.High.Age), I (x4.1.High.Shoots), I (x4.1.High.Height), I (x4.1.High.Girth)], .bool (x4.2)]) (A_ref02_Narrow b ([l_0, l_1, l_2, l_3, l_4, l_5, l_6, l_7]) q10) (K_ref02_Narrow ([l_0, l_1, l_2, l_3, l_4, l_5, l_6, l_7])) [(10, 10, 0)])
theorem z64p4 (b : XBox) (l_0 l_1 l_2 l_3 l_4 l_5 l_6 l_7 : XSample) (q10 : Nat) : VRs (Ren.emb [(10, 10, 0)]) (A_growth_Narrow b ([l_0, l_1, l_2, l_3, l_4, l_5, l_6, l_7]) q10) [.agg #[I (b.Low.Age), I (b.Low.Shoots), I (b.Low.Height), I (b.Low.Girth), I (b.High.Age), I (b.High.Shoots), I (b.High.Height), I (b.High.Girth)], .slice (some ⟨10, 0, none⟩) (8) (q10)] := (.cons _ _ _ _ (VR.of_pf rfl) (.cons _ _ _ _ (.slc 10 0 _ _ _ ⟨10, 0, 0, 0⟩ rfl (.inl rfl)) .nil))
theorem z64p5 (l_0 l_1 l_2 l_3 l_4 l_5 l_6 l_7 : XSample) (q10 : Nat) : VRs (Ren.emb [(10, 10, 0)]) (A_ref02_Samples ([l_0, l_1, l_2, l_3, l_4, l_5, l_6, l_7]) q10) [.slice (some ⟨10, 0, none⟩) (8) (q10)] := (.cons _ _ _ _ (.slc 10 0 _ _ _ ⟨10, 0, 0, 0⟩ rfl (.inl rfl)) .nil)
theorem z64p6 (b : XBox) (l_0 l_1 l_2 l_3 l_4 l_5 l_6 l_7 : XSample) : VRs (Ren.emb [(10, 118, 0)]) (A_growth_Narrow b ([l_7, l_6, l_5, l_4, l_3, l_2, l_1, l_0, l_0, l_1, l_2, l_3, l_4, l_5, l_6, l_7]) 16) [.agg #[I (b.Low.Age), I (b.Low.Shoots), I (b.Low.Height), I (b.Low.Girth), I (b.High.Age), I (b.High.Shoots), I (b.High.Height), I (b.High.Girth)], .slice (some ⟨118, 0, none⟩) (16) (16)] := (.cons _ _ _ _ (VR.of_pf rfl) (.cons _ _ _ _ (.slc 10 0 _ _ _ ⟨118, 0, 0, 0⟩ rfl (.inl rfl)) .nil))
theorem z64p7 (b : XBox) (l_0 l_1 l_2 l_3 l_4 l_5 l_6 l_7 : XSample) (q10 : Nat) : VRs (Ren.emb [(10, 10, 0)]) (A_ref02_Narrow b ([l_0, l_1, l_2, l_3, l_4, l_5, l_6, l_7]) q10) [.agg #[I (b.Low.Age), I (b.Low.Shoots), I (b.Low.Height), I (b.Low.Girth), I (b.High.Age), I (b.High.Shoots), I (b.High.Height), I (b.High.Girth)], .slice (some ⟨10, 0, none⟩) (8) (q10)] := (.cons _ _ _ _ (VR.of_pf rfl) (.cons _ _ _ _ (.slc 10 0 _ _ _ ⟨10, 0, 0, 0⟩ rfl (.inl rfl)) .nil))
abbrev z64r8 (l_0 l_1 l_2 l_3 l_4 l_5 l_6 l_7 : XSample) : Prop := MemAt (Ren.emb [(10, 10, 0)]) (encL cXSample ([l_0, l_1, l_2, l_3, l_4, l_5, l_6, l_7])) 0 ([I (l_0.Kind), I (l_0.Span.Low), I (l_0.Span.High), I (l_1.Kind), I (l_1.Span.Low), I (l_1.Span.High), I (l_2.Kind), I (l_2.Span.Low), I (l_2.Span.High), I (l_3.Kind), I (l_3.Span.Low), I (l_3.Span.High), I (l_4.Kind), I (l_4.Span.Low), I (l_4.Span.High), I (l_5.Kind), I (l_5.Span.Low), I (l_5.Span.High), I (l_6.Kind), I (l_6.Span.Low), I (l_6.Span.High), I (l_7.Kind), I (l_7.Span.Low), I (l_7.Span.High)]) ∧ True
abbrev z64r9 (x1 : XBox × Int) : Prop := VR (Ren.emb [(10, 10, 0)]) (.tuple #[.agg #[I (x1.1.Low.Age), I (x1.1.Low.Shoots), I (x1.1.Low.Height), I (x1.1.Low.Girth), I (x1.1.High.Age), I (x1.1.High.Shoots), I (x1.1.High.Height), I (x1.1.High.Girth)], I (x1.2)]) (.tuple #[.agg #[I (x1.1.Low.Age), I (x1.1.Low.Shoots), I (x1.1.Low.Height), I (x1.1.Low.Girth), I (x1.1.High.Age), I (x1.1.High.Shoots), I (x1.1.High.Height), I (x1.1.High.Girth)], I (x1.2)])
abbrev z64r10 (l_0 l_1 l_2 l_3 l_4 l_5 l_6 l_7 : XSample) : Prop := MemAt (Ren.emb [(10, 118, 0)]) (encL cXSample ([l_7, l_6, l_5, l_4, l_3, l_2, l_1, l_0, l_0, l_1, l_2, l_3, l_4, l_5, l_6, l_7])) 0 ([I (l_7.Kind), I (l_7.Span.Low), I (l_7.Span.High), I (l_6.Kind), I (l_6.Span.Low), I (l_6.Span.High), I (l_5.Kind), I (l_5.Span.Low), I (l_5.Span.High), I (l_4.Kind), I (l_4.Span.Low), I (l_4.Span.High), I (l_3.Kind), I (l_3.Span.Low), I (l_3.Span.High), I (l_2.Kind), I (l_2.Span.Low), I (l_2.Span.High), I (l_1.Kind), I (l_1.Span.Low), I (l_1.Span.High), I (l_0.Kind), I (l_0.Span.Low), I (l_0.Span.High), I (l_0.Kind), I (l_0.Span.Low), I (l_0.Span.High), I (l_1.Kind), I (l_1.Span.Low), I (l_1.Span.High), I (l_2.Kind), I (l_2.Span.Low), I (l_2.Span.High), I (l_3.Kind), I (l_3.Span.Low), I (l_3.Span.High), I (l_4.Kind), I (l_4.Span.Low), I (l_4.Span.High), I (l_5.Kind), I (l_5.Span.Low), I (l_5.Span.High), I (l_6.Kind), I (l_6.Span.Low), I (l_6.Span.High), I (l_7.Kind), I (l_7.Span.Low), I (l_7.Span.High)]) ∧ True
abbrev z64r11 (x3 : XBox × Int) : Prop := VR (Ren.emb [(10, 118, 0)]) (.tuple #[.agg #[I (x3.1.Low.Age), I (x3.1.Low.Shoots), I (x3.1.Low.Height), I (x3.1.Low.Girth), I (x3.1.High.Age), I (x3.1.High.Shoots), I (x3.1.High.Height), I (x3.1.High.Girth)], I (x3.2)]) (.tuple #[.agg #[I (x3.1.Low.Age), I (x3.1.Low.Shoots), I (x3.1.Low.Height), I (x3.1.Low.Girth), I (x3.1.High.Age), I (x3.1.High.Shoots), I (x3.1.High.Height), I (x3.1.High.Girth)], I (x3.2)])
abbrev z64r12 (b : XBox) : Prop := (.agg #[I (b.Low.Age), I (b.Low.Shoots), I (b.Low.Height), I (b.Low.Girth), I (b.High.Age), I (b.High.Shoots), I (b.High.Height), I (b.High.Girth)] : Value) = .agg #[I (b.Low.Age), I (b.Low.Shoots), I (b.Low.Height), I (b.Low.Girth), I (b.High.Age), I (b.High.Shoots), I (b.High.Height), I (b.High.Girth)]
abbrev z64r13 (x3 : XBox × Int) : Prop := (.tuple #[.agg #[I (x3.1.Low.Age), I (x3.1.Low.Shoots), I (x3.1.Low.Height), I (x3.1.Low.Girth), I (x3.1.High.Age), I (x3.1.High.Shoots), I (x3.1.High.Height), I (x3.1.High.Girth)], I (x3.2)] : Value) = .tuple #[.agg #[I (x3.1.Low.Age), I (x3.1.Low.Shoots), I (x3.1.Low.Height), I (x3.1.Low.Girth), I (x3.1.High.Age), I (x3.1.High.Shoots), I (x3.1.High.Height), I (x3.1.High.Girth)], I (x3.2)]
abbrev z64r14 (x3 : XBox × Int) : Prop := (.agg #[I (x3.1.Low.Age), I (x3.1.Low.Shoots), I (x3.1.Low.Height), I (x3.1.Low.Girth), I (x3.1.High.Age), I (x3.1.High.Shoots), I (x3.1.High.Height), I (x3.1.High.Girth)] : Value) = .agg #[I (x3.1.Low.Age), I (x3.1.Low.Shoots), I (x3.1.Low.Height), I (x3.1.Low.Girth), I (x3.1.High.Age), I (x3.1.High.Shoots), I (x3.1.High.Height), I (x3.1.High.Girth)]
abbrev z64r15 (x4 : XBox × Bool) : Prop := VR (Ren.emb [(10, 10, 0)]) (.tuple #[.agg #[I (x4.1.Low.Age), I (x4.1.Low.Shoots), I (x4.1.Low.Height), I (x4.1.Low.Girth), I (x4.1.High.Age), I (x4.1.High.Shoots), I (x4.1.High.Height), I (x4.1.High.Girth)], .bool (x4.2)]) (.tuple #[.agg #[I (x4.1.Low.Age), I (x4.1.Low.Shoots), I (x4.1.Low.Height), I (x4.1.Low.Girth), I (x4.1.High.Age), I (x4.1.High.Shoots), I (x4.1.High.Height), I (x4.1.High.Girth)], .bool (x4.2)])
noncomputable abbrev z64i16 (l_0 l_1 l_2 l_3 l_4 l_5 l_6 l_7 : XSample) (q10 : Nat) (x2 : Bool) : Hint := (hB (hM (.bool (x2)) (.bool (x2)) (A_ref02_Samples ([l_0, l_1, l_2, l_3, l_4, l_5, l_6, l_7]) q10) (K_ref02_Samples ([l_0, l_1, l_2, l_3, l_4, l_5, l_6, l_7])) [(10, 10, 0)]) false)
noncomputable def z64b0 (b : XBox) (l_0 l_1 l_2 l_3 l_4 l_5 l_6 l_7 : XSample) (q10 : Nat) (x1 : XBox × Int) : List Hint := (hR 14 ((z64i0 b l_0 l_1 l_2 l_3 l_4 l_5 l_6 l_7 q10 x1) :: (hR 10 [])))
def z64q0 (fu : Nat) (b : XBox) (l_0 l_1 l_2 l_3 l_4 l_5 l_6 l_7 : XSample) (q10 : Nat) (x1 : XBox × Int) (h1 : (growth_Narrow fu b ([l_0, l_1, l_2, l_3, l_4, l_5, l_6, l_7])) = some x1) := PA.mk <| pc (growth_Narrow_fc fu b ([l_0, l_1, l_2, l_3, l_4, l_5, l_6, l_7]) q10 x1 h1) <| pc (z64p4 b l_0 l_1 l_2 l_3 l_4 l_5 l_6 l_7 q10) <| pt (z64r8 l_0 l_1 l_2 l_3 l_4 l_5 l_6 l_7) (⟨MemAt.same _ (encL_pf cXSample_pf _), trivial⟩) <| pt (z64r9 x1) (selfB_self 9 _ rfl _) <| pc (ref02_Box_fc b) <| pn
noncomputable def z64b1 (b : XBox) : List Hint := [(hB (hC (.bool (ref02_Box b))) true), hE, hE, hE]
def z64q1 (fu : Nat) (b : XBox) (l_0 l_1 l_2 l_3 l_4 l_5 l_6 l_7 : XSample) (q10 : Nat) (x2 : Bool) (h2 : (ref02_Box b) = true) (h3 : (ref02_Samples fu ([l_0, l_1, l_2, l_3, l_4, l_5, l_6, l_7])) = some x2) := PA.mk <| pc h2 <| pc (ref02_Samples_fc fu ([l_0, l_1, l_2, l_3, l_4, l_5, l_6, l_7]) q10 x2 h3) <| pc (z64p5 l_0 l_1 l_2 l_3 l_4 l_5 l_6 l_7 q10) <| pt (z64r8 l_0 l_1 l_2 l_3 l_4 l_5 l_6 l_7) (⟨MemAt.same _ (encL_pf cXSample_pf _), trivial⟩) <| pt (VR (Ren.emb [(10, 10, 0)]) (.bool (x2)) (.bool (x2))) (selfB_self 9 _ rfl _) <| pn
noncomputable def z64b2 (b : XBox) (l_0 l_1 l_2 l_3 l_4 l_5 l_6 l_7 : XSample) (q10 : Nat) (x2 : Bool) (x3 : XBox × Int) (x4 : XBox × Bool) : List Hint := ((z64i1 l_0 l_1 l_2 l_3 l_4 l_5 l_6 l_7 q10 x2) :: (hR 113 ((hED 8 [3]) :: (hR 4 ((z64i2 b l_0 l_1 l_2 l_3 l_4 l_5 l_6 l_7 x3) :: (hR 8 [(z64i3 b l_0 l_1 l_2 l_3 l_4 l_5 l_6 l_7 q10 x4), hE, hE]))))))
def z64q2 (fu : Nat) (b : XBox) (l_0 l_1 l_2 l_3 l_4 l_5 l_6 l_7 : XSample) (q10 : Nat) (x2 : Bool) (x3 : XBox × Int) (x4 : XBox × Bool) (h4 : (x2) = true) (h5 : (growth_Narrow fu b ([l_7, l_6, l_5, l_4, l_3, l_2, l_1, l_0, l_0, l_1, l_2, l_3, l_4, l_5, l_6, l_7])) = some x3) (h6 : (ref02_Narrow fu b ([l_0, l_1, l_2, l_3, l_4, l_5, l_6, l_7])) = some x4) := PA.mk <| pc h4 <| pc (growth_Narrow_fc fu b ([l_7, l_6, l_5, l_4, l_3, l_2, l_1, l_0, l_0, l_1, l_2, l_3, l_4, l_5, l_6, l_7]) 16 x3 h5) <| pc (z64p6 b l_0 l_1 l_2 l_3 l_4 l_5 l_6 l_7) <| pt (z64r10 l_0 l_1 l_2 l_3 l_4 l_5 l_6 l_7) (⟨MemAt.same _ (encL_pf cXSample_pf _), trivial⟩) <| pt (z64r11 x3) (selfB_self 9 _ rfl _) <| pt (z64r12 b) rfl <| pt (z64r12 b) rfl <| pc (growth_Narrow_fc fu b ([l_7, l_6, l_5, l_4, l_3, l_2, l_1, l_0, l_0, l_1, l_2, l_3, l_4, l_5, l_6, l_7]) 16 x3 h5) <| pc (z64p6 b l_0 l_1 l_2 l_3 l_4 l_5 l_6 l_7) <| pt (z64r10 l_0 l_1 l_2 l_3 l_4 l_5 l_6 l_7) (⟨MemAt.same _ (encL_pf cXSample_pf _), trivial⟩) <| pt (z64r11 x3) (selfB_self 9 _ rfl _) <| pt (z64r13 x3) rfl <| pt (z64r13 x3) rfl <| pt (z64r14 x3) rfl <| pt ((I (x3.2) : Value) = I (x3.2)) rfl <| pt ((I (x3.2) : Value) = I (x3.2)) rfl <| pc (ref02_Narrow_fc fu b ([l_0, l_1, l_2, l_3, l_4, l_5, l_6, l_7]) q10 x4 h6) <| pc (z64p7 b l_0 l_1 l_2 l_3 l_4 l_5 l_6 l_7 q10) <| pt (z64r8 l_0 l_1 l_2 l_3 l_4 l_5 l_6 l_7) (⟨MemAt.same _ (encL_pf cXSample_pf _), trivial⟩) <| pt (z64r15 x4) (selfB_self 9 _ rfl _) <| pn
abbrev A_law02_GrowthNarrows_n8 (b : XBox) (q10 : Nat) : List Value := [.agg #[I (b.Low.Age), I (b.Low.Shoots), I (b.Low.Height), I (b.Low.Girth), I (b.High.Age), I (b.High.Shoots), I (b.High.Height), I (b.High.Girth)], .slice (some ⟨10, 0, none⟩) (8) (q10)]
abbrev K_law02_GrowthNarrows_n8 (l_0 l_1 l_2 l_3 l_4 l_5 l_6 l_7 : XSample) : List (Nat × List Value) := [(10, encL cXSample [l_0, l_1, l_2, l_3, l_4, l_5, l_6, l_7])]
noncomputable def law02_GrowthNarrows_n8 (fu : Nat) (b : XBox) (l_0 l_1 l_2 l_3 l_4 l_5 l_6 l_7 : XSample) : Option Bool :=
  Option.bind (growth_Narrow fu b ([l_0, l_1, l_2, l_3, l_4, l_5, l_6, l_7])) fun x1 =>
  bif ref02_Box b then (Option.bind (ref02_Samples fu ([l_0, l_1, l_2, l_3, l_4, l_5, l_6, l_7])) fun x2 =>
    bif x2 then (Option.bind (growth_Narrow fu b ([l_7, l_6, l_5, l_4, l_3, l_2, l_1, l_0, l_0, l_1, l_2, l_3, l_4, l_5, l_6, l_7])) fun x3 =>
      Option.bind (ref02_Narrow fu b ([l_0, l_1, l_2, l_3, l_4, l_5, l_6, l_7])) fun x4 =>
      bif x4.2 then (bif x1.2 == 0 then (bif x3.2 == 0 then (bif (((x1.1.Low.Age == x4.1.Low.Age) && ((x1.1.Low.Shoots == x4.1.Low.Shoots) && ((x1.1.Low.Height == x4.1.Low.Height) && ((x1.1.Low.Girth == x4.1.Low.Girth) && true)))) && (((x1.1.High.Age == x4.1.High.Age) && ((x1.1.High.Shoots == x4.1.High.Shoots) && ((x1.1.High.Height == x4.1.High.Height) && ((x1.1.High.Girth == x4.1.High.Girth) && true)))) && true)) then (bif (((x3.1.Low.Age == x4.1.Low.Age) && ((x3.1.Low.Shoots == x4.1.Low.Shoots) && ((x3.1.Low.Height == x4.1.Low.Height) && ((x3.1.Low.Girth == x4.1.Low.Girth) && true)))) && (((x3.1.High.Age == x4.1.High.Age) && ((x3.1.High.Shoots == x4.1.High.Shoots) && ((x3.1.High.Height == x4.1.High.Height) && ((x3.1.High.Girth == x4.1.High.Girth) && true)))) && true)) then (Option.bind (law02_known fu) fun x5 =>
                some x5)
              else some false)
            else some false)
          else some false)
        else some false)
      else (bif x1.2 == 5 then (bif x3.2 == 5 then (bif (((x1.1.Low.Age == 0) && ((x1.1.Low.Shoots == 0) && ((x1.1.Low.Height == 0) && ((x1.1.Low.Girth == 0) && true)))) && (((x1.1.High.Age == 0) && ((x1.1.High.Shoots == 0) && ((x1.1.High.Height == 0) && ((x1.1.High.Girth == 0) && true)))) && true)) then (bif (((x3.1.Low.Age == 0) && ((x3.1.Low.Shoots == 0) && ((x3.1.Low.Height == 0) && ((x3.1.Low.Girth == 0) && true)))) && (((x3.1.High.Age == 0) && ((x3.1.High.Shoots == 0) && ((x3.1.High.Height == 0) && ((x3.1.High.Girth == 0) && true)))) && true)) then (Option.bind (law02_known fu) fun x5 =>
                some x5)
              else some false)
            else some false)
          else some false)
        else some false))
    else (bif x1.2 == 2 then (bif (((x1.1.Low.Age == 0) && ((x1.1.Low.Shoots == 0) && ((x1.1.Low.Height == 0) && ((x1.1.Low.Girth == 0) && true)))) && (((x1.1.High.Age == 0) && ((x1.1.High.Shoots == 0) && ((x1.1.High.Height == 0) && ((x1.1.High.Girth == 0) && true)))) && true)) then (Option.bind (law02_known fu) fun x5 =>
          some x5)
        else some false)
      else some false))
  else (bif x1.2 == 2 then (bif (((x1.1.Low.Age == 0) && ((x1.1.Low.Shoots == 0) && ((x1.1.Low.Height == 0) && ((x1.1.Low.Girth == 0) && true)))) && (((x1.1.High.Age == 0) && ((x1.1.High.Shoots == 0) && ((x1.1.High.Height == 0) && ((x1.1.High.Girth == 0) && true)))) && true)) then (Option.bind (law02_known fu) fun x5 =>
        some x5)
      else some false)
    else some false)
theorem law02_GrowthNarrows_n8_fc (fu : Nat) (b : XBox) (l_0 l_1 l_2 l_3 l_4 l_5 l_6 l_7 : XSample) (q10 : Nat) (r : Bool) (hh : law02_GrowthNarrows_n8 fu b l_0 l_1 l_2 l_3 l_4 l_5 l_6 l_7 = some r) : FC P GG 10 (A_law02_GrowthNarrows_n8 b q10) (K_law02_GrowthNarrows_n8 l_0 l_1 l_2 l_3 l_4 l_5 l_6 l_7) (.bool (r)) := by
  unfold law02_GrowthNarrows_n8 at hh
  cases h1 : growth_Narrow fu b ([l_0, l_1, l_2, l_3, l_4, l_5, l_6, l_7]) with
  | none => rw [h1, oN] at hh; cases hh
  | some x1 =>
   rw [h1, oS] at hh
   rcases bb (ref02_Box b) with h2 | h2
   ·rw [h2, cT] at hh
    cases h3 : ref02_Samples fu ([l_0, l_1, l_2, l_3, l_4, l_5, l_6, l_7]) with
    | none => rw [h3, oN] at hh; cases hh
    | some x2 =>
     rw [h3, oS] at hh
     rcases bb (x2) with h4 | h4
     ·rw [h4, cT] at hh
      cases h5 : growth_Narrow fu b ([l_7, l_6, l_5, l_4, l_3, l_2, l_1, l_0, l_0, l_1, l_2, l_3, l_4, l_5, l_6, l_7]) with
      | none => rw [h5, oN] at hh; cases hh
      | some x3 =>
       rw [h5, oS] at hh
       cases h6 : ref02_Narrow fu b ([l_0, l_1, l_2, l_3, l_4, l_5, l_6, l_7]) with
       | none => rw [h6, oN] at hh; cases hh
       | some x4 =>
        rw [h6, oS] at hh
        rcases bb (x4.2) with h7 | h7
        ·rw [h7, cT] at hh
         rcases bb (x1.2 == 0) with h8 | h8
         ·rw [h8, cT] at hh
          rcases bb (x3.2 == 0) with h9 | h9
          ·rw [h9, cT] at hh
           rcases bb ((((x1.1.Low.Age == x4.1.Low.Age) && ((x1.1.Low.Shoots == x4.1.Low.Shoots) && ((x1.1.Low.Height == x4.1.Low.Height) && ((x1.1.Low.Girth == x4.1.Low.Girth) && true)))) && (((x1.1.High.Age == x4.1.High.Age) && ((x1.1.High.Shoots == x4.1.High.Shoots) && ((x1.1.High.Height == x4.1.High.Height) && ((x1.1.High.Girth == x4.1.High.Girth) && true)))) && true))) with h10 | h10
           ·rw [h10, cT] at hh
            rcases bb ((((x3.1.Low.Age == x4.1.Low.Age) && ((x3.1.Low.Shoots == x4.1.Low.Shoots) && ((x3.1.Low.Height == x4.1.Low.Height) && ((x3.1.Low.Girth == x4.1.Low.Girth) && true)))) && (((x3.1.High.Age == x4.1.High.Age) && ((x3.1.High.Shoots == x4.1.High.Shoots) && ((x3.1.High.Height == x4.1.High.Height) && ((x3.1.High.Girth == x4.1.High.Girth) && true)))) && true))) with h11 | h11
            ·rw [h11, cT] at hh
             cases h12 : law02_known fu with
             | none => rw [h12, oN] at hh; cases hh
             | some x5 =>
              rw [h12, oS] at hh
              rw [← sI hh]
              refine FC.x pfT 100 60 (z64b0 b l_0 l_1 l_2 l_3 l_4 l_5 l_6 l_7 q10 x1 ++ (z64b1 b ++ (z64b2 b l_0 l_1 l_2 l_3 l_4 l_5 l_6 l_7 q10 x2 x3 x4 ++ ((hT :: (hR 6 (hT :: hE :: hE :: hT :: (hR 4 ((hB hQ true) :: (hR 4 [(hB hQ true), hE, hE, (hC (.bool (x5))), hE, hE])))))))))) (aa (z64q0 fu b l_0 l_1 l_2 l_3 l_4 l_5 l_6 l_7 q10 x1 h1) <| aa (z64q1 fu b l_0 l_1 l_2 l_3 l_4 l_5 l_6 l_7 q10 x2 h2 h3) <| aa (z64q2 fu b l_0 l_1 l_2 l_3 l_4 l_5 l_6 l_7 q10 x2 x3 x4 h4 h5 h6) <| pc h7 <| pc h8 <| pc h9 <| pc h10 <| pc h11 <| pc (law02_known_fc fu  x5 h12) <| pn) (by kernel_rfl) (by kernel_rfl) ?_ (by kernel_rfl)
              exact ⟨PinL.pf (encL_pf cXSample_pf _), trivial⟩
            ·rw [h11, cF] at hh
             rw [← sI hh]
             refine FC.x pfT 100 60 (z64b0 b l_0 l_1 l_2 l_3 l_4 l_5 l_6 l_7 q10 x1 ++ (z64b1 b ++ (z64b2 b l_0 l_1 l_2 l_3 l_4 l_5 l_6 l_7 q10 x2 x3 x4 ++ ((hT :: (hR 6 (hT :: hE :: hE :: hT :: (hR 4 ((hB hQ true) :: (hR 4 ((hB hQ false) :: (hR 4 [])))))))))))) (aa (z64q0 fu b l_0 l_1 l_2 l_3 l_4 l_5 l_6 l_7 q10 x1 h1) <| aa (z64q1 fu b l_0 l_1 l_2 l_3 l_4 l_5 l_6 l_7 q10 x2 h2 h3) <| aa (z64q2 fu b l_0 l_1 l_2 l_3 l_4 l_5 l_6 l_7 q10 x2 x3 x4 h4 h5 h6) <| pc h7 <| pc h8 <| pc h9 <| pc h10 <| pc h11 <| pn) (by kernel_rfl) (by kernel_rfl) ?_ (by kernel_rfl)
             exact ⟨PinL.pf (encL_pf cXSample_pf _), trivial⟩
           ·rw [h10, cF] at hh
            rw [← sI hh]
            refine FC.x pfT 100 60 (z64b0 b l_0 l_1 l_2 l_3 l_4 l_5 l_6 l_7 q10 x1 ++ (z64b1 b ++ (z64b2 b l_0 l_1 l_2 l_3 l_4 l_5 l_6 l_7 q10 x2 x3 x4 ++ ((hT :: (hR 6 (hT :: hE :: hE :: hT :: (hR 4 ((hB hQ false) :: (hR 6 [])))))))))) (aa (z64q0 fu b l_0 l_1 l_2 l_3 l_4 l_5 l_6 l_7 q10 x1 h1) <| aa (z64q1 fu b l_0 l_1 l_2 l_3 l_4 l_5 l_6 l_7 q10 x2 h2 h3) <| aa (z64q2 fu b l_0 l_1 l_2 l_3 l_4 l_5 l_6 l_7 q10 x2 x3 x4 h4 h5 h6) <| pc h7 <| pc h8 <| pc h9 <| pc h10 <| pn) (by kernel_rfl) (by kernel_rfl) ?_ (by kernel_rfl)
            exact ⟨PinL.pf (encL_pf cXSample_pf _), trivial⟩
          ·rw [h9, cF] at hh
           rw [← sI hh]
           refine FC.x pfT 100 60 (z64b0 b l_0 l_1 l_2 l_3 l_4 l_5 l_6 l_7 q10 x1 ++ (z64b1 b ++ (z64b2 b l_0 l_1 l_2 l_3 l_4 l_5 l_6 l_7 q10 x2 x3 x4 ++ ((hT :: (hR 6 (hT :: hE :: hE :: hF :: (hR 8 [])))))))) (aa (z64q0 fu b l_0 l_1 l_2 l_3 l_4 l_5 l_6 l_7 q10 x1 h1) <| aa (z64q1 fu b l_0 l_1 l_2 l_3 l_4 l_5 l_6 l_7 q10 x2 h2 h3) <| aa (z64q2 fu b l_0 l_1 l_2 l_3 l_4 l_5 l_6 l_7 q10 x2 x3 x4 h4 h5 h6) <| pc h7 <| pc h8 <| pc h9 <| pn) (by kernel_rfl) (by kernel_rfl) ?_ (by kernel_rfl)
           exact ⟨PinL.pf (encL_pf cXSample_pf _), trivial⟩
         ·rw [h8, cF] at hh
          rw [← sI hh]
          refine FC.x pfT 100 60 (z64b0 b l_0 l_1 l_2 l_3 l_4 l_5 l_6 l_7 q10 x1 ++ (z64b1 b ++ (z64b2 b l_0 l_1 l_2 l_3 l_4 l_5 l_6 l_7 q10 x2 x3 x4 ++ ((hT :: (hR 6 (hF :: (hR 9 [])))))))) (aa (z64q0 fu b l_0 l_1 l_2 l_3 l_4 l_5 l_6 l_7 q10 x1 h1) <| aa (z64q1 fu b l_0 l_1 l_2 l_3 l_4 l_5 l_6 l_7 q10 x2 h2 h3) <| aa (z64q2 fu b l_0 l_1 l_2 l_3 l_4 l_5 l_6 l_7 q10 x2 x3 x4 h4 h5 h6) <| pc h7 <| pc h8 <| pn) (by kernel_rfl) (by kernel_rfl) ?_ (by kernel_rfl)
          exact ⟨PinL.pf (encL_pf cXSample_pf _), trivial⟩
        ·rw [h7, cF] at hh
         rcases bb (x1.2 == 5) with h8 | h8
         ·rw [h8, cT] at hh
          rcases bb (x3.2 == 5) with h9 | h9
          ·rw [h9, cT] at hh
           rcases bb ((((x1.1.Low.Age == 0) && ((x1.1.Low.Shoots == 0) && ((x1.1.Low.Height == 0) && ((x1.1.Low.Girth == 0) && true)))) && (((x1.1.High.Age == 0) && ((x1.1.High.Shoots == 0) && ((x1.1.High.Height == 0) && ((x1.1.High.Girth == 0) && true)))) && true))) with h10 | h10
           ·rw [h10, cT] at hh
            rcases bb ((((x3.1.Low.Age == 0) && ((x3.1.Low.Shoots == 0) && ((x3.1.Low.Height == 0) && ((x3.1.Low.Girth == 0) && true)))) && (((x3.1.High.Age == 0) && ((x3.1.High.Shoots == 0) && ((x3.1.High.Height == 0) && ((x3.1.High.Girth == 0) && true)))) && true))) with h11 | h11
            ·rw [h11, cT] at hh
             cases h12 : law02_known fu with
             | none => rw [h12, oN] at hh; cases hh
             | some x5 =>
              rw [h12, oS] at hh
              rw [← sI hh]
              refine FC.x pfT 100 60 (z64b0 b l_0 l_1 l_2 l_3 l_4 l_5 l_6 l_7 q10 x1 ++ (z64b1 b ++ (z64b2 b l_0 l_1 l_2 l_3 l_4 l_5 l_6 l_7 q10 x2 x3 x4 ++ ((hF :: (hR 6 (hT :: hE :: hE :: hT :: (hR 4 ((hB hQ true) :: (hR 4 [(hB hQ true), hE, hE, (hC (.bool (x5))), hE, hE])))))))))) (aa (z64q0 fu b l_0 l_1 l_2 l_3 l_4 l_5 l_6 l_7 q10 x1 h1) <| aa (z64q1 fu b l_0 l_1 l_2 l_3 l_4 l_5 l_6 l_7 q10 x2 h2 h3) <| aa (z64q2 fu b l_0 l_1 l_2 l_3 l_4 l_5 l_6 l_7 q10 x2 x3 x4 h4 h5 h6) <| pc h7 <| pc h8 <| pc h9 <| pc h10 <| pc h11 <| pc (law02_known_fc fu  x5 h12) <| pn) (by kernel_rfl) (by kernel_rfl) ?_ (by kernel_rfl)
              exact ⟨PinL.pf (encL_pf cXSample_pf _), trivial⟩
            ·rw [h11, cF] at hh
             rw [← sI hh]
             refine FC.x pfT 100 60 (z64b0 b l_0 l_1 l_2 l_3 l_4 l_5 l_6 l_7 q10 x1 ++ (z64b1 b ++ (z64b2 b l_0 l_1 l_2 l_3 l_4 l_5 l_6 l_7 q10 x2 x3 x4 ++ ((hF :: (hR 6 (hT :: hE :: hE :: hT :: (hR 4 ((hB hQ true) :: (hR 4 ((hB hQ false) :: (hR 4 [])))))))))))) (aa (z64q0 fu b l_0 l_1 l_2 l_3 l_4 l_5 l_6 l_7 q10 x1 h1) <| aa (z64q1 fu b l_0 l_1 l_2 l_3 l_4 l_5 l_6 l_7 q10 x2 h2 h3) <| aa (z64q2 fu b l_0 l_1 l_2 l_3 l_4 l_5 l_6 l_7 q10 x2 x3 x4 h4 h5 h6) <| pc h7 <| pc h8 <| pc h9 <| pc h10 <| pc h11 <| pn) (by kernel_rfl) (by kernel_rfl) ?_ (by kernel_rfl)
             exact ⟨PinL.pf (encL_pf cXSample_pf _), trivial⟩
           ·rw [h10, cF] at hh
            rw [← sI hh]
            refine FC.x pfT 100 60 (z64b0 b l_0 l_1 l_2 l_3 l_4 l_5 l_6 l_7 q10 x1 ++ (z64b1 b ++ (z64b2 b l_0 l_1 l_2 l_3 l_4 l_5 l_6 l_7 q10 x2 x3 x4 ++ ((hF :: (hR 6 (hT :: hE :: hE :: hT :: (hR 4 ((hB hQ false) :: (hR 6 [])))))))))) (aa (z64q0 fu b l_0 l_1 l_2 l_3 l_4 l_5 l_6 l_7 q10 x1 h1) <| aa (z64q1 fu b l_0 l_1 l_2 l_3 l_4 l_5 l_6 l_7 q10 x2 h2 h3) <| aa (z64q2 fu b l_0 l_1 l_2 l_3 l_4 l_5 l_6 l_7 q10 x2 x3 x4 h4 h5 h6) <| pc h7 <| pc h8 <| pc h9 <| pc h10 <| pn) (by kernel_rfl) (by kernel_rfl) ?_ (by kernel_rfl)
            exact ⟨PinL.pf (encL_pf cXSample_pf _), trivial⟩
          ·rw [h9, cF] at hh
           rw [← sI hh]
           refine FC.x pfT 100 60 (z64b0 b l_0 l_1 l_2 l_3 l_4 l_5 l_6 l_7 q10 x1 ++ (z64b1 b ++ (z64b2 b l_0 l_1 l_2 l_3 l_4 l_5 l_6 l_7 q10 x2 x3 x4 ++ ((hF :: (hR 6 (hT :: hE :: hE :: hF :: (hR 8 [])))))))) (aa (z64q0 fu b l_0 l_1 l_2 l_3 l_4 l_5 l_6 l_7 q10 x1 h1) <| aa (z64q1 fu b l_0 l_1 l_2 l_3 l_4 l_5 l_6 l_7 q10 x2 h2 h3) <| aa (z64q2 fu b l_0 l_1 l_2 l_3 l_4 l_5 l_6 l_7 q10 x2 x3 x4 h4 h5 h6) <| pc h7 <| pc h8 <| pc h9 <| pn) (by kernel_rfl) (by kernel_rfl) ?_ (by kernel_rfl)
           exact ⟨PinL.pf (encL_pf cXSample_pf _), trivial⟩
         ·rw [h8, cF] at hh
          rw [← sI hh]
          refine FC.x pfT 100 60 (z64b0 b l_0 l_1 l_2 l_3 l_4 l_5 l_6 l_7 q10 x1 ++ (z64b1 b ++ (z64b2 b l_0 l_1 l_2 l_3 l_4 l_5 l_6 l_7 q10 x2 x3 x4 ++ ((hF :: (hR 6 (hF :: (hR 9 [])))))))) (aa (z64q0 fu b l_0 l_1 l_2 l_3 l_4 l_5 l_6 l_7 q10 x1 h1) <| aa (z64q1 fu b l_0 l_1 l_2 l_3 l_4 l_5 l_6 l_7 q10 x2 h2 h3) <| aa (z64q2 fu b l_0 l_1 l_2 l_3 l_4 l_5 l_6 l_7 q10 x2 x3 x4 h4 h5 h6) <| pc h7 <| pc h8 <| pn) (by kernel_rfl) (by kernel_rfl) ?_ (by kernel_rfl)
          exact ⟨PinL.pf (encL_pf cXSample_pf _), trivial⟩
     ·rw [h4, cF] at hh
      rcases bb (x1.2 == 2) with h5 | h5
      ·rw [h5, cT] at hh
       rcases bb ((((x1.1.Low.Age == 0) && ((x1.1.Low.Shoots == 0) && ((x1.1.Low.Height == 0) && ((x1.1.Low.Girth == 0) && true)))) && (((x1.1.High.Age == 0) && ((x1.1.High.Shoots == 0) && ((x1.1.High.Height == 0) && ((x1.1.High.Girth == 0) && true)))) && true))) with h6 | h6
       ·rw [h6, cT] at hh
        cases h7 : law02_known fu with
        | none => rw [h7, oN] at hh; cases hh
        | some x5 =>
         rw [h7, oS] at hh
         rw [← sI hh]
         refine FC.x pfT 100 60 (z64b0 b l_0 l_1 l_2 l_3 l_4 l_5 l_6 l_7 q10 x1 ++ (z64b1 b ++ ([(z64i16 l_0 l_1 l_2 l_3 l_4 l_5 l_6 l_7 q10 x2), hE, hE, hE, hT, hE, hE, hE, (hB hQ true), hE, hE, (hC (.bool (x5))), hE, hE]))) (aa (z64q0 fu b l_0 l_1 l_2 l_3 l_4 l_5 l_6 l_7 q10 x1 h1) <| aa (z64q1 fu b l_0 l_1 l_2 l_3 l_4 l_5 l_6 l_7 q10 x2 h2 h3) <| pc h4 <| pc h5 <| pc h6 <| pc (law02_known_fc fu  x5 h7) <| pn) (by kernel_rfl) (by kernel_rfl) ?_ (by kernel_rfl)
         exact ⟨PinL.pf (encL_pf cXSample_pf _), trivial⟩
       ·rw [h6, cF] at hh
        rw [← sI hh]
        refine FC.x pfT 100 60 (z64b0 b l_0 l_1 l_2 l_3 l_4 l_5 l_6 l_7 q10 x1 ++ (z64b1 b ++ (((z64i16 l_0 l_1 l_2 l_3 l_4 l_5 l_6 l_7 q10 x2) :: hE :: hE :: hE :: hT :: hE :: hE :: hE :: (hB hQ false) :: (hR 4 []))))) (aa (z64q0 fu b l_0 l_1 l_2 l_3 l_4 l_5 l_6 l_7 q10 x1 h1) <| aa (z64q1 fu b l_0 l_1 l_2 l_3 l_4 l_5 l_6 l_7 q10 x2 h2 h3) <| pc h4 <| pc h5 <| pc h6 <| pn) (by kernel_rfl) (by kernel_rfl) ?_ (by kernel_rfl)
        exact ⟨PinL.pf (encL_pf cXSample_pf _), trivial⟩
      ·rw [h5, cF] at hh
       rw [← sI hh]
       refine FC.x pfT 100 60 (z64b0 b l_0 l_1 l_2 l_3 l_4 l_5 l_6 l_7 q10 x1 ++ (z64b1 b ++ (((z64i16 l_0 l_1 l_2 l_3 l_4 l_5 l_6 l_7 q10 x2) :: hE :: hE :: hE :: hF :: (hR 5 []))))) (aa (z64q0 fu b l_0 l_1 l_2 l_3 l_4 l_5 l_6 l_7 q10 x1 h1) <| aa (z64q1 fu b l_0 l_1 l_2 l_3 l_4 l_5 l_6 l_7 q10 x2 h2 h3) <| pc h4 <| pc h5 <| pn) (by kernel_rfl) (by kernel_rfl) ?_ (by kernel_rfl)
       exact ⟨PinL.pf (encL_pf cXSample_pf _), trivial⟩
   ·rw [h2, cF] at hh
    rcases bb (x1.2 == 2) with h3 | h3
    ·rw [h3, cT] at hh
     rcases bb ((((x1.1.Low.Age == 0) && ((x1.1.Low.Shoots == 0) && ((x1.1.Low.Height == 0) && ((x1.1.Low.Girth == 0) && true)))) && (((x1.1.High.Age == 0) && ((x1.1.High.Shoots == 0) && ((x1.1.High.Height == 0) && ((x1.1.High.Girth == 0) && true)))) && true))) with h4 | h4
     ·rw [h4, cT] at hh
      cases h5 : law02_known fu with
      | none => rw [h5, oN] at hh; cases hh
      | some x5 =>
       rw [h5, oS] at hh
       rw [← sI hh]
       refine FC.x pfT 100 60 (z64b0 b l_0 l_1 l_2 l_3 l_4 l_5 l_6 l_7 q10 x1 ++ (((hB (hC (.bool (ref02_Box b))) false) :: (hR 4 [hT, hE, hE, hE, (hB hQ true), hE, hE, (hC (.bool (x5))), hE, hE])))) (aa (z64q0 fu b l_0 l_1 l_2 l_3 l_4 l_5 l_6 l_7 q10 x1 h1) <| pc h2 <| pc h3 <| pc h4 <| pc (law02_known_fc fu  x5 h5) <| pn) (by kernel_rfl) (by kernel_rfl) ?_ (by kernel_rfl)
       exact ⟨PinL.pf (encL_pf cXSample_pf _), trivial⟩
     ·rw [h4, cF] at hh
      rw [← sI hh]
      refine FC.x pfT 100 60 (z64b0 b l_0 l_1 l_2 l_3 l_4 l_5 l_6 l_7 q10 x1 ++ (((hB (hC (.bool (ref02_Box b))) false) :: (hR 4 (hT :: hE :: hE :: hE :: (hB hQ false) :: (hR 4 [])))))) (aa (z64q0 fu b l_0 l_1 l_2 l_3 l_4 l_5 l_6 l_7 q10 x1 h1) <| pc h2 <| pc h3 <| pc h4 <| pn) (by kernel_rfl) (by kernel_rfl) ?_ (by kernel_rfl)
      exact ⟨PinL.pf (encL_pf cXSample_pf _), trivial⟩
    ·rw [h3, cF] at hh
     rw [← sI hh]
     refine FC.x pfT 100 60 (z64b0 b l_0 l_1 l_2 l_3 l_4 l_5 l_6 l_7 q10 x1 ++ (((hB (hC (.bool (ref02_Box b))) false) :: (hR 4 (hF :: (hR 5 [])))))) (aa (z64q0 fu b l_0 l_1 l_2 l_3 l_4 l_5 l_6 l_7 q10 x1 h1) <| pc h2 <| pc h3 <| pn) (by kernel_rfl) (by kernel_rfl) ?_ (by kernel_rfl)
     exact ⟨PinL.pf (encL_pf cXSample_pf _), trivial⟩

/- greenhew/greenhewlaw02.GrowthNarrows -/
noncomputable abbrev z65i0 (b : XBox) (l_0 l_1 l_2 l_3 l_4 l_5 l_6 l_7 l_8 : XSample) (q10 : Nat) (x1 : XBox × Int) : Hint := (hM (.tuple #[.agg #[I (x1.1.Low.Age), I (x1.1.Low.Shoots), I (x1.1.Low.Height), I (x1.1.Low.Girth), I (x1.1.High.Age), I (x1.1.High.Shoots), I (x1.1.High.Height), I (x1.1.High.Girth)], I (x1.2)]) (.tuple #[.agg #[I (x1.1.Low.Age), I (x1.1.Low.Shoots), I (x1.1.Low.Height), I (x1.1.Low.Girth), I (x1.1.High.Age), I (x1.1.High.Shoots), I (x1.1.High.Height), I (x1.1.High.Girth)], I (x1.2)]) (A_growth_Narrow b ([l_0, l_1, l_2, l_3, l_4, l_5, l_6, l_7, l_8]) q10) (K_growth_Narrow ([l_0, l_1, l_2, l_3, l_4, l_5, l_6, l_7, l_8])) [(10, 10, 0)])
noncomputable abbrev z65i1 (l_0 l_1 l_2 l_3 l_4 l_5 l_6 l_7 l_8 : XSample) (q10 : Nat) (x2 : Bool) : Hint := (hB (hM (.bool (x2)) (.bool (x2)) (A_ref02_Samples ([l_0, l_1, l_2, l_3, l_4, l_5, l_6, l_7, l_8]) q10) (K_ref02_Samples ([l_0, l_1, l_2, l_3, l_4, l_5, l_6, l_7, l_8])) [(10, 10, 0)]) true)
noncomputable abbrev z65i2 (b : XBox) (l_0 l_1 l_2 l_3 l_4 l_5 l_6 l_7 l_8 : XSample) (x3 : XBox × Int) : Hint := (hM (.tuple #[.agg #[I (x3.1.Low.Age), I (x3.1.Low.Shoots), I (x3.1.Low.Height), I (x3.1.Low.Girth), I (x3.1.High.Age), I (x3.1.High.Shoots), I (x3.1.High.Height), I (x3.1.High.Girth)], I (x3.2)]) (.tuple #[.agg #[I (x3.1.Low.Age), I (x3.1.Low.Shoots), I (x3.1.Low.Height), I (x3.1.Low.Girth), I (x3.1.High.Age), I (x3.1.High.Shoots), I (x3.1.High.Height), I (x3.1.High.Girth)], I (x3.2)]) (A_growth_Narrow b ([l_8, l_7, l_6, l_5, l_4, l_3, l_2, l_1, l_0, l_0, l_1, l_2, l_3, l_4, l_5, l_6, l_7, l_8]) 18) (K_growth_Narrow ([l_8, l_7, l_6, l_5, l_4, l_3, l_2, l_1, l_0, l_0, l_1, l_2, l_3, l_4, l_5, l_6, l_7, l_8])) [(10, 120, 0)])
noncomputable abbrev z65i3 (b : XBox) (l_0 l_1 l_2 l_3 l_4 l_5 l_6 l_7 l_8 : XSample) (q10 : Nat) (x4 : XBox × Bool) : Hint := (hM (.tuple #[.agg #[I (x4.1.Low.Age), I (x4.1.Low.Shoots), I (x4.1.Low.Height), I (x4.1.Low.Girth), I (x4.1.High.Age), I (x4.1.High.Shoots), I (x4.1.High.Height), I (x4.1.High.Girth)], .bool (x4.2)]) (.tuple #[.agg #[I (x4.1.Low.Age), I (x4.1.Low.Shoots), I (x4.1.Low.Height), I (x4.1.Low.Girth), I (x4.1.High.Age), I (x4.1.High.Shoots), I (x4.1.High.Height), I (x4.1.High.Girth)], .bool (x4.2)]) (A_ref02_Narrow b ([l_0, l_1, l_2, l_3, l_4, l_5, l_6, l_7, l_8]) q10) (K_ref02_Narrow ([l_0, l_1, l_2, l_3, l_4, l_5, l_6, l_7, l_8])) [(10, 10, 0)])
theorem z65p4 (b : XBox) (l_0 l_1 l_2 l_3 l_4 l_5 l_6 l_7 l_8 : XSample) (q10 : Nat) : VRs (Ren.emb [(10, 10, 0)]) (A_growth_Narrow b ([l_0, l_1, l_2, l_3, l_4, l_5, l_6, l_7, l_8]) q10) [.agg #[I (b.Low.Age), I (b.Low.Shoots), I (b.Low.Height), I (b.Low.Girth), I (b.High.Age), I (b.High.Shoots), I (b.High.Height), I (b.High.Girth)], .slice (some ⟨10, 0, none⟩) (9) (q10)] := (.cons _ _ _ _ (VR.of_pf rfl) (.cons _ _ _ _ (.slc 10 0 _ _ _ ⟨10, 0, 0, 0⟩ rfl (.inl rfl)) .nil))
theorem z65p5 (l_0 l_1 l_2 l_3 l_4 l_5 l_6 l_7 l_8 : XSample) (q10 : Nat) : VRs (Ren.emb [(10, 10, 0)]) (A_ref02_Samples ([l_0, l_1, l_2, l_3, l_4, l_5, l_6, l_7, l_8]) q10) [.slice (some ⟨10, 0, none⟩) (9) (q10)] := (.cons _ _ _ _ (.slc 10 0 _ _ _ ⟨10, 0, 0, 0⟩ rfl (.inl rfl)) .nil)
theorem z65p6 (b : XBox) (l_0 l_1 l_2 l_3 l_4 l_5 l_6 l_7 l_8 : XSample) : VRs (Ren.emb [(10, 120, 0)]) (A_growth_Narrow b ([l_8, l_7, l_6, l_5, l_4, l_3, l_2, l_1, l_0, l_0, l_1, l_2, l_3, l_4, l_5, l_6, l_7, l_8]) 18) [.agg #[I (b.Low.Age), I (b.Low.Shoots), I (b.Low.Height), I (b.Low.Girth), I (b.High.Age), I (b.High.Shoots), I (b.High.Height), I (b.High.Girth)], .slice (some ⟨120, 0, none⟩) (18) (18)] := (.cons _ _ _ _ (VR.of_pf rfl) (.cons _ _ _ _ (.slc 10 0 _ _ _ ⟨120, 0, 0, 0⟩ rfl (.inl rfl)) .nil))
theorem z65p7 (b : XBox) (l_0 l_1 l_2 l_3 l_4 l_5 l_6 l_7 l_8 : XSample) (q10 : Nat) : VRs (Ren.emb [(10, 10, 0)]) (A_ref02_Narrow b ([l_0, l_1, l_2, l_3, l_4, l_5, l_6, l_7, l_8]) q10) [.agg #[I (b.Low.Age), I (b.Low.Shoots), I (b.Low.Height), I (b.Low.Girth), I (b.High.Age), I (b.High.Shoots), I (b.High.Height), I (b.High.Girth)], .slice (some ⟨10, 0, none⟩) (9) (q10)] := (.cons _ _ _ _ (VR.of_pf rfl) (.cons _ _ _ _ (.slc 10 0 _ _ _ ⟨10, 0, 0, 0⟩ rfl (.inl rfl)) .nil))
abbrev z65r8 (l_0 l_1 l_2 l_3 l_4 l_5 l_6 l_7 l_8 : XSample) : Prop := MemAt (Ren.emb [(10, 10, 0)]) (encL cXSample ([l_0, l_1, l_2, l_3, l_4, l_5, l_6, l_7, l_8])) 0 ([I (l_0.Kind), I (l_0.Span.Low), I (l_0.Span.High), I (l_1.Kind), I (l_1.Span.Low), I (l_1.Span.High), I (l_2.Kind), I (l_2.Span.Low), I (l_2.Span.High), I (l_3.Kind), I (l_3.Span.Low), I (l_3.Span.High), I (l_4.Kind), I (l_4.Span.Low), I (l_4.Span.High), I (l_5.Kind), I (l_5.Span.Low), I (l_5.Span.High), I (l_6.Kind), I (l_6.Span.Low), I (l_6.Span.High), I (l_7.Kind), I (l_7.Span.Low), I (l_7.Span.High), I (l_8.Kind), I (l_8.Span.Low), I (l_8.Span.High)]) ∧ True
abbrev z65r9 (x1 : XBox × Int) : Prop := VR (Ren.emb [(10, 10, 0)]) (.tuple #[.agg #[I (x1.1.Low.Age), I (x1.1.Low.Shoots), I (x1.1.Low.Height), I (x1.1.Low.Girth), I (x1.1.High.Age), I (x1.1.High.Shoots), I (x1.1.High.Height), I (x1.1.High.Girth)], I (x1.2)]) (.tuple #[.agg #[I (x1.1.Low.Age), I (x1.1.Low.Shoots), I (x1.1.Low.Height), I (x1.1.Low.Girth), I (x1.1.High.Age), I (x1.1.High.Shoots), I (x1.1.High.Height), I (x1.1.High.Girth)], I (x1.2)])
abbrev z65r10 (l_0 l_1 l_2 l_3 l_4 l_5 l_6 l_7 l_8 : XSample) : Prop := MemAt (Ren.emb [(10, 120, 0)]) (encL cXSample ([l_8, l_7, l_6, l_5, l_4, l_3, l_2, l_1, l_0, l_0, l_1, l_2, l_3, l_4, l_5, l_6, l_7, l_8])) 0 ([I (l_8.Kind), I (l_8.Span.Low), I (l_8.Span.High), I (l_7.Kind), I (l_7.Span.Low), I (l_7.Span.High), I (l_6.Kind), I (l_6.Span.Low), I (l_6.Span.High), I (l_5.Kind), I (l_5.Span.Low), I (l_5.Span.High), I (l_4.Kind), I (l_4.Span.Low), I (l_4.Span.High), I (l_3.Kind), I (l_3.Span.Low), I (l_3.Span.High), I (l_2.Kind), I (l_2.Span.Low), I (l_2.Span.High), I (l_1.Kind), I (l_1.Span.Low), I (l_1.Span.High), I (l_0.Kind), I (l_0.Span.Low), I (l_0.Span.High), I (l_0.Kind), I (l_0.Span.Low), I (l_0.Span.High), I (l_1.Kind), I (l_1.Span.Low), I (l_1.Span.High), I (l_2.Kind), I (l_2.Span.Low), I (l_2.Span.High), I (l_3.Kind), I (l_3.Span.Low), I (l_3.Span.High), I (l_4.Kind), I (l_4.Span.Low), I (l_4.Span.High), I (l_5.Kind), I (l_5.Span.Low), I (l_5.Span.High), I (l_6.Kind), I (l_6.Span.Low), I (l_6.Span.High), I (l_7.Kind), I (l_7.Span.Low), I (l_7.Span.High), I (l_8.Kind), I (l_8.Span.Low), I (l_8.Span.High)]) ∧ True
abbrev z65r11 (x3 : XBox × Int) : Prop := VR (Ren.emb [(10, 120, 0)]) (.tuple #[.agg #[I (x3.1.Low.Age), I (x3.1.Low.Shoots), I (x3.1.Low.Height), I (x3.1.Low.Girth), I (x3.1.High.Age), I (x3.1.High.Shoots), I (x3.1.High.Height), I (x3.1.High.Girth)], I (x3.2)]) (.tuple #[.agg #[I (x3.1.Low.Age), I (x3.1.Low.Shoots), I (x3.1.Low.Height), I (x3.1.Low.Girth), I (x3.1.High.Age), I (x3.1.High.Shoots), I (x3.1.High.Height), I (x3.1.High.Girth)], I (x3.2)])
abbrev z65r12 (b : XBox) : Prop := (.agg #[I (b.Low.Age), I (b.Low.Shoots), I (b.Low.Height), I (b.Low.Girth), I (b.High.Age), I (b.High.Shoots), I (b.High.Height), I (b.High.Girth)] : Value) = .agg #[I (b.Low.Age), I (b.Low.Shoots), I (b.Low.Height), I (b.Low.Girth), I (b.High.Age), I (b.High.Shoots), I (b.High.Height), I (b.High.Girth)]
abbrev z65r13 (x3 : XBox × Int) : Prop := (.tuple #[.agg #[I (x3.1.Low.Age), I (x3.1.Low.Shoots), I (x3.1.Low.Height), I (x3.1.Low.Girth), I (x3.1.High.Age), I (x3.1.High.Shoots), I (x3.1.High.Height), I (x3.1.High.Girth)], I (x3.2)] : Value) = .tuple #[.agg #[I (x3.1.Low.Age), I (x3.1.Low.Shoots), I (x3.1.Low.Height), I (x3.1.Low.Girth), I (x3.1.High.Age), I (x3.1.High.Shoots), I (x3.1.High.Height), I (x3.1.High.Girth)], I (x3.2)]
abbrev z65r14 (x3 : XBox × Int) : Prop := (.agg #[I (x3.1.Low.Age), I (x3.1.Low.Shoots), I (x3.1.Low.Height), I (x3.1.Low.Girth), I (x3.1.High.Age), I (x3.1.High.Shoots), I (x3.1.High.Height), I (x3.1.High.Girth)] : Value) = .agg #[I (x3.1.Low.Age), I (x3.1.Low.Shoots), I (x3.1.Low.Height), I (x3.1.Low.Girth), I (x3.1.High.Age), I (x3.1.High.Shoots), I (x3.1.High.Height), I (x3.1.High.Girth)]
abbrev z65r15 (x4 : XBox × Bool) : Prop := VR (Ren.emb [(10, 10, 0)]) (.tuple #[.agg #[I (x4.1.Low.Age), I (x4.1.Low.Shoots), I (x4.1.Low.Height), I (x4.1.Low.Girth), I (x4.1.High.Age), I (x4.1.High.Shoots), I (x4.1.High.Height), I (x4.1.High.Girth)], .bool (x4.2)]) (.tuple #[.agg #[I (x4.1.Low.Age), I (x4.1.Low.Shoots), I (x4.1.Low.Height), I (x4.1.Low.Girth), I (x4.1.High.Age), I (x4.1.High.Shoots), I (x4.1.High.Height), I (x4.1.High.Girth)], .bool (x4.2)])
noncomputable abbrev z65i16 (l_0 l_1 l_2 l_3 l_4 l_5 l_6 l_7 l_8 : XSample) (q10 : Nat) (x2 : Bool) : Hint := (hB (hM (.bool (x2)) (.bool (x2)) (A_ref02_Samples ([l_0, l_1, l_2, l_3, l_4, l_5, l_6, l_7, l_8]) q10) (K_ref02_Samples ([l_0, l_1, l_2, l_3, l_4, l_5, l_6, l_7, l_8])) [(10, 10, 0)]) false)
noncomputable def z65b0 (b : XBox) (l_0 l_1 l_2 l_3 l_4 l_5 l_6 l_7 l_8 : XSample) (q10 : Nat) (x1 : XBox × Int) : List Hint := (hR 14 ((z65i0 b l_0 l_1 l_2 l_3 l_4 l_5 l_6 l_7 l_8 q10 x1) :: (hR 10 [])))
def z65q0 (fu : Nat) (b : XBox) (l_0 l_1 l_2 l_3 l_4 l_5 l_6 l_7 l_8 : XSample) (q10 : Nat) (x1 : XBox × Int) (h1 : (growth_Narrow fu b ([l_0, l_1, l_2, l_3, l_4, l_5, l_6, l_7, l_8])) = some x1) := PA.mk <| pc (growth_Narrow_fc fu b ([l_0, l_1, l_2, l_3, l_4, l_5, l_6, l_7, l_8]) q10 x1 h1) <| pc (z65p4 b l_0 l_1 l_2 l_3 l_4 l_5 l_6 l_7 l_8 q10) <| pt (z65r8 l_0 l_1 l_2 l_3 l_4 l_5 l_6 l_7 l_8) (⟨MemAt.same _ (encL_pf cXSample_pf _), trivial⟩) <| pt (z65r9 x1) (selfB_self 9 _ rfl _) <| pc (ref02_Box_fc b) <| pn
noncomputable def z65b1 (b : XBox) : List Hint := [(hB (hC (.bool (ref02_Box b))) true), hE, hE, hE]
def z65q1 (fu : Nat) (b : XBox) (l_0 l_1 l_2 l_3 l_4 l_5 l_6 l_7 l_8 : XSample) (q10 : Nat) (x2 : Bool) (h2 : (ref02_Box b) = true) (h3 : (ref02_Samples fu ([l_0, l_1, l_2, l_3, l_4, l_5, l_6, l_7, l_8])) = some x2) := PA.mk <| pc h2 <| pc (ref02_Samples_fc fu ([l_0, l_1, l_2, l_3, l_4, l_5, l_6, l_7, l_8]) q10 x2 h3) <| pc (z65p5 l_0 l_1 l_2 l_3 l_4 l_5 l_6 l_7 l_8 q10) <| pt (z65r8 l_0 l_1 l_2 l_3 l_4 l_5 l_6 l_7 l_8) (⟨MemAt.same _ (encL_pf cXSample_pf _), trivial⟩) <| pt (VR (Ren.emb [(10, 10, 0)]) (.bool (x2)) (.bool (x2))) (selfB_self 9 _ rfl _) <| pn
noncomputable def z65b2 (b : XBox) (l_0 l_1 l_2 l_3 l_4 l_5 l_6 l_7 l_8 : XSample) (q10 : Nat) (x2 : Bool) (x3 : XBox × Int) (x4 : XBox × Bool) : List Hint := ((z65i1 l_0 l_1 l_2 l_3 l_4 l_5 l_6 l_7 l_8 q10 x2) :: (hR 126 ((hED 8 [3]) :: (hR 4 ((z65i2 b l_0 l_1 l_2 l_3 l_4 l_5 l_6 l_7 l_8 x3) :: (hR 8 [(z65i3 b l_0 l_1 l_2 l_3 l_4 l_5 l_6 l_7 l_8 q10 x4), hE, hE]))))))
def z65q2 (fu : Nat) (b : XBox) (l_0 l_1 l_2 l_3 l_4 l_5 l_6 l_7 l_8 : XSample) (q10 : Nat) (x2 : Bool) (x3 : XBox × Int) (x4 : XBox × Bool) (h4 : (x2) = true) (h5 : (growth_Narrow fu b ([l_8, l_7, l_6, l_5, l_4, l_3, l_2, l_1, l_0, l_0, l_1, l_2, l_3, l_4, l_5, l_6, l_7, l_8])) = some x3) (h6 : (ref02_Narrow fu b ([l_0, l_1, l_2, l_3, l_4, l_5, l_6, l_7, l_8])) = some x4) := PA.mk <| pc h4 <| pc (growth_Narrow_fc fu b ([l_8, l_7, l_6, l_5, l_4, l_3, l_2, l_1, l_0, l_0, l_1, l_2, l_3, l_4, l_5, l_6, l_7, l_8]) 18 x3 h5) <| pc (z65p6 b l_0 l_1 l_2 l_3 l_4 l_5 l_6 l_7 l_8) <| pt (z65r10 l_0 l_1 l_2 l_3 l_4 l_5 l_6 l_7 l_8) (⟨MemAt.same _ (encL_pf cXSample_pf _), trivial⟩) <| pt (z65r11 x3) (selfB_self 9 _ rfl _) <| pt (z65r12 b) rfl <| pt (z65r12 b) rfl <| pc (growth_Narrow_fc fu b ([l_8, l_7, l_6, l_5, l_4, l_3, l_2, l_1, l_0, l_0, l_1, l_2, l_3, l_4, l_5, l_6, l_7, l_8]) 18 x3 h5) <| pc (z65p6 b l_0 l_1 l_2 l_3 l_4 l_5 l_6 l_7 l_8) <| pt (z65r10 l_0 l_1 l_2 l_3 l_4 l_5 l_6 l_7 l_8) (⟨MemAt.same _ (encL_pf cXSample_pf _), trivial⟩) <| pt (z65r11 x3) (selfB_self 9 _ rfl _) <| pt (z65r13 x3) rfl <| pt (z65r13 x3) rfl <| pt (z65r14 x3) rfl <| pt ((I (x3.2) : Value) = I (x3.2)) rfl <| pt ((I (x3.2) : Value) = I (x3.2)) rfl <| pc (ref02_Narrow_fc fu b ([l_0, l_1, l_2, l_3, l_4, l_5, l_6, l_7, l_8]) q10 x4 h6) <| pc (z65p7 b l_0 l_1 l_2 l_3 l_4 l_5 l_6 l_7 l_8 q10) <| pt (z65r8 l_0 l_1 l_2 l_3 l_4 l_5 l_6 l_7 l_8) (⟨MemAt.same _ (encL_pf cXSample_pf _), trivial⟩) <| pt (z65r15 x4) (selfB_self 9 _ rfl _) <| pn
abbrev A_law02_GrowthNarrows_n9 (b : XBox) (q10 : Nat) : List Value := [.agg #[I (b.Low.Age), I (b.Low.Shoots), I (b.Low.Height), I (b.Low.Girth), I (b.High.Age), I (b.High.Shoots), I (b.High.Height), I (b.High.Girth)], .slice (some ⟨10, 0, none⟩) (9) (q10)]
abbrev K_law02_GrowthNarrows_n9 (l_0 l_1 l_2 l_3 l_4 l_5 l_6 l_7 l_8 : XSample) : List (Nat × List Value) := [(10, encL cXSample [l_0, l_1, l_2, l_3, l_4, l_5, l_6, l_7, l_8])]
noncomputable def law02_GrowthNarrows_n9 (fu : Nat) (b : XBox) (l_0 l_1 l_2 l_3 l_4 l_5 l_6 l_7 l_8 : XSample) : Option Bool :=
  Option.bind (growth_Narrow fu b ([l_0, l_1, l_2, l_3, l_4, l_5, l_6, l_7, l_8])) fun x1 =>
  bif ref02_Box b then (Option.bind (ref02_Samples fu ([l_0, l_1, l_2, l_3, l_4, l_5, l_6, l_7, l_8])) fun x2 =>
    bif x2 then (Option.bind (growth_Narrow fu b ([l_8, l_7, l_6, l_5, l_4, l_3, l_2, l_1, l_0, l_0, l_1, l_2, l_3, l_4, l_5, l_6, l_7, l_8])) fun x3 =>
      Option.bind (ref02_Narrow fu b ([l_0, l_1, l_2, l_3, l_4, l_5, l_6, l_7, l_8])) fun x4 =>
      bif x4.2 then (bif x1.2 == 0 then (bif x3.2 == 0 then (bif (((x1.1.Low.Age == x4.1.Low.Age) && ((x1.1.Low.Shoots == x4.1.Low.Shoots) && ((x1.1.Low.Height == x4.1.Low.Height) && ((x1.1.Low.Girth == x4.1.Low.Girth) && true)))) && (((x1.1.High.Age == x4.1.High.Age) && ((x1.1.High.Shoots == x4.1.High.Shoots) && ((x1.1.High.Height == x4.1.High.Height) && ((x1.1.High.Girth == x4.1.High.Girth) && true)))) && true)) then (bif (((x3.1.Low.Age == x4.1.Low.Age) && ((x3.1.Low.Shoots == x4.1.Low.Shoots) && ((x3.1.Low.Height == x4.1.Low.Height) && ((x3.1.Low.Girth == x4.1.Low.Girth) && true)))) && (((x3.1.High.Age == x4.1.High.Age) && ((x3.1.High.Shoots == x4.1.High.Shoots) && ((x3.1.High.Height == x4.1.High.Height) && ((x3.1.High.Girth == x4.1.High.Girth) && true)))) && true)) then (Option.bind (law02_known fu) fun x5 =>
                some x5)
              else some false)
            else some false)
          else some false)
        else some false)
      else (bif x1.2 == 5 then (bif x3.2 == 5 then (bif (((x1.1.Low.Age == 0) && ((x1.1.Low.Shoots == 0) && ((x1.1.Low.Height == 0) && ((x1.1.Low.Girth == 0) && true)))) && (((x1.1.High.Age == 0) && ((x1.1.High.Shoots == 0) && ((x1.1.High.Height == 0) && ((x1.1.High.Girth == 0) && true)))) && true)) then (bif (((x3.1.Low.Age == 0) && ((x3.1.Low.Shoots == 0) && ((x3.1.Low.Height == 0) && ((x3.1.Low.Girth == 0) && true)))) && (((x3.1.High.Age == 0) && ((x3.1.High.Shoots == 0) && ((x3.1.High.Height == 0) && ((x3.1.High.Girth == 0) && true)))) && true)) then (Option.bind (law02_known fu) fun x5 =>
                some x5)
              else some false)
            else some false)
          else some false)
        else some false))
    else (bif x1.2 == 2 then (bif (((x1.1.Low.Age == 0) && ((x1.1.Low.Shoots == 0) && ((x1.1.Low.Height == 0) && ((x1.1.Low.Girth == 0) && true)))) && (((x1.1.High.Age == 0) && ((x1.1.High.Shoots == 0) && ((x1.1.High.Height == 0) && ((x1.1.High.Girth == 0) && true)))) && true)) then (Option.bind (law02_known fu) fun x5 =>
          some x5)
        else some false)
      else some false))
  else (bif x1.2 == 2 then (bif (((x1.1.Low.Age == 0) && ((x1.1.Low.Shoots == 0) && ((x1.1.Low.Height == 0) && ((x1.1.Low.Girth == 0) && true)))) && (((x1.1.High.Age == 0) && ((x1.1.High.Shoots == 0) && ((x1.1.High.Height == 0) && ((x1.1.High.Girth == 0) && true)))) && true)) then (Option.bind (law02_known fu) fun x5 =>
        some x5)
      else some false)
    else some false)
theorem law02_GrowthNarrows_n9_fc (fu : Nat) (b : XBox) (l_0 l_1 l_2 l_3 l_4 l_5 l_6 l_7 l_8 : XSample) (q10 : Nat) (r : Bool) (hh : law02_GrowthNarrows_n9 fu b l_0 l_1 l_2 l_3 l_4 l_5 l_6 l_7 l_8 = some r) : FC P GG 10 (A_law02_GrowthNarrows_n9 b q10) (K_law02_GrowthNarrows_n9 l_0 l_1 l_2 l_3 l_4 l_5 l_6 l_7 l_8) (.bool (r)) := by
  unfold law02_GrowthNarrows_n9 at hh
  cases h1 : growth_Narrow fu b ([l_0, l_1, l_2, l_3, l_4, l_5, l_6, l_7, l_8]) with
  | none => rw [h1, oN] at hh; cases hh
  | some x1 =>
   rw [h1, oS] at hh
   rcases bb (ref02_Box b) with h2 | h2
   ·rw [h2, cT] at hh
    cases h3 : ref02_Samples fu ([l_0, l_1, l_2, l_3, l_4, l_5, l_6, l_7, l_8]) with
    | none => rw [h3, oN] at hh; cases hh
    | some x2 =>
     rw [h3, oS] at hh
     rcases bb (x2) with h4 | h4
     ·rw [h4, cT] at hh
      cases h5 : growth_Narrow fu b ([l_8, l_7, l_6, l_5, l_4, l_3, l_2, l_1, l_0, l_0, l_1, l_2, l_3, l_4, l_5, l_6, l_7, l_8]) with
      | none => rw [h5, oN] at hh; cases hh
      | some x3 =>
       rw [h5, oS] at hh
       cases h6 : ref02_Narrow fu b ([l_0, l_1, l_2, l_3, l_4, l_5, l_6, l_7, l_8]) with
       | none => rw [h6, oN] at hh; cases hh
       | some x4 =>
        rw [h6, oS] at hh
        rcases bb (x4.2) with h7 | h7
        ·rw [h7, cT] at hh
         rcases bb (x1.2 == 0) with h8 | h8
         ·rw [h8, cT] at hh
          rcases bb (x3.2 == 0) with h9 | h9
          ·rw [h9, cT] at hh
           rcases bb ((((x1.1.Low.Age == x4.1.Low.Age) && ((x1.1.Low.Shoots == x4.1.Low.Shoots) && ((x1.1.Low.Height == x4.1.Low.Height) && ((x1.1.Low.Girth == x4.1.Low.Girth) && true)))) && (((x1.1.High.Age == x4.1.High.Age) && ((x1.1.High.Shoots == x4.1.High.Shoots) && ((x1.1.High.Height == x4.1.High.Height) && ((x1.1.High.Girth == x4.1.High.Girth) && true)))) && true))) with h10 | h10
           ·rw [h10, cT] at hh
            rcases bb ((((x3.1.Low.Age == x4.1.Low.Age) && ((x3.1.Low.Shoots == x4.1.Low.Shoots) && ((x3.1.Low.Height == x4.1.Low.Height) && ((x3.1.Low.Girth == x4.1.Low.Girth) && true)))) && (((x3.1.High.Age == x4.1.High.Age) && ((x3.1.High.Shoots == x4.1.High.Shoots) && ((x3.1.High.Height == x4.1.High.Height) && ((x3.1.High.Girth == x4.1.High.Girth) && true)))) && true))) with h11 | h11
            ·rw [h11, cT] at hh
             cases h12 : law02_known fu with
             | none => rw [h12, oN] at hh; cases hh
             | some x5 =>
              rw [h12, oS] at hh
              rw [← sI hh]
              refine FC.x pfT 100 60 (z65b0 b l_0 l_1 l_2 l_3 l_4 l_5 l_6 l_7 l_8 q10 x1 ++ (z65b1 b ++ (z65b2 b l_0 l_1 l_2 l_3 l_4 l_5 l_6 l_7 l_8 q10 x2 x3 x4 ++ ((hT :: (hR 6 (hT :: hE :: hE :: hT :: (hR 4 ((hB hQ true) :: (hR 4 [(hB hQ true), hE, hE, (hC (.bool (x5))), hE, hE])))))))))) (aa (z65q0 fu b l_0 l_1 l_2 l_3 l_4 l_5 l_6 l_7 l_8 q10 x1 h1) <| aa (z65q1 fu b l_0 l_1 l_2 l_3 l_4 l_5 l_6 l_7 l_8 q10 x2 h2 h3) <| aa (z65q2 fu b l_0 l_1 l_2 l_3 l_4 l_5 l_6 l_7 l_8 q10 x2 x3 x4 h4 h5 h6) <| pc h7 <| pc h8 <| pc h9 <| pc h10 <| pc h11 <| pc (law02_known_fc fu  x5 h12) <| pn) (by kernel_rfl) (by kernel_rfl) ?_ (by kernel_rfl)
              exact ⟨PinL.pf (encL_pf cXSample_pf _), trivial⟩
            ·rw [h11, cF] at hh
             rw [← sI hh]
             refine FC.x pfT 100 60 (z65b0 b l_0 l_1 l_2 l_3 l_4 l_5 l_6 l_7 l_8 q10 x1 ++ (z65b1 b ++ (z65b2 b l_0 l_1 l_2 l_3 l_4 l_5 l_6 l_7 l_8 q10 x2 x3 x4 ++ ((hT :: (hR 6 (hT :: hE :: hE :: hT :: (hR 4 ((hB hQ true) :: (hR 4 ((hB hQ false) :: (hR 4 [])))))))))))) (aa (z65q0 fu b l_0 l_1 l_2 l_3 l_4 l_5 l_6 l_7 l_8 q10 x1 h1) <| aa (z65q1 fu b l_0 l_1 l_2 l_3 l_4 l_5 l_6 l_7 l_8 q10 x2 h2 h3) <| aa (z65q2 fu b l_0 l_1 l_2 l_3 l_4 l_5 l_6 l_7 l_8 q10 x2 x3 x4 h4 h5 h6) <| pc h7 <| pc h8 <| pc h9 <| pc h10 <| pc h11 <| pn) (by kernel_rfl) (by kernel_rfl) ?_ (by kernel_rfl)
             exact ⟨PinL.pf (encL_pf cXSample_pf _), trivial⟩
           ·rw [h10, cF] at hh
            rw [← sI hh]
            refine FC.x pfT 100 60 (z65b0 b l_0 l_1 l_2 l_3 l_4 l_5 l_6 l_7 l_8 q10 x1 ++ (z65b1 b ++ (z65b2 b l_0 l_1 l_2 l_3 l_4 l_5 l_6 l_7 l_8 q10 x2 x3 x4 ++ ((hT :: (hR 6 (hT :: hE :: hE :: hT :: (hR 4 ((hB hQ false) :: (hR 6 [])))))))))) (aa (z65q0 fu b l_0 l_1 l_2 l_3 l_4 l_5 l_6 l_7 l_8 q10 x1 h1) <| aa (z65q1 fu b l_0 l_1 l_2 l_3 l_4 l_5 l_6 l_7 l_8 q10 x2 h2 h3) <| aa (z65q2 fu b l_0 l_1 l_2 l_3 l_4 l_5 l_6 l_7 l_8 q10 x2 x3 x4 h4 h5 h6) <| pc h7 <| pc h8 <| pc h9 <| pc h10 <| pn) (by kernel_rfl) (by kernel_rfl) ?_ (by kernel_rfl)
            exact ⟨PinL.pf (encL_pf cXSample_pf _), trivial⟩
          ·rw [h9, cF] at hh
           rw [← sI hh]
           refine FC.x pfT 100 60 (z65b0 b l_0 l_1 l_2 l_3 l_4 l_5 l_6 l_7 l_8 q10 x1 ++ (z65b1 b ++ (z65b2 b l_0 l_1 l_2 l_3 l_4 l_5 l_6 l_7 l_8 q10 x2 x3 x4 ++ ((hT :: (hR 6 (hT :: hE :: hE :: hF :: (hR 8 [])))))))) (aa (z65q0 fu b l_0 l_1 l_2 l_3 l_4 l_5 l_6 l_7 l_8 q10 x1 h1) <| aa (z65q1 fu b l_0 l_1 l_2 l_3 l_4 l_5 l_6 l_7 l_8 q10 x2 h2 h3) <| aa (z65q2 fu b l_0 l_1 l_2 l_3 l_4 l_5 l_6 l_7 l_8 q10 x2 x3 x4 h4 h5 h6) <| pc h7 <| pc h8 <| pc h9 <| pn) (by kernel_rfl) (by kernel_rfl) ?_ (by kernel_rfl)
           exact ⟨PinL.pf (encL_pf cXSample_pf _), trivial⟩
         ·rw [h8, cF] at hh
          rw [← sI hh]
          refine FC.x pfT 100 60 (z65b0 b l_0 l_1 l_2 l_3 l_4 l_5 l_6 l_7 l_8 q10 x1 ++ (z65b1 b ++ (z65b2 b l_0 l_1 l_2 l_3 l_4 l_5 l_6 l_7 l_8 q10 x2 x3 x4 ++ ((hT :: (hR 6 (hF :: (hR 9 [])))))))) (aa (z65q0 fu b l_0 l_1 l_2 l_3 l_4 l_5 l_6 l_7 l_8 q10 x1 h1) <| aa (z65q1 fu b l_0 l_1 l_2 l_3 l_4 l_5 l_6 l_7 l_8 q10 x2 h2 h3) <| aa (z65q2 fu b l_0 l_1 l_2 l_3 l_4 l_5 l_6 l_7 l_8 q10 x2 x3 x4 h4 h5 h6) <| pc h7 <| pc h8 <| pn) (by kernel_rfl) (by kernel_rfl) ?_ (by kernel_rfl)
          exact ⟨PinL.pf (encL_pf cXSample_pf _), trivial⟩
        ·rw [h7, cF] at hh
         rcases bb (x1.2 == 5) with h8 | h8
         ·rw [h8, cT] at hh
          rcases bb (x3.2 == 5) with h9 | h9
          ·rw [h9, cT] at hh
           rcases bb ((((x1.1.Low.Age == 0) && ((x1.1.Low.Shoots == 0) && ((x1.1.Low.Height == 0) && ((x1.1.Low.Girth == 0) && true)))) && (((x1.1.High.Age == 0) && ((x1.1.High.Shoots == 0) && ((x1.1.High.Height == 0) && ((x1.1.High.Girth == 0) && true)))) && true))) with h10 | h10
           ·rw [h10, cT] at hh
            rcases bb ((((x3.1.Low.Age == 0) && ((x3.1.Low.Shoots == 0) && ((x3.1.Low.Height == 0) && ((x3.1.Low.Girth == 0) && true)))) && (((x3.1.High.Age == 0) && ((x3.1.High.Shoots == 0) && ((x3.1.High.Height == 0) && ((x3.1.High.Girth == 0) && true)))) && true))) with h11 | h11
            ·rw [h11, cT] at hh
             cases h12 : law02_known fu with
             | none => rw [h12, oN] at hh; cases hh
             | some x5 =>
              rw [h12, oS] at hh
              rw [← sI hh]
              refine FC.x pfT 100 60 (z65b0 b l_0 l_1 l_2 l_3 l_4 l_5 l_6 l_7 l_8 q10 x1 ++ (z65b1 b ++ (z65b2 b l_0 l_1 l_2 l_3 l_4 l_5 l_6 l_7 l_8 q10 x2 x3 x4 ++ ((hF :: (hR 6 (hT :: hE :: hE :: hT :: (hR 4 ((hB hQ true) :: (hR 4 [(hB hQ true), hE, hE, (hC (.bool (x5))), hE, hE])))))))))) (aa (z65q0 fu b l_0 l_1 l_2 l_3 l_4 l_5 l_6 l_7 l_8 q10 x1 h1) <| aa (z65q1 fu b l_0 l_1 l_2 l_3 l_4 l_5 l_6 l_7 l_8 q10 x2 h2 h3) <| aa (z65q2 fu b l_0 l_1 l_2 l_3 l_4 l_5 l_6 l_7 l_8 q10 x2 x3 x4 h4 h5 h6) <| pc h7 <| pc h8 <| pc h9 <| pc h10 <| pc h11 <| pc (law02_known_fc fu  x5 h12) <| pn) (by kernel_rfl) (by kernel_rfl) ?_ (by kernel_rfl)
              exact ⟨PinL.pf (encL_pf cXSample_pf _), trivial⟩
            ·rw [h11, cF] at hh
             rw [← sI hh]
             refine FC.x pfT 100 60 (z65b0 b l_0 l_1 l_2 l_3 l_4 l_5 l_6 l_7 l_8 q10 x1 ++ (z65b1 b ++ (z65b2 b l_0 l_1 l_2 l_3 l_4 l_5 l_6 l_7 l_8 q10 x2 x3 x4 ++ ((hF :: (hR 6 (hT :: hE :: hE :: hT :: (hR 4 ((hB hQ true) :: (hR 4 ((hB hQ false) :: (hR 4 [])))))))))))) (aa (z65q0 fu b l_0 l_1 l_2 l_3 l_4 l_5 l_6 l_7 l_8 q10 x1 h1) <| aa (z65q1 fu b l_0 l_1 l_2 l_3 l_4 l_5 l_6 l_7 l_8 q10 x2 h2 h3) <| aa (z65q2 fu b l_0 l_1 l_2 l_3 l_4 l_5 l_6 l_7 l_8 q10 x2 x3 x4 h4 h5 h6) <| pc h7 <| pc h8 <| pc h9 <| pc h10 <| pc h11 <| pn) (by kernel_rfl) (by kernel_rfl) ?_ (by kernel_rfl)
             exact ⟨PinL.pf (encL_pf cXSample_pf _), trivial⟩
           ·rw [h10, cF] at hh
            rw [← sI hh]
            refine FC.x pfT 100 60 (z65b0 b l_0 l_1 l_2 l_3 l_4 l_5 l_6 l_7 l_8 q10 x1 ++ (z65b1 b ++ (z65b2 b l_0 l_1 l_2 l_3 l_4 l_5 l_6 l_7 l_8 q10 x2 x3 x4 ++ ((hF :: (hR 6 (hT :: hE :: hE :: hT :: (hR 4 ((hB hQ false) :: (hR 6 [])))))))))) (aa (z65q0 fu b l_0 l_1 l_2 l_3 l_4 l_5 l_6 l_7 l_8 q10 x1 h1) <| aa (z65q1 fu b l_0 l_1 l_2 l_3 l_4 l_5 l_6 l_7 l_8 q10 x2 h2 h3) <| aa (z65q2 fu b l_0 l_1 l_2 l_3 l_4 l_5 l_6 l_7 l_8 q10 x2 x3 x4 h4 h5 h6) <| pc h7 <| pc h8 <| pc h9 <| pc h10 <| pn) (by kernel_rfl) (by kernel_rfl) ?_ (by kernel_rfl)
            exact ⟨PinL.pf (encL_pf cXSample_pf _), trivial⟩
          ·rw [h9, cF] at hh
           rw [← sI hh]
           refine FC.x pfT 100 60 (z65b0 b l_0 l_1 l_2 l_3 l_4 l_5 l_6 l_7 l_8 q10 x1 ++ (z65b1 b ++ (z65b2 b l_0 l_1 l_2 l_3 l_4 l_5 l_6 l_7 l_8 q10 x2 x3 x4 ++ ((hF :: (hR 6 (hT :: hE :: hE :: hF :: (hR 8 [])))))))) (aa (z65q0 fu b l_0 l_1 l_2 l_3 l_4 l_5 l_6 l_7 l_8 q10 x1 h1) <| aa (z65q1 fu b l_0 l_1 l_2 l_3 l_4 l_5 l_6 l_7 l_8 q10 x2 h2 h3) <| aa (z65q2 fu b l_0 l_1 l_2 l_3 l_4 l_5 l_6 l_7 l_8 q10 x2 x3 x4 h4 h5 h6) <| pc h7 <| pc h8 <| pc h9 <| pn) (by kernel_rfl) (by kernel_rfl) ?_ (by kernel_rfl)
           exact ⟨PinL.pf (encL_pf cXSample_pf _), trivial⟩
         ·rw [h8, cF] at hh
          rw [← sI hh]
          refine FC.x pfT 100 60 (z65b0 b l_0 l_1 l_2 l_3 l_4 l_5 l_6 l_7 l_8 q10 x1 ++ (z65b1 b ++ (z65b2 b l_0 l_1 l_2 l_3 l_4 l_5 l_6 l_7 l_8 q10 x2 x3 x4 ++ ((hF :: (hR 6 (hF :: (hR 9 [])))))))) (aa (z65q0 fu b l_0 l_1 l_2 l_3 l_4 l_5 l_6 l_7 l_8 q10 x1 h1) <| aa (z65q1 fu b l_0 l_1 l_2 l_3 l_4 l_5 l_6 l_7 l_8 q10 x2 h2 h3) <| aa (z65q2 fu b l_0 l_1 l_2 l_3 l_4 l_5 l_6 l_7 l_8 q10 x2 x3 x4 h4 h5 h6) <| pc h7 <| pc h8 <| pn) (by kernel_rfl) (by kernel_rfl) ?_ (by kernel_rfl)
          exact ⟨PinL.pf (encL_pf cXSample_pf _), trivial⟩
     ·rw [h4, cF] at hh
      rcases bb (x1.2 == 2) with h5 | h5
      ·rw [h5, cT] at hh
       rcases bb ((((x1.1.Low.Age == 0) && ((x1.1.Low.Shoots == 0) && ((x1.1.Low.Height == 0) && ((x1.1.Low.Girth == 0) && true)))) && (((x1.1.High.Age == 0) && ((x1.1.High.Shoots == 0) && ((x1.1.High.Height == 0) && ((x1.1.High.Girth == 0) && true)))) && true))) with h6 | h6
       ·rw [h6, cT] at hh
        cases h7 : law02_known fu with
        | none => rw [h7, oN] at hh; cases hh
        | some x5 =>
         rw [h7, oS] at hh
         rw [← sI hh]
         refine FC.x pfT 100 60 (z65b0 b l_0 l_1 l_2 l_3 l_4 l_5 l_6 l_7 l_8 q10 x1 ++ (z65b1 b ++ ([(z65i16 l_0 l_1 l_2 l_3 l_4 l_5 l_6 l_7 l_8 q10 x2), hE, hE, hE, hT, hE, hE, hE, (hB hQ true), hE, hE, (hC (.bool (x5))), hE, hE]))) (aa (z65q0 fu b l_0 l_1 l_2 l_3 l_4 l_5 l_6 l_7 l_8 q10 x1 h1) <| aa (z65q1 fu b l_0 l_1 l_2 l_3 l_4 l_5 l_6 l_7 l_8 q10 x2 h2 h3) <| pc h4 <| pc h5 <| pc h6 <| pc (law02_known_fc fu  x5 h7) <| pn) (by kernel_rfl) (by kernel_rfl) ?_ (by kernel_rfl)
         exact ⟨PinL.pf (encL_pf cXSample_pf _), trivial⟩
       ·rw [h6, cF] at hh
        rw [← sI hh]
        refine FC.x pfT 100 60 (z65b0 b l_0 l_1 l_2 l_3 l_4 l_5 l_6 l_7 l_8 q10 x1 ++ (z65b1 b ++ (((z65i16 l_0 l_1 l_2 l_3 l_4 l_5 l_6 l_7 l_8 q10 x2) :: hE :: hE :: hE :: hT :: hE :: hE :: hE :: (hB hQ false) :: (hR 4 []))))) (aa (z65q0 fu b l_0 l_1 l_2 l_3 l_4 l_5 l_6 l_7 l_8 q10 x1 h1) <| aa (z65q1 fu b l_0 l_1 l_2 l_3 l_4 l_5 l_6 l_7 l_8 q10 x2 h2 h3) <| pc h4 <| pc h5 <| pc h6 <| pn) (by kernel_rfl) (by kernel_rfl) ?_ (by kernel_rfl)
        exact ⟨PinL.pf (encL_pf cXSample_pf _), trivial⟩
      ·rw [h5, cF] at hh
       rw [← sI hh]
       refine FC.x pfT 100 60 (z65b0 b l_0 l_1 l_2 l_3 l_4 l_5 l_6 l_7 l_8 q10 x1 ++ (z65b1 b ++ (((z65i16 l_0 l_1 l_2 l_3 l_4 l_5 l_6 l_7 l_8 q10 x2) :: hE :: hE :: hE :: hF :: (hR 5 []))))) (aa (z65q0 fu b l_0 l_1 l_2 l_3 l_4 l_5 l_6 l_7 l_8 q10 x1 h1) <| aa (z65q1 fu b l_0 l_1 l_2 l_3 l_4 l_5 l_6 l_7 l_8 q10 x2 h2 h3) <| pc h4 <| pc h5 <| pn) (by kernel_rfl) (by kernel_rfl) ?_ (by kernel_rfl)
       exact ⟨PinL.pf (encL_pf cXSample_pf _), trivial⟩
   ·rw [h2, cF] at hh
    rcases bb (x1.2 == 2) with h3 | h3
    ·rw [h3, cT] at hh
     rcases bb ((((x1.1.Low.Age == 0) && ((x1.1.Low.Shoots == 0) && ((x1.1.Low.Height == 0) && ((x1.1.Low.Girth == 0) && true)))) && (((x1.1.High.Age == 0) && ((x1.1.High.Shoots == 0) && ((x1.1.High.Height == 0) && ((x1.1.High.Girth == 0) && true)))) && true))) with h4 | h4
     ·rw [h4, cT] at hh
      cases h5 : law02_known fu with
      | none => rw [h5, oN] at hh; cases hh
      | some x5 =>
       rw [h5, oS] at hh
       rw [← sI hh]
       refine FC.x pfT 100 60 (z65b0 b l_0 l_1 l_2 l_3 l_4 l_5 l_6 l_7 l_8 q10 x1 ++ (((hB (hC (.bool (ref02_Box b))) false) :: (hR 4 [hT, hE, hE, hE, (hB hQ true), hE, hE, (hC (.bool (x5))), hE, hE])))) (aa (z65q0 fu b l_0 l_1 l_2 l_3 l_4 l_5 l_6 l_7 l_8 q10 x1 h1) <| pc h2 <| pc h3 <| pc h4 <| pc (law02_known_fc fu  x5 h5) <| pn) (by kernel_rfl) (by kernel_rfl) ?_ (by kernel_rfl)
       exact ⟨PinL.pf (encL_pf cXSample_pf _), trivial⟩
     ·rw [h4, cF] at hh
      rw [← sI hh]
      refine FC.x pfT 100 60 (z65b0 b l_0 l_1 l_2 l_3 l_4 l_5 l_6 l_7 l_8 q10 x1 ++ (((hB (hC (.bool (ref02_Box b))) false) :: (hR 4 (hT :: hE :: hE :: hE :: (hB hQ false) :: (hR 4 [])))))) (aa (z65q0 fu b l_0 l_1 l_2 l_3 l_4 l_5 l_6 l_7 l_8 q10 x1 h1) <| pc h2 <| pc h3 <| pc h4 <| pn) (by kernel_rfl) (by kernel_rfl) ?_ (by kernel_rfl)
      exact ⟨PinL.pf (encL_pf cXSample_pf _), trivial⟩
    ·rw [h3, cF] at hh
     rw [← sI hh]
     refine FC.x pfT 100 60 (z65b0 b l_0 l_1 l_2 l_3 l_4 l_5 l_6 l_7 l_8 q10 x1 ++ (((hB (hC (.bool (ref02_Box b))) false) :: (hR 4 (hF :: (hR 5 [])))))) (aa (z65q0 fu b l_0 l_1 l_2 l_3 l_4 l_5 l_6 l_7 l_8 q10 x1 h1) <| pc h2 <| pc h3 <| pn) (by kernel_rfl) (by kernel_rfl) ?_ (by kernel_rfl)
     exact ⟨PinL.pf (encL_pf cXSample_pf _), trivial⟩

/- greenhew/greenhewlaw02.GrowthNarrows -/
noncomputable abbrev z66i0 (b : XBox) (l_0 l_1 l_2 l_3 l_4 l_5 l_6 l_7 l_8 l_9 : XSample) (q10 : Nat) (x1 : XBox × Int) : Hint := (hM (.tuple #[.agg #[I (x1.1.Low.Age), I (x1.1.Low.Shoots), I (x1.1.Low.Height), I (x1.1.Low.Girth), I (x1.1.High.Age), I (x1.1.High.Shoots), I (x1.1.High.Height), I (x1.1.High.Girth)], I (x1.2)]) (.tuple #[.agg #[I (x1.1.Low.Age), I (x1.1.Low.Shoots), I (x1.1.Low.Height), I (x1.1.Low.Girth), I (x1.1.High.Age), I (x1.1.High.Shoots), I (x1.1.High.Height), I (x1.1.High.Girth)], I (x1.2)]) (A_growth_Narrow b ([l_0, l_1, l_2, l_3, l_4, l_5, l_6, l_7, l_8, l_9]) q10) (K_growth_Narrow ([l_0, l_1, l_2, l_3, l_4, l_5, l_6, l_7, l_8, l_9])) [(10, 10, 0)])
noncomputable abbrev z66i1 (l_0 l_1 l_2 l_3 l_4 l_5 l_6 l_7 l_8 l_9 : XSample) (q10 : Nat) (x2 : Bool) : Hint := (hB (hM (.bool (x2)) (.bool (x2)) (A_ref02_Samples ([l_0, l_1, l_2, l_3, l_4, l_5, l_6, l_7, l_8, l_9]) q10) (K_ref02_Samples ([l_0, l_1, l_2, l_3, l_4, l_5, l_6, l_7, l_8, l_9])) [(10, 10, 0)]) true)
noncomputable abbrev z66i2 (b : XBox) (l_0 l_1 l_2 l_3 l_4 l_5 l_6 l_7 l_8 l_9 : XSample) (x3 : XBox × Int) : Hint := (hM (.tuple #[.agg #[I (x3.1.Low.Age), I (x3.1.Low.Shoots), I (x3.1.Low.Height), I (x3.1.Low.Girth), I (x3.1.High.Age), I (x3.1.High.Shoots), I (x3.1.High.Height), I (x3.1.High.Girth)], I (x3.2)]) (.tuple #[.agg #[I (x3.1.Low.Age), I (x3.1.Low.Shoots), I (x3.1.Low.Height), I (x3.1.Low.Girth), I (x3.1.High.Age), I (x3.1.High.Shoots), I (x3.1.High.Height), I (x3.1.High.Girth)], I (x3.2)]) (A_growth_Narrow b ([l_9, l_8, l_7, l_6, l_5, l_4, l_3, l_2, l_1, l_0, l_0, l_1, l_2, l_3, l_4, l_5, l_6, l_7, l_8, l_9]) 20) (K_growth_Narrow ([l_9, l_8, l_7, l_6, l_5, l_4, l_3, l_2, l_1, l_0, l_0, l_1, l_2, l_3, l_4, l_5, l_6, l_7, l_8, l_9])) [(10, 122, 0)])
noncomputable abbrev z66i3 (b : XBox) (l_0 l_1 l_2 l_3 l_4 l_5 l_6 l_7 l_8 l_9 : XSample) (q10 : Nat) (x4 : XBox × Bool) : Hint := (hM (.tuple #[.agg #[I (x4.1.Low.Age), I (x4.1.Low.Shoots), I (x4.1.Low.Height), I (x4.1.Low.Girth), I (x4.1.High.Age), I (x4.1.High.Shoots), I (x4.1.High.Height), I (x4.1.High.Girth)], .bool (x4.2)]) (.tuple #[.agg #[I (x4.1.Low.Age), I (x4.1.Low.Shoots), I (x4.1.Low.Height), I (x4.1.Low.Girth), I (x4.1.High.Age), I (x4.1.High.Shoots), I (x4.1.High.Height), I (x4.1.High.Girth)], .bool (x4.2)]) (A_ref02_Narrow b ([l_0, l_1, l_2, l_3, l_4, l_5, l_6, l_7, l_8, l_9]) q10) (K_ref02_Narrow ([l_0, l_1, l_2, l_3, l_4, l_5, l_6, l_7, l_8, l_9])) [(10, 10, 0)])
theorem z66p4 (b : XBox) (l_0 l_1 l_2 l_3 l_4 l_5 l_6 l_7 l_8 l_9 : XSample) (q10 : Nat) : VRs (Ren.emb [(10, 10, 0)]) (A_growth_Narrow b ([l_0, l_1, l_2, l_3, l_4, l_5, l_6, l_7, l_8, l_9]) q10) [.agg #[I (b.Low.Age), I (b.Low.Shoots), I (b.Low.Height), I (b.Low.Girth), I (b.High.Age), I (b.High.Shoots), I (b.High.Height), I (b.High.Girth)], .slice (some ⟨10, 0, none⟩) (10) (q10)] := (.cons _ _ _ _ (VR.of_pf rfl) (.cons _ _ _ _ (.slc 10 0 _ _ _ ⟨10, 0, 0, 0⟩ rfl (.inl rfl)) .nil))
theorem z66p5 (l_0 l_1 l_2 l_3 l_4 l_5 l_6 l_7 l_8 l_9 : XSample) (q10 : Nat) : VRs (Ren.emb [(10, 10, 0)]) (A_ref02_Samples ([l_0, l_1, l_2, l_3, l_4, l_5, l_6, l_7, l_8, l_9]) q10) [.slice (some ⟨10, 0, none⟩) (10) (q10)] := (.cons _ _ _ _ (.slc 10 0 _ _ _ ⟨10, 0, 0, 0⟩ rfl (.inl rfl)) .nil)
theorem z66p6 (b : XBox) (l_0 l_1 l_2 l_3 l_4 l_5 l_6 l_7 l_8 l_9 : XSample) : VRs (Ren.emb [(10, 122, 0)]) (A_growth_Narrow b ([l_9, l_8, l_7, l_6, l_5, l_4, l_3, l_2, l_1, l_0, l_0, l_1, l_2, l_3, l_4, l_5, l_6, l_7, l_8, l_9]) 20) [.agg #[I (b.Low.Age), I (b.Low.Shoots), I (b.Low.Height), I (b.Low.Girth), I (b.High.Age), I (b.High.Shoots), I (b.High.Height), I (b.High.Girth)], .slice (some ⟨122, 0, none⟩) (20) (20)] := (.cons _ _ _ _ (VR.of_pf rfl) (.cons _ _ _ _ (.slc 10 0 _ _ _ ⟨122, 0, 0, 0⟩ rfl (.inl rfl)) .nil))
theorem z66p7 (b : XBox) (l_0 l_1 l_2 l_3 l_4 l_5 l_6 l_7 l_8 l_9 : XSample) (q10 : Nat) : VRs (Ren.emb [(10, 10, 0)]) (A_ref02_Narrow b ([l_0, l_1, l_2, l_3, l_4, l_5, l_6, l_7, l_8, l_9]) q10) [.agg #[I (b.Low.Age), I (b.Low.Shoots), I (b.Low.Height), I (b.Low.Girth), I (b.High.Age), I (b.High.Shoots), I (b.High.Height), I (b.High.Girth)], .slice (some ⟨10, 0, none⟩) (10) (q10)] := (.cons _ _ _ _ (VR.of_pf rfl) (.cons _ _ _ _ (.slc 10 0 _ _ _ ⟨10, 0, 0, 0⟩ rfl (.inl rfl)) .nil))
abbrev z66r8 (l_0 l_1 l_2 l_3 l_4 l_5 l_6 l_7 l_8 l_9 : XSample) : Prop := MemAt (Ren.emb [(10, 10, 0)]) (encL cXSample ([l_0, l_1, l_2, l_3, l_4, l_5, l_6, l_7, l_8, l_9])) 0 ([I (l_0.Kind), I (l_0.Span.Low), I (l_0.Span.High), I (l_1.Kind), I (l_1.Span.Low), I (l_1.Span.High), I (l_2.Kind), I (l_2.Span.Low), I (l_2.Span.High), I (l_3.Kind), I (l_3.Span.Low), I (l_3.Span.High), I (l_4.Kind), I (l_4.Span.Low), I (l_4.Span.High), I (l_5.Kind), I (l_5.Span.Low), I (l_5.Span.High), I (l_6.Kind), I (l_6.Span.Low), I (l_6.Span.High), I (l_7.Kind), I (l_7.Span.Low), I (l_7.Span.High), I (l_8.Kind), I (l_8.Span.Low), I (l_8.Span.High), I (l_9.Kind), I (l_9.Span.Low), I (l_9.Span.High)]) ∧ True
abbrev z66r9 (x1 : XBox × Int) : Prop := VR (Ren.emb [(10, 10, 0)]) (.tuple #[.agg #[I (x1.1.Low.Age), I (x1.1.Low.Shoots), I (x1.1.Low.Height), I (x1.1.Low.Girth), I (x1.1.High.Age), I (x1.1.High.Shoots), I (x1.1.High.Height), I (x1.1.High.Girth)], I (x1.2)]) (.tuple #[.agg #[I (x1.1.Low.Age), I (x1.1.Low.Shoots), I (x1.1.Low.Height), I (x1.1.Low.Girth), I (x1.1.High.Age), I (x1.1.High.Shoots), I (x1.1.High.Height), I (x1.1.High.Girth)], I (x1.2)])
abbrev z66r10 (l_0 l_1 l_2 l_3 l_4 l_5 l_6 l_7 l_8 l_9 : XSample) : Prop := MemAt (Ren.emb [(10, 122, 0)]) (encL cXSample ([l_9, l_8, l_7, l_6, l_5, l_4, l_3, l_2, l_1, l_0, l_0, l_1, l_2, l_3, l_4, l_5, l_6, l_7, l_8, l_9])) 0 ([I (l_9.Kind), I (l_9.Span.Low), I (l_9.Span.High), I (l_8.Kind), I (l_8.Span.Low), I (l_8.Span.High), I (l_7.Kind), I (l_7.Span.Low), I (l_7.Span.High), I (l_6.Kind), I (l_6.Span.Low), I (l_6.Span.High), I (l_5.Kind), I (l_5.Span.Low), I (l_5.Span.High), I (l_4.Kind), I (l_4.Span.Low), I (l_4.Span.High), I (l_3.Kind), I (l_3.Span.Low), I (l_3.Span.High), I (l_2.Kind), I (l_2.Span.Low), I (l_2.Span.High), I (l_1.Kind), I (l_1.Span.Low), I (l_1.Span.High), I (l_0.Kind), I (l_0.Span.Low), I (l_0.Span.High), I (l_0.Kind), I (l_0.Span.Low), I (l_0.Span.High), I (l_1.Kind), I (l_1.Span.Low), I (l_1.Span.High), I (l_2.Kind), I (l_2.Span.Low), I (l_2.Span.High), I (l_3.Kind), I (l_3.Span.Low), I (l_3.Span.High), I (l_4.Kind), I (l_4.Span.Low), I (l_4.Span.High), I (l_5.Kind), I (l_5.Span.Low), I (l_5.Span.High), I (l_6.Kind), I (l_6.Span.Low), I (l_6.Span.High), I (l_7.Kind), I (l_7.Span.Low), I (l_7.Span.High), I (l_8.Kind), I (l_8.Span.Low), I (l_8.Span.High), I (l_9.Kind), I (l_9.Span.Low), I (l_9.Span.High)]) ∧ True
abbrev z66r11 (x3 : XBox × Int) : Prop := VR (Ren.emb [(10, 122, 0)]) (.tuple #[.agg #[I (x3.1.Low.Age), I (x3.1.Low.Shoots), I (x3.1.Low.Height), I (x3.1.Low.Girth), I (x3.1.High.Age), I (x3.1.High.Shoots), I (x3.1.High.Height), I (x3.1.High.Girth)], I (x3.2)]) (.tuple #[.agg #[I (x3.1.Low.Age), I (x3.1.Low.Shoots), I (x3.1.Low.Height), I (x3.1.Low.Girth), I (x3.1.High.Age), I (x3.1.High.Shoots), I (x3.1.High.Height), I (x3.1.High.Girth)], I (x3.2)])
abbrev z66r12 (b : XBox) : Prop := (.agg #[I (b.Low.Age), I (b.Low.Shoots), I (b.Low.Height), I (b.Low.Girth), I (b.High.Age), I (b.High.Shoots), I (b.High.Height), I (b.High.Girth)] : Value) = .agg #[I (b.Low.Age), I (b.Low.Shoots), I (b.Low.Height), I (b.Low.Girth), I (b.High.Age), I (b.High.Shoots), I (b.High.Height), I (b.High.Girth)]
abbrev z66r13 (x3 : XBox × Int) : Prop := (.tuple #[.agg #[I (x3.1.Low.Age), I (x3.1.Low.Shoots), I (x3.1.Low.Height), I (x3.1.Low.Girth), I (x3.1.High.Age), I (x3.1.High.Shoots), I (x3.1.High.Height), I (x3.1.High.Girth)], I (x3.2)] : Value) = .tuple #[.agg #[I (x3.1.Low.Age), I (x3.1.Low.Shoots), I (x3.1.Low.Height), I (x3.1.Low.Girth), I (x3.1.High.Age), I (x3.1.High.Shoots), I (x3.1.High.Height), I (x3.1.High.Girth)], I (x3.2)]
abbrev z66r14 (x3 : XBox × Int) : Prop := (.agg #[I (x3.1.Low.Age), I (x3.1.Low.Shoots), I (x3.1.Low.Height), I (x3.1.Low.Girth), I (x3.1.High.Age), I (x3.1.High.Shoots), I (x3.1.High.Height), I (x3.1.High.Girth)] : Value) = .agg #[I (x3.1.Low.Age), I (x3.1.Low.Shoots), I (x3.1.Low.Height), I (x3.1.Low.Girth), I (x3.1.High.Age), I (x3.1.High.Shoots), I (x3.1.High.Height), I (x3.1.High.Girth)]
abbrev z66r15 (x4 : XBox × Bool) : Prop := VR (Ren.emb [(10, 10, 0)]) (.tuple #[.agg #[I (x4.1.Low.Age), I (x4.1.Low.Shoots), I (x4.1.Low.Height), I (x4.1.Low.Girth), I (x4.1.High.Age), I (x4.1.High.Shoots), I (x4.1.High.Height), I (x4.1.High.Girth)], .bool (x4.2)]) (.tuple #[.agg #[I (x4.1.Low.Age), I (x4.1.Low.Shoots), I (x4.1.Low.Height), I (x4.1.Low.Girth), I (x4.1.High.Age), I (x4.1.High.Shoots), I (x4.1.High.Height), I (x4.1.High.Girth)], .bool (x4.2)])
noncomputable abbrev z66i16 (l_0 l_1 l_2 l_3 l_4 l_5 l_6 l_7 l_8 l_9 : XSample) (q10 : Nat) (x2 : Bool) : Hint := (hB (hM (.bool (x2)) (.bool (x2)) (A_ref02_Samples ([l_0, l_1, l_2, l_3, l_4, l_5, l_6, l_7, l_8, l_9]) q10) (K_ref02_Samples ([l_0, l_1, l_2, l_3, l_4, l_5, l_6, l_7, l_8, l_9])) [(10, 10, 0)]) false)
noncomputable def z66b0 (b : XBox) (l_0 l_1 l_2 l_3 l_4 l_5 l_6 l_7 l_8 l_9 : XSample) (q10 : Nat) (x1 : XBox × Int) : List Hint := (hR 14 ((z66i0 b l_0 l_1 l_2 l_3 l_4 l_5 l_6 l_7 l_8 l_9 q10 x1) :: (hR 10 [])))
def z66q0 (fu : Nat) (b : XBox) (l_0 l_1 l_2 l_3 l_4 l_5 l_6 l_7 l_8 l_9 : XSample) (q10 : Nat) (x1 : XBox × Int) (h1 : (growth_Narrow fu b ([l_0, l_1, l_2, l_3, l_4, l_5, l_6, l_7, l_8, l_9])) = some x1) := PA.mk <| pc (growth_Narrow_fc fu b ([l_0, l_1, l_2, l_3, l_4, l_5, l_6, l_7, l_8, l_9]) q10 x1 h1) <| pc (z66p4 b l_0 l_1 l_2 l_3 l_4 l_5 l_6 l_7 l_8 l_9 q10) <| pt (z66r8 l_0 l_1 l_2 l_3 l_4 l_5 l_6 l_7 l_8 l_9) (⟨MemAt.same _ (encL_pf cXSample_pf _), trivial⟩) <| pt (z66r9 x1) (selfB_self 9 _ rfl _) <| pc (ref02_Box_fc b) <| pn
noncomputable def z66b1 (b : XBox) : List Hint := [(hB (hC (.bool (ref02_Box b))) true), hE, hE, hE]
def z66q1 (fu : Nat) (b : XBox) (l_0 l_1 l_2 l_3 l_4 l_5 l_6 l_7 l_8 l_9 : XSample) (q10 : Nat) (x2 : Bool) (h2 : (ref02_Box b) = true) (h3 : (ref02_Samples fu ([l_0, l_1, l_2, l_3, l_4, l_5, l_6, l_7, l_8, l_9])) = some x2) := PA.mk <| pc h2 <| pc (ref02_Samples_fc fu ([l_0, l_1, l_2, l_3, l_4, l_5, l_6, l_7, l_8, l_9]) q10 x2 h3) <| pc (z66p5 l_0 l_1 l_2 l_3 l_4 l_5 l_6 l_7 l_8 l_9 q10) <| pt (z66r8 l_0 l_1 l_2 l_3 l_4 l_5 l_6 l_7 l_8 l_9) (⟨MemAt.same _ (encL_pf cXSample_pf _), trivial⟩) <| pt (VR (Ren.emb [(10, 10, 0)]) (.bool (x2)) (.bool (x2))) (selfB_self 9 _ rfl _) <| pn
noncomputable def z66b2 (b : XBox) (l_0 l_1 l_2 l_3 l_4 l_5 l_6 l_7 l_8 l_9 : XSample) (q10 : Nat) (x2 : Bool) (x3 : XBox × Int) (x4 : XBox × Bool) : List Hint := ((z66i1 l_0 l_1 l_2 l_3 l_4 l_5 l_6 l_7 l_8 l_9 q10 x2) :: (hR 139 ((hED 8 [3]) :: (hR 4 ((z66i2 b l_0 l_1 l_2 l_3 l_4 l_5 l_6 l_7 l_8 l_9 x3) :: (hR 8 [(z66i3 b l_0 l_1 l_2 l_3 l_4 l_5 l_6 l_7 l_8 l_9 q10 x4), hE, hE]))))))
def z66q2 (fu : Nat) (b : XBox) (l_0 l_1 l_2 l_3 l_4 l_5 l_6 l_7 l_8 l_9 : XSample) (q10 : Nat) (x2 : Bool) (x3 : XBox × Int) (x4 : XBox × Bool) (h4 : (x2) = true) (h5 : (growth_Narrow fu b ([l_9, l_8, l_7, l_6, l_5, l_4, l_3, l_2, l_1, l_0, l_0, l_1, l_2, l_3, l_4, l_5, l_6, l_7, l_8, l_9])) = some x3) (h6 : (ref02_Narrow fu b ([l_0, l_1, l_2, l_3, l_4, l_5, l_6, l_7, l_8, l_9])) = some x4) := PA.mk <| pc h4 <| pc (growth_Narrow_fc fu b ([l_9, l_8, l_7, l_6, l_5, l_4, l_3, l_2, l_1, l_0, l_0, l_1, l_2, l_3, l_4, l_5, l_6, l_7, l_8, l_9]) 20 x3 h5) <| pc (z66p6 b l_0 l_1 l_2 l_3 l_4 l_5 l_6 l_7 l_8 l_9) <| pt (z66r10 l_0 l_1 l_2 l_3 l_4 l_5 l_6 l_7 l_8 l_9) (⟨MemAt.same _ (encL_pf cXSample_pf _), trivial⟩) <| pt (z66r11 x3) (selfB_self 9 _ rfl _) <| pt (z66r12 b) rfl <| pt (z66r12 b) rfl <| pc (growth_Narrow_fc fu b ([l_9, l_8, l_7, l_6, l_5, l_4, l_3, l_2, l_1, l_0, l_0, l_1, l_2, l_3, l_4, l_5, l_6, l_7, l_8, l_9]) 20 x3 h5) <| pc (z66p6 b l_0 l_1 l_2 l_3 l_4 l_5 l_6 l_7 l_8 l_9) <| pt (z66r10 l_0 l_1 l_2 l_3 l_4 l_5 l_6 l_7 l_8 l_9) (⟨MemAt.same _ (encL_pf cXSample_pf _), trivial⟩) <| pt (z66r11 x3) (selfB_self 9 _ rfl _) <| pt (z66r13 x3) rfl <| pt (z66r13 x3) rfl <| pt (z66r14 x3) rfl <| pt ((I (x3.2) : Value) = I (x3.2)) rfl <| pt ((I (x3.2) : Value) = I (x3.2)) rfl <| pc (ref02_Narrow_fc fu b ([l_0, l_1, l_2, l_3, l_4, l_5, l_6, l_7, l_8, l_9]) q10 x4 h6) <| pc (z66p7 b l_0 l_1 l_2 l_3 l_4 l_5 l_6 l_7 l_8 l_9 q10) <| pt (z66r8 l_0 l_1 l_2 l_3 l_4 l_5 l_6 l_7 l_8 l_9) (⟨MemAt.same _ (encL_pf cXSample_pf _), trivial⟩) <| pt (z66r15 x4) (selfB_self 9 _ rfl _) <| pn
abbrev A_law02_GrowthNarrows_n10 (b : XBox) (q10 : Nat) : List Value := [.agg #[I (b.Low.Age), I (b.Low.Shoots), I (b.Low.Height), I (b.Low.Girth), I (b.High.Age), I (b.High.Shoots), I (b.High.Height), I (b.High.Girth)], .slice (some ⟨10, 0, none⟩) (10) (q10)]
abbrev K_law02_GrowthNarrows_n10 (l_0 l_1 l_2 l_3 l_4 l_5 l_6 l_7 l_8 l_9 : XSample) : List (Nat × List Value) := [(10, encL cXSample [l_0, l_1, l_2, l_3, l_4, l_5, l_6, l_7, l_8, l_9])]
noncomputable def law02_GrowthNarrows_n10 (fu : Nat) (b : XBox) (l_0 l_1 l_2 l_3 l_4 l_5 l_6 l_7 l_8 l_9 : XSample) : Option Bool :=
  Option.bind (growth_Narrow fu b ([l_0, l_1, l_2, l_3, l_4, l_5, l_6, l_7, l_8, l_9])) fun x1 =>
  bif ref02_Box b then (Option.bind (ref02_Samples fu ([l_0, l_1, l_2, l_3, l_4, l_5, l_6, l_7, l_8, l_9])) fun x2 =>
    bif x2 then (Option.bind (growth_Narrow fu b ([l_9, l_8, l_7, l_6, l_5, l_4, l_3, l_2, l_1, l_0, l_0, l_1, l_2, l_3, l_4, l_5, l_6, l_7, l_8, l_9])) fun x3 =>
      Option.bind (ref02_Narrow fu b ([l_0, l_1, l_2, l_3, l_4, l_5, l_6, l_7, l_8, l_9])) fun x4 =>
      bif x4.2 then (bif x1.2 == 0 then (bif x3.2 == 0 then (bif (((x1.1.Low.Age == x4.1.Low.Age) && ((x1.1.Low.Shoots == x4.1.Low.Shoots) && ((x1.1.Low.Height == x4.1.Low.Height) && ((x1.1.Low.Girth == x4.1.Low.Girth) && true)))) && (((x1.1.High.Age == x4.1.High.Age) && ((x1.1.High.Shoots == x4.1.High.Shoots) && ((x1.1.High.Height == x4.1.High.Height) && ((x1.1.High.Girth == x4.1.High.Girth) && true)))) && true)) then (bif (((x3.1.Low.Age == x4.1.Low.Age) && ((x3.1.Low.Shoots == x4.1.Low.Shoots) && ((x3.1.Low.Height == x4.1.Low.Height) && ((x3.1.Low.Girth == x4.1.Low.Girth) && true)))) && (((x3.1.High.Age == x4.1.High.Age) && ((x3.1.High.Shoots == x4.1.High.Shoots) && ((x3.1.High.Height == x4.1.High.Height) && ((x3.1.High.Girth == x4.1.High.Girth) && true)))) && true)) then (Option.bind (law02_known fu) fun x5 =>
                some x5)
              else some false)
            else some false)
          else some false)
        else some false)
      else (bif x1.2 == 5 then (bif x3.2 == 5 then (bif (((x1.1.Low.Age == 0) && ((x1.1.Low.Shoots == 0) && ((x1.1.Low.Height == 0) && ((x1.1.Low.Girth == 0) && true)))) && (((x1.1.High.Age == 0) && ((x1.1.High.Shoots == 0) && ((x1.1.High.Height == 0) && ((x1.1.High.Girth == 0) && true)))) && true)) then (bif (((x3.1.Low.Age == 0) && ((x3.1.Low.Shoots == 0) && ((x3.1.Low.Height == 0) && ((x3.1.Low.Girth == 0) && true)))) && (((x3.1.High.Age == 0) && ((x3.1.High.Shoots == 0) && ((x3.1.High.Height == 0) && ((x3.1.High.Girth == 0) && true)))) && true)) then (Option.bind (law02_known fu) fun x5 =>
                some x5)
              else some false)
            else some false)
          else some false)
        else some false))
    else (bif x1.2 == 2 then (bif (((x1.1.Low.Age == 0) && ((x1.1.Low.Shoots == 0) && ((x1.1.Low.Height == 0) && ((x1.1.Low.Girth == 0) && true)))) && (((x1.1.High.Age == 0) && ((x1.1.High.Shoots == 0) && ((x1.1.High.Height == 0) && ((x1.1.High.Girth == 0) && true)))) && true)) then (Option.bind (law02_known fu) fun x5 =>
          some x5)
        else some false)
      else some false))
  else (bif x1.2 == 2 then (bif (((x1.1.Low.Age == 0) && ((x1.1.Low.Shoots == 0) && ((x1.1.Low.Height == 0) && ((x1.1.Low.Girth == 0) && true)))) && (((x1.1.High.Age == 0) && ((x1.1.High.Shoots == 0) && ((x1.1.High.Height == 0) && ((x1.1.High.Girth == 0) && true)))) && true)) then (Option.bind (law02_known fu) fun x5 =>
        some x5)
      else some false)
    else some false)
theorem law02_GrowthNarrows_n10_fc (fu : Nat) (b : XBox) (l_0 l_1 l_2 l_3 l_4 l_5 l_6 l_7 l_8 l_9 : XSample) (q10 : Nat) (r : Bool) (hh : law02_GrowthNarrows_n10 fu b l_0 l_1 l_2 l_3 l_4 l_5 l_6 l_7 l_8 l_9 = some r) : FC P GG 10 (A_law02_GrowthNarrows_n10 b q10) (K_law02_GrowthNarrows_n10 l_0 l_1 l_2 l_3 l_4 l_5 l_6 l_7 l_8 l_9) (.bool (r)) := by
  unfold law02_GrowthNarrows_n10 at hh
  cases h1 : growth_Narrow fu b ([l_0, l_1, l_2, l_3, l_4, l_5, l_6, l_7, l_8, l_9]) with
  | none => rw [h1, oN] at hh; cases hh
  | some x1 =>
   rw [h1, oS] at hh
   rcases bb (ref02_Box b) with h2 | h2
   ·rw [h2, cT] at hh
    cases h3 : ref02_Samples fu ([l_0, l_1, l_2, l_3, l_4, l_5, l_6, l_7, l_8, l_9]) with
    | none => rw [h3, oN] at hh; cases hh
    | some x2 =>
     rw [h3, oS] at hh
     rcases bb (x2) with h4 | h4
     ·rw [h4, cT] at hh
      cases h5 : growth_Narrow fu b ([l_9, l_8, l_7, l_6, l_5, l_4, l_3, l_2, l_1, l_0, l_0, l_1, l_2, l_3, l_4, l_5, l_6, l_7, l_8, l_9]) with
      | none => rw [h5, oN] at hh; cases hh
      | some x3 =>
       rw [h5, oS] at hh
       cases h6 : ref02_Narrow fu b ([l_0, l_1, l_2, l_3, l_4, l_5, l_6, l_7, l_8, l_9]) with
       | none => rw [h6, oN] at hh; cases hh
       | some x4 =>
        rw [h6, oS] at hh
        rcases bb (x4.2) with h7 | h7
        ·rw [h7, cT] at hh
         rcases bb (x1.2 == 0) with h8 | h8
         ·rw [h8, cT] at hh
          rcases bb (x3.2 == 0) with h9 | h9
          ·rw [h9, cT] at hh
           rcases bb ((((x1.1.Low.Age == x4.1.Low.Age) && ((x1.1.Low.Shoots == x4.1.Low.Shoots) && ((x1.1.Low.Height == x4.1.Low.Height) && ((x1.1.Low.Girth == x4.1.Low.Girth) && true)))) && (((x1.1.High.Age == x4.1.High.Age) && ((x1.1.High.Shoots == x4.1.High.Shoots) && ((x1.1.High.Height == x4.1.High.Height) && ((x1.1.High.Girth == x4.1.High.Girth) && true)))) && true))) with h10 | h10
           ·rw [h10, cT] at hh
            rcases bb ((((x3.1.Low.Age == x4.1.Low.Age) && ((x3.1.Low.Shoots == x4.1.Low.Shoots) && ((x3.1.Low.Height == x4.1.Low.Height) && ((x3.1.Low.Girth == x4.1.Low.Girth) && true)))) && (((x3.1.High.Age == x4.1.High.Age) && ((x3.1.High.Shoots == x4.1.High.Shoots) && ((x3.1.High.Height == x4.1.High.Height) && ((x3.1.High.Girth == x4.1.High.Girth) && true)))) && true))) with h11 | h11
            ·rw [h11, cT] at hh
             cases h12 : law02_known fu with
             | none => rw [h12, oN] at hh; cases hh
             | some x5 =>
              rw [h12, oS] at hh
              rw [← sI hh]
              refine FC.x pfT 100 60 (z66b0 b l_0 l_1 l_2 l_3 l_4 l_5 l_6 l_7 l_8 l_9 q10 x1 ++ (z66b1 b ++ (z66b2 b l_0 l_1 l_2 l_3 l_4 l_5 l_6 l_7 l_8 l_9 q10 x2 x3 x4 ++ ((hT :: (hR 6 (hT :: hE :: hE :: hT :: (hR 4 ((hB hQ true) :: (hR 4 [(hB hQ true), hE, hE, (hC (.bool (x5))), hE, hE])))))))))) (aa (z66q0 fu b l_0 l_1 l_2 l_3 l_4 l_5 l_6 l_7 l_8 l_9 q10 x1 h1) <| aa (z66q1 fu b l_0 l_1 l_2 l_3 l_4 l_5 l_6 l_7 l_8 l_9 q10 x2 h2 h3) <| aa (z66q2 fu b l_0 l_1 l_2 l_3 l_4 l_5 l_6 l_7 l_8 l_9 q10 x2 x3 x4 h4 h5 h6) <| pc h7 <| pc h8 <| pc h9 <| pc h10 <| pc h11 <| pc (law02_known_fc fu  x5 h12) <| pn) (by kernel_rfl) (by kernel_rfl) ?_ (by kernel_rfl)
              exact ⟨PinL.pf (encL_pf cXSample_pf _), trivial⟩
            ·rw [h11, cF] at hh
             rw [← sI hh]
             refine FC.x pfT 100 60 (z66b0 b l_0 l_1 l_2 l_3 l_4 l_5 l_6 l_7 l_8 l_9 q10 x1 ++ (z66b1 b ++ (z66b2 b l_0 l_1 l_2 l_3 l_4 l_5 l_6 l_7 l_8 l_9 q10 x2 x3 x4 ++ ((hT :: (hR 6 (hT :: hE :: hE :: hT :: (hR 4 ((hB hQ true) :: (hR 4 ((hB hQ false) :: (hR 4 [])))))))))))) (aa (z66q0 fu b l_0 l_1 l_2 l_3 l_4 l_5 l_6 l_7 l_8 l_9 q10 x1 h1) <| aa (z66q1 fu b l_0 l_1 l_2 l_3 l_4 l_5 l_6 l_7 l_8 l_9 q10 x2 h2 h3) <| aa (z66q2 fu b l_0 l_1 l_2 l_3 l_4 l_5 l_6 l_7 l_8 l_9 q10 x2 x3 x4 h4 h5 h6) <| pc h7 <| pc h8 <| pc h9 <| pc h10 <| pc h11 <| pn) (by kernel_rfl) (by kernel_rfl) ?_ (by kernel_rfl)
             exact ⟨PinL.pf (encL_pf cXSample_pf _), trivial⟩
           ·rw [h10, cF] at hh
            rw [← sI hh]
            refine FC.x pfT 100 60 (z66b0 b l_0 l_1 l_2 l_3 l_4 l_5 l_6 l_7 l_8 l_9 q10 x1 ++ (z66b1 b ++ (z66b2 b l_0 l_1 l_2 l_3 l_4 l_5 l_6 l_7 l_8 l_9 q10 x2 x3 x4 ++ ((hT :: (hR 6 (hT :: hE :: hE :: hT :: (hR 4 ((hB hQ false) :: (hR 6 [])))))))))) (aa (z66q0 fu b l_0 l_1 l_2 l_3 l_4 l_5 l_6 l_7 l_8 l_9 q10 x1 h1) <| aa (z66q1 fu b l_0 l_1 l_2 l_3 l_4 l_5 l_6 l_7 l_8 l_9 q10 x2 h2 h3) <| aa (z66q2 fu b l_0 l_1 l_2 l_3 l_4 l_5 l_6 l_7 l_8 l_9 q10 x2 x3 x4 h4 h5 h6) <| pc h7 <| pc h8 <| pc h9 <| pc h10 <| pn) (by kernel_rfl) (by kernel_rfl) ?_ (by kernel_rfl)
            exact ⟨PinL.pf (encL_pf cXSample_pf _), trivial⟩
          ·rw [h9, cF] at hh
           rw [← sI hh]
           refine FC.x pfT 100 60 (z66b0 b l_0 l_1 l_2 l_3 l_4 l_5 l_6 l_7 l_8 l_9 q10 x1 ++ (z66b1 b ++ (z66b2 b l_0 l_1 l_2 l_3 l_4 l_5 l_6 l_7 l_8 l_9 q10 x2 x3 x4 ++ ((hT :: (hR 6 (hT :: hE :: hE :: hF :: (hR 8 [])))))))) (aa (z66q0 fu b l_0 l_1 l_2 l_3 l_4 l_5 l_6 l_7 l_8 l_9 q10 x1 h1) <| aa (z66q1 fu b l_0 l_1 l_2 l_3 l_4 l_5 l_6 l_7 l_8 l_9 q10 x2 h2 h3) <| aa (z66q2 fu b l_0 l_1 l_2 l_3 l_4 l_5 l_6 l_7 l_8 l_9 q10 x2 x3 x4 h4 h5 h6) <| pc h7 <| pc h8 <| pc h9 <| pn) (by kernel_rfl) (by kernel_rfl) ?_ (by kernel_rfl)
           exact ⟨PinL.pf (encL_pf cXSample_pf _), trivial⟩
         ·rw [h8, cF] at hh
          rw [← sI hh]
          refine FC.x pfT 100 60 (z66b0 b l_0 l_1 l_2 l_3 l_4 l_5 l_6 l_7 l_8 l_9 q10 x1 ++ (z66b1 b ++ (z66b2 b l_0 l_1 l_2 l_3 l_4 l_5 l_6 l_7 l_8 l_9 q10 x2 x3 x4 ++ ((hT :: (hR 6 (hF :: (hR 9 [])))))))) (aa (z66q0 fu b l_0 l_1 l_2 l_3 l_4 l_5 l_6 l_7 l_8 l_9 q10 x1 h1) <| aa (z66q1 fu b l_0 l_1 l_2 l_3 l_4 l_5 l_6 l_7 l_8 l_9 q10 x2 h2 h3) <| aa (z66q2 fu b l_0 l_1 l_2 l_3 l_4 l_5 l_6 l_7 l_8 l_9 q10 x2 x3 x4 h4 h5 h6) <| pc h7 <| pc h8 <| pn) (by kernel_rfl) (by kernel_rfl) ?_ (by kernel_rfl)
          exact ⟨PinL.pf (encL_pf cXSample_pf _), trivial⟩
        ·rw [h7, cF] at hh
         rcases bb (x1.2 == 5) with h8 | h8
         ·rw [h8, cT] at hh
          rcases bb (x3.2 == 5) with h9 | h9
          ·rw [h9, cT] at hh
           rcases bb ((((x1.1.Low.Age == 0) && ((x1.1.Low.Shoots == 0) && ((x1.1.Low.Height == 0) && ((x1.1.Low.Girth == 0) && true)))) && (((x1.1.High.Age == 0) && ((x1.1.High.Shoots == 0) && ((x1.1.High.Height == 0) && ((x1.1.High.Girth == 0) && true)))) && true))) with h10 | h10
           ·rw [h10, cT] at hh
            rcases bb ((((x3.1.Low.Age == 0) && ((x3.1.Low.Shoots == 0) && ((x3.1.Low.Height == 0) && ((x3.1.Low.Girth == 0) && true)))) && (((x3.1.High.Age == 0) && ((x3.1.High.Shoots == 0) && ((x3.1.High.Height == 0) && ((x3.1.High.Girth == 0) && true)))) && true))) with h11 | h11
            ·rw [h11, cT] at hh
             cases h12 : law02_known fu with
             | none => rw [h12, oN] at hh; cases hh
             | some x5 =>
              rw [h12, oS] at hh
              rw [← sI hh]
              refine FC.x pfT 100 60 (z66b0 b l_0 l_1 l_2 l_3 l_4 l_5 l_6 l_7 l_8 l_9 q10 x1 ++ (z66b1 b ++ (z66b2 b l_0 l_1 l_2 l_3 l_4 l_5 l_6 l_7 l_8 l_9 q10 x2 x3 x4 ++ ((hF :: (hR 6 (hT :: hE :: hE :: hT :: (hR 4 ((hB hQ true) :: (hR 4 [(hB hQ true), hE, hE, (hC (.bool (x5))), hE, hE])))))))))) (aa (z66q0 fu b l_0 l_1 l_2 l_3 l_4 l_5 l_6 l_7 l_8 l_9 q10 x1 h1) <| aa (z66q1 fu b l_0 l_1 l_2 l_3 l_4 l_5 l_6 l_7 l_8 l_9 q10 x2 h2 h3) <| aa (z66q2 fu b l_0 l_1 l_2 l_3 l_4 l_5 l_6 l_7 l_8 l_9 q10 x2 x3 x4 h4 h5 h6) <| pc h7 <| pc h8 <| pc h9 <| pc h10 <| pc h11 <| pc (law02_known_fc fu  x5 h12) <| pn) (by kernel_rfl) (by kernel_rfl) ?_ (by kernel_rfl)
              exact ⟨PinL.pf (encL_pf cXSample_pf _), trivial⟩
            ·rw [h11, cF] at hh
             rw [← sI hh]
             refine FC.x pfT 100 60 (z66b0 b l_0 l_1 l_2 l_3 l_4 l_5 l_6 l_7 l_8 l_9 q10 x1 ++ (z66b1 b ++ (z66b2 b l_0 l_1 l_2 l_3 l_4 l_5 l_6 l_7 l_8 l_9 q10 x2 x3 x4 ++ ((hF :: (hR 6 (hT :: hE :: hE :: hT :: (hR 4 ((hB hQ true) :: (hR 4 ((hB hQ false) :: (hR 4 [])))))))))))) (aa (z66q0 fu b l_0 l_1 l_2 l_3 l_4 l_5 l_6 l_7 l_8 l_9 q10 x1 h1) <| aa (z66q1 fu b l_0 l_1 l_2 l_3 l_4 l_5 l_6 l_7 l_8 l_9 q10 x2 h2 h3) <| aa (z66q2 fu b l_0 l_1 l_2 l_3 l_4 l_5 l_6 l_7 l_8 l_9 q10 x2 x3 x4 h4 h5 h6) <| pc h7 <| pc h8 <| pc h9 <| pc h10 <| pc h11 <| pn) (by kernel_rfl) (by kernel_rfl) ?_ (by kernel_rfl)
             exact ⟨PinL.pf (encL_pf cXSample_pf _), trivial⟩
           ·rw [h10, cF] at hh
            rw [← sI hh]
            refine FC.x pfT 100 60 (z66b0 b l_0 l_1 l_2 l_3 l_4 l_5 l_6 l_7 l_8 l_9 q10 x1 ++ (z66b1 b ++ (z66b2 b l_0 l_1 l_2 l_3 l_4 l_5 l_6 l_7 l_8 l_9 q10 x2 x3 x4 ++ ((hF :: (hR 6 (hT :: hE :: hE :: hT :: (hR 4 ((hB hQ false) :: (hR 6 [])))))))))) (aa (z66q0 fu b l_0 l_1 l_2 l_3 l_4 l_5 l_6 l_7 l_8 l_9 q10 x1 h1) <| aa (z66q1 fu b l_0 l_1 l_2 l_3 l_4 l_5 l_6 l_7 l_8 l_9 q10 x2 h2 h3) <| aa (z66q2 fu b l_0 l_1 l_2 l_3 l_4 l_5 l_6 l_7 l_8 l_9 q10 x2 x3 x4 h4 h5 h6) <| pc h7 <| pc h8 <| pc h9 <| pc h10 <| pn) (by kernel_rfl) (by kernel_rfl) ?_ (by kernel_rfl)
            exact ⟨PinL.pf (encL_pf cXSample_pf _), trivial⟩
          ·rw [h9, cF] at hh
           rw [← sI hh]
           refine FC.x pfT 100 60 (z66b0 b l_0 l_1 l_2 l_3 l_4 l_5 l_6 l_7 l_8 l_9 q10 x1 ++ (z66b1 b ++ (z66b2 b l_0 l_1 l_2 l_3 l_4 l_5 l_6 l_7 l_8 l_9 q10 x2 x3 x4 ++ ((hF :: (hR 6 (hT :: hE :: hE :: hF :: (hR 8 [])))))))) (aa (z66q0 fu b l_0 l_1 l_2 l_3 l_4 l_5 l_6 l_7 l_8 l_9 q10 x1 h1) <| aa (z66q1 fu b l_0 l_1 l_2 l_3 l_4 l_5 l_6 l_7 l_8 l_9 q10 x2 h2 h3) <| aa (z66q2 fu b l_0 l_1 l_2 l_3 l_4 l_5 l_6 l_7 l_8 l_9 q10 x2 x3 x4 h4 h5 h6) <| pc h7 <| pc h8 <| pc h9 <| pn) (by kernel_rfl) (by kernel_rfl) ?_ (by kernel_rfl)
           exact ⟨PinL.pf (encL_pf cXSample_pf _), trivial⟩
         ·rw [h8, cF] at hh
          rw [← sI hh]
          refine FC.x pfT 100 60 (z66b0 b l_0 l_1 l_2 l_3 l_4 l_5 l_6 l_7 l_8 l_9 q10 x1 ++ (z66b1 b ++ (z66b2 b l_0 l_1 l_2 l_3 l_4 l_5 l_6 l_7 l_8 l_9 q10 x2 x3 x4 ++ ((hF :: (hR 6 (hF :: (hR 9 [])))))))) (aa (z66q0 fu b l_0 l_1 l_2 l_3 l_4 l_5 l_6 l_7 l_8 l_9 q10 x1 h1) <| aa (z66q1 fu b l_0 l_1 l_2 l_3 l_4 l_5 l_6 l_7 l_8 l_9 q10 x2 h2 h3) <| aa (z66q2 fu b l_0 l_1 l_2 l_3 l_4 l_5 l_6 l_7 l_8 l_9 q10 x2 x3 x4 h4 h5 h6) <| pc h7 <| pc h8 <| pn) (by kernel_rfl) (by kernel_rfl) ?_ (by kernel_rfl)
          exact ⟨PinL.pf (encL_pf cXSample_pf _), trivial⟩
     ·rw [h4, cF] at hh
      rcases bb (x1.2 == 2) with h5 | h5
      ·rw [h5, cT] at hh
       rcases bb ((((x1.1.Low.Age == 0) && ((x1.1.Low.Shoots == 0) && ((x1.1.Low.Height == 0) && ((x1.1.Low.Girth == 0) && true)))) && (((x1.1.High.Age == 0) && ((x1.1.High.Shoots == 0) && ((x1.1.High.Height == 0) && ((x1.1.High.Girth == 0) && true)))) && true))) with h6 | h6
       ·rw [h6, cT] at hh
        cases h7 : law02_known fu with
        | none => rw [h7, oN] at hh; cases hh
        | some x5 =>
         rw [h7, oS] at hh
         rw [← sI hh]
         refine FC.x pfT 100 60 (z66b0 b l_0 l_1 l_2 l_3 l_4 l_5 l_6 l_7 l_8 l_9 q10 x1 ++ (z66b1 b ++ ([(z66i16 l_0 l_1 l_2 l_3 l_4 l_5 l_6 l_7 l_8 l_9 q10 x2), hE, hE, hE, hT, hE, hE, hE, (hB hQ true), hE, hE, (hC (.bool (x5))), hE, hE]))) (aa (z66q0 fu b l_0 l_1 l_2 l_3 l_4 l_5 l_6 l_7 l_8 l_9 q10 x1 h1) <| aa (z66q1 fu b l_0 l_1 l_2 l_3 l_4 l_5 l_6 l_7 l_8 l_9 q10 x2 h2 h3) <| pc h4 <| pc h5 <| pc h6 <| pc (law02_known_fc fu  x5 h7) <| pn) (by kernel_rfl) (by kernel_rfl) ?_ (by kernel_rfl)
         exact ⟨PinL.pf (encL_pf cXSample_pf _), trivial⟩
       ·rw [h6, cF] at hh
        rw [← sI hh]
        refine FC.x pfT 100 60 (z66b0 b l_0 l_1 l_2 l_3 l_4 l_5 l_6 l_7 l_8 l_9 q10 x1 ++ (z66b1 b ++ (((z66i16 l_0 l_1 l_2 l_3 l_4 l_5 l_6 l_7 l_8 l_9 q10 x2) :: hE :: hE :: hE :: hT :: hE :: hE :: hE :: (hB hQ false) :: (hR 4 []))))) (aa (z66q0 fu b l_0 l_1 l_2 l_3 l_4 l_5 l_6 l_7 l_8 l_9 q10 x1 h1) <| aa (z66q1 fu b l_0 l_1 l_2 l_3 l_4 l_5 l_6 l_7 l_8 l_9 q10 x2 h2 h3) <| pc h4 <| pc h5 <| pc h6 <| pn) (by kernel_rfl) (by kernel_rfl) ?_ (by kernel_rfl)
        exact ⟨PinL.pf (encL_pf cXSample_pf _), trivial⟩
      ·rw [h5, cF] at hh
       rw [← sI hh]
       refine FC.x pfT 100 60 (z66b0 b l_0 l_1 l_2 l_3 l_4 l_5 l_6 l_7 l_8 l_9 q10 x1 ++ (z66b1 b ++ (((z66i16 l_0 l_1 l_2 l_3 l_4 l_5 l_6 l_7 l_8 l_9 q10 x2) :: hE :: hE :: hE :: hF :: (hR 5 []))))) (aa (z66q0 fu b l_0 l_1 l_2 l_3 l_4 l_5 l_6 l_7 l_8 l_9 q10 x1 h1) <| aa (z66q1 fu b l_0 l_1 l_2 l_3 l_4 l_5 l_6 l_7 l_8 l_9 q10 x2 h2 h3) <| pc h4 <| pc h5 <| pn) (by kernel_rfl) (by kernel_rfl) ?_ (by kernel_rfl)
       exact ⟨PinL.pf (encL_pf cXSample_pf _), trivial⟩
   ·rw [h2, cF] at hh
    rcases bb (x1.2 == 2) with h3 | h3
    ·rw [h3, cT] at hh
     rcases bb ((((x1.1.Low.Age == 0) && ((x1.1.Low.Shoots == 0) && ((x1.1.Low.Height == 0) && ((x1.1.Low.Girth == 0) && true)))) && (((x1.1.High.Age == 0) && ((x1.1.High.Shoots == 0) && ((x1.1.High.Height == 0) && ((x1.1.High.Girth == 0) && true)))) && true))) with h4 | h4
     ·rw [h4, cT] at hh
      cases h5 : law02_known fu with
      | none => rw [h5, oN] at hh; cases hh
      | some x5 =>
       rw [h5, oS] at hh
       rw [← sI hh]
       refine FC.x pfT 100 60 (z66b0 b l_0 l_1 l_2 l_3 l_4 l_5 l_6 l_7 l_8 l_9 q10 x1 ++ (((hB (hC (.bool (ref02_Box b))) false) :: (hR 4 [hT, hE, hE, hE, (hB hQ true), hE, hE, (hC (.bool (x5))), hE, hE])))) (aa (z66q0 fu b l_0 l_1 l_2 l_3 l_4 l_5 l_6 l_7 l_8 l_9 q10 x1 h1) <| pc h2 <| pc h3 <| pc h4 <| pc (law02_known_fc fu  x5 h5) <| pn) (by kernel_rfl) (by kernel_rfl) ?_ (by kernel_rfl)
       exact ⟨PinL.pf (encL_pf cXSample_pf _), trivial⟩
     ·rw [h4, cF] at hh
      rw [← sI hh]
      refine FC.x pfT 100 60 (z66b0 b l_0 l_1 l_2 l_3 l_4 l_5 l_6 l_7 l_8 l_9 q10 x1 ++ (((hB (hC (.bool (ref02_Box b))) false) :: (hR 4 (hT :: hE :: hE :: hE :: (hB hQ false) :: (hR 4 [])))))) (aa (z66q0 fu b l_0 l_1 l_2 l_3 l_4 l_5 l_6 l_7 l_8 l_9 q10 x1 h1) <| pc h2 <| pc h3 <| pc h4 <| pn) (by kernel_rfl) (by kernel_rfl) ?_ (by kernel_rfl)
      exact ⟨PinL.pf (encL_pf cXSample_pf _), trivial⟩
    ·rw [h3, cF] at hh
     rw [← sI hh]
     refine FC.x pfT 100 60 (z66b0 b l_0 l_1 l_2 l_3 l_4 l_5 l_6 l_7 l_8 l_9 q10 x1 ++ (((hB (hC (.bool (ref02_Box b))) false) :: (hR 4 (hF :: (hR 5 [])))))) (aa (z66q0 fu b l_0 l_1 l_2 l_3 l_4 l_5 l_6 l_7 l_8 l_9 q10 x1 h1) <| pc h2 <| pc h3 <| pn) (by kernel_rfl) (by kernel_rfl) ?_ (by kernel_rfl)
     exact ⟨PinL.pf (encL_pf cXSample_pf _), trivial⟩

/- greenhew/greenhewlaw02.GrowthNarrows -/
noncomputable abbrev z67i0 (b : XBox) (l : List XSample) (q10 : Nat) (x2 : XBox × Int) : Hint := (hM (.tuple #[.agg #[I (x2.1.Low.Age), I (x2.1.Low.Shoots), I (x2.1.Low.Height), I (x2.1.Low.Girth), I (x2.1.High.Age), I (x2.1.High.Shoots), I (x2.1.High.Height), I (x2.1.High.Girth)], I (x2.2)]) (.tuple #[.agg #[I (x2.1.Low.Age), I (x2.1.Low.Shoots), I (x2.1.Low.Height), I (x2.1.Low.Girth), I (x2.1.High.Age), I (x2.1.High.Shoots), I (x2.1.High.Height), I (x2.1.High.Girth)], I (x2.2)]) (A_growth_Narrow b l q10) (K_growth_Narrow l) [(10, 10, 0)])
theorem z67p1 (b : XBox) (l : List XSample) (q10 : Nat) : VRs (Ren.emb [(10, 10, 0)]) (A_growth_Narrow b l q10) [.agg #[I (b.Low.Age), I (b.Low.Shoots), I (b.Low.Height), I (b.Low.Girth), I (b.High.Age), I (b.High.Shoots), I (b.High.Height), I (b.High.Girth)], .slice (some ⟨10, 0, none⟩) (l.length) (q10)] := (.cons _ _ _ _ (VR.of_pf rfl) (.cons _ _ _ _ (.slc 10 0 _ _ _ ⟨10, 0, 0, 0⟩ rfl (.inl rfl)) .nil))
abbrev z67r2 (l : List XSample) : Prop := MemAt (Ren.emb [(10, 10, 0)]) (encL cXSample l) 0 (encL cXSample l) ∧ True
abbrev z67r3 (x2 : XBox × Int) : Prop := VR (Ren.emb [(10, 10, 0)]) (.tuple #[.agg #[I (x2.1.Low.Age), I (x2.1.Low.Shoots), I (x2.1.Low.Height), I (x2.1.Low.Girth), I (x2.1.High.Age), I (x2.1.High.Shoots), I (x2.1.High.Height), I (x2.1.High.Girth)], I (x2.2)]) (.tuple #[.agg #[I (x2.1.Low.Age), I (x2.1.Low.Shoots), I (x2.1.Low.Height), I (x2.1.Low.Girth), I (x2.1.High.Age), I (x2.1.High.Shoots), I (x2.1.High.Height), I (x2.1.High.Girth)], I (x2.2)])
noncomputable abbrev z67i4 (l : List XSample) (q10 : Nat) (x3 : Bool) : Hint := (hB (hM (.bool (x3)) (.bool (x3)) (A_ref02_Samples l q10) (K_ref02_Samples l) [(10, 10, 0)]) false)
theorem z67p5 (l : List XSample) (q10 : Nat) : VRs (Ren.emb [(10, 10, 0)]) (A_ref02_Samples l q10) [.slice (some ⟨10, 0, none⟩) (l.length) (q10)] := (.cons _ _ _ _ (.slc 10 0 _ _ _ ⟨10, 0, 0, 0⟩ rfl (.inl rfl)) .nil)
noncomputable def z67b0 (b : XBox) (l : List XSample) (q10 : Nat) (x2 : XBox × Int) : List Hint := (hR 4 (hT :: hE :: hE :: hE :: hF :: (hR 4 (hF :: hE :: hE :: hE :: (z67i0 b l q10 x2) :: (hR 8 [])))))
def z67q0 (fu : Nat) (b : XBox) (l : List XSample) (q10 : Nat) (x2 : XBox × Int) (h1 : (decide (((l.length : Nat) : Int) > 10)) = true) (h2 : (decide (((l.length : Nat) : Int) ≤ 50)) = false) (h3 : (decide (((l.length : Nat) : Int) > 100)) = false) (h4 : (growth_Narrow fu b l) = some x2) := PA.mk <| pc h1 <| pc h2 <| pc h3 <| pc (growth_Narrow_fc fu b l q10 x2 h4) <| pc (z67p1 b l q10) <| pt (z67r2 l) (⟨MemAt.same _ (encL_pf cXSample_pf _), trivial⟩) <| pt (z67r3 x2) (selfB_self 9 _ rfl _) <| pn
noncomputable def z67b1 (b : XBox) (l : List XSample) (q10 : Nat) (x3 : Bool) : List Hint := [hF, hE, (hB (hC (.bool (ref02_Box b))) true), hE, hE, hE, (z67i4 l q10 x3), hE, hE, hE]
def z67q1 (fu : Nat) (b : XBox) (l : List XSample) (q10 : Nat) (x3 : Bool) (h5 : (decide (((l.length : Nat) : Int) > 50)) = false) (h6 : (ref02_Box b) = true) (h7 : (ref02_Samples fu l) = some x3) (h8 : (x3) = false) := PA.mk <| pc h5 <| pc (ref02_Box_fc b) <| pc h6 <| pc (ref02_Samples_fc fu l q10 x3 h7) <| pc (z67p5 l q10) <| pt (z67r2 l) (⟨MemAt.same _ (encL_pf cXSample_pf _), trivial⟩) <| pt (VR (Ren.emb [(10, 10, 0)]) (.bool (x3)) (.bool (x3))) (selfB_self 9 _ rfl _) <| pc h8 <| pn
noncomputable def z67b2 (b : XBox) (l : List XSample) (q10 : Nat) (x2 : XBox × Int) : List Hint := (hR 4 (hF :: (hR 5 (hF :: hE :: hE :: hE :: (z67i0 b l q10 x2) :: (hR 8 [])))))
def z67q2 (fu : Nat) (b : XBox) (l : List XSample) (q10 : Nat) (x2 : XBox × Int) (h1 : (decide (((l.length : Nat) : Int) > 10)) = false) (h2 : (decide (((l.length : Nat) : Int) > 100)) = false) (h3 : (growth_Narrow fu b l) = some x2) := PA.mk <| pc h1 <| pc h2 <| pc (growth_Narrow_fc fu b l q10 x2 h3) <| pc (z67p1 b l q10) <| pt (z67r2 l) (⟨MemAt.same _ (encL_pf cXSample_pf _), trivial⟩) <| pt (z67r3 x2) (selfB_self 9 _ rfl _) <| pn
noncomputable def z67b3 (b : XBox) (l : List XSample) (q10 : Nat) (x3 : Bool) : List Hint := [hF, hE, (hB (hC (.bool (ref02_Box b))) true), hE, hE, hE, (z67i4 l q10 x3), hE, hE, hE]
def z67q3 (fu : Nat) (b : XBox) (l : List XSample) (q10 : Nat) (x3 : Bool) (h4 : (decide (((l.length : Nat) : Int) > 50)) = false) (h5 : (ref02_Box b) = true) (h6 : (ref02_Samples fu l) = some x3) (h7 : (x3) = false) := PA.mk <| pc h4 <| pc (ref02_Box_fc b) <| pc h5 <| pc (ref02_Samples_fc fu l q10 x3 h6) <| pc (z67p5 l q10) <| pt (z67r2 l) (⟨MemAt.same _ (encL_pf cXSample_pf _), trivial⟩) <| pt (VR (Ren.emb [(10, 10, 0)]) (.bool (x3)) (.bool (x3))) (selfB_self 9 _ rfl _) <| pc h7 <| pn
abbrev A_law02_GrowthNarrows_nx (b : XBox) (l : List XSample) (q10 : Nat) : List Value := [.agg #[I (b.Low.Age), I (b.Low.Shoots), I (b.Low.Height), I (b.Low.Girth), I (b.High.Age), I (b.High.Shoots), I (b.High.Height), I (b.High.Girth)], .slice (some ⟨10, 0, none⟩) (l.length) (q10)]
abbrev K_law02_GrowthNarrows_nx (l : List XSample) : List (Nat × List Value) := [(10, encL cXSample l)]
noncomputable def law02_GrowthNarrows_nx (fu : Nat) (b : XBox) (l : List XSample) : Option Bool :=
  bif decide (((l.length : Nat) : Int) > 10) then (bif decide (((l.length : Nat) : Int) ≤ 50) then (Option.bind (law02_known fu) fun x1 =>
      some x1)
    else (bif decide (((l.length : Nat) : Int) > 100) then (Option.bind (law02_known fu) fun x1 =>
        some x1)
      else (Option.bind (growth_Narrow fu b l) fun x2 =>
        bif decide (((l.length : Nat) : Int) > 50) then (bif x2.2 == 3 then (bif (((x2.1.Low.Age == 0) && ((x2.1.Low.Shoots == 0) && ((x2.1.Low.Height == 0) && ((x2.1.Low.Girth == 0) && true)))) && (((x2.1.High.Age == 0) && ((x2.1.High.Shoots == 0) && ((x2.1.High.Height == 0) && ((x2.1.High.Girth == 0) && true)))) && true)) then (Option.bind (law02_known fu) fun x1 =>
              some x1)
            else some false)
          else some false)
        else (bif ref02_Box b then (Option.bind (ref02_Samples fu l) fun x3 =>
            bif x3 then none
            else (bif x2.2 == 2 then (bif (((x2.1.Low.Age == 0) && ((x2.1.Low.Shoots == 0) && ((x2.1.Low.Height == 0) && ((x2.1.Low.Girth == 0) && true)))) && (((x2.1.High.Age == 0) && ((x2.1.High.Shoots == 0) && ((x2.1.High.Height == 0) && ((x2.1.High.Girth == 0) && true)))) && true)) then (Option.bind (law02_known fu) fun x1 =>
                  some x1)
                else some false)
              else some false))
          else (bif x2.2 == 2 then (bif (((x2.1.Low.Age == 0) && ((x2.1.Low.Shoots == 0) && ((x2.1.Low.Height == 0) && ((x2.1.Low.Girth == 0) && true)))) && (((x2.1.High.Age == 0) && ((x2.1.High.Shoots == 0) && ((x2.1.High.Height == 0) && ((x2.1.High.Girth == 0) && true)))) && true)) then (Option.bind (law02_known fu) fun x1 =>
                some x1)
              else some false)
            else some false)))))
  else (bif decide (((l.length : Nat) : Int) > 100) then (Option.bind (law02_known fu) fun x1 =>
      some x1)
    else (Option.bind (growth_Narrow fu b l) fun x2 =>
      bif decide (((l.length : Nat) : Int) > 50) then (bif x2.2 == 3 then (bif (((x2.1.Low.Age == 0) && ((x2.1.Low.Shoots == 0) && ((x2.1.Low.Height == 0) && ((x2.1.Low.Girth == 0) && true)))) && (((x2.1.High.Age == 0) && ((x2.1.High.Shoots == 0) && ((x2.1.High.Height == 0) && ((x2.1.High.Girth == 0) && true)))) && true)) then (Option.bind (law02_known fu) fun x1 =>
            some x1)
          else some false)
        else some false)
      else (bif ref02_Box b then (Option.bind (ref02_Samples fu l) fun x3 =>
          bif x3 then none
          else (bif x2.2 == 2 then (bif (((x2.1.Low.Age == 0) && ((x2.1.Low.Shoots == 0) && ((x2.1.Low.Height == 0) && ((x2.1.Low.Girth == 0) && true)))) && (((x2.1.High.Age == 0) && ((x2.1.High.Shoots == 0) && ((x2.1.High.Height == 0) && ((x2.1.High.Girth == 0) && true)))) && true)) then (Option.bind (law02_known fu) fun x1 =>
                some x1)
              else some false)
            else some false))
        else (bif x2.2 == 2 then (bif (((x2.1.Low.Age == 0) && ((x2.1.Low.Shoots == 0) && ((x2.1.Low.Height == 0) && ((x2.1.Low.Girth == 0) && true)))) && (((x2.1.High.Age == 0) && ((x2.1.High.Shoots == 0) && ((x2.1.High.Height == 0) && ((x2.1.High.Girth == 0) && true)))) && true)) then (Option.bind (law02_known fu) fun x1 =>
              some x1)
            else some false)
          else some false))))
theorem law02_GrowthNarrows_nx_fc (fu : Nat) (b : XBox) (l : List XSample) (q10 : Nat) (r : Bool) (hh : law02_GrowthNarrows_nx fu b l = some r) : FC P GG 10 (A_law02_GrowthNarrows_nx b l q10) (K_law02_GrowthNarrows_nx l) (.bool (r)) := by
  unfold law02_GrowthNarrows_nx at hh
  rcases bb (decide (((l.length : Nat) : Int) > 10)) with h1 | h1
  ·rw [h1, cT] at hh
   rcases bb (decide (((l.length : Nat) : Int) ≤ 50)) with h2 | h2
   ·rw [h2, cT] at hh
    cases h3 : law02_known fu with
    | none => rw [h3, oN] at hh; cases hh
    | some x1 =>
     rw [h3, oS] at hh
     rw [← sI hh]
     refine FC.x pfT 100 60 (hR 4 [hT, hE, hE, hE, hT, hE, hE, hE, (hC (.bool (x1))), hE]) (pc h1 <| pc h2 <| pc (law02_known_fc fu  x1 h3) <| pn) (by kernel_rfl) (by kernel_rfl) ?_ (by kernel_rfl)
     exact ⟨PinL.pf (encL_pf cXSample_pf _), trivial⟩
   ·rw [h2, cF] at hh
    rcases bb (decide (((l.length : Nat) : Int) > 100)) with h3 | h3
    ·rw [h3, cT] at hh
     cases h4 : law02_known fu with
     | none => rw [h4, oN] at hh; cases hh
     | some x1 =>
      rw [h4, oS] at hh
      rw [← sI hh]
      refine FC.x pfT 100 60 (hR 4 (hT :: hE :: hE :: hE :: hF :: (hR 4 [hT, hE, (hC (.bool (x1))), hE]))) (pc h1 <| pc h2 <| pc h3 <| pc (law02_known_fc fu  x1 h4) <| pn) (by kernel_rfl) (by kernel_rfl) ?_ (by kernel_rfl)
      exact ⟨PinL.pf (encL_pf cXSample_pf _), trivial⟩
    ·rw [h3, cF] at hh
     cases h4 : growth_Narrow fu b l with
     | none => rw [h4, oN] at hh; cases hh
     | some x2 =>
      rw [h4, oS] at hh
      rcases bb (decide (((l.length : Nat) : Int) > 50)) with h5 | h5
      ·rw [h5, cT] at hh
       rcases bb (x2.2 == 3) with h6 | h6
       ·rw [h6, cT] at hh
        rcases bb ((((x2.1.Low.Age == 0) && ((x2.1.Low.Shoots == 0) && ((x2.1.Low.Height == 0) && ((x2.1.Low.Girth == 0) && true)))) && (((x2.1.High.Age == 0) && ((x2.1.High.Shoots == 0) && ((x2.1.High.Height == 0) && ((x2.1.High.Girth == 0) && true)))) && true))) with h7 | h7
        ·rw [h7, cT] at hh
         cases h8 : law02_known fu with
         | none => rw [h8, oN] at hh; cases hh
         | some x1 =>
          rw [h8, oS] at hh
          rw [← sI hh]
          refine FC.x pfT 100 60 (z67b0 b l q10 x2 ++ ([hT, hE, hT, hE, hE, hE, (hB hQ true), hE, hE, (hC (.bool (x1))), hE, hE])) (aa (z67q0 fu b l q10 x2 h1 h2 h3 h4) <| pc h5 <| pc h6 <| pc h7 <| pc (law02_known_fc fu  x1 h8) <| pn) (by kernel_rfl) (by kernel_rfl) ?_ (by kernel_rfl)
          exact ⟨PinL.pf (encL_pf cXSample_pf _), trivial⟩
        ·rw [h7, cF] at hh
         rw [← sI hh]
         refine FC.x pfT 100 60 (z67b0 b l q10 x2 ++ ((hT :: hE :: hT :: hE :: hE :: hE :: (hB hQ false) :: (hR 4 [])))) (aa (z67q0 fu b l q10 x2 h1 h2 h3 h4) <| pc h5 <| pc h6 <| pc h7 <| pn) (by kernel_rfl) (by kernel_rfl) ?_ (by kernel_rfl)
         exact ⟨PinL.pf (encL_pf cXSample_pf _), trivial⟩
       ·rw [h6, cF] at hh
        rw [← sI hh]
        refine FC.x pfT 100 60 (z67b0 b l q10 x2 ++ ((hT :: hE :: hF :: (hR 5 [])))) (aa (z67q0 fu b l q10 x2 h1 h2 h3 h4) <| pc h5 <| pc h6 <| pn) (by kernel_rfl) (by kernel_rfl) ?_ (by kernel_rfl)
        exact ⟨PinL.pf (encL_pf cXSample_pf _), trivial⟩
      ·rw [h5, cF] at hh
       rcases bb (ref02_Box b) with h6 | h6
       ·rw [h6, cT] at hh
        cases h7 : ref02_Samples fu l with
        | none => rw [h7, oN] at hh; cases hh
        | some x3 =>
         rw [h7, oS] at hh
         rcases bb (x3) with h8 | h8
         ·rw [h8, cT] at hh
          cases hh
         ·rw [h8, cF] at hh
          rcases bb (x2.2 == 2) with h9 | h9
          ·rw [h9, cT] at hh
           rcases bb ((((x2.1.Low.Age == 0) && ((x2.1.Low.Shoots == 0) && ((x2.1.Low.Height == 0) && ((x2.1.Low.Girth == 0) && true)))) && (((x2.1.High.Age == 0) && ((x2.1.High.Shoots == 0) && ((x2.1.High.Height == 0) && ((x2.1.High.Girth == 0) && true)))) && true))) with h10 | h10
           ·rw [h10, cT] at hh
            cases h11 : law02_known fu with
            | none => rw [h11, oN] at hh; cases hh
            | some x1 =>
             rw [h11, oS] at hh
             rw [← sI hh]
             refine FC.x pfT 100 60 (z67b0 b l q10 x2 ++ (z67b1 b l q10 x3 ++ ([hT, hE, hE, hE, (hB hQ true), hE, hE, (hC (.bool (x1))), hE, hE]))) (aa (z67q0 fu b l q10 x2 h1 h2 h3 h4) <| aa (z67q1 fu b l q10 x3 h5 h6 h7 h8) <| pc h9 <| pc h10 <| pc (law02_known_fc fu  x1 h11) <| pn) (by kernel_rfl) (by kernel_rfl) ?_ (by kernel_rfl)
             exact ⟨PinL.pf (encL_pf cXSample_pf _), trivial⟩
           ·rw [h10, cF] at hh
            rw [← sI hh]
            refine FC.x pfT 100 60 (z67b0 b l q10 x2 ++ (z67b1 b l q10 x3 ++ ((hT :: hE :: hE :: hE :: (hB hQ false) :: (hR 4 []))))) (aa (z67q0 fu b l q10 x2 h1 h2 h3 h4) <| aa (z67q1 fu b l q10 x3 h5 h6 h7 h8) <| pc h9 <| pc h10 <| pn) (by kernel_rfl) (by kernel_rfl) ?_ (by kernel_rfl)
            exact ⟨PinL.pf (encL_pf cXSample_pf _), trivial⟩
          ·rw [h9, cF] at hh
           rw [← sI hh]
           refine FC.x pfT 100 60 (z67b0 b l q10 x2 ++ (z67b1 b l q10 x3 ++ ((hF :: (hR 5 []))))) (aa (z67q0 fu b l q10 x2 h1 h2 h3 h4) <| aa (z67q1 fu b l q10 x3 h5 h6 h7 h8) <| pc h9 <| pn) (by kernel_rfl) (by kernel_rfl) ?_ (by kernel_rfl)
           exact ⟨PinL.pf (encL_pf cXSample_pf _), trivial⟩
       ·rw [h6, cF] at hh
        rcases bb (x2.2 == 2) with h7 | h7
        ·rw [h7, cT] at hh
         rcases bb ((((x2.1.Low.Age == 0) && ((x2.1.Low.Shoots == 0) && ((x2.1.Low.Height == 0) && ((x2.1.Low.Girth == 0) && true)))) && (((x2.1.High.Age == 0) && ((x2.1.High.Shoots == 0) && ((x2.1.High.Height == 0) && ((x2.1.High.Girth == 0) && true)))) && true))) with h8 | h8
         ·rw [h8, cT] at hh
          cases h9 : law02_known fu with
          | none => rw [h9, oN] at hh; cases hh
          | some x1 =>
           rw [h9, oS] at hh
           rw [← sI hh]
           refine FC.x pfT 100 60 (z67b0 b l q10 x2 ++ ((hF :: hE :: (hB (hC (.bool (ref02_Box b))) false) :: (hR 4 [hT, hE, hE, hE, (hB hQ true), hE, hE, (hC (.bool (x1))), hE, hE])))) (aa (z67q0 fu b l q10 x2 h1 h2 h3 h4) <| pc h5 <| pc (ref02_Box_fc b) <| pc h6 <| pc h7 <| pc h8 <| pc (law02_known_fc fu  x1 h9) <| pn) (by kernel_rfl) (by kernel_rfl) ?_ (by kernel_rfl)
           exact ⟨PinL.pf (encL_pf cXSample_pf _), trivial⟩
         ·rw [h8, cF] at hh
          rw [← sI hh]
          refine FC.x pfT 100 60 (z67b0 b l q10 x2 ++ ((hF :: hE :: (hB (hC (.bool (ref02_Box b))) false) :: (hR 4 (hT :: hE :: hE :: hE :: (hB hQ false) :: (hR 4 [])))))) (aa (z67q0 fu b l q10 x2 h1 h2 h3 h4) <| pc h5 <| pc (ref02_Box_fc b) <| pc h6 <| pc h7 <| pc h8 <| pn) (by kernel_rfl) (by kernel_rfl) ?_ (by kernel_rfl)
          exact ⟨PinL.pf (encL_pf cXSample_pf _), trivial⟩
        ·rw [h7, cF] at hh
         rw [← sI hh]
         refine FC.x pfT 100 60 (z67b0 b l q10 x2 ++ ((hF :: hE :: (hB (hC (.bool (ref02_Box b))) false) :: (hR 4 (hF :: (hR 5 [])))))) (aa (z67q0 fu b l q10 x2 h1 h2 h3 h4) <| pc h5 <| pc (ref02_Box_fc b) <| pc h6 <| pc h7 <| pn) (by kernel_rfl) (by kernel_rfl) ?_ (by kernel_rfl)
         exact ⟨PinL.pf (encL_pf cXSample_pf _), trivial⟩
  ·rw [h1, cF] at hh
   rcases bb (decide (((l.length : Nat) : Int) > 100)) with h2 | h2
   ·rw [h2, cT] at hh
    cases h3 : law02_known fu with
    | none => rw [h3, oN] at hh; cases hh
    | some x1 =>
     rw [h3, oS] at hh
     rw [← sI hh]
     refine FC.x pfT 100 60 (hR 4 (hF :: (hR 5 [hT, hE, (hC (.bool (x1))), hE]))) (pc h1 <| pc h2 <| pc (law02_known_fc fu  x1 h3) <| pn) (by kernel_rfl) (by kernel_rfl) ?_ (by kernel_rfl)
     exact ⟨PinL.pf (encL_pf cXSample_pf _), trivial⟩
   ·rw [h2, cF] at hh
    cases h3 : growth_Narrow fu b l with
    | none => rw [h3, oN] at hh; cases hh
    | some x2 =>
     rw [h3, oS] at hh
     rcases bb (decide (((l.length : Nat) : Int) > 50)) with h4 | h4
     ·rw [h4, cT] at hh
      rcases bb (x2.2 == 3) with h5 | h5
      ·rw [h5, cT] at hh
       rcases bb ((((x2.1.Low.Age == 0) && ((x2.1.Low.Shoots == 0) && ((x2.1.Low.Height == 0) && ((x2.1.Low.Girth == 0) && true)))) && (((x2.1.High.Age == 0) && ((x2.1.High.Shoots == 0) && ((x2.1.High.Height == 0) && ((x2.1.High.Girth == 0) && true)))) && true))) with h6 | h6
       ·rw [h6, cT] at hh
        cases h7 : law02_known fu with
        | none => rw [h7, oN] at hh; cases hh
        | some x1 =>
         rw [h7, oS] at hh
         rw [← sI hh]
         refine FC.x pfT 100 60 (z67b2 b l q10 x2 ++ ([hT, hE, hT, hE, hE, hE, (hB hQ true), hE, hE, (hC (.bool (x1))), hE, hE])) (aa (z67q2 fu b l q10 x2 h1 h2 h3) <| pc h4 <| pc h5 <| pc h6 <| pc (law02_known_fc fu  x1 h7) <| pn) (by kernel_rfl) (by kernel_rfl) ?_ (by kernel_rfl)
         exact ⟨PinL.pf (encL_pf cXSample_pf _), trivial⟩
       ·rw [h6, cF] at hh
        rw [← sI hh]
        refine FC.x pfT 100 60 (z67b2 b l q10 x2 ++ ((hT :: hE :: hT :: hE :: hE :: hE :: (hB hQ false) :: (hR 4 [])))) (aa (z67q2 fu b l q10 x2 h1 h2 h3) <| pc h4 <| pc h5 <| pc h6 <| pn) (by kernel_rfl) (by kernel_rfl) ?_ (by kernel_rfl)
        exact ⟨PinL.pf (encL_pf cXSample_pf _), trivial⟩
      ·rw [h5, cF] at hh
       rw [← sI hh]
       refine FC.x pfT 100 60 (z67b2 b l q10 x2 ++ ((hT :: hE :: hF :: (hR 5 [])))) (aa (z67q2 fu b l q10 x2 h1 h2 h3) <| pc h4 <| pc h5 <| pn) (by kernel_rfl) (by kernel_rfl) ?_ (by kernel_rfl)
       exact ⟨PinL.pf (encL_pf cXSample_pf _), trivial⟩
     ·rw [h4, cF] at hh
      rcases bb (ref02_Box b) with h5 | h5
      ·rw [h5, cT] at hh
       cases h6 : ref02_Samples fu l with
       | none => rw [h6, oN] at hh; cases hh
       | some x3 =>
        rw [h6, oS] at hh
        rcases bb (x3) with h7 | h7
        ·rw [h7, cT] at hh
         cases hh
        ·rw [h7, cF] at hh
         rcases bb (x2.2 == 2) with h8 | h8
         ·rw [h8, cT] at hh
          rcases bb ((((x2.1.Low.Age == 0) && ((x2.1.Low.Shoots == 0) && ((x2.1.Low.Height == 0) && ((x2.1.Low.Girth == 0) && true)))) && (((x2.1.High.Age == 0) && ((x2.1.High.Shoots == 0) && ((x2.1.High.Height == 0) && ((x2.1.High.Girth == 0) && true)))) && true))) with h9 | h9
          ·rw [h9, cT] at hh
           cases h10 : law02_known fu with
           | none => rw [h10, oN] at hh; cases hh
           | some x1 =>
            rw [h10, oS] at hh
            rw [← sI hh]
            refine FC.x pfT 100 60 (z67b2 b l q10 x2 ++ (z67b3 b l q10 x3 ++ ([hT, hE, hE, hE, (hB hQ true), hE, hE, (hC (.bool (x1))), hE, hE]))) (aa (z67q2 fu b l q10 x2 h1 h2 h3) <| aa (z67q3 fu b l q10 x3 h4 h5 h6 h7) <| pc h8 <| pc h9 <| pc (law02_known_fc fu  x1 h10) <| pn) (by kernel_rfl) (by kernel_rfl) ?_ (by kernel_rfl)
            exact ⟨PinL.pf (encL_pf cXSample_pf _), trivial⟩
          ·rw [h9, cF] at hh
           rw [← sI hh]
           refine FC.x pfT 100 60 (z67b2 b l q10 x2 ++ (z67b3 b l q10 x3 ++ ((hT :: hE :: hE :: hE :: (hB hQ false) :: (hR 4 []))))) (aa (z67q2 fu b l q10 x2 h1 h2 h3) <| aa (z67q3 fu b l q10 x3 h4 h5 h6 h7) <| pc h8 <| pc h9 <| pn) (by kernel_rfl) (by kernel_rfl) ?_ (by kernel_rfl)
           exact ⟨PinL.pf (encL_pf cXSample_pf _), trivial⟩
         ·rw [h8, cF] at hh
          rw [← sI hh]
          refine FC.x pfT 100 60 (z67b2 b l q10 x2 ++ (z67b3 b l q10 x3 ++ ((hF :: (hR 5 []))))) (aa (z67q2 fu b l q10 x2 h1 h2 h3) <| aa (z67q3 fu b l q10 x3 h4 h5 h6 h7) <| pc h8 <| pn) (by kernel_rfl) (by kernel_rfl) ?_ (by kernel_rfl)
          exact ⟨PinL.pf (encL_pf cXSample_pf _), trivial⟩
      ·rw [h5, cF] at hh
       rcases bb (x2.2 == 2) with h6 | h6
       ·rw [h6, cT] at hh
        rcases bb ((((x2.1.Low.Age == 0) && ((x2.1.Low.Shoots == 0) && ((x2.1.Low.Height == 0) && ((x2.1.Low.Girth == 0) && true)))) && (((x2.1.High.Age == 0) && ((x2.1.High.Shoots == 0) && ((x2.1.High.Height == 0) && ((x2.1.High.Girth == 0) && true)))) && true))) with h7 | h7
        ·rw [h7, cT] at hh
         cases h8 : law02_known fu with
         | none => rw [h8, oN] at hh; cases hh
         | some x1 =>
          rw [h8, oS] at hh
          rw [← sI hh]
          refine FC.x pfT 100 60 (z67b2 b l q10 x2 ++ ((hF :: hE :: (hB (hC (.bool (ref02_Box b))) false) :: (hR 4 [hT, hE, hE, hE, (hB hQ true), hE, hE, (hC (.bool (x1))), hE, hE])))) (aa (z67q2 fu b l q10 x2 h1 h2 h3) <| pc h4 <| pc (ref02_Box_fc b) <| pc h5 <| pc h6 <| pc h7 <| pc (law02_known_fc fu  x1 h8) <| pn) (by kernel_rfl) (by kernel_rfl) ?_ (by kernel_rfl)
          exact ⟨PinL.pf (encL_pf cXSample_pf _), trivial⟩
        ·rw [h7, cF] at hh
         rw [← sI hh]
         refine FC.x pfT 100 60 (z67b2 b l q10 x2 ++ ((hF :: hE :: (hB (hC (.bool (ref02_Box b))) false) :: (hR 4 (hT :: hE :: hE :: hE :: (hB hQ false) :: (hR 4 [])))))) (aa (z67q2 fu b l q10 x2 h1 h2 h3) <| pc h4 <| pc (ref02_Box_fc b) <| pc h5 <| pc h6 <| pc h7 <| pn) (by kernel_rfl) (by kernel_rfl) ?_ (by kernel_rfl)
         exact ⟨PinL.pf (encL_pf cXSample_pf _), trivial⟩
       ·rw [h6, cF] at hh
        rw [← sI hh]
        refine FC.x pfT 100 60 (z67b2 b l q10 x2 ++ ((hF :: hE :: (hB (hC (.bool (ref02_Box b))) false) :: (hR 4 (hF :: (hR 5 [])))))) (aa (z67q2 fu b l q10 x2 h1 h2 h3) <| pc h4 <| pc (ref02_Box_fc b) <| pc h5 <| pc h6 <| pn) (by kernel_rfl) (by kernel_rfl) ?_ (by kernel_rfl)
        exact ⟨PinL.pf (encL_pf cXSample_pf _), trivial⟩

noncomputable def law02_GrowthNarrows (fu : Nat) (b : XBox) (l : List XSample) : Option Bool :=
  match l with
  | [] => law02_GrowthNarrows_n0 fu b
  | [y0] => law02_GrowthNarrows_n1 fu b y0
  | [y0, y1] => law02_GrowthNarrows_n2 fu b y0 y1
  | [y0, y1, y2] => law02_GrowthNarrows_n3 fu b y0 y1 y2
  | [y0, y1, y2, y3] => law02_GrowthNarrows_n4 fu b y0 y1 y2 y3
  | [y0, y1, y2, y3, y4] => law02_GrowthNarrows_n5 fu b y0 y1 y2 y3 y4
  | [y0, y1, y2, y3, y4, y5] => law02_GrowthNarrows_n6 fu b y0 y1 y2 y3 y4 y5
  | [y0, y1, y2, y3, y4, y5, y6] => law02_GrowthNarrows_n7 fu b y0 y1 y2 y3 y4 y5 y6
  | [y0, y1, y2, y3, y4, y5, y6, y7] => law02_GrowthNarrows_n8 fu b y0 y1 y2 y3 y4 y5 y6 y7
  | [y0, y1, y2, y3, y4, y5, y6, y7, y8] => law02_GrowthNarrows_n9 fu b y0 y1 y2 y3 y4 y5 y6 y7 y8
  | [y0, y1, y2, y3, y4, y5, y6, y7, y8, y9] => law02_GrowthNarrows_n10 fu b y0 y1 y2 y3 y4 y5 y6 y7 y8 y9
  | z => law02_GrowthNarrows_nx fu b z
abbrev A_law02_GrowthNarrows (b : XBox) (l : List XSample) (q10 : Nat) : List Value := [.agg #[I (b.Low.Age), I (b.Low.Shoots), I (b.Low.Height), I (b.Low.Girth), I (b.High.Age), I (b.High.Shoots), I (b.High.Height), I (b.High.Girth)], .slice (some ⟨10, 0, none⟩) (l.length) (q10)]
abbrev K_law02_GrowthNarrows (l : List XSample) : List (Nat × List Value) := [(10, encL cXSample l)]
theorem law02_GrowthNarrows_fc (fu : Nat) (b : XBox) (l : List XSample) (q10 : Nat) (r : Bool) (hh : law02_GrowthNarrows fu b l = some r) : FC P GG 10 (A_law02_GrowthNarrows b l q10) (K_law02_GrowthNarrows l) (.bool (r)) := by
  unfold law02_GrowthNarrows at hh
  match l, hh with
  | [], hh => exact law02_GrowthNarrows_n0_fc fu b q10 r hh
  | [y0], hh => exact law02_GrowthNarrows_n1_fc fu b y0 q10 r hh
  | [y0, y1], hh => exact law02_GrowthNarrows_n2_fc fu b y0 y1 q10 r hh
  | [y0, y1, y2], hh => exact law02_GrowthNarrows_n3_fc fu b y0 y1 y2 q10 r hh
  | [y0, y1, y2, y3], hh => exact law02_GrowthNarrows_n4_fc fu b y0 y1 y2 y3 q10 r hh
  | [y0, y1, y2, y3, y4], hh => exact law02_GrowthNarrows_n5_fc fu b y0 y1 y2 y3 y4 q10 r hh
  | [y0, y1, y2, y3, y4, y5], hh => exact law02_GrowthNarrows_n6_fc fu b y0 y1 y2 y3 y4 y5 q10 r hh
  | [y0, y1, y2, y3, y4, y5, y6], hh => exact law02_GrowthNarrows_n7_fc fu b y0 y1 y2 y3 y4 y5 y6 q10 r hh
  | [y0, y1, y2, y3, y4, y5, y6, y7], hh => exact law02_GrowthNarrows_n8_fc fu b y0 y1 y2 y3 y4 y5 y6 y7 q10 r hh
  | [y0, y1, y2, y3, y4, y5, y6, y7, y8], hh => exact law02_GrowthNarrows_n9_fc fu b y0 y1 y2 y3 y4 y5 y6 y7 y8 q10 r hh
  | [y0, y1, y2, y3, y4, y5, y6, y7, y8, y9], hh => exact law02_GrowthNarrows_n10_fc fu b y0 y1 y2 y3 y4 y5 y6 y7 y8 y9 q10 r hh
  | y0 :: y1 :: y2 :: y3 :: y4 :: y5 :: y6 :: y7 :: y8 :: y9 :: y10 :: z, hh => exact law02_GrowthNarrows_nx_fc fu b (y0 :: y1 :: y2 :: y3 :: y4 :: y5 :: y6 :: y7 :: y8 :: y9 :: y10 :: z) q10 r hh



end Go.Proofs.G2
