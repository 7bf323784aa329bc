/- Contracts of the functions that the law runs, part 2: made by a program, checked by the kernel. No conditions. -/
import Derived.Test.YtfgdbanigkfjlaaDoorGa
namespace Go.Proofs.G2
open Go.Sim Go.Proofs
set_option maxRecDepth 20000
set_option maxHeartbeats 1000000
/- greenhew/growth.first[int] -/
noncomputable abbrev z36i0 (ask_0_0 : XBox) (ask_0_1 : Int) (ask_0_2 : Xgrower) (ask_0_3 : XSeason) (ask_1 : XSpan) (q13 : Nat) (q14 : Nat) (q15 : Nat) (q16 : Nat) (v0 : Int) (v1 : Int) (y0_2 : Bool) : Hint := (hB (hM (.bool (y0_2)) (.bool (y0_2)) (A_growth_grower_leading_3 (W (v0 + (W ((W (v1 - v0)).tdiv 2))))) (K_growth_grower_leading_3 ask_0_0 ask_0_1 ask_0_2 ask_0_3 ask_1 q13 q14 q15 q16) [(10, 10, 0), (11, 11, 0), (13, 13, 0), (14, 14, 0), (15, 15, 0), (16, 16, 0), (12, 12, 0), (17, 17, 0), (18, 18, 0), (19, 19, 0), (20, 20, 0)]) true)
abbrev z36r1 (ask_0_0 : XBox) (ask_0_1 : Int) (ask_0_2 : Xgrower) (ask_0_3 : XSeason) (ask_1 : XSpan) (q13 : Nat) (q14 : Nat) (q15 : Nat) (q16 : Nat) (v0 : Int) (v1 : Int) (y0_2 : Bool) : Prop := FC P GG 127 (A_growth_grower_leading_3 (W (v0 + (W ((W (v1 - v0)).tdiv 2))))) (K_growth_grower_leading_3 ask_0_0 ask_0_1 ask_0_2 ask_0_3 ask_1 q13 q14 q15 q16) (.bool (y0_2))
abbrev z36r2 (v0 : Int) (v1 : Int) : Prop := VRs (Ren.emb [(10, 10, 0), (11, 11, 0), (13, 13, 0), (14, 14, 0), (15, 15, 0), (16, 16, 0), (12, 12, 0), (17, 17, 0), (18, 18, 0), (19, 19, 0), (20, 20, 0)]) (A_growth_grower_leading_3 (W (v0 + (W ((W (v1 - v0)).tdiv 2))))) [I (W (v0 + (W ((W (v1 - v0)).tdiv 2)))), .pointer (some ⟨19, 0, none⟩), .pointer (some ⟨20, 0, none⟩)]
abbrev z36r3 (ask_0_0 : XBox) (ask_0_1 : Int) (ask_0_2 : Xgrower) (ask_0_3 : XSeason) (ask_1 : XSpan) (q13 : Nat) (q14 : Nat) (q15 : Nat) (q16 : Nat) : Prop := MemAt (Ren.emb [(10, 10, 0), (11, 11, 0), (13, 13, 0), (14, 14, 0), (15, 15, 0), (16, 16, 0), (12, 12, 0), (17, 17, 0), (18, 18, 0), (19, 19, 0), (20, 20, 0)]) [I (ask_0_0.Low.Age), I (ask_0_0.Low.Shoots), I (ask_0_0.Low.Height), I (ask_0_0.Low.Girth), I (ask_0_0.High.Age), I (ask_0_0.High.Shoots), I (ask_0_0.High.Height), I (ask_0_0.High.Girth)] 0 [I (ask_0_0.Low.Age), I (ask_0_0.Low.Shoots), I (ask_0_0.Low.Height), I (ask_0_0.Low.Girth), I (ask_0_0.High.Age), I (ask_0_0.High.Shoots), I (ask_0_0.High.Height), I (ask_0_0.High.Girth)] ∧ MemAt (Ren.emb [(10, 10, 0), (11, 11, 0), (13, 13, 0), (14, 14, 0), (15, 15, 0), (16, 16, 0), (12, 12, 0), (17, 17, 0), (18, 18, 0), (19, 19, 0), (20, 20, 0)]) [I (ask_0_1)] 0 [I (ask_0_1)] ∧ MemAt (Ren.emb [(10, 10, 0), (11, 11, 0), (13, 13, 0), (14, 14, 0), (15, 15, 0), (16, 16, 0), (12, 12, 0), (17, 17, 0), (18, 18, 0), (19, 19, 0), (20, 20, 0)]) (encL cInt ask_0_2.Species.Rise) 0 (encL cInt ask_0_2.Species.Rise) ∧ MemAt (Ren.emb [(10, 10, 0), (11, 11, 0), (13, 13, 0), (14, 14, 0), (15, 15, 0), (16, 16, 0), (12, 12, 0), (17, 17, 0), (18, 18, 0), (19, 19, 0), (20, 20, 0)]) (encL cInt ask_0_2.Species.Thick) 0 (encL cInt ask_0_2.Species.Thick) ∧ MemAt (Ren.emb [(10, 10, 0), (11, 11, 0), (13, 13, 0), (14, 14, 0), (15, 15, 0), (16, 16, 0), (12, 12, 0), (17, 17, 0), (18, 18, 0), (19, 19, 0), (20, 20, 0)]) (encL cXRung ask_0_2.Species.Ladder) 0 (encL cXRung ask_0_2.Species.Ladder) ∧ MemAt (Ren.emb [(10, 10, 0), (11, 11, 0), (13, 13, 0), (14, 14, 0), (15, 15, 0), (16, 16, 0), (12, 12, 0), (17, 17, 0), (18, 18, 0), (19, 19, 0), (20, 20, 0)]) (encL cXSpan ask_0_2.Species.Sprouts) 0 (encL cXSpan ask_0_2.Species.Sprouts) ∧ MemAt (Ren.emb [(10, 10, 0), (11, 11, 0), (13, 13, 0), (14, 14, 0), (15, 15, 0), (16, 16, 0), (12, 12, 0), (17, 17, 0), (18, 18, 0), (19, 19, 0), (20, 20, 0)]) [.slice (some ⟨13, 0, none⟩) (ask_0_2.Species.Rise.length) (q13), .slice (some ⟨14, 0, none⟩) (ask_0_2.Species.Thick.length) (q14), I (ask_0_2.Species.Top), I (ask_0_2.Species.Stout), I (ask_0_2.Species.Shade), I (ask_0_2.Species.Reach), .slice (some ⟨15, 0, none⟩) (ask_0_2.Species.Ladder.length) (q15), .slice (some ⟨16, 0, none⟩) (ask_0_2.Species.Sprouts.length) (q16)] 0 [.slice (some ⟨13, 0, none⟩) (ask_0_2.Species.Rise.length) (q13), .slice (some ⟨14, 0, none⟩) (ask_0_2.Species.Thick.length) (q14), I (ask_0_2.Species.Top), I (ask_0_2.Species.Stout), I (ask_0_2.Species.Shade), I (ask_0_2.Species.Reach), .slice (some ⟨15, 0, none⟩) (ask_0_2.Species.Ladder.length) (q15), .slice (some ⟨16, 0, none⟩) (ask_0_2.Species.Sprouts.length) (q16)] ∧ MemAt (Ren.emb [(10, 10, 0), (11, 11, 0), (13, 13, 0), (14, 14, 0), (15, 15, 0), (16, 16, 0), (12, 12, 0), (17, 17, 0), (18, 18, 0), (19, 19, 0), (20, 20, 0)]) [.pointer (some ⟨12, 0, none⟩)] 0 [.pointer (some ⟨12, 0, none⟩)] ∧ MemAt (Ren.emb [(10, 10, 0), (11, 11, 0), (13, 13, 0), (14, 14, 0), (15, 15, 0), (16, 16, 0), (12, 12, 0), (17, 17, 0), (18, 18, 0), (19, 19, 0), (20, 20, 0)]) [I (ask_0_3.Light.Low), I (ask_0_3.Light.High), I (ask_0_3.Browse.Low), I (ask_0_3.Browse.High), I (ask_0_3.Mild.Low), I (ask_0_3.Mild.High), .bool (ask_0_3.Cut)] 0 [I (ask_0_3.Light.Low), I (ask_0_3.Light.High), I (ask_0_3.Browse.Low), I (ask_0_3.Browse.High), I (ask_0_3.Mild.Low), I (ask_0_3.Mild.High), .bool (ask_0_3.Cut)] ∧ MemAt (Ren.emb [(10, 10, 0), (11, 11, 0), (13, 13, 0), (14, 14, 0), (15, 15, 0), (16, 16, 0), (12, 12, 0), (17, 17, 0), (18, 18, 0), (19, 19, 0), (20, 20, 0)]) [.func (.func 124) #[] #[.pointer (some ⟨10, 0, none⟩), .pointer (some ⟨11, 0, none⟩), .pointer (some ⟨17, 0, none⟩), .pointer (some ⟨18, 0, none⟩)]] 0 [.func (.func 124) #[] #[.pointer (some ⟨10, 0, none⟩), .pointer (some ⟨11, 0, none⟩), .pointer (some ⟨17, 0, none⟩), .pointer (some ⟨18, 0, none⟩)]] ∧ MemAt (Ren.emb [(10, 10, 0), (11, 11, 0), (13, 13, 0), (14, 14, 0), (15, 15, 0), (16, 16, 0), (12, 12, 0), (17, 17, 0), (18, 18, 0), (19, 19, 0), (20, 20, 0)]) [I (ask_1.Low), I (ask_1.High)] 0 [I (ask_1.Low), I (ask_1.High)] ∧ True
abbrev z36r4 (y0_2 : Bool) : Prop := VR (Ren.emb [(10, 10, 0), (11, 11, 0), (13, 13, 0), (14, 14, 0), (15, 15, 0), (16, 16, 0), (12, 12, 0), (17, 17, 0), (18, 18, 0), (19, 19, 0), (20, 20, 0)]) (.bool (y0_2)) (.bool (y0_2))
theorem z36p5 (v0 : Int) (v1 : Int) : (z36r2 v0 v1) := (.cons _ _ _ _ (VR.of_pf rfl) (.cons _ _ _ _ (.ptr 19 0 ⟨19, 0, 0, 0⟩ rfl) (.cons _ _ _ _ (.ptr 20 0 ⟨20, 0, 0, 0⟩ rfl) .nil)))
theorem z36p6 (ask_0_0 : XBox) (ask_0_1 : Int) (ask_0_2 : Xgrower) (ask_0_3 : XSeason) (ask_1 : XSpan) (q13 : Nat) (q14 : Nat) (q15 : Nat) (q16 : Nat) : (z36r3 ask_0_0 ask_0_1 ask_0_2 ask_0_3 ask_1 q13 q14 q15 q16) := ⟨MemAt.of (.cons _ _ _ _ (VR.of_pf rfl) (.cons _ _ _ _ (VR.of_pf rfl) (.cons _ _ _ _ (VR.of_pf rfl) (.cons _ _ _ _ (VR.of_pf rfl) (.cons _ _ _ _ (VR.of_pf rfl) (.cons _ _ _ _ (VR.of_pf rfl) (.cons _ _ _ _ (VR.of_pf rfl) (.cons _ _ _ _ (VR.of_pf rfl) .nil)))))))), MemAt.of (.cons _ _ _ _ (VR.of_pf rfl) .nil), MemAt.same _ (encL_pf cInt_pf _), MemAt.same _ (encL_pf cInt_pf _), MemAt.same _ (encL_pf cXRung_pf _), MemAt.same _ (encL_pf cXSpan_pf _), MemAt.of (.cons _ _ _ _ (.slc 13 0 _ _ _ ⟨13, 0, 0, 0⟩ rfl (.inl rfl)) (.cons _ _ _ _ (.slc 14 0 _ _ _ ⟨14, 0, 0, 0⟩ rfl (.inl rfl)) (.cons _ _ _ _ (VR.of_pf rfl) (.cons _ _ _ _ (VR.of_pf rfl) (.cons _ _ _ _ (VR.of_pf rfl) (.cons _ _ _ _ (VR.of_pf rfl) (.cons _ _ _ _ (.slc 15 0 _ _ _ ⟨15, 0, 0, 0⟩ rfl (.inl rfl)) (.cons _ _ _ _ (.slc 16 0 _ _ _ ⟨16, 0, 0, 0⟩ rfl (.inl rfl)) .nil)))))))), MemAt.of (.cons _ _ _ _ (.ptr 12 0 ⟨12, 0, 0, 0⟩ rfl) .nil), MemAt.of (.cons _ _ _ _ (VR.of_pf rfl) (.cons _ _ _ _ (VR.of_pf rfl) (.cons _ _ _ _ (VR.of_pf rfl) (.cons _ _ _ _ (VR.of_pf rfl) (.cons _ _ _ _ (VR.of_pf rfl) (.cons _ _ _ _ (VR.of_pf rfl) (.cons _ _ _ _ (VR.of_pf rfl) .nil))))))), MemAt.of (.cons _ _ _ _ (.func _ _ _ _ _ (fun _ h => by cases h) .nil (.cons _ _ _ _ (.ptr 10 0 ⟨10, 0, 0, 0⟩ rfl) (.cons _ _ _ _ (.ptr 11 0 ⟨11, 0, 0, 0⟩ rfl) (.cons _ _ _ _ (.ptr 17 0 ⟨17, 0, 0, 0⟩ rfl) (.cons _ _ _ _ (.ptr 18 0 ⟨18, 0, 0, 0⟩ rfl) .nil))))) .nil), MemAt.of (.cons _ _ _ _ (VR.of_pf rfl) (.cons _ _ _ _ (VR.of_pf rfl) .nil)), trivial⟩
noncomputable abbrev z36i7 (ask_0_0 : XBox) (ask_0_1 : Int) (ask_0_2 : Xgrower) (ask_0_3 : XSeason) (ask_1 : XSpan) (q13 : Nat) (q14 : Nat) (q15 : Nat) (q16 : Nat) (v0 : Int) (v1 : Int) (y0_2 : Bool) : Hint := (hB (hM (.bool (y0_2)) (.bool (y0_2)) (A_growth_grower_leading_3 (W (v0 + (W ((W (v1 - v0)).tdiv 2))))) (K_growth_grower_leading_3 ask_0_0 ask_0_1 ask_0_2 ask_0_3 ask_1 q13 q14 q15 q16) [(10, 10, 0), (11, 11, 0), (13, 13, 0), (14, 14, 0), (15, 15, 0), (16, 16, 0), (12, 12, 0), (17, 17, 0), (18, 18, 0), (19, 19, 0), (20, 20, 0)]) false)
abbrev A_growth_first_1 (low : Int) (high : Int) : List Value := [I (low), I (high), .func (.func 127) #[] #[.pointer (some ⟨19, 0, none⟩), .pointer (some ⟨20, 0, none⟩)]]
abbrev K_growth_first_1 (ask_0_0 : XBox) (ask_0_1 : Int) (ask_0_2 : Xgrower) (ask_0_3 : XSeason) (ask_1 : XSpan) (q13 : Nat) (q14 : Nat) (q15 : Nat) (q16 : Nat) : List (Nat × List Value) := [(10, [I (ask_0_0.Low.Age), I (ask_0_0.Low.Shoots), I (ask_0_0.Low.Height), I (ask_0_0.Low.Girth), I (ask_0_0.High.Age), I (ask_0_0.High.Shoots), I (ask_0_0.High.Height), I (ask_0_0.High.Girth)]), (11, [I (ask_0_1)]), (13, encL cInt ask_0_2.Species.Rise), (14, encL cInt ask_0_2.Species.Thick), (15, encL cXRung ask_0_2.Species.Ladder), (16, encL cXSpan ask_0_2.Species.Sprouts), (12, [.slice (some ⟨13, 0, none⟩) (ask_0_2.Species.Rise.length) (q13), .slice (some ⟨14, 0, none⟩) (ask_0_2.Species.Thick.length) (q14), I (ask_0_2.Species.Top), I (ask_0_2.Species.Stout), I (ask_0_2.Species.Shade), I (ask_0_2.Species.Reach), .slice (some ⟨15, 0, none⟩) (ask_0_2.Species.Ladder.length) (q15), .slice (some ⟨16, 0, none⟩) (ask_0_2.Species.Sprouts.length) (q16)]), (17, [.pointer (some ⟨12, 0, none⟩)]), (18, [I (ask_0_3.Light.Low), I (ask_0_3.Light.High), I (ask_0_3.Browse.Low), I (ask_0_3.Browse.High), I (ask_0_3.Mild.Low), I (ask_0_3.Mild.High), .bool (ask_0_3.Cut)]), (19, [.func (.func 124) #[] #[.pointer (some ⟨10, 0, none⟩), .pointer (some ⟨11, 0, none⟩), .pointer (some ⟨17, 0, none⟩), .pointer (some ⟨18, 0, none⟩)]]), (20, [I (ask_1.Low), I (ask_1.High)])]
noncomputable def growth_first_1_L (fu : Nat) (low : Int) (high : Int) (ask_0_0 : XBox) (ask_0_1 : Int) (ask_0_2 : Xgrower) (ask_0_3 : XSeason) (ask_1 : XSpan) : Nat → (Int → Int → Option Int)
  | 0 => (fun _ _ => none)
  | fk + 1 => (fun v0 v1 => bif decide (v0 ≤ v1) then (Option.bind (growth_grower_leading_3 fu (W (v0 + (W ((W (v1 - v0)).tdiv 2)))) ask_0_0 ask_0_1 ask_0_2 ask_0_3 ask_1) fun y0_2 =>
        bif y0_2 then growth_first_1_L fu low high ask_0_0 ask_0_1 ask_0_2 ask_0_3 ask_1 fk v0 (W ((W (v0 + (W ((W (v1 - v0)).tdiv 2)))) - 1))
        else growth_first_1_L fu low high ask_0_0 ask_0_1 ask_0_2 ask_0_3 ask_1 fk (W ((W (v0 + (W ((W (v1 - v0)).tdiv 2)))) + 1)) v1)
      else some v0)
theorem growth_first_1_L_s0 (fu : Nat) (low : Int) (high : Int) (ask_0_0 : XBox) (ask_0_1 : Int) (ask_0_2 : Xgrower) (ask_0_3 : XSeason) (ask_1 : XSpan) (fk : Nat) (v0 : Int) (v1 : Int) : growth_first_1_L fu low high ask_0_0 ask_0_1 ask_0_2 ask_0_3 ask_1 (fk + 1) v0 v1 = (bif decide (v0 ≤ v1) then (Option.bind (growth_grower_leading_3 fu (W (v0 + (W ((W (v1 - v0)).tdiv 2)))) ask_0_0 ask_0_1 ask_0_2 ask_0_3 ask_1) fun y0_2 =>
        bif y0_2 then growth_first_1_L fu low high ask_0_0 ask_0_1 ask_0_2 ask_0_3 ask_1 fk v0 (W ((W (v0 + (W ((W (v1 - v0)).tdiv 2)))) - 1))
        else growth_first_1_L fu low high ask_0_0 ask_0_1 ask_0_2 ask_0_3 ask_1 fk (W ((W (v0 + (W ((W (v1 - v0)).tdiv 2)))) + 1)) v1)
      else some v0) := rfl
noncomputable def growth_first_1 (fu : Nat) (low : Int) (high : Int) (ask_0_0 : XBox) (ask_0_1 : Int) (ask_0_2 : Xgrower) (ask_0_3 : XSeason) (ask_1 : XSpan) : Option Int :=
  growth_first_1_L fu low high ask_0_0 ask_0_1 ask_0_2 ask_0_3 ask_1 fu low high
theorem growth_first_1_L_fs (fu : Nat) (low : Int) (high : Int) (ask_0_0 : XBox) (ask_0_1 : Int) (ask_0_2 : Xgrower) (ask_0_3 : XSeason) (ask_1 : XSpan) (q13 q14 q15 q16 : Nat) : ∀ fk, (∀ (v0 : Int) (v1 : Int) (r : Int), growth_first_1_L fu low high ask_0_0 ask_0_1 ask_0_2 ask_0_3 ask_1 fk v0 v1 = some r → FSat P GG Tryd.f125 (I (r)) (ids (looses (K_growth_first_1 ask_0_0 ask_0_1 ask_0_2 ask_0_3 ask_1 q13 q14 q15 q16))) 25 [.lp (cA (bodyOf Tryd.f125) [1, 0, 0, 0]), .blk 0, .code (cA (bodyOf Tryd.f125) [1, 1])] (tOf 25 [(0, I (v0)), (1, I (v1)), (2, .func (.func 127) #[] #[.pointer (some ⟨19, 0, none⟩), .pointer (some ⟨20, 0, none⟩)]), (6, I (0))]) (mOf 100 [(0, .rom [I (1), I (2), I (3)] .glob), (10, .rom ([I (ask_0_0.Low.Age), I (ask_0_0.Low.Shoots), I (ask_0_0.Low.Height), I (ask_0_0.Low.Girth), I (ask_0_0.High.Age), I (ask_0_0.High.Shoots), I (ask_0_0.High.Height), I (ask_0_0.High.Girth)]) .loose), (11, .rom ([I (ask_0_1)]) .loose), (12, .rom ([.slice (some ⟨13, 0, none⟩) (ask_0_2.Species.Rise.length) (q13), .slice (some ⟨14, 0, none⟩) (ask_0_2.Species.Thick.length) (q14), I (ask_0_2.Species.Top), I (ask_0_2.Species.Stout), I (ask_0_2.Species.Shade), I (ask_0_2.Species.Reach), .slice (some ⟨15, 0, none⟩) (ask_0_2.Species.Ladder.length) (q15), .slice (some ⟨16, 0, none⟩) (ask_0_2.Species.Sprouts.length) (q16)]) .loose), (13, .rom (encL cInt ask_0_2.Species.Rise) .loose), (14, .rom (encL cInt ask_0_2.Species.Thick) .loose), (15, .rom (encL cXRung ask_0_2.Species.Ladder) .loose), (16, .rom (encL cXSpan ask_0_2.Species.Sprouts) .loose), (17, .rom ([.pointer (some ⟨12, 0, none⟩)]) .loose), (18, .rom ([I (ask_0_3.Light.Low), I (ask_0_3.Light.High), I (ask_0_3.Browse.Low), I (ask_0_3.Browse.High), I (ask_0_3.Mild.Low), I (ask_0_3.Mild.High), .bool (ask_0_3.Cut)]) .loose), (19, .rom ([.func (.func 124) #[] #[.pointer (some ⟨10, 0, none⟩), .pointer (some ⟨11, 0, none⟩), .pointer (some ⟨17, 0, none⟩), .pointer (some ⟨18, 0, none⟩)]]) .loose), (20, .rom ([I (ask_1.Low), I (ask_1.High)]) .loose)])) := by
  intro fk
  induction fk with
  | zero => exact fun _ _ r hh => by cases hh
  | succ fk ih =>
    · intro v0 v1 r hh
      rcases Bool.eq_false_or_eq_true (decide (v0 ≤ v1)) with h1 | h1
      · skip
        cases h2 : growth_grower_leading_3 fu (W (v0 + (W ((W (v1 - v0)).tdiv 2)))) ask_0_0 ask_0_1 ask_0_2 ask_0_3 ask_1 with
        | none =>
          have e : growth_first_1_L fu low high ask_0_0 ask_0_1 ask_0_2 ask_0_3 ask_1 (fk + 1) v0 v1 = none := by rw [growth_first_1_L_s0]; rw [h1, cond_true, h2, Option.bind_none]; first | done | rfl
          rw [e] at hh; cases hh
        | some y0_2 =>
          rcases Bool.eq_false_or_eq_true (y0_2) with h3 | h3
          · skip
            have e : growth_first_1_L fu low high ask_0_0 ask_0_1 ask_0_2 ask_0_3 ask_1 (fk + 1) v0 v1 = growth_first_1_L fu low high ask_0_0 ask_0_1 ask_0_2 ask_0_3 ask_1 fk v0 (W ((W (v0 + (W ((W (v1 - v0)).tdiv 2)))) - 1)) := by rw [growth_first_1_L_s0]; rw [h1, cond_true, h2, Option.bind_some, h3, cond_true]; first | done | rfl
            rw [e] at hh
            have nx := ih v0 (W ((W (v0 + (W ((W (v1 - v0)).tdiv 2)))) - 1)) r hh
            refine FSat.stop pfT (fuel := 20) (hs := (hE :: hE :: hT :: (hR 9 [(z36i0 ask_0_0 ask_0_1 ask_0_2 ask_0_3 ask_1 q13 q14 q15 q16 v0 v1 y0_2), hE, hE, hE]))) (ss := [.go, .st [0, 1, 2, 6] [0, 10, 11, 12, 13, 14, 15, 16, 17, 18, 19, 20]]) (R := [(decide (v0 ≤ v1)) = true, (z36r1 ask_0_0 ask_0_1 ask_0_2 ask_0_3 ask_1 q13 q14 q15 q16 v0 v1 y0_2), (z36r2 v0 v1), (z36r3 ask_0_0 ask_0_1 ask_0_2 ask_0_3 ask_1 q13 q14 q15 q16), (z36r4 y0_2), (y0_2) = true]) (by kernel_rfl) ⟨h1, growth_grower_leading_3_fc fu (W (v0 + (W ((W (v1 - v0)).tdiv 2)))) ask_0_0 ask_0_1 ask_0_2 ask_0_3 ask_1 q13 q14 q15 q16 y0_2 h2, z36p5 v0 v1, z36p6 ask_0_0 ask_0_1 ask_0_2 ask_0_3 ask_1 q13 q14 q15 q16, selfB_self 9 _ rfl _, h3, trivial⟩ 100 (by kernel_rfl) ?_ nx
            exact ⟨PinL.lit (by kernel_rfl), PinL.lit (by kernel_rfl), PinL.lit (by kernel_rfl), PinL.lit (by kernel_rfl), PinL.pf (encL_pf cInt_pf _), PinL.pf (encL_pf cInt_pf _), PinL.pf (encL_pf cXRung_pf _), PinL.pf (encL_pf cXSpan_pf _), PinL.lit (by kernel_rfl), PinL.lit (by kernel_rfl), PinL.lit (by kernel_rfl), PinL.lit (by kernel_rfl), trivial⟩
          · skip
            have e : growth_first_1_L fu low high ask_0_0 ask_0_1 ask_0_2 ask_0_3 ask_1 (fk + 1) v0 v1 = growth_first_1_L fu low high ask_0_0 ask_0_1 ask_0_2 ask_0_3 ask_1 fk (W ((W (v0 + (W ((W (v1 - v0)).tdiv 2)))) + 1)) v1 := by rw [growth_first_1_L_s0]; rw [h1, cond_true, h2, Option.bind_some, h3, cond_false]; first | done | rfl
            rw [e] at hh
            have nx := ih (W ((W (v0 + (W ((W (v1 - v0)).tdiv 2)))) + 1)) v1 r hh
            refine FSat.stop pfT (fuel := 20) (hs := (hE :: hE :: hT :: (hR 9 [(z36i7 ask_0_0 ask_0_1 ask_0_2 ask_0_3 ask_1 q13 q14 q15 q16 v0 v1 y0_2), hE, hE, hE]))) (ss := [.go, .st [0, 1, 2, 6] [0, 10, 11, 12, 13, 14, 15, 16, 17, 18, 19, 20]]) (R := [(decide (v0 ≤ v1)) = true, (z36r1 ask_0_0 ask_0_1 ask_0_2 ask_0_3 ask_1 q13 q14 q15 q16 v0 v1 y0_2), (z36r2 v0 v1), (z36r3 ask_0_0 ask_0_1 ask_0_2 ask_0_3 ask_1 q13 q14 q15 q16), (z36r4 y0_2), (y0_2) = false]) (by kernel_rfl) ⟨h1, growth_grower_leading_3_fc fu (W (v0 + (W ((W (v1 - v0)).tdiv 2)))) ask_0_0 ask_0_1 ask_0_2 ask_0_3 ask_1 q13 q14 q15 q16 y0_2 h2, z36p5 v0 v1, z36p6 ask_0_0 ask_0_1 ask_0_2 ask_0_3 ask_1 q13 q14 q15 q16, selfB_self 9 _ rfl _, h3, trivial⟩ 100 (by kernel_rfl) ?_ nx
            exact ⟨PinL.lit (by kernel_rfl), PinL.lit (by kernel_rfl), PinL.lit (by kernel_rfl), PinL.lit (by kernel_rfl), PinL.pf (encL_pf cInt_pf _), PinL.pf (encL_pf cInt_pf _), PinL.pf (encL_pf cXRung_pf _), PinL.pf (encL_pf cXSpan_pf _), PinL.lit (by kernel_rfl), PinL.lit (by kernel_rfl), PinL.lit (by kernel_rfl), PinL.lit (by kernel_rfl), trivial⟩
      · skip
        have e : growth_first_1_L fu low high ask_0_0 ask_0_1 ask_0_2 ask_0_3 ask_1 (fk + 1) v0 v1 = some v0 := by rw [growth_first_1_L_s0]; rw [h1, cond_false]; first | done | rfl
        rw [e] at hh
        have hr := Option.some.inj hh
        rw [← hr]
        exact FSat.done pfT (fuel := 14) (hs := [hE, hE, hF, hE, hE]) (ss := [.go]) (R := [(decide (v0 ≤ v1)) = false]) (by kernel_rfl) ⟨h1, trivial⟩ (by kernel_rfl)
theorem growth_first_1_fc (fu : Nat) (low : Int) (high : Int) (ask_0_0 : XBox) (ask_0_1 : Int) (ask_0_2 : Xgrower) (ask_0_3 : XSeason) (ask_1 : XSpan) (q13 q14 q15 q16 : Nat) (r : Int) (hh : growth_first_1 fu low high ask_0_0 ask_0_1 ask_0_2 ask_0_3 ask_1 = some r) : FC P GG 125 (A_growth_first_1 low high) (K_growth_first_1 ask_0_0 ask_0_1 ask_0_2 ask_0_3 ask_1 q13 q14 q15 q16) (I (r)) := by
  refine FC.of_fsat 25 100 Tryd.func125 (by kernel_rfl) (by kernel_rfl) (by kernel_rfl) ⟨PinL.lit (by kernel_rfl), PinL.lit (by kernel_rfl), PinL.pf (encL_pf cInt_pf _), PinL.pf (encL_pf cInt_pf _), PinL.pf (encL_pf cXRung_pf _), PinL.pf (encL_pf cXSpan_pf _), PinL.lit (by kernel_rfl), PinL.lit (by kernel_rfl), PinL.lit (by kernel_rfl), PinL.lit (by kernel_rfl), PinL.lit (by kernel_rfl), trivial⟩ ?_
  have e : growth_first_1 fu low high ask_0_0 ask_0_1 ask_0_2 ask_0_3 ask_1 = growth_first_1_L fu low high ask_0_0 ask_0_1 ask_0_2 ask_0_3 ask_1 fu low high := by unfold growth_first_1; rfl
  rw [e] at hh
  have nx := growth_first_1_L_fs fu low high ask_0_0 ask_0_1 ask_0_2 ask_0_3 ask_1 q13 q14 q15 q16 fu low high r hh
  refine FSat.stop pfT (fuel := 11) (hs := [hE]) (ss := [.st [0, 1, 2, 6] [0, 10, 11, 12, 13, 14, 15, 16, 17, 18, 19, 20]]) (R := []) (by kernel_rfl) trivial 100 (by kernel_rfl) ?_ nx
  exact ⟨PinL.lit (by kernel_rfl), PinL.lit (by kernel_rfl), PinL.lit (by kernel_rfl), PinL.lit (by kernel_rfl), PinL.pf (encL_pf cInt_pf _), PinL.pf (encL_pf cInt_pf _), PinL.pf (encL_pf cXRung_pf _), PinL.pf (encL_pf cXSpan_pf _), PinL.lit (by kernel_rfl), PinL.lit (by kernel_rfl), PinL.lit (by kernel_rfl), PinL.lit (by kernel_rfl), trivial⟩

/- (greenhew/growth.grower).leading -/
noncomputable abbrev z32i0 (b : XBox) (k : Int) : Hint := (hC (.agg #[I ((growth_spanOf b k).Low), I ((growth_spanOf b k).High)]))
noncomputable abbrev z32i1 (after : XBox) (k : Int) : Hint := (hC (.agg #[I ((growth_spanOf after k).Low), I ((growth_spanOf after k).High)]))
noncomputable abbrev z32i2 (g : Xgrower) (b : XBox) (q : XSeason) (after : XBox) (k : Int) (q11 : Nat) (q12 : Nat) (q13 : Nat) (q14 : Nat) (x1 : Int) : Hint := (hM (I (x1)) (I (x1)) (A_growth_first ((growth_spanOf b k).Low) ((growth_spanOf b k).High)) (K_growth_first b k g q (growth_spanOf after k) q11 q12 q13 q14) [(10, 101, 0), (11, 104, 0), (13, 11, 0), (14, 12, 0), (15, 13, 0), (16, 14, 0), (12, 10, 0), (17, 100, 0), (18, 102, 0), (19, 108, 0), (20, 107, 0)])
noncomputable abbrev z32i3 (g : Xgrower) (b : XBox) (q : XSeason) (after : XBox) (k : Int) (q11 : Nat) (q12 : Nat) (q13 : Nat) (q14 : Nat) (x2 : Int) : Hint := (hM (I (x2)) (I (x2)) (A_growth_first_1 ((growth_spanOf b k).Low) ((growth_spanOf b k).High)) (K_growth_first_1 b k g q (growth_spanOf after k) q11 q12 q13 q14) [(10, 101, 0), (11, 104, 0), (13, 11, 0), (14, 12, 0), (15, 13, 0), (16, 14, 0), (12, 10, 0), (17, 100, 0), (18, 102, 0), (19, 108, 0), (20, 107, 0)])
abbrev z32r4 (b : XBox) (k : Int) : Prop := FC P GG 104 (A_growth_spanOf b k) [] (.agg #[I ((growth_spanOf b k).Low), I ((growth_spanOf b k).High)])
abbrev z32r5 (after : XBox) (k : Int) : Prop := FC P GG 104 (A_growth_spanOf after k) [] (.agg #[I ((growth_spanOf after k).Low), I ((growth_spanOf after k).High)])
abbrev z32r6 (b : XBox) : Prop := (.agg #[I (b.Low.Age), I (b.Low.Shoots), I (b.Low.Height), I (b.Low.Girth), I (b.High.Age), I (b.High.Shoots), I (b.High.Height), I (b.High.Girth)] : Value) = .agg #[I (b.Low.Age), I (b.Low.Shoots), I (b.Low.Height), I (b.Low.Girth), I (b.High.Age), I (b.High.Shoots), I (b.High.Height), I (b.High.Girth)]
abbrev z32r7 (b : XBox) (k : Int) : Prop := (.agg #[I ((growth_spanOf b k).Low), I ((growth_spanOf b k).High)] : Value) = .agg #[I ((growth_spanOf b k).Low), I ((growth_spanOf b k).High)]
abbrev z32r8 (after : XBox) : Prop := (.agg #[I (after.Low.Age), I (after.Low.Shoots), I (after.Low.Height), I (after.Low.Girth), I (after.High.Age), I (after.High.Shoots), I (after.High.Height), I (after.High.Girth)] : Value) = .agg #[I (after.Low.Age), I (after.Low.Shoots), I (after.Low.Height), I (after.Low.Girth), I (after.High.Age), I (after.High.Shoots), I (after.High.Height), I (after.High.Girth)]
abbrev z32r9 (after : XBox) (k : Int) : Prop := (.agg #[I ((growth_spanOf after k).Low), I ((growth_spanOf after k).High)] : Value) = .agg #[I ((growth_spanOf after k).Low), I ((growth_spanOf after k).High)]
abbrev z32r10 (g : Xgrower) (b : XBox) (q : XSeason) (after : XBox) (k : Int) (q11 : Nat) (q12 : Nat) (q13 : Nat) (q14 : Nat) (x1 : Int) : Prop := FC P GG 125 (A_growth_first ((growth_spanOf b k).Low) ((growth_spanOf b k).High)) (K_growth_first b k g q (growth_spanOf after k) q11 q12 q13 q14) (I (x1))
abbrev z32r11 (b : XBox) (k : Int) : Prop := VRs (Ren.emb [(10, 101, 0), (11, 104, 0), (13, 11, 0), (14, 12, 0), (15, 13, 0), (16, 14, 0), (12, 10, 0), (17, 100, 0), (18, 102, 0), (19, 108, 0), (20, 107, 0)]) (A_growth_first ((growth_spanOf b k).Low) ((growth_spanOf b k).High)) [I ((growth_spanOf b k).Low), I ((growth_spanOf b k).High), .func (.func 126) #[] #[.pointer (some ⟨108, 0, none⟩), .pointer (some ⟨107, 0, none⟩)]]
abbrev z32r12 (g : Xgrower) (b : XBox) (q : XSeason) (after : XBox) (k : Int) (q11 : Nat) (q12 : Nat) (q13 : Nat) (q14 : Nat) : Prop := MemAt (Ren.emb [(10, 101, 0), (11, 104, 0), (13, 11, 0), (14, 12, 0), (15, 13, 0), (16, 14, 0), (12, 10, 0), (17, 100, 0), (18, 102, 0), (19, 108, 0), (20, 107, 0)]) [I (b.Low.Age), I (b.Low.Shoots), I (b.Low.Height), I (b.Low.Girth), I (b.High.Age), I (b.High.Shoots), I (b.High.Height), I (b.High.Girth)] 0 [I (b.Low.Age), I (b.Low.Shoots), I (b.Low.Height), I (b.Low.Girth), I (b.High.Age), I (b.High.Shoots), I (b.High.Height), I (b.High.Girth)] ∧ MemAt (Ren.emb [(10, 101, 0), (11, 104, 0), (13, 11, 0), (14, 12, 0), (15, 13, 0), (16, 14, 0), (12, 10, 0), (17, 100, 0), (18, 102, 0), (19, 108, 0), (20, 107, 0)]) [I (k)] 0 [I (k)] ∧ MemAt (Ren.emb [(10, 101, 0), (11, 104, 0), (13, 11, 0), (14, 12, 0), (15, 13, 0), (16, 14, 0), (12, 10, 0), (17, 100, 0), (18, 102, 0), (19, 108, 0), (20, 107, 0)]) (encL cInt g.Species.Rise) 0 (encL cInt g.Species.Rise) ∧ MemAt (Ren.emb [(10, 101, 0), (11, 104, 0), (13, 11, 0), (14, 12, 0), (15, 13, 0), (16, 14, 0), (12, 10, 0), (17, 100, 0), (18, 102, 0), (19, 108, 0), (20, 107, 0)]) (encL cInt g.Species.Thick) 0 (encL cInt g.Species.Thick) ∧ MemAt (Ren.emb [(10, 101, 0), (11, 104, 0), (13, 11, 0), (14, 12, 0), (15, 13, 0), (16, 14, 0), (12, 10, 0), (17, 100, 0), (18, 102, 0), (19, 108, 0), (20, 107, 0)]) (encL cXRung g.Species.Ladder) 0 (encL cXRung g.Species.Ladder) ∧ MemAt (Ren.emb [(10, 101, 0), (11, 104, 0), (13, 11, 0), (14, 12, 0), (15, 13, 0), (16, 14, 0), (12, 10, 0), (17, 100, 0), (18, 102, 0), (19, 108, 0), (20, 107, 0)]) (encL cXSpan g.Species.Sprouts) 0 (encL cXSpan g.Species.Sprouts) ∧ MemAt (Ren.emb [(10, 101, 0), (11, 104, 0), (13, 11, 0), (14, 12, 0), (15, 13, 0), (16, 14, 0), (12, 10, 0), (17, 100, 0), (18, 102, 0), (19, 108, 0), (20, 107, 0)]) [.slice (some ⟨13, 0, none⟩) (g.Species.Rise.length) (q11), .slice (some ⟨14, 0, none⟩) (g.Species.Thick.length) (q12), I (g.Species.Top), I (g.Species.Stout), I (g.Species.Shade), I (g.Species.Reach), .slice (some ⟨15, 0, none⟩) (g.Species.Ladder.length) (q13), .slice (some ⟨16, 0, none⟩) (g.Species.Sprouts.length) (q14)] 0 [.slice (some ⟨11, 0, none⟩) (g.Species.Rise.length) (q11), .slice (some ⟨12, 0, none⟩) (g.Species.Thick.length) (q12), I (g.Species.Top), I (g.Species.Stout), I (g.Species.Shade), I (g.Species.Reach), .slice (some ⟨13, 0, none⟩) (g.Species.Ladder.length) (q13), .slice (some ⟨14, 0, none⟩) (g.Species.Sprouts.length) (q14)] ∧ MemAt (Ren.emb [(10, 101, 0), (11, 104, 0), (13, 11, 0), (14, 12, 0), (15, 13, 0), (16, 14, 0), (12, 10, 0), (17, 100, 0), (18, 102, 0), (19, 108, 0), (20, 107, 0)]) [.pointer (some ⟨12, 0, none⟩)] 0 [.pointer (some ⟨10, 0, none⟩)] ∧ MemAt (Ren.emb [(10, 101, 0), (11, 104, 0), (13, 11, 0), (14, 12, 0), (15, 13, 0), (16, 14, 0), (12, 10, 0), (17, 100, 0), (18, 102, 0), (19, 108, 0), (20, 107, 0)]) [I (q.Light.Low), I (q.Light.High), I (q.Browse.Low), I (q.Browse.High), I (q.Mild.Low), I (q.Mild.High), .bool (q.Cut)] 0 [I (q.Light.Low), I (q.Light.High), I (q.Browse.Low), I (q.Browse.High), I (q.Mild.Low), I (q.Mild.High), .bool (q.Cut)] ∧ MemAt (Ren.emb [(10, 101, 0), (11, 104, 0), (13, 11, 0), (14, 12, 0), (15, 13, 0), (16, 14, 0), (12, 10, 0), (17, 100, 0), (18, 102, 0), (19, 108, 0), (20, 107, 0)]) [.func (.func 124) #[] #[.pointer (some ⟨10, 0, none⟩), .pointer (some ⟨11, 0, none⟩), .pointer (some ⟨17, 0, none⟩), .pointer (some ⟨18, 0, none⟩)]] 0 [.func (.func 124) #[] #[.pointer (some ⟨101, 0, none⟩), .pointer (some ⟨104, 0, none⟩), .pointer (some ⟨100, 0, none⟩), .pointer (some ⟨102, 0, none⟩)]] ∧ MemAt (Ren.emb [(10, 101, 0), (11, 104, 0), (13, 11, 0), (14, 12, 0), (15, 13, 0), (16, 14, 0), (12, 10, 0), (17, 100, 0), (18, 102, 0), (19, 108, 0), (20, 107, 0)]) [I ((growth_spanOf after k).Low), I ((growth_spanOf after k).High)] 0 [I ((growth_spanOf after k).Low), I ((growth_spanOf after k).High)] ∧ True
abbrev z32r13 (x1 : Int) : Prop := VR (Ren.emb [(10, 101, 0), (11, 104, 0), (13, 11, 0), (14, 12, 0), (15, 13, 0), (16, 14, 0), (12, 10, 0), (17, 100, 0), (18, 102, 0), (19, 108, 0), (20, 107, 0)]) (I (x1)) (I (x1))
abbrev z32r14 (g : Xgrower) (b : XBox) (q : XSeason) (after : XBox) (k : Int) (q11 : Nat) (q12 : Nat) (q13 : Nat) (q14 : Nat) (x2 : Int) : Prop := FC P GG 125 (A_growth_first_1 ((growth_spanOf b k).Low) ((growth_spanOf b k).High)) (K_growth_first_1 b k g q (growth_spanOf after k) q11 q12 q13 q14) (I (x2))
abbrev z32r15 (b : XBox) (k : Int) : Prop := VRs (Ren.emb [(10, 101, 0), (11, 104, 0), (13, 11, 0), (14, 12, 0), (15, 13, 0), (16, 14, 0), (12, 10, 0), (17, 100, 0), (18, 102, 0), (19, 108, 0), (20, 107, 0)]) (A_growth_first_1 ((growth_spanOf b k).Low) ((growth_spanOf b k).High)) [I ((growth_spanOf b k).Low), I ((growth_spanOf b k).High), .func (.func 127) #[] #[.pointer (some ⟨108, 0, none⟩), .pointer (some ⟨107, 0, none⟩)]]
abbrev z32r16 (x2 : Int) : Prop := VR (Ren.emb [(10, 101, 0), (11, 104, 0), (13, 11, 0), (14, 12, 0), (15, 13, 0), (16, 14, 0), (12, 10, 0), (17, 100, 0), (18, 102, 0), (19, 108, 0), (20, 107, 0)]) (I (x2)) (I (x2))
theorem z32p17 (b : XBox) (k : Int) : (z32r11 b k) := (.cons _ _ _ _ (VR.of_pf rfl) (.cons _ _ _ _ (VR.of_pf rfl) (.cons _ _ _ _ (.func _ _ _ _ _ (fun _ h => by cases h) .nil (.cons _ _ _ _ (.ptr 19 0 ⟨108, 0, 0, 0⟩ rfl) (.cons _ _ _ _ (.ptr 20 0 ⟨107, 0, 0, 0⟩ rfl) .nil))) .nil)))
theorem z32p18 (g : Xgrower) (b : XBox) (q : XSeason) (after : XBox) (k : Int) (q11 : Nat) (q12 : Nat) (q13 : Nat) (q14 : Nat) : (z32r12 g b q after k q11 q12 q13 q14) := ⟨MemAt.of (.cons _ _ _ _ (VR.of_pf rfl) (.cons _ _ _ _ (VR.of_pf rfl) (.cons _ _ _ _ (VR.of_pf rfl) (.cons _ _ _ _ (VR.of_pf rfl) (.cons _ _ _ _ (VR.of_pf rfl) (.cons _ _ _ _ (VR.of_pf rfl) (.cons _ _ _ _ (VR.of_pf rfl) (.cons _ _ _ _ (VR.of_pf rfl) .nil)))))))), MemAt.of (.cons _ _ _ _ (VR.of_pf rfl) .nil), MemAt.same _ (encL_pf cInt_pf _), MemAt.same _ (encL_pf cInt_pf _), MemAt.same _ (encL_pf cXRung_pf _), MemAt.same _ (encL_pf cXSpan_pf _), MemAt.of (.cons _ _ _ _ (.slc 13 0 _ _ _ ⟨11, 0, 0, 0⟩ rfl (.inl rfl)) (.cons _ _ _ _ (.slc 14 0 _ _ _ ⟨12, 0, 0, 0⟩ rfl (.inl rfl)) (.cons _ _ _ _ (VR.of_pf rfl) (.cons _ _ _ _ (VR.of_pf rfl) (.cons _ _ _ _ (VR.of_pf rfl) (.cons _ _ _ _ (VR.of_pf rfl) (.cons _ _ _ _ (.slc 15 0 _ _ _ ⟨13, 0, 0, 0⟩ rfl (.inl rfl)) (.cons _ _ _ _ (.slc 16 0 _ _ _ ⟨14, 0, 0, 0⟩ rfl (.inl rfl)) .nil)))))))), MemAt.of (.cons _ _ _ _ (.ptr 12 0 ⟨10, 0, 0, 0⟩ rfl) .nil), MemAt.of (.cons _ _ _ _ (VR.of_pf rfl) (.cons _ _ _ _ (VR.of_pf rfl) (.cons _ _ _ _ (VR.of_pf rfl) (.cons _ _ _ _ (VR.of_pf rfl) (.cons _ _ _ _ (VR.of_pf rfl) (.cons _ _ _ _ (VR.of_pf rfl) (.cons _ _ _ _ (VR.of_pf rfl) .nil))))))), MemAt.of (.cons _ _ _ _ (.func _ _ _ _ _ (fun _ h => by cases h) .nil (.cons _ _ _ _ (.ptr 10 0 ⟨101, 0, 0, 0⟩ rfl) (.cons _ _ _ _ (.ptr 11 0 ⟨104, 0, 0, 0⟩ rfl) (.cons _ _ _ _ (.ptr 17 0 ⟨100, 0, 0, 0⟩ rfl) (.cons _ _ _ _ (.ptr 18 0 ⟨102, 0, 0, 0⟩ rfl) .nil))))) .nil), MemAt.of (.cons _ _ _ _ (VR.of_pf rfl) (.cons _ _ _ _ (VR.of_pf rfl) .nil)), trivial⟩
theorem z32p19 (b : XBox) (k : Int) : (z32r15 b k) := (.cons _ _ _ _ (VR.of_pf rfl) (.cons _ _ _ _ (VR.of_pf rfl) (.cons _ _ _ _ (.func _ _ _ _ _ (fun _ h => by cases h) .nil (.cons _ _ _ _ (.ptr 19 0 ⟨108, 0, 0, 0⟩ rfl) (.cons _ _ _ _ (.ptr 20 0 ⟨107, 0, 0, 0⟩ rfl) .nil))) .nil)))
abbrev A_growth_grower_leading (b : XBox) (q : XSeason) (after : XBox) (k : Int) : List Value := [.pointer (some ⟨10, 0, none⟩), .agg #[I (b.Low.Age), I (b.Low.Shoots), I (b.Low.Height), I (b.Low.Girth), I (b.High.Age), I (b.High.Shoots), I (b.High.Height), I (b.High.Girth)], .agg #[I (q.Light.Low), I (q.Light.High), I (q.Browse.Low), I (q.Browse.High), I (q.Mild.Low), I (q.Mild.High), .bool (q.Cut)], .agg #[I (after.Low.Age), I (after.Low.Shoots), I (after.Low.Height), I (after.Low.Girth), I (after.High.Age), I (after.High.Shoots), I (after.High.Height), I (after.High.Girth)], I (k)]
abbrev K_growth_grower_leading (g : Xgrower) (q11 : Nat) (q12 : Nat) (q13 : Nat) (q14 : Nat) : List (Nat × List Value) := [(11, encL cInt g.Species.Rise), (12, encL cInt g.Species.Thick), (13, encL cXRung g.Species.Ladder), (14, encL cXSpan g.Species.Sprouts), (10, [.slice (some ⟨11, 0, none⟩) (g.Species.Rise.length) (q11), .slice (some ⟨12, 0, none⟩) (g.Species.Thick.length) (q12), I (g.Species.Top), I (g.Species.Stout), I (g.Species.Shade), I (g.Species.Reach), .slice (some ⟨13, 0, none⟩) (g.Species.Ladder.length) (q13), .slice (some ⟨14, 0, none⟩) (g.Species.Sprouts.length) (q14)])]
noncomputable def growth_grower_leading (fu : Nat) (g : Xgrower) (b : XBox) (q : XSeason) (after : XBox) (k : Int) : Option XSpan :=
  Option.bind (growth_first fu ((growth_spanOf b k).Low) ((growth_spanOf b k).High) b k g q (growth_spanOf after k)) fun x1 =>
  Option.bind (growth_first_1 fu ((growth_spanOf b k).Low) ((growth_spanOf b k).High) b k g q (growth_spanOf after k)) fun x2 =>
  some (⟨x1, W (x2 - 1)⟩ : XSpan)
theorem growth_grower_leading_fc (fu : Nat) (g : Xgrower) (b : XBox) (q : XSeason) (after : XBox) (k : Int) (q11 q12 q13 q14 : Nat) (r : XSpan) (hh : growth_grower_leading fu g b q after k = some r) : FC P GG 112 (A_growth_grower_leading b q after k) (K_growth_grower_leading g q11 q12 q13 q14) (.agg #[I (r.Low), I (r.High)]) := by
  refine FC.of_fsat 39 100 Tryd.func112 (by kernel_rfl) (by kernel_rfl) (by kernel_rfl) ⟨PinL.pf (encL_pf cInt_pf _), PinL.pf (encL_pf cInt_pf _), PinL.pf (encL_pf cXRung_pf _), PinL.pf (encL_pf cXSpan_pf _), PinL.lit (by kernel_rfl), trivial⟩ ?_
  cases h1 : growth_first fu ((growth_spanOf b k).Low) ((growth_spanOf b k).High) b k g q (growth_spanOf after k) with
  | none =>
    have e : growth_grower_leading fu g b q after k = none := by unfold growth_grower_leading; rw [h1, Option.bind_none]; first | done | rfl
    rw [e] at hh; cases hh
  | some x1 =>
    cases h2 : growth_first_1 fu ((growth_spanOf b k).Low) ((growth_spanOf b k).High) b k g q (growth_spanOf after k) with
    | none =>
      have e : growth_grower_leading fu g b q after k = none := by unfold growth_grower_leading; rw [h1, Option.bind_some, h2, Option.bind_none]; first | done | rfl
      rw [e] at hh; cases hh
    | some x2 =>
      have e : growth_grower_leading fu g b q after k = some (⟨x1, W (x2 - 1)⟩ : XSpan) := by unfold growth_grower_leading; rw [h1, Option.bind_some, h2, Option.bind_some]; first | done | rfl
      rw [e] at hh
      have hr := Option.some.inj hh
      rw [← hr]
      exact FSat.done pfT (fuel := 18) (hs := (hR 6 (hZS :: hE :: hE :: (z32i0 b k) :: hE :: hE :: (z32i1 after k) :: (hZ (.pointer (some ⟨106, 0, none⟩))) :: (hZ (.pointer (some ⟨107, 0, none⟩))) :: (hR 10 ((z32i2 g b q after k q11 q12 q13 q14 x1) :: (hR 6 ((z32i3 g b q after k q11 q12 q13 q14 x2) :: (hR 6 [])))))))) (ss := []) (R := [(z32r4 b k), (z32r5 after k), (z32r6 b), (I (k) : Value) = I (k), (z32r4 b k), (z32r7 b k), (z32r8 after), (I (k) : Value) = I (k), (z32r5 after k), (z32r9 after k), (z32r10 g b q after k q11 q12 q13 q14 x1), (z32r11 b k), (z32r12 g b q after k q11 q12 q13 q14), (z32r13 x1), (z32r14 g b q after k q11 q12 q13 q14 x2), (z32r15 b k), (z32r12 g b q after k q11 q12 q13 q14), (z32r16 x2)]) (by kernel_rfl) ⟨growth_spanOf_fc b k, growth_spanOf_fc after k, rfl, rfl, growth_spanOf_fc b k, rfl, rfl, rfl, growth_spanOf_fc after k, rfl, growth_first_fc fu ((growth_spanOf b k).Low) ((growth_spanOf b k).High) b k g q (growth_spanOf after k) q11 q12 q13 q14 x1 h1, z32p17 b k, z32p18 g b q after k q11 q12 q13 q14, selfB_self 9 _ rfl _, growth_first_1_fc fu ((growth_spanOf b k).Low) ((growth_spanOf b k).High) b k g q (growth_spanOf after k) q11 q12 q13 q14 x2 h2, z32p19 b k, z32p18 g b q after k q11 q12 q13 q14, selfB_self 9 _ rfl _, trivial⟩ (by kernel_rfl)

/- (greenhew/growth.grower).back -/
noncomputable abbrev z17i0 (g : Xgrower) (b : XBox) (q : XSeason) (q11 : Nat) (q12 : Nat) (q13 : Nat) (q14 : Nat) (x1 : XBox) : Hint := (hM (.agg #[I (x1.Low.Age), I (x1.Low.Shoots), I (x1.Low.Height), I (x1.Low.Girth), I (x1.High.Age), I (x1.High.Shoots), I (x1.High.Height), I (x1.High.Girth)]) (.agg #[I (x1.Low.Age), I (x1.Low.Shoots), I (x1.Low.Height), I (x1.Low.Girth), I (x1.High.Age), I (x1.High.Shoots), I (x1.High.Height), I (x1.High.Girth)]) (A_growth_grower_step b q) (K_growth_grower_step g q11 q12 q13 q14) [(11, 11, 0), (12, 12, 0), (13, 13, 0), (14, 14, 0), (10, 10, 0)])
noncomputable abbrev z17i1 (after : XBox) (x1 : XBox) : Hint := (hC (.tuple #[.agg #[I ((((growth_common x1 after).1).Low).Age), I ((((growth_common x1 after).1).Low).Shoots), I ((((growth_common x1 after).1).Low).Height), I ((((growth_common x1 after).1).Low).Girth), I ((((growth_common x1 after).1).High).Age), I ((((growth_common x1 after).1).High).Shoots), I ((((growth_common x1 after).1).High).Height), I ((((growth_common x1 after).1).High).Girth)], .bool ((growth_common x1 after).2)]))
abbrev z17r2 (g : Xgrower) (b : XBox) (q : XSeason) (q11 : Nat) (q12 : Nat) (q13 : Nat) (q14 : Nat) (x1 : XBox) : Prop := FC P GG 73 (A_growth_grower_step b q) (K_growth_grower_step g q11 q12 q13 q14) (.agg #[I (x1.Low.Age), I (x1.Low.Shoots), I (x1.Low.Height), I (x1.Low.Girth), I (x1.High.Age), I (x1.High.Shoots), I (x1.High.Height), I (x1.High.Girth)])
abbrev z17r3 (b : XBox) (q : XSeason) : Prop := VRs (Ren.emb [(11, 11, 0), (12, 12, 0), (13, 13, 0), (14, 14, 0), (10, 10, 0)]) (A_growth_grower_step b q) [.pointer (some ⟨10, 0, none⟩), .agg #[I (b.Low.Age), I (b.Low.Shoots), I (b.Low.Height), I (b.Low.Girth), I (b.High.Age), I (b.High.Shoots), I (b.High.Height), I (b.High.Girth)], .agg #[I (q.Light.Low), I (q.Light.High), I (q.Browse.Low), I (q.Browse.High), I (q.Mild.Low), I (q.Mild.High), .bool (q.Cut)]]
abbrev z17r4 (g : Xgrower) (q11 : Nat) (q12 : Nat) (q13 : Nat) (q14 : Nat) : Prop := MemAt (Ren.emb [(11, 11, 0), (12, 12, 0), (13, 13, 0), (14, 14, 0), (10, 10, 0)]) (encL cInt g.Species.Rise) 0 (encL cInt g.Species.Rise) ∧ MemAt (Ren.emb [(11, 11, 0), (12, 12, 0), (13, 13, 0), (14, 14, 0), (10, 10, 0)]) (encL cInt g.Species.Thick) 0 (encL cInt g.Species.Thick) ∧ MemAt (Ren.emb [(11, 11, 0), (12, 12, 0), (13, 13, 0), (14, 14, 0), (10, 10, 0)]) (encL cXRung g.Species.Ladder) 0 (encL cXRung g.Species.Ladder) ∧ MemAt (Ren.emb [(11, 11, 0), (12, 12, 0), (13, 13, 0), (14, 14, 0), (10, 10, 0)]) (encL cXSpan g.Species.Sprouts) 0 (encL cXSpan g.Species.Sprouts) ∧ MemAt (Ren.emb [(11, 11, 0), (12, 12, 0), (13, 13, 0), (14, 14, 0), (10, 10, 0)]) [.slice (some ⟨11, 0, none⟩) (g.Species.Rise.length) (q11), .slice (some ⟨12, 0, none⟩) (g.Species.Thick.length) (q12), I (g.Species.Top), I (g.Species.Stout), I (g.Species.Shade), I (g.Species.Reach), .slice (some ⟨13, 0, none⟩) (g.Species.Ladder.length) (q13), .slice (some ⟨14, 0, none⟩) (g.Species.Sprouts.length) (q14)] 0 [.slice (some ⟨11, 0, none⟩) (g.Species.Rise.length) (q11), .slice (some ⟨12, 0, none⟩) (g.Species.Thick.length) (q12), I (g.Species.Top), I (g.Species.Stout), I (g.Species.Shade), I (g.Species.Reach), .slice (some ⟨13, 0, none⟩) (g.Species.Ladder.length) (q13), .slice (some ⟨14, 0, none⟩) (g.Species.Sprouts.length) (q14)] ∧ True
abbrev z17r5 (x1 : XBox) : Prop := VR (Ren.emb [(11, 11, 0), (12, 12, 0), (13, 13, 0), (14, 14, 0), (10, 10, 0)]) (.agg #[I (x1.Low.Age), I (x1.Low.Shoots), I (x1.Low.Height), I (x1.Low.Girth), I (x1.High.Age), I (x1.High.Shoots), I (x1.High.Height), I (x1.High.Girth)]) (.agg #[I (x1.Low.Age), I (x1.Low.Shoots), I (x1.Low.Height), I (x1.Low.Girth), I (x1.High.Age), I (x1.High.Shoots), I (x1.High.Height), I (x1.High.Girth)])
abbrev z17r6 (after : XBox) (x1 : XBox) : Prop := FC P GG 69 (A_growth_common x1 after) [] (.tuple #[.agg #[I ((((growth_common x1 after).1).Low).Age), I ((((growth_common x1 after).1).Low).Shoots), I ((((growth_common x1 after).1).Low).Height), I ((((growth_common x1 after).1).Low).Girth), I ((((growth_common x1 after).1).High).Age), I ((((growth_common x1 after).1).High).Shoots), I ((((growth_common x1 after).1).High).Height), I ((((growth_common x1 after).1).High).Girth)], .bool ((growth_common x1 after).2)])
theorem z17p7 (b : XBox) (q : XSeason) : (z17r3 b q) := (.cons _ _ _ _ (.ptr 10 0 ⟨10, 0, 0, 0⟩ rfl) (.cons _ _ _ _ (VR.of_pf rfl) (.cons _ _ _ _ (VR.of_pf rfl) .nil)))
theorem z17p8 (g : Xgrower) (q11 : Nat) (q12 : Nat) (q13 : Nat) (q14 : Nat) : (z17r4 g q11 q12 q13 q14) := ⟨MemAt.same _ (encL_pf cInt_pf _), MemAt.same _ (encL_pf cInt_pf _), MemAt.same _ (encL_pf cXRung_pf _), MemAt.same _ (encL_pf cXSpan_pf _), MemAt.of (.cons _ _ _ _ (.slc 11 0 _ _ _ ⟨11, 0, 0, 0⟩ rfl (.inl rfl)) (.cons _ _ _ _ (.slc 12 0 _ _ _ ⟨12, 0, 0, 0⟩ rfl (.inl rfl)) (.cons _ _ _ _ (VR.of_pf rfl) (.cons _ _ _ _ (VR.of_pf rfl) (.cons _ _ _ _ (VR.of_pf rfl) (.cons _ _ _ _ (VR.of_pf rfl) (.cons _ _ _ _ (.slc 13 0 _ _ _ ⟨13, 0, 0, 0⟩ rfl (.inl rfl)) (.cons _ _ _ _ (.slc 14 0 _ _ _ ⟨14, 0, 0, 0⟩ rfl (.inl rfl)) .nil)))))))), trivial⟩
noncomputable abbrev z17i9 (g : Xgrower) (b : XBox) (q : XSeason) (after : XBox) (q11 : Nat) (q12 : Nat) (q13 : Nat) (q14 : Nat) (x4 : XSpan) : Hint := (hM (.agg #[I (x4.Low), I (x4.High)]) (.agg #[I (x4.Low), I (x4.High)]) (A_growth_grower_leading b q after 1) (K_growth_grower_leading g q11 q12 q13 q14) [(11, 11, 0), (12, 12, 0), (13, 13, 0), (14, 14, 0), (10, 10, 0)])
noncomputable abbrev z17i10 (b : XBox) (x4 : XSpan) : Hint := (hC (.tuple #[.agg #[I ((((growth_keep b 1 x4).1).Low).Age), I ((((growth_keep b 1 x4).1).Low).Shoots), I ((((growth_keep b 1 x4).1).Low).Height), I ((((growth_keep b 1 x4).1).Low).Girth), I ((((growth_keep b 1 x4).1).High).Age), I ((((growth_keep b 1 x4).1).High).Shoots), I ((((growth_keep b 1 x4).1).High).Height), I ((((growth_keep b 1 x4).1).High).Girth)], .bool ((growth_keep b 1 x4).2)]))
noncomputable abbrev z17i11 (g : Xgrower) (b : XBox) (q : XSeason) (after : XBox) (q11 : Nat) (q12 : Nat) (q13 : Nat) (q14 : Nat) (x6 : XSpan) : Hint := (hM (.agg #[I (x6.Low), I (x6.High)]) (.agg #[I (x6.Low), I (x6.High)]) (A_growth_grower_leading b q after 2) (K_growth_grower_leading g q11 q12 q13 q14) [(11, 11, 0), (12, 12, 0), (13, 13, 0), (14, 14, 0), (10, 10, 0)])
noncomputable abbrev z17i12 (b : XBox) (x4 : XSpan) (x6 : XSpan) : Hint := (hC (.tuple #[.agg #[I ((((growth_keep (⟨(((growth_keep b 1 x4).1).Low), (((growth_keep b 1 x4).1).High)⟩ : XBox) 2 x6).1).Low).Age), I ((((growth_keep (⟨(((growth_keep b 1 x4).1).Low), (((growth_keep b 1 x4).1).High)⟩ : XBox) 2 x6).1).Low).Shoots), I ((((growth_keep (⟨(((growth_keep b 1 x4).1).Low), (((growth_keep b 1 x4).1).High)⟩ : XBox) 2 x6).1).Low).Height), I ((((growth_keep (⟨(((growth_keep b 1 x4).1).Low), (((growth_keep b 1 x4).1).High)⟩ : XBox) 2 x6).1).Low).Girth), I ((((growth_keep (⟨(((growth_keep b 1 x4).1).Low), (((growth_keep b 1 x4).1).High)⟩ : XBox) 2 x6).1).High).Age), I ((((growth_keep (⟨(((growth_keep b 1 x4).1).Low), (((growth_keep b 1 x4).1).High)⟩ : XBox) 2 x6).1).High).Shoots), I ((((growth_keep (⟨(((growth_keep b 1 x4).1).Low), (((growth_keep b 1 x4).1).High)⟩ : XBox) 2 x6).1).High).Height), I ((((growth_keep (⟨(((growth_keep b 1 x4).1).Low), (((growth_keep b 1 x4).1).High)⟩ : XBox) 2 x6).1).High).Girth)], .bool ((growth_keep (⟨(((growth_keep b 1 x4).1).Low), (((growth_keep b 1 x4).1).High)⟩ : XBox) 2 x6).2)]))
noncomputable abbrev z17i13 (g : Xgrower) (b : XBox) (q : XSeason) (after : XBox) (q11 : Nat) (q12 : Nat) (q13 : Nat) (q14 : Nat) (x8 : XSpan) : Hint := (hM (.agg #[I (x8.Low), I (x8.High)]) (.agg #[I (x8.Low), I (x8.High)]) (A_growth_grower_leading b q after 3) (K_growth_grower_leading g q11 q12 q13 q14) [(11, 11, 0), (12, 12, 0), (13, 13, 0), (14, 14, 0), (10, 10, 0)])
noncomputable abbrev z17i14 (b : XBox) (x4 : XSpan) (x6 : XSpan) (x8 : XSpan) : Hint := (hC (.tuple #[.agg #[I ((((growth_keep (⟨(((growth_keep (⟨(((growth_keep b 1 x4).1).Low), (((growth_keep b 1 x4).1).High)⟩ : XBox) 2 x6).1).Low), (((growth_keep (⟨(((growth_keep b 1 x4).1).Low), (((growth_keep b 1 x4).1).High)⟩ : XBox) 2 x6).1).High)⟩ : XBox) 3 x8).1).Low).Age), I ((((growth_keep (⟨(((growth_keep (⟨(((growth_keep b 1 x4).1).Low), (((growth_keep b 1 x4).1).High)⟩ : XBox) 2 x6).1).Low), (((growth_keep (⟨(((growth_keep b 1 x4).1).Low), (((growth_keep b 1 x4).1).High)⟩ : XBox) 2 x6).1).High)⟩ : XBox) 3 x8).1).Low).Shoots), I ((((growth_keep (⟨(((growth_keep (⟨(((growth_keep b 1 x4).1).Low), (((growth_keep b 1 x4).1).High)⟩ : XBox) 2 x6).1).Low), (((growth_keep (⟨(((growth_keep b 1 x4).1).Low), (((growth_keep b 1 x4).1).High)⟩ : XBox) 2 x6).1).High)⟩ : XBox) 3 x8).1).Low).Height), I ((((growth_keep (⟨(((growth_keep (⟨(((growth_keep b 1 x4).1).Low), (((growth_keep b 1 x4).1).High)⟩ : XBox) 2 x6).1).Low), (((growth_keep (⟨(((growth_keep b 1 x4).1).Low), (((growth_keep b 1 x4).1).High)⟩ : XBox) 2 x6).1).High)⟩ : XBox) 3 x8).1).Low).Girth), I ((((growth_keep (⟨(((growth_keep (⟨(((growth_keep b 1 x4).1).Low), (((growth_keep b 1 x4).1).High)⟩ : XBox) 2 x6).1).Low), (((growth_keep (⟨(((growth_keep b 1 x4).1).Low), (((growth_keep b 1 x4).1).High)⟩ : XBox) 2 x6).1).High)⟩ : XBox) 3 x8).1).High).Age), I ((((growth_keep (⟨(((growth_keep (⟨(((growth_keep b 1 x4).1).Low), (((growth_keep b 1 x4).1).High)⟩ : XBox) 2 x6).1).Low), (((growth_keep (⟨(((growth_keep b 1 x4).1).Low), (((growth_keep b 1 x4).1).High)⟩ : XBox) 2 x6).1).High)⟩ : XBox) 3 x8).1).High).Shoots), I ((((growth_keep (⟨(((growth_keep (⟨(((growth_keep b 1 x4).1).Low), (((growth_keep b 1 x4).1).High)⟩ : XBox) 2 x6).1).Low), (((growth_keep (⟨(((growth_keep b 1 x4).1).Low), (((growth_keep b 1 x4).1).High)⟩ : XBox) 2 x6).1).High)⟩ : XBox) 3 x8).1).High).Height), I ((((growth_keep (⟨(((growth_keep (⟨(((growth_keep b 1 x4).1).Low), (((growth_keep b 1 x4).1).High)⟩ : XBox) 2 x6).1).Low), (((growth_keep (⟨(((growth_keep b 1 x4).1).Low), (((growth_keep b 1 x4).1).High)⟩ : XBox) 2 x6).1).High)⟩ : XBox) 3 x8).1).High).Girth)], .bool ((growth_keep (⟨(((growth_keep (⟨(((growth_keep b 1 x4).1).Low), (((growth_keep b 1 x4).1).High)⟩ : XBox) 2 x6).1).Low), (((growth_keep (⟨(((growth_keep b 1 x4).1).Low), (((growth_keep b 1 x4).1).High)⟩ : XBox) 2 x6).1).High)⟩ : XBox) 3 x8).2)]))
abbrev z17r15 (g : Xgrower) (b : XBox) (q : XSeason) (after : XBox) (q11 : Nat) (q12 : Nat) (q13 : Nat) (q14 : Nat) (x4 : XSpan) : Prop := FC P GG 112 (A_growth_grower_leading b q after 1) (K_growth_grower_leading g q11 q12 q13 q14) (.agg #[I (x4.Low), I (x4.High)])
abbrev z17r16 (b : XBox) (q : XSeason) (after : XBox) : Prop := VRs (Ren.emb [(11, 11, 0), (12, 12, 0), (13, 13, 0), (14, 14, 0), (10, 10, 0)]) (A_growth_grower_leading b q after 1) [.pointer (some ⟨10, 0, none⟩), .agg #[I (b.Low.Age), I (b.Low.Shoots), I (b.Low.Height), I (b.Low.Girth), I (b.High.Age), I (b.High.Shoots), I (b.High.Height), I (b.High.Girth)], .agg #[I (q.Light.Low), I (q.Light.High), I (q.Browse.Low), I (q.Browse.High), I (q.Mild.Low), I (q.Mild.High), .bool (q.Cut)], .agg #[I (after.Low.Age), I (after.Low.Shoots), I (after.Low.Height), I (after.Low.Girth), I (after.High.Age), I (after.High.Shoots), I (after.High.Height), I (after.High.Girth)], I (1)]
abbrev z17r17 (x4 : XSpan) : Prop := VR (Ren.emb [(11, 11, 0), (12, 12, 0), (13, 13, 0), (14, 14, 0), (10, 10, 0)]) (.agg #[I (x4.Low), I (x4.High)]) (.agg #[I (x4.Low), I (x4.High)])
abbrev z17r18 (b : XBox) (x4 : XSpan) : Prop := FC P GG 103 (A_growth_keep b 1 x4) [] (.tuple #[.agg #[I ((((growth_keep b 1 x4).1).Low).Age), I ((((growth_keep b 1 x4).1).Low).Shoots), I ((((growth_keep b 1 x4).1).Low).Height), I ((((growth_keep b 1 x4).1).Low).Girth), I ((((growth_keep b 1 x4).1).High).Age), I ((((growth_keep b 1 x4).1).High).Shoots), I ((((growth_keep b 1 x4).1).High).Height), I ((((growth_keep b 1 x4).1).High).Girth)], .bool ((growth_keep b 1 x4).2)])
abbrev z17r19 (g : Xgrower) (b : XBox) (q : XSeason) (after : XBox) (q11 : Nat) (q12 : Nat) (q13 : Nat) (q14 : Nat) (x6 : XSpan) : Prop := FC P GG 112 (A_growth_grower_leading b q after 2) (K_growth_grower_leading g q11 q12 q13 q14) (.agg #[I (x6.Low), I (x6.High)])
abbrev z17r20 (b : XBox) (q : XSeason) (after : XBox) : Prop := VRs (Ren.emb [(11, 11, 0), (12, 12, 0), (13, 13, 0), (14, 14, 0), (10, 10, 0)]) (A_growth_grower_leading b q after 2) [.pointer (some ⟨10, 0, none⟩), .agg #[I (b.Low.Age), I (b.Low.Shoots), I (b.Low.Height), I (b.Low.Girth), I (b.High.Age), I (b.High.Shoots), I (b.High.Height), I (b.High.Girth)], .agg #[I (q.Light.Low), I (q.Light.High), I (q.Browse.Low), I (q.Browse.High), I (q.Mild.Low), I (q.Mild.High), .bool (q.Cut)], .agg #[I (after.Low.Age), I (after.Low.Shoots), I (after.Low.Height), I (after.Low.Girth), I (after.High.Age), I (after.High.Shoots), I (after.High.Height), I (after.High.Girth)], I (2)]
abbrev z17r21 (x6 : XSpan) : Prop := VR (Ren.emb [(11, 11, 0), (12, 12, 0), (13, 13, 0), (14, 14, 0), (10, 10, 0)]) (.agg #[I (x6.Low), I (x6.High)]) (.agg #[I (x6.Low), I (x6.High)])
abbrev z17r22 (b : XBox) (x4 : XSpan) (x6 : XSpan) : Prop := FC P GG 103 (A_growth_keep (⟨(((growth_keep b 1 x4).1).Low), (((growth_keep b 1 x4).1).High)⟩ : XBox) 2 x6) [] (.tuple #[.agg #[I ((((growth_keep (⟨(((growth_keep b 1 x4).1).Low), (((growth_keep b 1 x4).1).High)⟩ : XBox) 2 x6).1).Low).Age), I ((((growth_keep (⟨(((growth_keep b 1 x4).1).Low), (((growth_keep b 1 x4).1).High)⟩ : XBox) 2 x6).1).Low).Shoots), I ((((growth_keep (⟨(((growth_keep b 1 x4).1).Low), (((growth_keep b 1 x4).1).High)⟩ : XBox) 2 x6).1).Low).Height), I ((((growth_keep (⟨(((growth_keep b 1 x4).1).Low), (((growth_keep b 1 x4).1).High)⟩ : XBox) 2 x6).1).Low).Girth), I ((((growth_keep (⟨(((growth_keep b 1 x4).1).Low), (((growth_keep b 1 x4).1).High)⟩ : XBox) 2 x6).1).High).Age), I ((((growth_keep (⟨(((growth_keep b 1 x4).1).Low), (((growth_keep b 1 x4).1).High)⟩ : XBox) 2 x6).1).High).Shoots), I ((((growth_keep (⟨(((growth_keep b 1 x4).1).Low), (((growth_keep b 1 x4).1).High)⟩ : XBox) 2 x6).1).High).Height), I ((((growth_keep (⟨(((growth_keep b 1 x4).1).Low), (((growth_keep b 1 x4).1).High)⟩ : XBox) 2 x6).1).High).Girth)], .bool ((growth_keep (⟨(((growth_keep b 1 x4).1).Low), (((growth_keep b 1 x4).1).High)⟩ : XBox) 2 x6).2)])
abbrev z17r23 (b : XBox) (x4 : XSpan) (x6 : XSpan) : Prop := ((growth_keep (⟨(((growth_keep b 1 x4).1).Low), (((growth_keep b 1 x4).1).High)⟩ : XBox) 2 x6).2) = true
abbrev z17r24 (g : Xgrower) (b : XBox) (q : XSeason) (after : XBox) (q11 : Nat) (q12 : Nat) (q13 : Nat) (q14 : Nat) (x8 : XSpan) : Prop := FC P GG 112 (A_growth_grower_leading b q after 3) (K_growth_grower_leading g q11 q12 q13 q14) (.agg #[I (x8.Low), I (x8.High)])
abbrev z17r25 (b : XBox) (q : XSeason) (after : XBox) : Prop := VRs (Ren.emb [(11, 11, 0), (12, 12, 0), (13, 13, 0), (14, 14, 0), (10, 10, 0)]) (A_growth_grower_leading b q after 3) [.pointer (some ⟨10, 0, none⟩), .agg #[I (b.Low.Age), I (b.Low.Shoots), I (b.Low.Height), I (b.Low.Girth), I (b.High.Age), I (b.High.Shoots), I (b.High.Height), I (b.High.Girth)], .agg #[I (q.Light.Low), I (q.Light.High), I (q.Browse.Low), I (q.Browse.High), I (q.Mild.Low), I (q.Mild.High), .bool (q.Cut)], .agg #[I (after.Low.Age), I (after.Low.Shoots), I (after.Low.Height), I (after.Low.Girth), I (after.High.Age), I (after.High.Shoots), I (after.High.Height), I (after.High.Girth)], I (3)]
abbrev z17r26 (x8 : XSpan) : Prop := VR (Ren.emb [(11, 11, 0), (12, 12, 0), (13, 13, 0), (14, 14, 0), (10, 10, 0)]) (.agg #[I (x8.Low), I (x8.High)]) (.agg #[I (x8.Low), I (x8.High)])
abbrev z17r27 (b : XBox) (x4 : XSpan) (x6 : XSpan) (x8 : XSpan) : Prop := FC P GG 103 (A_growth_keep (⟨(((growth_keep (⟨(((growth_keep b 1 x4).1).Low), (((growth_keep b 1 x4).1).High)⟩ : XBox) 2 x6).1).Low), (((growth_keep (⟨(((growth_keep b 1 x4).1).Low), (((growth_keep b 1 x4).1).High)⟩ : XBox) 2 x6).1).High)⟩ : XBox) 3 x8) [] (.tuple #[.agg #[I ((((growth_keep (⟨(((growth_keep (⟨(((growth_keep b 1 x4).1).Low), (((growth_keep b 1 x4).1).High)⟩ : XBox) 2 x6).1).Low), (((growth_keep (⟨(((growth_keep b 1 x4).1).Low), (((growth_keep b 1 x4).1).High)⟩ : XBox) 2 x6).1).High)⟩ : XBox) 3 x8).1).Low).Age), I ((((growth_keep (⟨(((growth_keep (⟨(((growth_keep b 1 x4).1).Low), (((growth_keep b 1 x4).1).High)⟩ : XBox) 2 x6).1).Low), (((growth_keep (⟨(((growth_keep b 1 x4).1).Low), (((growth_keep b 1 x4).1).High)⟩ : XBox) 2 x6).1).High)⟩ : XBox) 3 x8).1).Low).Shoots), I ((((growth_keep (⟨(((growth_keep (⟨(((growth_keep b 1 x4).1).Low), (((growth_keep b 1 x4).1).High)⟩ : XBox) 2 x6).1).Low), (((growth_keep (⟨(((growth_keep b 1 x4).1).Low), (((growth_keep b 1 x4).1).High)⟩ : XBox) 2 x6).1).High)⟩ : XBox) 3 x8).1).Low).Height), I ((((growth_keep (⟨(((growth_keep (⟨(((growth_keep b 1 x4).1).Low), (((growth_keep b 1 x4).1).High)⟩ : XBox) 2 x6).1).Low), (((growth_keep (⟨(((growth_keep b 1 x4).1).Low), (((growth_keep b 1 x4).1).High)⟩ : XBox) 2 x6).1).High)⟩ : XBox) 3 x8).1).Low).Girth), I ((((growth_keep (⟨(((growth_keep (⟨(((growth_keep b 1 x4).1).Low), (((growth_keep b 1 x4).1).High)⟩ : XBox) 2 x6).1).Low), (((growth_keep (⟨(((growth_keep b 1 x4).1).Low), (((growth_keep b 1 x4).1).High)⟩ : XBox) 2 x6).1).High)⟩ : XBox) 3 x8).1).High).Age), I ((((growth_keep (⟨(((growth_keep (⟨(((growth_keep b 1 x4).1).Low), (((growth_keep b 1 x4).1).High)⟩ : XBox) 2 x6).1).Low), (((growth_keep (⟨(((growth_keep b 1 x4).1).Low), (((growth_keep b 1 x4).1).High)⟩ : XBox) 2 x6).1).High)⟩ : XBox) 3 x8).1).High).Shoots), I ((((growth_keep (⟨(((growth_keep (⟨(((growth_keep b 1 x4).1).Low), (((growth_keep b 1 x4).1).High)⟩ : XBox) 2 x6).1).Low), (((growth_keep (⟨(((growth_keep b 1 x4).1).Low), (((growth_keep b 1 x4).1).High)⟩ : XBox) 2 x6).1).High)⟩ : XBox) 3 x8).1).High).Height), I ((((growth_keep (⟨(((growth_keep (⟨(((growth_keep b 1 x4).1).Low), (((growth_keep b 1 x4).1).High)⟩ : XBox) 2 x6).1).Low), (((growth_keep (⟨(((growth_keep b 1 x4).1).Low), (((growth_keep b 1 x4).1).High)⟩ : XBox) 2 x6).1).High)⟩ : XBox) 3 x8).1).High).Girth)], .bool ((growth_keep (⟨(((growth_keep (⟨(((growth_keep b 1 x4).1).Low), (((growth_keep b 1 x4).1).High)⟩ : XBox) 2 x6).1).Low), (((growth_keep (⟨(((growth_keep b 1 x4).1).Low), (((growth_keep b 1 x4).1).High)⟩ : XBox) 2 x6).1).High)⟩ : XBox) 3 x8).2)])
abbrev z17r28 (b : XBox) (x4 : XSpan) (x6 : XSpan) (x8 : XSpan) : Prop := ((growth_keep (⟨(((growth_keep (⟨(((growth_keep b 1 x4).1).Low), (((growth_keep b 1 x4).1).High)⟩ : XBox) 2 x6).1).Low), (((growth_keep (⟨(((growth_keep b 1 x4).1).Low), (((growth_keep b 1 x4).1).High)⟩ : XBox) 2 x6).1).High)⟩ : XBox) 3 x8).2) = true
theorem z17p29 (b : XBox) (q : XSeason) (after : XBox) : (z17r16 b q after) := (.cons _ _ _ _ (.ptr 10 0 ⟨10, 0, 0, 0⟩ rfl) (.cons _ _ _ _ (VR.of_pf rfl) (.cons _ _ _ _ (VR.of_pf rfl) (.cons _ _ _ _ (VR.of_pf rfl) (.cons _ _ _ _ (VR.of_pf rfl) .nil)))))
theorem z17p30 (b : XBox) (q : XSeason) (after : XBox) : (z17r20 b q after) := (.cons _ _ _ _ (.ptr 10 0 ⟨10, 0, 0, 0⟩ rfl) (.cons _ _ _ _ (VR.of_pf rfl) (.cons _ _ _ _ (VR.of_pf rfl) (.cons _ _ _ _ (VR.of_pf rfl) (.cons _ _ _ _ (VR.of_pf rfl) .nil)))))
theorem z17p31 (b : XBox) (x4 : XSpan) (x6 : XSpan) : (z17r22 b x4 x6) := growth_keep_fc (⟨(((growth_keep b 1 x4).1).Low), (((growth_keep b 1 x4).1).High)⟩ : XBox) 2 x6
theorem z17p32 (b : XBox) (q : XSeason) (after : XBox) : (z17r25 b q after) := (.cons _ _ _ _ (.ptr 10 0 ⟨10, 0, 0, 0⟩ rfl) (.cons _ _ _ _ (VR.of_pf rfl) (.cons _ _ _ _ (VR.of_pf rfl) (.cons _ _ _ _ (VR.of_pf rfl) (.cons _ _ _ _ (VR.of_pf rfl) .nil)))))
theorem z17p33 (b : XBox) (x4 : XSpan) (x6 : XSpan) (x8 : XSpan) : (z17r27 b x4 x6 x8) := growth_keep_fc (⟨(((growth_keep (⟨(((growth_keep b 1 x4).1).Low), (((growth_keep b 1 x4).1).High)⟩ : XBox) 2 x6).1).Low), (((growth_keep (⟨(((growth_keep b 1 x4).1).Low), (((growth_keep b 1 x4).1).High)⟩ : XBox) 2 x6).1).High)⟩ : XBox) 3 x8
abbrev z17r34 (b : XBox) (x4 : XSpan) (x6 : XSpan) (x8 : XSpan) : Prop := ((growth_keep (⟨(((growth_keep (⟨(((growth_keep b 1 x4).1).Low), (((growth_keep b 1 x4).1).High)⟩ : XBox) 2 x6).1).Low), (((growth_keep (⟨(((growth_keep b 1 x4).1).Low), (((growth_keep b 1 x4).1).High)⟩ : XBox) 2 x6).1).High)⟩ : XBox) 3 x8).2) = false
abbrev z17r35 (b : XBox) (x4 : XSpan) (x6 : XSpan) : Prop := ((growth_keep (⟨(((growth_keep b 1 x4).1).Low), (((growth_keep b 1 x4).1).High)⟩ : XBox) 2 x6).2) = false
abbrev A_growth_grower_back (b : XBox) (q : XSeason) (after : XBox) : List Value := [.pointer (some ⟨10, 0, none⟩), .agg #[I (b.Low.Age), I (b.Low.Shoots), I (b.Low.Height), I (b.Low.Girth), I (b.High.Age), I (b.High.Shoots), I (b.High.Height), I (b.High.Girth)], .agg #[I (q.Light.Low), I (q.Light.High), I (q.Browse.Low), I (q.Browse.High), I (q.Mild.Low), I (q.Mild.High), .bool (q.Cut)], .agg #[I (after.Low.Age), I (after.Low.Shoots), I (after.Low.Height), I (after.Low.Girth), I (after.High.Age), I (after.High.Shoots), I (after.High.Height), I (after.High.Girth)]]
abbrev K_growth_grower_back (g : Xgrower) (q11 : Nat) (q12 : Nat) (q13 : Nat) (q14 : Nat) : List (Nat × List Value) := [(11, encL cInt g.Species.Rise), (12, encL cInt g.Species.Thick), (13, encL cXRung g.Species.Ladder), (14, encL cXSpan g.Species.Sprouts), (10, [.slice (some ⟨11, 0, none⟩) (g.Species.Rise.length) (q11), .slice (some ⟨12, 0, none⟩) (g.Species.Thick.length) (q12), I (g.Species.Top), I (g.Species.Stout), I (g.Species.Shade), I (g.Species.Reach), .slice (some ⟨13, 0, none⟩) (g.Species.Ladder.length) (q13), .slice (some ⟨14, 0, none⟩) (g.Species.Sprouts.length) (q14)])]
noncomputable def growth_grower_back (fu : Nat) (g : Xgrower) (b : XBox) (q : XSeason) (after : XBox) : Option (XBox × Bool) :=
  Option.bind (growth_grower_step fu g b q) fun x1 =>
  bif q.Cut then some (b, (growth_common x1 after).2)
  else (bif x1.Low.Age != after.Low.Age then some ((⟨(⟨0, 0, 0, 0⟩ : XStand), (⟨0, 0, 0, 0⟩ : XStand)⟩ : XBox), false)
    else (Option.bind (growth_grower_leading fu g b q after 1) fun x4 =>
      bif (growth_keep b 1 x4).2 then (Option.bind (growth_grower_leading fu g b q after 2) fun x6 =>
        bif (growth_keep (⟨(((growth_keep b 1 x4).1).Low), (((growth_keep b 1 x4).1).High)⟩ : XBox) 2 x6).2 then (Option.bind (growth_grower_leading fu g b q after 3) fun x8 =>
          bif (growth_keep (⟨(((growth_keep (⟨(((growth_keep b 1 x4).1).Low), (((growth_keep b 1 x4).1).High)⟩ : XBox) 2 x6).1).Low), (((growth_keep (⟨(((growth_keep b 1 x4).1).Low), (((growth_keep b 1 x4).1).High)⟩ : XBox) 2 x6).1).High)⟩ : XBox) 3 x8).2 then some ((⟨(((growth_keep (⟨(((growth_keep (⟨(((growth_keep b 1 x4).1).Low), (((growth_keep b 1 x4).1).High)⟩ : XBox) 2 x6).1).Low), (((growth_keep (⟨(((growth_keep b 1 x4).1).Low), (((growth_keep b 1 x4).1).High)⟩ : XBox) 2 x6).1).High)⟩ : XBox) 3 x8).1).Low), (((growth_keep (⟨(((growth_keep (⟨(((growth_keep b 1 x4).1).Low), (((growth_keep b 1 x4).1).High)⟩ : XBox) 2 x6).1).Low), (((growth_keep (⟨(((growth_keep b 1 x4).1).Low), (((growth_keep b 1 x4).1).High)⟩ : XBox) 2 x6).1).High)⟩ : XBox) 3 x8).1).High)⟩ : XBox), true)
          else some ((⟨(⟨0, 0, 0, 0⟩ : XStand), (⟨0, 0, 0, 0⟩ : XStand)⟩ : XBox), false))
        else some ((⟨(⟨0, 0, 0, 0⟩ : XStand), (⟨0, 0, 0, 0⟩ : XStand)⟩ : XBox), false))
      else some ((⟨(⟨0, 0, 0, 0⟩ : XStand), (⟨0, 0, 0, 0⟩ : XStand)⟩ : XBox), false)))
theorem growth_grower_back_fc (fu : Nat) (g : Xgrower) (b : XBox) (q : XSeason) (after : XBox) (q11 q12 q13 q14 : Nat) (r : XBox × Bool) (hh : growth_grower_back fu g b q after = some r) : FC P GG 83 (A_growth_grower_back b q after) (K_growth_grower_back g q11 q12 q13 q14) (.tuple #[.agg #[I (r.1.Low.Age), I (r.1.Low.Shoots), I (r.1.Low.Height), I (r.1.Low.Girth), I (r.1.High.Age), I (r.1.High.Shoots), I (r.1.High.Height), I (r.1.High.Girth)], .bool (r.2)]) := by
  refine FC.of_fsat 61 100 Tryd.func83 (by kernel_rfl) (by kernel_rfl) (by kernel_rfl) ⟨PinL.pf (encL_pf cInt_pf _), PinL.pf (encL_pf cInt_pf _), PinL.pf (encL_pf cXRung_pf _), PinL.pf (encL_pf cXSpan_pf _), PinL.lit (by kernel_rfl), trivial⟩ ?_
  cases h1 : growth_grower_step fu g b q with
  | none =>
    have e : growth_grower_back fu g b q after = none := by unfold growth_grower_back; rw [h1, Option.bind_none]; first | done | rfl
    rw [e] at hh; cases hh
  | some x1 =>
    rcases Bool.eq_false_or_eq_true (q.Cut) with h2 | h2
    · skip
      have e : growth_grower_back fu g b q after = some (b, (growth_common x1 after).2) := by unfold growth_grower_back; rw [h1, Option.bind_some, h2, cond_true]; first | done | rfl
      rw [e] at hh
      have hr := Option.some.inj hh
      rw [← hr]
      exact FSat.done pfT (fuel := 18) (hs := (hR 8 ((z17i0 g b q q11 q12 q13 q14 x1) :: hE :: hE :: hE :: hT :: hE :: hE :: (z17i1 after x1) :: (hR 10 [])))) (ss := []) (R := [(z17r2 g b q q11 q12 q13 q14 x1), (z17r3 b q), (z17r4 g q11 q12 q13 q14), (z17r5 x1), (q.Cut) = true, (z17r6 after x1)]) (by kernel_rfl) ⟨growth_grower_step_fc fu g b q q11 q12 q13 q14 x1 h1, z17p7 b q, z17p8 g q11 q12 q13 q14, selfB_self 9 _ rfl _, h2, growth_common_fc x1 after, trivial⟩ (by kernel_rfl)
    · skip
      rcases Bool.eq_false_or_eq_true (x1.Low.Age != after.Low.Age) with h3 | h3
      · skip
        have e : growth_grower_back fu g b q after = some ((⟨(⟨0, 0, 0, 0⟩ : XStand), (⟨0, 0, 0, 0⟩ : XStand)⟩ : XBox), false) := by unfold growth_grower_back; rw [h1, Option.bind_some, h2, cond_false, h3, cond_true]; first | done | rfl
        rw [e] at hh
        have hr := Option.some.inj hh
        rw [← hr]
        exact FSat.done pfT (fuel := 21) (hs := (hR 8 ((z17i0 g b q q11 q12 q13 q14 x1) :: hE :: hE :: hE :: hF :: (hR 6 [hT, hE, hE, hE])))) (ss := []) (R := [(z17r2 g b q q11 q12 q13 q14 x1), (z17r3 b q), (z17r4 g q11 q12 q13 q14), (z17r5 x1), (q.Cut) = false, (x1.Low.Age != after.Low.Age) = true]) (by kernel_rfl) ⟨growth_grower_step_fc fu g b q q11 q12 q13 q14 x1 h1, z17p7 b q, z17p8 g q11 q12 q13 q14, selfB_self 9 _ rfl _, h2, h3, trivial⟩ (by kernel_rfl)
      · skip
        cases h4 : growth_grower_leading fu g b q after 1 with
        | none =>
          have e : growth_grower_back fu g b q after = none := by unfold growth_grower_back; rw [h1, Option.bind_some, h2, cond_false, h3, cond_false, h4, Option.bind_none]; first | done | rfl
          rw [e] at hh; cases hh
        | some x4 =>
          rcases Bool.eq_false_or_eq_true ((growth_keep b 1 x4).2) with h5 | h5
          · skip
            cases h6 : growth_grower_leading fu g b q after 2 with
            | none =>
              have e : growth_grower_back fu g b q after = none := by unfold growth_grower_back; rw [h1, Option.bind_some, h2, cond_false, h3, cond_false, h4, Option.bind_some, h5, cond_true, h6, Option.bind_none]; first | done | rfl
              rw [e] at hh; cases hh
            | some x6 =>
              rcases Bool.eq_false_or_eq_true ((growth_keep (⟨(((growth_keep b 1 x4).1).Low), (((growth_keep b 1 x4).1).High)⟩ : XBox) 2 x6).2) with h7 | h7
              · skip
                cases h8 : growth_grower_leading fu g b q after 3 with
                | none =>
                  have e : growth_grower_back fu g b q after = none := by unfold growth_grower_back; rw [h1, Option.bind_some, h2, cond_false, h3, cond_false, h4, Option.bind_some, h5, cond_true, h6, Option.bind_some, h7, cond_true, h8, Option.bind_none]; first | done | rfl
                  rw [e] at hh; cases hh
                | some x8 =>
                  rcases Bool.eq_false_or_eq_true ((growth_keep (⟨(((growth_keep (⟨(((growth_keep b 1 x4).1).Low), (((growth_keep b 1 x4).1).High)⟩ : XBox) 2 x6).1).Low), (((growth_keep (⟨(((growth_keep b 1 x4).1).Low), (((growth_keep b 1 x4).1).High)⟩ : XBox) 2 x6).1).High)⟩ : XBox) 3 x8).2) with h9 | h9
                  · skip
                    have e : growth_grower_back fu g b q after = some ((⟨(((growth_keep (⟨(((growth_keep (⟨(((growth_keep b 1 x4).1).Low), (((growth_keep b 1 x4).1).High)⟩ : XBox) 2 x6).1).Low), (((growth_keep (⟨(((growth_keep b 1 x4).1).Low), (((growth_keep b 1 x4).1).High)⟩ : XBox) 2 x6).1).High)⟩ : XBox) 3 x8).1).Low), (((growth_keep (⟨(((growth_keep (⟨(((growth_keep b 1 x4).1).Low), (((growth_keep b 1 x4).1).High)⟩ : XBox) 2 x6).1).Low), (((growth_keep (⟨(((growth_keep b 1 x4).1).Low), (((growth_keep b 1 x4).1).High)⟩ : XBox) 2 x6).1).High)⟩ : XBox) 3 x8).1).High)⟩ : XBox), true) := by unfold growth_grower_back; rw [h1, Option.bind_some, h2, cond_false, h3, cond_false, h4, Option.bind_some, h5, cond_true, h6, Option.bind_some, h7, cond_true, h8, Option.bind_some, h9, cond_true]; first | done | rfl
                    rw [e] at hh
                    have hr := Option.some.inj hh
                    rw [← hr]
                    exact FSat.done pfT (fuel := 89) (hs := (hR 8 ((z17i0 g b q q11 q12 q13 q14 x1) :: hE :: hE :: hE :: hF :: (hR 6 (hF :: (hR 16 ((z17i9 g b q after q11 q12 q13 q14 x4) :: (z17i10 b x4) :: hE :: hE :: hT :: (hR 16 ((z17i11 g b q after q11 q12 q13 q14 x6) :: (z17i12 b x4 x6) :: hE :: hE :: hT :: (hR 16 ((z17i13 g b q after q11 q12 q13 q14 x8) :: (z17i14 b x4 x6 x8) :: hE :: hE :: hT :: (hR 10 [])))))))))))) (ss := [.go, .go, .go, .go]) (R := [(z17r2 g b q q11 q12 q13 q14 x1), (z17r3 b q), (z17r4 g q11 q12 q13 q14), (z17r5 x1), (q.Cut) = false, (x1.Low.Age != after.Low.Age) = false, (z17r15 g b q after q11 q12 q13 q14 x4), (z17r16 b q after), (z17r4 g q11 q12 q13 q14), (z17r17 x4), (z17r18 b x4), ((growth_keep b 1 x4).2) = true, ((growth_keep b 1 x4).2) = true, (.bool (true) : Value) = .bool (true), (z17r19 g b q after q11 q12 q13 q14 x6), (z17r20 b q after), (z17r4 g q11 q12 q13 q14), (z17r21 x6), (z17r22 b x4 x6), (z17r23 b x4 x6), (z17r23 b x4 x6), (.bool (true) : Value) = .bool (true), (z17r24 g b q after q11 q12 q13 q14 x8), (z17r25 b q after), (z17r4 g q11 q12 q13 q14), (z17r26 x8), (z17r27 b x4 x6 x8), (z17r28 b x4 x6 x8), (z17r28 b x4 x6 x8), (.bool (true) : Value) = .bool (true)]) (by kernel_rfl) ⟨growth_grower_step_fc fu g b q q11 q12 q13 q14 x1 h1, z17p7 b q, z17p8 g q11 q12 q13 q14, selfB_self 9 _ rfl _, h2, h3, growth_grower_leading_fc fu g b q after 1 q11 q12 q13 q14 x4 h4, z17p29 b q after, z17p8 g q11 q12 q13 q14, selfB_self 9 _ rfl _, growth_keep_fc b 1 x4, h5, h5, rfl, growth_grower_leading_fc fu g b q after 2 q11 q12 q13 q14 x6 h6, z17p30 b q after, z17p8 g q11 q12 q13 q14, selfB_self 9 _ rfl _, z17p31 b x4 x6, h7, h7, rfl, growth_grower_leading_fc fu g b q after 3 q11 q12 q13 q14 x8 h8, z17p32 b q after, z17p8 g q11 q12 q13 q14, selfB_self 9 _ rfl _, z17p33 b x4 x6 x8, h9, h9, rfl, trivial⟩ (by kernel_rfl)
                  · skip
                    have e : growth_grower_back fu g b q after = some ((⟨(⟨0, 0, 0, 0⟩ : XStand), (⟨0, 0, 0, 0⟩ : XStand)⟩ : XBox), false) := by unfold growth_grower_back; rw [h1, Option.bind_some, h2, cond_false, h3, cond_false, h4, Option.bind_some, h5, cond_true, h6, Option.bind_some, h7, cond_true, h8, Option.bind_some, h9, cond_false]; first | done | rfl
                    rw [e] at hh
                    have hr := Option.some.inj hh
                    rw [← hr]
                    exact FSat.done pfT (fuel := 80) (hs := (hR 8 ((z17i0 g b q q11 q12 q13 q14 x1) :: hE :: hE :: hE :: hF :: (hR 6 (hF :: (hR 16 ((z17i9 g b q after q11 q12 q13 q14 x4) :: (z17i10 b x4) :: hE :: hE :: hT :: (hR 16 ((z17i11 g b q after q11 q12 q13 q14 x6) :: (z17i12 b x4 x6) :: hE :: hE :: hT :: (hR 16 ((z17i13 g b q after q11 q12 q13 q14 x8) :: (z17i14 b x4 x6 x8) :: hE :: hE :: hF :: (hR 7 [])))))))))))) (ss := [.go, .go, .go]) (R := [(z17r2 g b q q11 q12 q13 q14 x1), (z17r3 b q), (z17r4 g q11 q12 q13 q14), (z17r5 x1), (q.Cut) = false, (x1.Low.Age != after.Low.Age) = false, (z17r15 g b q after q11 q12 q13 q14 x4), (z17r16 b q after), (z17r4 g q11 q12 q13 q14), (z17r17 x4), (z17r18 b x4), ((growth_keep b 1 x4).2) = true, ((growth_keep b 1 x4).2) = true, (.bool (true) : Value) = .bool (true), (z17r19 g b q after q11 q12 q13 q14 x6), (z17r20 b q after), (z17r4 g q11 q12 q13 q14), (z17r21 x6), (z17r22 b x4 x6), (z17r23 b x4 x6), (z17r23 b x4 x6), (.bool (true) : Value) = .bool (true), (z17r24 g b q after q11 q12 q13 q14 x8), (z17r25 b q after), (z17r4 g q11 q12 q13 q14), (z17r26 x8), (z17r27 b x4 x6 x8), (z17r34 b x4 x6 x8), (z17r34 b x4 x6 x8), (.bool (false) : Value) = .bool (false)]) (by kernel_rfl) ⟨growth_grower_step_fc fu g b q q11 q12 q13 q14 x1 h1, z17p7 b q, z17p8 g q11 q12 q13 q14, selfB_self 9 _ rfl _, h2, h3, growth_grower_leading_fc fu g b q after 1 q11 q12 q13 q14 x4 h4, z17p29 b q after, z17p8 g q11 q12 q13 q14, selfB_self 9 _ rfl _, growth_keep_fc b 1 x4, h5, h5, rfl, growth_grower_leading_fc fu g b q after 2 q11 q12 q13 q14 x6 h6, z17p30 b q after, z17p8 g q11 q12 q13 q14, selfB_self 9 _ rfl _, z17p31 b x4 x6, h7, h7, rfl, growth_grower_leading_fc fu g b q after 3 q11 q12 q13 q14 x8 h8, z17p32 b q after, z17p8 g q11 q12 q13 q14, selfB_self 9 _ rfl _, z17p33 b x4 x6 x8, h9, h9, rfl, trivial⟩ (by kernel_rfl)
              · skip
                have e : growth_grower_back fu g b q after = some ((⟨(⟨0, 0, 0, 0⟩ : XStand), (⟨0, 0, 0, 0⟩ : XStand)⟩ : XBox), false) := by unfold growth_grower_back; rw [h1, Option.bind_some, h2, cond_false, h3, cond_false, h4, Option.bind_some, h5, cond_true, h6, Option.bind_some, h7, cond_false]; first | done | rfl
                rw [e] at hh
                have hr := Option.some.inj hh
                rw [← hr]
                exact FSat.done pfT (fuel := 62) (hs := (hR 8 ((z17i0 g b q q11 q12 q13 q14 x1) :: hE :: hE :: hE :: hF :: (hR 6 (hF :: (hR 16 ((z17i9 g b q after q11 q12 q13 q14 x4) :: (z17i10 b x4) :: hE :: hE :: hT :: (hR 16 ((z17i11 g b q after q11 q12 q13 q14 x6) :: (z17i12 b x4 x6) :: hE :: hE :: hF :: (hR 7 [])))))))))) (ss := [.go, .go]) (R := [(z17r2 g b q q11 q12 q13 q14 x1), (z17r3 b q), (z17r4 g q11 q12 q13 q14), (z17r5 x1), (q.Cut) = false, (x1.Low.Age != after.Low.Age) = false, (z17r15 g b q after q11 q12 q13 q14 x4), (z17r16 b q after), (z17r4 g q11 q12 q13 q14), (z17r17 x4), (z17r18 b x4), ((growth_keep b 1 x4).2) = true, ((growth_keep b 1 x4).2) = true, (.bool (true) : Value) = .bool (true), (z17r19 g b q after q11 q12 q13 q14 x6), (z17r20 b q after), (z17r4 g q11 q12 q13 q14), (z17r21 x6), (z17r22 b x4 x6), (z17r35 b x4 x6), (z17r35 b x4 x6), (.bool (false) : Value) = .bool (false)]) (by kernel_rfl) ⟨growth_grower_step_fc fu g b q q11 q12 q13 q14 x1 h1, z17p7 b q, z17p8 g q11 q12 q13 q14, selfB_self 9 _ rfl _, h2, h3, growth_grower_leading_fc fu g b q after 1 q11 q12 q13 q14 x4 h4, z17p29 b q after, z17p8 g q11 q12 q13 q14, selfB_self 9 _ rfl _, growth_keep_fc b 1 x4, h5, h5, rfl, growth_grower_leading_fc fu g b q after 2 q11 q12 q13 q14 x6 h6, z17p30 b q after, z17p8 g q11 q12 q13 q14, selfB_self 9 _ rfl _, z17p31 b x4 x6, h7, h7, rfl, trivial⟩ (by kernel_rfl)
          · skip
            have e : growth_grower_back fu g b q after = some ((⟨(⟨0, 0, 0, 0⟩ : XStand), (⟨0, 0, 0, 0⟩ : XStand)⟩ : XBox), false) := by unfold growth_grower_back; rw [h1, Option.bind_some, h2, cond_false, h3, cond_false, h4, Option.bind_some, h5, cond_false]; first | done | rfl
            rw [e] at hh
            have hr := Option.some.inj hh
            rw [← hr]
            exact FSat.done pfT (fuel := 44) (hs := (hR 8 ((z17i0 g b q q11 q12 q13 q14 x1) :: hE :: hE :: hE :: hF :: (hR 6 (hF :: (hR 16 ((z17i9 g b q after q11 q12 q13 q14 x4) :: (z17i10 b x4) :: hE :: hE :: hF :: (hR 7 [])))))))) (ss := [.go]) (R := [(z17r2 g b q q11 q12 q13 q14 x1), (z17r3 b q), (z17r4 g q11 q12 q13 q14), (z17r5 x1), (q.Cut) = false, (x1.Low.Age != after.Low.Age) = false, (z17r15 g b q after q11 q12 q13 q14 x4), (z17r16 b q after), (z17r4 g q11 q12 q13 q14), (z17r17 x4), (z17r18 b x4), ((growth_keep b 1 x4).2) = false, ((growth_keep b 1 x4).2) = false, (.bool (false) : Value) = .bool (false)]) (by kernel_rfl) ⟨growth_grower_step_fc fu g b q q11 q12 q13 q14 x1 h1, z17p7 b q, z17p8 g q11 q12 q13 q14, selfB_self 9 _ rfl _, h2, h3, growth_grower_leading_fc fu g b q after 1 q11 q12 q13 q14 x4 h4, z17p29 b q after, z17p8 g q11 q12 q13 q14, selfB_self 9 _ rfl _, growth_keep_fc b 1 x4, h5, h5, rfl, trivial⟩ (by kernel_rfl)

/- greenhew/growth.orNone -/
abbrev A_growth_orNone (b : XBox) (left : Bool) : List Value := [.agg #[I (b.Low.Age), I (b.Low.Shoots), I (b.Low.Height), I (b.Low.Girth), I (b.High.Age), I (b.High.Shoots), I (b.High.Height), I (b.High.Girth)], .bool (left)]
noncomputable def growth_orNone (b : XBox) (left : Bool) : XBox × Int :=
  bif left then (b, 0)
  else ((⟨(⟨0, 0, 0, 0⟩ : XStand), (⟨0, 0, 0, 0⟩ : XStand)⟩ : XBox), 5)
theorem growth_orNone_fc (b : XBox) (left : Bool) : FC P GG 79 (A_growth_orNone b left) [] (.tuple #[.agg #[I ((((growth_orNone b left).1).Low).Age), I ((((growth_orNone b left).1).Low).Shoots), I ((((growth_orNone b left).1).Low).Height), I ((((growth_orNone b left).1).Low).Girth), I ((((growth_orNone b left).1).High).Age), I ((((growth_orNone b left).1).High).Shoots), I ((((growth_orNone b left).1).High).Height), I ((((growth_orNone b left).1).High).Girth)], I ((growth_orNone b left).2)]) := by
  refine FC.of_fsat 10 100 Tryd.func79 (by kernel_rfl) (by kernel_rfl) (by kernel_rfl) trivial ?_
  rcases Bool.eq_false_or_eq_true (left) with h1 | h1
  · skip
    have e : growth_orNone b left = (b, 0) := by unfold growth_orNone; rw [h1, cond_true]; first | done | rfl
    rw [e]
    exact FSat.done pfT (fuel := 15) (hs := (hE :: hE :: hE :: hT :: (hR 4 []))) (ss := []) (R := [(left) = true]) (by kernel_rfl) ⟨h1, trivial⟩ (by kernel_rfl)
  · skip
    have e : growth_orNone b left = ((⟨(⟨0, 0, 0, 0⟩ : XStand), (⟨0, 0, 0, 0⟩ : XStand)⟩ : XBox), 5) := by unfold growth_orNone; rw [h1, cond_false]; first | done | rfl
    rw [e]
    exact FSat.done pfT (fuel := 14) (hs := (hE :: hE :: hE :: hF :: (hR 4 []))) (ss := []) (R := [(left) = false]) (by kernel_rfl) ⟨h1, trivial⟩ (by kernel_rfl)

/- greenhew/growth.Back -/
noncomputable abbrev z3i0 (s : XSpecies) (q10 : Nat) (q11 : Nat) (q12 : Nat) (q13 : Nat) (x1 : Bool) : Hint := (hB (hM (.bool (x1)) (.bool (x1)) (A_growth_speciesIsDefined s q10 q11 q12 q13) (K_growth_speciesIsDefined s) [(10, 10, 0), (11, 11, 0), (12, 12, 0), (13, 13, 0)]) true)
noncomputable abbrev z3i1 (s : XSpecies) (b : XBox) (q : XSeason) (after : XBox) (q10 : Nat) (q11 : Nat) (q12 : Nat) (q13 : Nat) (x6 : XBox × Bool) : Hint := (hM (.tuple #[.agg #[I (x6.1.Low.Age), I (x6.1.Low.Shoots), I (x6.1.Low.Height), I (x6.1.Low.Girth), I (x6.1.High.Age), I (x6.1.High.Shoots), I (x6.1.High.Height), I (x6.1.High.Girth)], .bool (x6.2)]) (.tuple #[.agg #[I (x6.1.Low.Age), I (x6.1.Low.Shoots), I (x6.1.Low.Height), I (x6.1.Low.Girth), I (x6.1.High.Age), I (x6.1.High.Shoots), I (x6.1.High.Height), I (x6.1.High.Girth)], .bool (x6.2)]) (A_growth_grower_back b q after) (K_growth_grower_back (⟨s⟩ : Xgrower) q10 q11 q12 q13) [(11, 10, 0), (12, 11, 0), (13, 12, 0), (14, 13, 0), (10, 105, 0)])
noncomputable abbrev z3i2 (x6 : XBox × Bool) : Hint := (hC (.tuple #[.agg #[I ((((growth_orNone x6.1 x6.2).1).Low).Age), I ((((growth_orNone x6.1 x6.2).1).Low).Shoots), I ((((growth_orNone x6.1 x6.2).1).Low).Height), I ((((growth_orNone x6.1 x6.2).1).Low).Girth), I ((((growth_orNone x6.1 x6.2).1).High).Age), I ((((growth_orNone x6.1 x6.2).1).High).Shoots), I ((((growth_orNone x6.1 x6.2).1).High).Height), I ((((growth_orNone x6.1 x6.2).1).High).Girth)], I ((growth_orNone x6.1 x6.2).2)]))
abbrev z3r3 (s : XSpecies) (q10 : Nat) (q11 : Nat) (q12 : Nat) (q13 : Nat) (x1 : Bool) : Prop := FC P GG 57 (A_growth_speciesIsDefined s q10 q11 q12 q13) (K_growth_speciesIsDefined s) (.bool (x1))
abbrev z3r4 (s : XSpecies) (q10 : Nat) (q11 : Nat) (q12 : Nat) (q13 : Nat) : Prop := VRs (Ren.emb [(10, 10, 0), (11, 11, 0), (12, 12, 0), (13, 13, 0)]) (A_growth_speciesIsDefined s q10 q11 q12 q13) [.agg #[.slice (some ⟨10, 0, none⟩) (s.Rise.length) (q10), .slice (some ⟨11, 0, none⟩) (s.Thick.length) (q11), I (s.Top), I (s.Stout), I (s.Shade), I (s.Reach), .slice (some ⟨12, 0, none⟩) (s.Ladder.length) (q12), .slice (some ⟨13, 0, none⟩) (s.Sprouts.length) (q13)]]
abbrev z3r5 (s : XSpecies) : Prop := MemAt (Ren.emb [(10, 10, 0), (11, 11, 0), (12, 12, 0), (13, 13, 0)]) (encL cInt s.Rise) 0 (encL cInt s.Rise) ∧ MemAt (Ren.emb [(10, 10, 0), (11, 11, 0), (12, 12, 0), (13, 13, 0)]) (encL cInt s.Thick) 0 (encL cInt s.Thick) ∧ MemAt (Ren.emb [(10, 10, 0), (11, 11, 0), (12, 12, 0), (13, 13, 0)]) (encL cXRung s.Ladder) 0 (encL cXRung s.Ladder) ∧ MemAt (Ren.emb [(10, 10, 0), (11, 11, 0), (12, 12, 0), (13, 13, 0)]) (encL cXSpan s.Sprouts) 0 (encL cXSpan s.Sprouts) ∧ True
abbrev z3r6 (x1 : Bool) : Prop := VR (Ren.emb [(10, 10, 0), (11, 11, 0), (12, 12, 0), (13, 13, 0)]) (.bool (x1)) (.bool (x1))
abbrev z3r7 (b : XBox) : Prop := FC P GG 68 (A_growth_boxIsDefined b) [] (.bool (growth_boxIsDefined b))
abbrev z3r8 (q : XSeason) : Prop := FC P GG 72 (A_growth_seasonIsDefined q) [] (.bool (growth_seasonIsDefined q))
abbrev z3r9 (after : XBox) : Prop := FC P GG 68 (A_growth_boxIsDefined after) [] (.bool (growth_boxIsDefined after))
abbrev z3r10 (s : XSpecies) (b : XBox) (q : XSeason) (after : XBox) (q10 : Nat) (q11 : Nat) (q12 : Nat) (q13 : Nat) (x6 : XBox × Bool) : Prop := FC P GG 83 (A_growth_grower_back b q after) (K_growth_grower_back (⟨s⟩ : Xgrower) q10 q11 q12 q13) (.tuple #[.agg #[I (x6.1.Low.Age), I (x6.1.Low.Shoots), I (x6.1.Low.Height), I (x6.1.Low.Girth), I (x6.1.High.Age), I (x6.1.High.Shoots), I (x6.1.High.Height), I (x6.1.High.Girth)], .bool (x6.2)])
abbrev z3r11 (b : XBox) (q : XSeason) (after : XBox) : Prop := VRs (Ren.emb [(11, 10, 0), (12, 11, 0), (13, 12, 0), (14, 13, 0), (10, 105, 0)]) (A_growth_grower_back b q after) [.pointer (some ⟨105, 0, none⟩), .agg #[I (b.Low.Age), I (b.Low.Shoots), I (b.Low.Height), I (b.Low.Girth), I (b.High.Age), I (b.High.Shoots), I (b.High.Height), I (b.High.Girth)], .agg #[I (q.Light.Low), I (q.Light.High), I (q.Browse.Low), I (q.Browse.High), I (q.Mild.Low), I (q.Mild.High), .bool (q.Cut)], .agg #[I (after.Low.Age), I (after.Low.Shoots), I (after.Low.Height), I (after.Low.Girth), I (after.High.Age), I (after.High.Shoots), I (after.High.Height), I (after.High.Girth)]]
abbrev z3r12 (s : XSpecies) (q10 : Nat) (q11 : Nat) (q12 : Nat) (q13 : Nat) : Prop := MemAt (Ren.emb [(11, 10, 0), (12, 11, 0), (13, 12, 0), (14, 13, 0), (10, 105, 0)]) (encL cInt (((⟨s⟩ : Xgrower).Species).Rise)) 0 (encL cInt s.Rise) ∧ MemAt (Ren.emb [(11, 10, 0), (12, 11, 0), (13, 12, 0), (14, 13, 0), (10, 105, 0)]) (encL cInt (((⟨s⟩ : Xgrower).Species).Thick)) 0 (encL cInt s.Thick) ∧ MemAt (Ren.emb [(11, 10, 0), (12, 11, 0), (13, 12, 0), (14, 13, 0), (10, 105, 0)]) (encL cXRung (((⟨s⟩ : Xgrower).Species).Ladder)) 0 (encL cXRung s.Ladder) ∧ MemAt (Ren.emb [(11, 10, 0), (12, 11, 0), (13, 12, 0), (14, 13, 0), (10, 105, 0)]) (encL cXSpan (((⟨s⟩ : Xgrower).Species).Sprouts)) 0 (encL cXSpan s.Sprouts) ∧ MemAt (Ren.emb [(11, 10, 0), (12, 11, 0), (13, 12, 0), (14, 13, 0), (10, 105, 0)]) [.slice (some ⟨11, 0, none⟩) ((((⟨s⟩ : Xgrower).Species).Rise).length) (q10), .slice (some ⟨12, 0, none⟩) ((((⟨s⟩ : Xgrower).Species).Thick).length) (q11), I (((⟨s⟩ : Xgrower).Species).Top), I (((⟨s⟩ : Xgrower).Species).Stout), I (((⟨s⟩ : Xgrower).Species).Shade), I (((⟨s⟩ : Xgrower).Species).Reach), .slice (some ⟨13, 0, none⟩) ((((⟨s⟩ : Xgrower).Species).Ladder).length) (q12), .slice (some ⟨14, 0, none⟩) ((((⟨s⟩ : Xgrower).Species).Sprouts).length) (q13)] 0 [.slice (some ⟨10, 0, none⟩) (s.Rise.length) (q10), .slice (some ⟨11, 0, none⟩) (s.Thick.length) (q11), I (s.Top), I (s.Stout), I (s.Shade), I (s.Reach), .slice (some ⟨12, 0, none⟩) (s.Ladder.length) (q12), .slice (some ⟨13, 0, none⟩) (s.Sprouts.length) (q13)] ∧ True
abbrev z3r13 (x6 : XBox × Bool) : Prop := VR (Ren.emb [(11, 10, 0), (12, 11, 0), (13, 12, 0), (14, 13, 0), (10, 105, 0)]) (.tuple #[.agg #[I (x6.1.Low.Age), I (x6.1.Low.Shoots), I (x6.1.Low.Height), I (x6.1.Low.Girth), I (x6.1.High.Age), I (x6.1.High.Shoots), I (x6.1.High.Height), I (x6.1.High.Girth)], .bool (x6.2)]) (.tuple #[.agg #[I (x6.1.Low.Age), I (x6.1.Low.Shoots), I (x6.1.Low.Height), I (x6.1.Low.Girth), I (x6.1.High.Age), I (x6.1.High.Shoots), I (x6.1.High.Height), I (x6.1.High.Girth)], .bool (x6.2)])
abbrev z3r14 (x6 : XBox × Bool) : Prop := FC P GG 79 (A_growth_orNone x6.1 x6.2) [] (.tuple #[.agg #[I ((((growth_orNone x6.1 x6.2).1).Low).Age), I ((((growth_orNone x6.1 x6.2).1).Low).Shoots), I ((((growth_orNone x6.1 x6.2).1).Low).Height), I ((((growth_orNone x6.1 x6.2).1).Low).Girth), I ((((growth_orNone x6.1 x6.2).1).High).Age), I ((((growth_orNone x6.1 x6.2).1).High).Shoots), I ((((growth_orNone x6.1 x6.2).1).High).Height), I ((((growth_orNone x6.1 x6.2).1).High).Girth)], I ((growth_orNone x6.1 x6.2).2)])
theorem z3p15 (s : XSpecies) (q10 : Nat) (q11 : Nat) (q12 : Nat) (q13 : Nat) : (z3r4 s q10 q11 q12 q13) := (.cons _ _ _ _ (.agg _ _ (.cons _ _ _ _ (.slc 10 0 _ _ _ ⟨10, 0, 0, 0⟩ rfl (.inl rfl)) (.cons _ _ _ _ (.slc 11 0 _ _ _ ⟨11, 0, 0, 0⟩ rfl (.inl rfl)) (.cons _ _ _ _ (VR.of_pf rfl) (.cons _ _ _ _ (VR.of_pf rfl) (.cons _ _ _ _ (VR.of_pf rfl) (.cons _ _ _ _ (VR.of_pf rfl) (.cons _ _ _ _ (.slc 12 0 _ _ _ ⟨12, 0, 0, 0⟩ rfl (.inl rfl)) (.cons _ _ _ _ (.slc 13 0 _ _ _ ⟨13, 0, 0, 0⟩ rfl (.inl rfl)) .nil))))))))) .nil)
theorem z3p16 (s : XSpecies) : (z3r5 s) := ⟨MemAt.same _ (encL_pf cInt_pf _), MemAt.same _ (encL_pf cInt_pf _), MemAt.same _ (encL_pf cXRung_pf _), MemAt.same _ (encL_pf cXSpan_pf _), trivial⟩
theorem z3p17 (b : XBox) (q : XSeason) (after : XBox) : (z3r11 b q after) := (.cons _ _ _ _ (.ptr 10 0 ⟨105, 0, 0, 0⟩ rfl) (.cons _ _ _ _ (VR.of_pf rfl) (.cons _ _ _ _ (VR.of_pf rfl) (.cons _ _ _ _ (VR.of_pf rfl) .nil))))
theorem z3p18 (s : XSpecies) (q10 : Nat) (q11 : Nat) (q12 : Nat) (q13 : Nat) : (z3r12 s q10 q11 q12 q13) := ⟨MemAt.same _ (encL_pf cInt_pf _), MemAt.same _ (encL_pf cInt_pf _), MemAt.same _ (encL_pf cXRung_pf _), MemAt.same _ (encL_pf cXSpan_pf _), MemAt.of (.cons _ _ _ _ (.slc 11 0 _ _ _ ⟨10, 0, 0, 0⟩ rfl (.inl rfl)) (.cons _ _ _ _ (.slc 12 0 _ _ _ ⟨11, 0, 0, 0⟩ rfl (.inl rfl)) (.cons _ _ _ _ (VR.of_pf rfl) (.cons _ _ _ _ (VR.of_pf rfl) (.cons _ _ _ _ (VR.of_pf rfl) (.cons _ _ _ _ (VR.of_pf rfl) (.cons _ _ _ _ (.slc 13 0 _ _ _ ⟨12, 0, 0, 0⟩ rfl (.inl rfl)) (.cons _ _ _ _ (.slc 14 0 _ _ _ ⟨13, 0, 0, 0⟩ rfl (.inl rfl)) .nil)))))))), trivial⟩
noncomputable abbrev z3i19 (s : XSpecies) (q10 : Nat) (q11 : Nat) (q12 : Nat) (q13 : Nat) (x1 : Bool) : Hint := (hB (hM (.bool (x1)) (.bool (x1)) (A_growth_speciesIsDefined s q10 q11 q12 q13) (K_growth_speciesIsDefined s) [(10, 10, 0), (11, 11, 0), (12, 12, 0), (13, 13, 0)]) false)
abbrev A_growth_Back (s : XSpecies) (b : XBox) (q : XSeason) (after : XBox) (q10 : Nat) (q11 : Nat) (q12 : Nat) (q13 : Nat) : List Value := [.agg #[.slice (some ⟨10, 0, none⟩) (s.Rise.length) (q10), .slice (some ⟨11, 0, none⟩) (s.Thick.length) (q11), I (s.Top), I (s.Stout), I (s.Shade), I (s.Reach), .slice (some ⟨12, 0, none⟩) (s.Ladder.length) (q12), .slice (some ⟨13, 0, none⟩) (s.Sprouts.length) (q13)], .agg #[I (b.Low.Age), I (b.Low.Shoots), I (b.Low.Height), I (b.Low.Girth), I (b.High.Age), I (b.High.Shoots), I (b.High.Height), I (b.High.Girth)], .agg #[I (q.Light.Low), I (q.Light.High), I (q.Browse.Low), I (q.Browse.High), I (q.Mild.Low), I (q.Mild.High), .bool (q.Cut)], .agg #[I (after.Low.Age), I (after.Low.Shoots), I (after.Low.Height), I (after.Low.Girth), I (after.High.Age), I (after.High.Shoots), I (after.High.Height), I (after.High.Girth)]]
abbrev K_growth_Back (s : XSpecies) : List (Nat × List Value) := [(10, encL cInt s.Rise), (11, encL cInt s.Thick), (12, encL cXRung s.Ladder), (13, encL cXSpan s.Sprouts)]
noncomputable def growth_Back (fu : Nat) (s : XSpecies) (b : XBox) (q : XSeason) (after : XBox) : Option (XBox × Int) :=
  Option.bind (growth_speciesIsDefined fu s) fun x1 =>
  bif x1 then (bif growth_boxIsDefined b then (bif growth_seasonIsDefined q then (bif growth_boxIsDefined after then (Option.bind (growth_grower_back fu (⟨s⟩ : Xgrower) b q after) fun x6 =>
          some ((⟨(((growth_orNone x6.1 x6.2).1).Low), (((growth_orNone x6.1 x6.2).1).High)⟩ : XBox), (growth_orNone x6.1 x6.2).2))
        else some ((⟨(⟨0, 0, 0, 0⟩ : XStand), (⟨0, 0, 0, 0⟩ : XStand)⟩ : XBox), 2))
      else some ((⟨(⟨0, 0, 0, 0⟩ : XStand), (⟨0, 0, 0, 0⟩ : XStand)⟩ : XBox), 2))
    else some ((⟨(⟨0, 0, 0, 0⟩ : XStand), (⟨0, 0, 0, 0⟩ : XStand)⟩ : XBox), 2))
  else some ((⟨(⟨0, 0, 0, 0⟩ : XStand), (⟨0, 0, 0, 0⟩ : XStand)⟩ : XBox), 2)
theorem growth_Back_fc (fu : Nat) (s : XSpecies) (b : XBox) (q : XSeason) (after : XBox) (q10 q11 q12 q13 : Nat) (r : XBox × Int) (hh : growth_Back fu s b q after = some r) : FC P GG 47 (A_growth_Back s b q after q10 q11 q12 q13) (K_growth_Back s) (.tuple #[.agg #[I (r.1.Low.Age), I (r.1.Low.Shoots), I (r.1.Low.Height), I (r.1.Low.Girth), I (r.1.High.Age), I (r.1.High.Shoots), I (r.1.High.Height), I (r.1.High.Girth)], I (r.2)]) := by
  refine FC.of_fsat 41 100 Tryd.func47 (by kernel_rfl) (by kernel_rfl) (by kernel_rfl) ⟨PinL.pf (encL_pf cInt_pf _), PinL.pf (encL_pf cInt_pf _), PinL.pf (encL_pf cXRung_pf _), PinL.pf (encL_pf cXSpan_pf _), trivial⟩ ?_
  cases h1 : growth_speciesIsDefined fu s with
  | none =>
    have e : growth_Back fu s b q after = none := by unfold growth_Back; rw [h1, Option.bind_none]; first | done | rfl
    rw [e] at hh; cases hh
  | some x1 =>
    rcases Bool.eq_false_or_eq_true (x1) with h2 | h2
    · skip
      rcases Bool.eq_false_or_eq_true (growth_boxIsDefined b) with h3 | h3
      · skip
        rcases Bool.eq_false_or_eq_true (growth_seasonIsDefined q) with h4 | h4
        · skip
          rcases Bool.eq_false_or_eq_true (growth_boxIsDefined after) with h5 | h5
          · skip
            cases h6 : growth_grower_back fu (⟨s⟩ : Xgrower) b q after with
            | none =>
              have e : growth_Back fu s b q after = none := by unfold growth_Back; rw [h1, Option.bind_some, h2, cond_true, h3, cond_true, h4, cond_true, h5, cond_true, h6, Option.bind_none]; first | done | rfl
              rw [e] at hh; cases hh
            | some x6 =>
              have e : growth_Back fu s b q after = some ((⟨(((growth_orNone x6.1 x6.2).1).Low), (((growth_orNone x6.1 x6.2).1).High)⟩ : XBox), (growth_orNone x6.1 x6.2).2) := by unfold growth_Back; rw [h1, Option.bind_some, h2, cond_true, h3, cond_true, h4, cond_true, h5, cond_true, h6, Option.bind_some]; first | done | rfl
              rw [e] at hh
              have hr := Option.some.inj hh
              rw [← hr]
              exact FSat.done pfT (fuel := 17) (hs := (hR 7 ((z3i0 s q10 q11 q12 q13 x1) :: hE :: hE :: hE :: (hB (hC (.bool (growth_boxIsDefined b))) true) :: (hR 4 ((hB (hC (.bool (growth_seasonIsDefined q))) true) :: (hR 4 ((hB (hC (.bool (growth_boxIsDefined after))) true) :: (hR 9 ((z3i1 s b q after q10 q11 q12 q13 x6) :: hE :: hE :: (z3i2 x6) :: (hR 4 [])))))))))) (ss := []) (R := [(z3r3 s q10 q11 q12 q13 x1), (z3r4 s q10 q11 q12 q13), (z3r5 s), (z3r6 x1), (x1) = true, (z3r7 b), (growth_boxIsDefined b) = true, (z3r8 q), (growth_seasonIsDefined q) = true, (z3r9 after), (growth_boxIsDefined after) = true, (z3r10 s b q after q10 q11 q12 q13 x6), (z3r11 b q after), (z3r12 s q10 q11 q12 q13), (z3r13 x6), (z3r14 x6)]) (by kernel_rfl) ⟨growth_speciesIsDefined_fc fu s q10 q11 q12 q13 x1 h1, z3p15 s q10 q11 q12 q13, z3p16 s, selfB_self 9 _ rfl _, h2, growth_boxIsDefined_fc b, h3, growth_seasonIsDefined_fc q, h4, growth_boxIsDefined_fc after, h5, growth_grower_back_fc fu (⟨s⟩ : Xgrower) b q after q10 q11 q12 q13 x6 h6, z3p17 b q after, z3p18 s q10 q11 q12 q13, selfB_self 9 _ rfl _, growth_orNone_fc x6.1 x6.2, trivial⟩ (by kernel_rfl)
          · skip
            have e : growth_Back fu s b q after = some ((⟨(⟨0, 0, 0, 0⟩ : XStand), (⟨0, 0, 0, 0⟩ : XStand)⟩ : XBox), 2) := by unfold growth_Back; rw [h1, Option.bind_some, h2, cond_true, h3, cond_true, h4, cond_true, h5, cond_false]; first | done | rfl
            rw [e] at hh
            have hr := Option.some.inj hh
            rw [← hr]
            exact FSat.done pfT (fuel := 14) (hs := (hR 7 ((z3i0 s q10 q11 q12 q13 x1) :: hE :: hE :: hE :: (hB (hC (.bool (growth_boxIsDefined b))) true) :: (hR 4 ((hB (hC (.bool (growth_seasonIsDefined q))) true) :: (hR 4 ((hB (hC (.bool (growth_boxIsDefined after))) false) :: (hR 5 [])))))))) (ss := []) (R := [(z3r3 s q10 q11 q12 q13 x1), (z3r4 s q10 q11 q12 q13), (z3r5 s), (z3r6 x1), (x1) = true, (z3r7 b), (growth_boxIsDefined b) = true, (z3r8 q), (growth_seasonIsDefined q) = true, (z3r9 after), (growth_boxIsDefined after) = false]) (by kernel_rfl) ⟨growth_speciesIsDefined_fc fu s q10 q11 q12 q13 x1 h1, z3p15 s q10 q11 q12 q13, z3p16 s, selfB_self 9 _ rfl _, h2, growth_boxIsDefined_fc b, h3, growth_seasonIsDefined_fc q, h4, growth_boxIsDefined_fc after, h5, trivial⟩ (by kernel_rfl)
        · skip
          have e : growth_Back fu s b q after = some ((⟨(⟨0, 0, 0, 0⟩ : XStand), (⟨0, 0, 0, 0⟩ : XStand)⟩ : XBox), 2) := by unfold growth_Back; rw [h1, Option.bind_some, h2, cond_true, h3, cond_true, h4, cond_false]; first | done | rfl
          rw [e] at hh
          have hr := Option.some.inj hh
          rw [← hr]
          exact FSat.done pfT (fuel := 14) (hs := (hR 7 ((z3i0 s q10 q11 q12 q13 x1) :: hE :: hE :: hE :: (hB (hC (.bool (growth_boxIsDefined b))) true) :: (hR 4 ((hB (hC (.bool (growth_seasonIsDefined q))) false) :: (hR 7 [])))))) (ss := []) (R := [(z3r3 s q10 q11 q12 q13 x1), (z3r4 s q10 q11 q12 q13), (z3r5 s), (z3r6 x1), (x1) = true, (z3r7 b), (growth_boxIsDefined b) = true, (z3r8 q), (growth_seasonIsDefined q) = false]) (by kernel_rfl) ⟨growth_speciesIsDefined_fc fu s q10 q11 q12 q13 x1 h1, z3p15 s q10 q11 q12 q13, z3p16 s, selfB_self 9 _ rfl _, h2, growth_boxIsDefined_fc b, h3, growth_seasonIsDefined_fc q, h4, trivial⟩ (by kernel_rfl)
      · skip
        have e : growth_Back fu s b q after = some ((⟨(⟨0, 0, 0, 0⟩ : XStand), (⟨0, 0, 0, 0⟩ : XStand)⟩ : XBox), 2) := by unfold growth_Back; rw [h1, Option.bind_some, h2, cond_true, h3, cond_false]; first | done | rfl
        rw [e] at hh
        have hr := Option.some.inj hh
        rw [← hr]
        exact FSat.done pfT (fuel := 14) (hs := (hR 7 ((z3i0 s q10 q11 q12 q13 x1) :: hE :: hE :: hE :: (hB (hC (.bool (growth_boxIsDefined b))) false) :: (hR 9 [])))) (ss := []) (R := [(z3r3 s q10 q11 q12 q13 x1), (z3r4 s q10 q11 q12 q13), (z3r5 s), (z3r6 x1), (x1) = true, (z3r7 b), (growth_boxIsDefined b) = false]) (by kernel_rfl) ⟨growth_speciesIsDefined_fc fu s q10 q11 q12 q13 x1 h1, z3p15 s q10 q11 q12 q13, z3p16 s, selfB_self 9 _ rfl _, h2, growth_boxIsDefined_fc b, h3, trivial⟩ (by kernel_rfl)
    · skip
      have e : growth_Back fu s b q after = some ((⟨(⟨0, 0, 0, 0⟩ : XStand), (⟨0, 0, 0, 0⟩ : XStand)⟩ : XBox), 2) := by unfold growth_Back; rw [h1, Option.bind_some, h2, cond_false]; first | done | rfl
      rw [e] at hh
      have hr := Option.some.inj hh
      rw [← hr]
      exact FSat.done pfT (fuel := 14) (hs := (hR 7 ((z3i19 s q10 q11 q12 q13 x1) :: (hR 10 [])))) (ss := []) (R := [(z3r3 s q10 q11 q12 q13 x1), (z3r4 s q10 q11 q12 q13), (z3r5 s), (z3r6 x1), (x1) = false]) (by kernel_rfl) ⟨growth_speciesIsDefined_fc fu s q10 q11 q12 q13 x1 h1, z3p15 s q10 q11 q12 q13, z3p16 s, selfB_self 9 _ rfl _, h2, trivial⟩ (by kernel_rfl)

/- greenhew/greenhewref02.in -/
abbrev A_ref02_in (n : Int) (low : Int) (high : Int) : List Value := [I (n), I (low), I (high)]
noncomputable def ref02_in (n : Int) (low : Int) (high : Int) : Bool :=
  bif decide (n ≥ low) then decide (n ≤ high)
  else false
theorem ref02_in_fc (n : Int) (low : Int) (high : Int) : FC P GG 63 (A_ref02_in n low high) [] (.bool (ref02_in n low high)) := by
  refine FC.of_fsat 15 100 Tryd.func63 (by kernel_rfl) (by kernel_rfl) (by kernel_rfl) trivial ?_
  rcases Bool.eq_false_or_eq_true (decide (n ≥ low)) with h1 | h1
  · skip
    have e : ref02_in n low high = decide (n ≤ high) := by unfold ref02_in; rw [h1, cond_true]; first | done | rfl
    rw [e]
    exact FSat.done pfT (fuel := 10) (hs := (hE :: hE :: hE :: hT :: (hR 6 []))) (ss := []) (R := [(decide (n ≥ low)) = true]) (by kernel_rfl) ⟨h1, trivial⟩ (by kernel_rfl)
  · skip
    have e : ref02_in n low high = false := by unfold ref02_in; rw [h1, cond_false]; first | done | rfl
    rw [e]
    exact FSat.done pfT (fuel := 10) (hs := [hE, hE, hE, hF, hE, hE, hE]) (ss := []) (R := [(decide (n ≥ low)) = false]) (by kernel_rfl) ⟨h1, trivial⟩ (by kernel_rfl)

/- greenhew/greenhewref02.table -/
abbrev z40r0 (l : List Int) (v5 : Int) : Prop := RowLd P 3 (encL cInt l) (0 + v5.toNat * 1) (I ((at_ 0 l v5)))
abbrev z40r1 (l : List Int) (most : Int) (v5 : Int) : Prop := FC P GG 63 (A_ref02_in (at_ 0 l v5) 0 most) [] (.bool (ref02_in (at_ 0 l v5) 0 most))
abbrev z40r2 (l : List Int) : Prop := FC P GG 63 (A_ref02_in ((l.length : Nat) : Int) 1 60) [] (.bool (ref02_in ((l.length : Nat) : Int) 1 60))
abbrev A_ref02_table (l : List Int) (most : Int) (q10 : Nat) : List Value := [.slice (some ⟨10, 0, none⟩) (l.length) (q10), I (most)]
abbrev K_ref02_table (l : List Int) : List (Nat × List Value) := [(10, encL cInt l)]
noncomputable def ref02_table_L (fu : Nat) (l : List Int) (most : Int) : Nat → (Bool → Int → Option Bool)
  | 0 => (fun _ _ => none)
  | fk + 1 => (fun v4 v5 => bif decide (v5 < ((l.length : Nat) : Int)) then (bif decide (0 ≤ v5 ∧ v5 < ((l.length : Nat) : Int)) then (bif ref02_in (at_ 0 l v5) 0 most then ref02_table_L fu l most fk v4 (W (v5 + 1))
        else some false) else none)
      else some (ref02_in ((l.length : Nat) : Int) 1 60))
theorem ref02_table_L_s0 (fu : Nat) (l : List Int) (most : Int) (fk : Nat) (v4 : Bool) (v5 : Int) : ref02_table_L fu l most (fk + 1) v4 v5 = (bif decide (v5 < ((l.length : Nat) : Int)) then (bif decide (0 ≤ v5 ∧ v5 < ((l.length : Nat) : Int)) then (bif ref02_in (at_ 0 l v5) 0 most then ref02_table_L fu l most fk v4 (W (v5 + 1))
        else some false) else none)
      else some (ref02_in ((l.length : Nat) : Int) 1 60)) := rfl
noncomputable def ref02_table (fu : Nat) (l : List Int) (most : Int) : Option Bool :=
  ref02_table_L fu l most fu false 0
theorem ref02_table_L_fs (fu : Nat) (l : List Int) (most : Int) (q10 : Nat) : ∀ fk, (∀ (v4 : Bool) (v5 : Int) (r : Bool), ref02_table_L fu l most fk v4 v5 = some r → FSat P GG Tryd.f62 (.bool (r)) (ids (looses (K_ref02_table l))) 22 [.lp (cA (bodyOf Tryd.f62) [1, 0, 1, 0, 0]), .blk 0, .code (cA (bodyOf Tryd.f62) [1, 1])] (tOf 22 [(0, .slice (some ⟨10, 0, none⟩) (l.length) (q10)), (1, I (most)), (4, .bool (v4)), (5, I (v5))]) (mOf 100 [(0, .rom [I (1), I (2), I (3)] .glob), (10, .rom (encL cInt l) .loose)])) := by
  intro fk
  induction fk with
  | zero => exact fun _ _ r hh => by cases hh
  | succ fk ih =>
    · intro v4 v5 r hh
      rcases Bool.eq_false_or_eq_true (decide (v5 < ((l.length : Nat) : Int))) with h1 | h1
      · skip
        rcases Bool.eq_false_or_eq_true (decide (0 ≤ v5 ∧ v5 < ((l.length : Nat) : Int))) with h2 | h2
        rotate_left
        · skip
          have e : ref02_table_L fu l most (fk + 1) v4 v5 = none := by rw [ref02_table_L_s0]; rw [h1, cond_true, h2, cond_false]; first | done | rfl
          rw [e] at hh; cases hh
        · skip
          rcases Bool.eq_false_or_eq_true (ref02_in (at_ 0 l v5) 0 most) with h3 | h3
          · skip
            have e : ref02_table_L fu l most (fk + 1) v4 v5 = ref02_table_L fu l most fk v4 (W (v5 + 1)) := by rw [ref02_table_L_s0]; rw [h1, cond_true, h2, cond_true, h3, cond_true]; first | done | rfl
            rw [e] at hh
            have nx := ih v4 (W (v5 + 1)) r hh
            refine FSat.stop pfT (fuel := 20) (hs := (hE :: hE :: hE :: hT :: hE :: hE :: hX :: (hL (I ((at_ 0 l v5)))) :: hE :: (hB (hC (.bool (ref02_in (at_ 0 l v5) 0 most))) true) :: (hR 4 []))) (ss := [.go, .st [0, 1, 4, 5] [0, 10]]) (R := [(decide (v5 < ((l.length : Nat) : Int))) = true, 0 ≤ v5 ∧ v5 < ((l.length : Nat) : Int), (z40r0 l v5), (z40r1 l most v5), (ref02_in (at_ 0 l v5) 0 most) = true]) (by kernel_rfl) ⟨h1, of_decide_eq_true h2, RowLd.part cInt_len _ rfl rfl _ _ (of_decide_eq_true h2) 0 _ rfl (by decide), ref02_in_fc (at_ 0 l v5) 0 most, h3, trivial⟩ 100 (by kernel_rfl) ?_ nx
            exact ⟨PinL.lit (by kernel_rfl), PinL.pf (encL_pf cInt_pf _), trivial⟩
          · skip
            have e : ref02_table_L fu l most (fk + 1) v4 v5 = some false := by rw [ref02_table_L_s0]; rw [h1, cond_true, h2, cond_true, h3, cond_false]; first | done | rfl
            rw [e] at hh
            have hr := Option.some.inj hh
            rw [← hr]
            exact FSat.done pfT (fuel := 19) (hs := [hE, hE, hE, hT, hE, hE, hX, (hL (I ((at_ 0 l v5)))), hE, (hB (hC (.bool (ref02_in (at_ 0 l v5) 0 most))) false), hE, hE]) (ss := [.go]) (R := [(decide (v5 < ((l.length : Nat) : Int))) = true, 0 ≤ v5 ∧ v5 < ((l.length : Nat) : Int), (z40r0 l v5), (z40r1 l most v5), (ref02_in (at_ 0 l v5) 0 most) = false]) (by kernel_rfl) ⟨h1, of_decide_eq_true h2, RowLd.part cInt_len _ rfl rfl _ _ (of_decide_eq_true h2) 0 _ rfl (by decide), ref02_in_fc (at_ 0 l v5) 0 most, h3, trivial⟩ (by kernel_rfl)
      · skip
        have e : ref02_table_L fu l most (fk + 1) v4 v5 = some (ref02_in ((l.length : Nat) : Int) 1 60) := by rw [ref02_table_L_s0]; rw [h1, cond_false]; first | done | rfl
        rw [e] at hh
        have hr := Option.some.inj hh
        rw [← hr]
        exact FSat.done pfT (fuel := 14) (hs := [hE, hE, hE, hF, hE, hE, (hC (.bool (ref02_in ((l.length : Nat) : Int) 1 60))), hE]) (ss := [.go]) (R := [(decide (v5 < ((l.length : Nat) : Int))) = false, (z40r2 l)]) (by kernel_rfl) ⟨h1, ref02_in_fc ((l.length : Nat) : Int) 1 60, trivial⟩ (by kernel_rfl)
theorem ref02_table_fc (fu : Nat) (l : List Int) (most : Int) (q10 : Nat) (r : Bool) (hh : ref02_table fu l most = some r) : FC P GG 62 (A_ref02_table l most q10) (K_ref02_table l) (.bool (r)) := by
  refine FC.of_fsat 22 100 Tryd.func62 (by kernel_rfl) (by kernel_rfl) (by kernel_rfl) ⟨PinL.pf (encL_pf cInt_pf _), trivial⟩ ?_
  have e : ref02_table fu l most = ref02_table_L fu l most fu false 0 := by unfold ref02_table; rfl
  rw [e] at hh
  have nx := ref02_table_L_fs fu l most q10 fu false 0 r hh
  refine FSat.stop pfT (fuel := 13) (hs := [hE, hE]) (ss := [.st [0, 1, 4, 5] [0, 10]]) (R := []) (by kernel_rfl) trivial 100 (by kernel_rfl) ?_ nx
  exact ⟨PinL.lit (by kernel_rfl), PinL.pf (encL_pf cInt_pf _), trivial⟩

/- greenhew/greenhewref02.Span -/
abbrev z42r0 (s : XSpan) : Prop := FC P GG 63 (A_ref02_in s.Low 0 s.High) [] (.bool (ref02_in s.Low 0 s.High))
abbrev A_ref02_Span (s : XSpan) (most : Int) : List Value := [.agg #[I (s.Low), I (s.High)], I (most)]
noncomputable def ref02_Span (s : XSpan) (most : Int) : Bool :=
  bif ref02_in s.Low 0 s.High then decide (s.High ≤ most)
  else false
theorem ref02_Span_fc (s : XSpan) (most : Int) : FC P GG 64 (A_ref02_Span s most) [] (.bool (ref02_Span s most)) := by
  refine FC.of_fsat 16 100 Tryd.func64 (by kernel_rfl) (by kernel_rfl) (by kernel_rfl) trivial ?_
  rcases Bool.eq_false_or_eq_true (ref02_in s.Low 0 s.High) with h1 | h1
  · skip
    have e : ref02_Span s most = decide (s.High ≤ most) := by unfold ref02_Span; rw [h1, cond_true]; first | done | rfl
    rw [e]
    exact FSat.done pfT (fuel := 10) (hs := (hR 6 ((hB (hC (.bool (ref02_in s.Low 0 s.High))) true) :: (hR 7 [])))) (ss := []) (R := [(z42r0 s), (ref02_in s.Low 0 s.High) = true]) (by kernel_rfl) ⟨ref02_in_fc s.Low 0 s.High, h1, trivial⟩ (by kernel_rfl)
  · skip
    have e : ref02_Span s most = false := by unfold ref02_Span; rw [h1, cond_false]; first | done | rfl
    rw [e]
    exact FSat.done pfT (fuel := 10) (hs := (hR 6 [(hB (hC (.bool (ref02_in s.Low 0 s.High))) false), hE, hE, hE])) (ss := []) (R := [(z42r0 s), (ref02_in s.Low 0 s.High) = false]) (by kernel_rfl) ⟨ref02_in_fc s.Low 0 s.High, h1, trivial⟩ (by kernel_rfl)

/- greenhew/greenhewref02.Species -/
noncomputable abbrev z39i0 (s : XSpecies) (v3 : Int) : Hint := (hL (.agg #[I ((at_ zXRung s.Ladder v3).Height), I ((at_ zXRung s.Ladder v3).Shoots)]))
noncomputable abbrev z39i1 (s : XSpecies) (v3 : Int) : Hint := (hB (hC (.bool (ref02_in ((at_ zXRung s.Ladder v3).Height) 1 40000))) true)
noncomputable abbrev z39i2 (s : XSpecies) (v3 : Int) : Hint := (hB (hC (.bool (ref02_in ((at_ zXRung s.Ladder v3).Shoots) 0 300))) true)
abbrev z39r3 (s : XSpecies) (v3 : Int) : Prop := RowLd P 119 (encL cXRung s.Ladder) (0 + v3.toNat * 2) (.agg #[I ((at_ zXRung s.Ladder v3).Height), I ((at_ zXRung s.Ladder v3).Shoots)])
abbrev z39r4 (s : XSpecies) (v3 : Int) : Prop := FC P GG 63 (A_ref02_in ((at_ zXRung s.Ladder v3).Height) 1 40000) [] (.bool (ref02_in ((at_ zXRung s.Ladder v3).Height) 1 40000))
abbrev z39r5 (s : XSpecies) (v3 : Int) : Prop := FC P GG 63 (A_ref02_in ((at_ zXRung s.Ladder v3).Shoots) 0 300) [] (.bool (ref02_in ((at_ zXRung s.Ladder v3).Shoots) 0 300))
abbrev z39r6 (s : XSpecies) (v3 : Int) : Prop := 0 ≤ (W (v3 - 1)) ∧ (W (v3 - 1)) < ((s.Ladder.length : Nat) : Int)
abbrev z39r7 (s : XSpecies) (v3 : Int) : Prop := RowLd P 3 (encL cXRung s.Ladder) (0 + (W (v3 - 1)).toNat * 2) (I ((at_ zXRung s.Ladder (W (v3 - 1))).Height))
abbrev z39r8 (s : XSpecies) (v3 : Int) : Prop := (decide (((at_ zXRung s.Ladder v3).Height) ≤ ((at_ zXRung s.Ladder (W (v3 - 1))).Height))) = true
abbrev z39r9 (s : XSpecies) (v3 : Int) : Prop := (decide (((at_ zXRung s.Ladder v3).Height) ≤ ((at_ zXRung s.Ladder (W (v3 - 1))).Height))) = false
abbrev z39r10 (s : XSpecies) (v3 : Int) : Prop := RowLd P 3 (encL cXRung s.Ladder) (0 + (W (v3 - 1)).toNat * 2 + 1) (I ((at_ zXRung s.Ladder (W (v3 - 1))).Shoots))
abbrev z39r11 (s : XSpecies) (v3 : Int) : Prop := (decide (((at_ zXRung s.Ladder v3).Shoots) ≥ ((at_ zXRung s.Ladder (W (v3 - 1))).Shoots))) = true
abbrev z39r12 (s : XSpecies) (v3 : Int) : Prop := (decide (((at_ zXRung s.Ladder v3).Shoots) ≥ ((at_ zXRung s.Ladder (W (v3 - 1))).Shoots))) = false
noncomputable abbrev z39i13 (s : XSpecies) (v3 : Int) : Hint := (hB (hC (.bool (ref02_in ((at_ zXRung s.Ladder v3).Shoots) 0 300))) false)
noncomputable abbrev z39i14 (s : XSpecies) (v3 : Int) : Hint := (hB (hC (.bool (ref02_in ((at_ zXRung s.Ladder v3).Height) 1 40000))) false)
abbrev z39r15 (s : XSpecies) (v3 : Int) : Prop := (ref02_in ((at_ zXRung s.Ladder v3).Height) 1 40000) = false
noncomputable abbrev z39i16 (s : XSpecies) (v5_1 : Int) : Hint := (hL (.agg #[I ((at_ zXSpan s.Sprouts v5_1).Low), I ((at_ zXSpan s.Sprouts v5_1).High)]))
noncomputable abbrev z39i17 (s : XSpecies) (v5_1 : Int) : Hint := (hB (hC (.bool (ref02_Span (at_ zXSpan s.Sprouts v5_1) 300))) true)
abbrev z39r18 (s : XSpecies) (v5_1 : Int) : Prop := RowLd P 56 (encL cXSpan s.Sprouts) (0 + v5_1.toNat * 2) (.agg #[I ((at_ zXSpan s.Sprouts v5_1).Low), I ((at_ zXSpan s.Sprouts v5_1).High)])
abbrev z39r19 (s : XSpecies) (v5_1 : Int) : Prop := FC P GG 64 (A_ref02_Span (at_ zXSpan s.Sprouts v5_1) 300) [] (.bool (ref02_Span (at_ zXSpan s.Sprouts v5_1) 300))
noncomputable abbrev z39i20 (s : XSpecies) (v5_1 : Int) : Hint := (hB (hC (.bool (ref02_Span (at_ zXSpan s.Sprouts v5_1) 300))) false)
noncomputable abbrev z39i21 (s : XSpecies) (q10 : Nat) (x1 : Bool) : Hint := (hB (hM (.bool (x1)) (.bool (x1)) (A_ref02_table s.Rise 5000 q10) (K_ref02_table s.Rise) [(10, 10, 0)]) true)
noncomputable abbrev z39i22 (s : XSpecies) (q11 : Nat) (x3 : Bool) : Hint := (hB (hM (.bool (x3)) (.bool (x3)) (A_ref02_table s.Thick 300 q11) (K_ref02_table s.Thick) [(10, 11, 0)]) true)
abbrev z39r23 (s : XSpecies) (q10 : Nat) (x1 : Bool) : Prop := FC P GG 62 (A_ref02_table s.Rise 5000 q10) (K_ref02_table s.Rise) (.bool (x1))
abbrev z39r24 (s : XSpecies) (q10 : Nat) : Prop := VRs (Ren.emb [(10, 10, 0)]) (A_ref02_table s.Rise 5000 q10) [.slice (some ⟨10, 0, none⟩) (s.Rise.length) (q10), I (5000)]
abbrev z39r25 (s : XSpecies) : Prop := MemAt (Ren.emb [(10, 10, 0)]) (encL cInt s.Rise) 0 (encL cInt s.Rise) ∧ True
abbrev z39r26 (s : XSpecies) (q11 : Nat) (x3 : Bool) : Prop := FC P GG 62 (A_ref02_table s.Thick 300 q11) (K_ref02_table s.Thick) (.bool (x3))
abbrev z39r27 (s : XSpecies) (q11 : Nat) : Prop := VRs (Ren.emb [(10, 11, 0)]) (A_ref02_table s.Thick 300 q11) [.slice (some ⟨11, 0, none⟩) (s.Thick.length) (q11), I (300)]
abbrev z39r28 (s : XSpecies) : Prop := MemAt (Ren.emb [(10, 11, 0)]) (encL cInt s.Thick) 0 (encL cInt s.Thick) ∧ True
abbrev z39r29 (s : XSpecies) : Prop := FC P GG 63 (A_ref02_in s.Top 1 40000) [] (.bool (ref02_in s.Top 1 40000))
abbrev z39r30 (s : XSpecies) : Prop := FC P GG 63 (A_ref02_in s.Stout 1 3000) [] (.bool (ref02_in s.Stout 1 3000))
abbrev z39r31 (s : XSpecies) : Prop := FC P GG 63 (A_ref02_in s.Shade 0 99) [] (.bool (ref02_in s.Shade 0 99))
abbrev z39r32 (s : XSpecies) : Prop := FC P GG 63 (A_ref02_in s.Reach 0 40000) [] (.bool (ref02_in s.Reach 0 40000))
theorem z39p33 (s : XSpecies) (q10 : Nat) : (z39r24 s q10) := (.cons _ _ _ _ (.slc 10 0 _ _ _ ⟨10, 0, 0, 0⟩ rfl (.inl rfl)) (.cons _ _ _ _ (VR.of_pf rfl) .nil))
theorem z39p34 (s : XSpecies) (q11 : Nat) : (z39r27 s q11) := (.cons _ _ _ _ (.slc 10 0 _ _ _ ⟨11, 0, 0, 0⟩ rfl (.inl rfl)) (.cons _ _ _ _ (VR.of_pf rfl) .nil))
noncomputable abbrev z39i35 (s : XSpecies) : Hint := (hB (hC (.bool (ref02_in ((s.Sprouts.length : Nat) : Int) 1 60))) true)
abbrev z39r36 (s : XSpecies) : Prop := FC P GG 63 (A_ref02_in ((s.Sprouts.length : Nat) : Int) 1 60) [] (.bool (ref02_in ((s.Sprouts.length : Nat) : Int) 1 60))
noncomputable abbrev z39i37 (s : XSpecies) : Hint := (hB (hC (.bool (ref02_in ((s.Sprouts.length : Nat) : Int) 1 60))) false)
noncomputable abbrev z39i38 (s : XSpecies) (q11 : Nat) (x3 : Bool) : Hint := (hB (hM (.bool (x3)) (.bool (x3)) (A_ref02_table s.Thick 300 q11) (K_ref02_table s.Thick) [(10, 11, 0)]) false)
noncomputable abbrev z39i39 (s : XSpecies) (q10 : Nat) (x1 : Bool) : Hint := (hB (hM (.bool (x1)) (.bool (x1)) (A_ref02_table s.Rise 5000 q10) (K_ref02_table s.Rise) [(10, 10, 0)]) false)
abbrev A_ref02_Species (s : XSpecies) (q10 : Nat) (q11 : Nat) (q12 : Nat) (q13 : Nat) : List Value := [.agg #[.slice (some ⟨10, 0, none⟩) (s.Rise.length) (q10), .slice (some ⟨11, 0, none⟩) (s.Thick.length) (q11), I (s.Top), I (s.Stout), I (s.Shade), I (s.Reach), .slice (some ⟨12, 0, none⟩) (s.Ladder.length) (q12), .slice (some ⟨13, 0, none⟩) (s.Sprouts.length) (q13)]]
abbrev K_ref02_Species (s : XSpecies) : List (Nat × List Value) := [(10, encL cInt s.Rise), (11, encL cInt s.Thick), (12, encL cXRung s.Ladder), (13, encL cXSpan s.Sprouts)]
noncomputable def ref02_Species_L (fu : Nat) (s : XSpecies) : Nat → (Bool → Int → Option Bool) × (Bool → Int → Option Bool)
  | 0 => (fun _ _ => none, fun _ _ => none)
  | fk + 1 => (fun v2 v3 => bif decide (v3 < ((s.Ladder.length : Nat) : Int)) then (bif decide (0 ≤ v3 ∧ v3 < ((s.Ladder.length : Nat) : Int)) then (bif ref02_in ((at_ zXRung s.Ladder v3).Height) 1 40000 then (bif ref02_in ((at_ zXRung s.Ladder v3).Shoots) 0 300 then (bif decide (v3 > 0) then (bif decide (0 ≤ (W (v3 - 1)) ∧ (W (v3 - 1)) < ((s.Ladder.length : Nat) : Int)) then (bif decide (((at_ zXRung s.Ladder v3).Height) ≤ ((at_ zXRung s.Ladder (W (v3 - 1))).Height)) then some false
              else (bif decide (((at_ zXRung s.Ladder v3).Shoots) ≥ ((at_ zXRung s.Ladder (W (v3 - 1))).Shoots)) then some false
                else (ref02_Species_L fu s fk).1 v2 (W (v3 + 1)))) else none)
            else (ref02_Species_L fu s fk).1 v2 (W (v3 + 1)))
          else some false)
        else some false) else none)
      else (ref02_Species_L fu s fk).2 v2 0,
    fun v2_1 v5_1 => bif decide (v5_1 < ((s.Sprouts.length : Nat) : Int)) then (bif decide (0 ≤ v5_1 ∧ v5_1 < ((s.Sprouts.length : Nat) : Int)) then (bif ref02_Span (at_ zXSpan s.Sprouts v5_1) 300 then (ref02_Species_L fu s fk).2 v2_1 (W (v5_1 + 1))
        else some false) else none)
      else some true)
theorem ref02_Species_L_s0 (fu : Nat) (s : XSpecies) (fk : Nat) (v2 : Bool) (v3 : Int) : (ref02_Species_L fu s (fk + 1)).1 v2 v3 = (bif decide (v3 < ((s.Ladder.length : Nat) : Int)) then (bif decide (0 ≤ v3 ∧ v3 < ((s.Ladder.length : Nat) : Int)) then (bif ref02_in ((at_ zXRung s.Ladder v3).Height) 1 40000 then (bif ref02_in ((at_ zXRung s.Ladder v3).Shoots) 0 300 then (bif decide (v3 > 0) then (bif decide (0 ≤ (W (v3 - 1)) ∧ (W (v3 - 1)) < ((s.Ladder.length : Nat) : Int)) then (bif decide (((at_ zXRung s.Ladder v3).Height) ≤ ((at_ zXRung s.Ladder (W (v3 - 1))).Height)) then some false
              else (bif decide (((at_ zXRung s.Ladder v3).Shoots) ≥ ((at_ zXRung s.Ladder (W (v3 - 1))).Shoots)) then some false
                else (ref02_Species_L fu s fk).1 v2 (W (v3 + 1)))) else none)
            else (ref02_Species_L fu s fk).1 v2 (W (v3 + 1)))
          else some false)
        else some false) else none)
      else (ref02_Species_L fu s fk).2 v2 0) := rfl
theorem ref02_Species_L_s1 (fu : Nat) (s : XSpecies) (fk : Nat) (v2_1 : Bool) (v5_1 : Int) : (ref02_Species_L fu s (fk + 1)).2 v2_1 v5_1 = (bif decide (v5_1 < ((s.Sprouts.length : Nat) : Int)) then (bif decide (0 ≤ v5_1 ∧ v5_1 < ((s.Sprouts.length : Nat) : Int)) then (bif ref02_Span (at_ zXSpan s.Sprouts v5_1) 300 then (ref02_Species_L fu s fk).2 v2_1 (W (v5_1 + 1))
        else some false) else none)
      else some true) := rfl
noncomputable def ref02_Species (fu : Nat) (s : XSpecies) : Option Bool :=
  Option.bind (ref02_table fu s.Rise 5000) fun x1 =>
  bif x1 then (Option.bind (ref02_table fu s.Thick 300) fun x3 =>
    bif x3 then (bif ref02_in s.Top 1 40000 then (bif ref02_in s.Stout 1 3000 then (bif ref02_in s.Shade 0 99 then (bif ref02_in s.Reach 0 40000 then (bif decide (((s.Ladder.length : Nat) : Int) > 20) then some false
              else (bif ref02_in ((s.Sprouts.length : Nat) : Int) 1 60 then (ref02_Species_L fu s fu).1 false 0
                else some false))
            else some false)
          else some false)
        else some false)
      else some false)
    else some false)
  else some false
theorem ref02_Species_L_fs (fu : Nat) (s : XSpecies) (q10 q11 q12 q13 : Nat) : ∀ fk, (∀ (v2 : Bool) (v3 : Int) (r : Bool), (ref02_Species_L fu s fk).1 v2 v3 = some r → FSat P GG Tryd.f22 (.bool (r)) (ids (looses (K_ref02_Species s))) 117 [.lp (cA (bodyOf Tryd.f22) [1, 1, 0, 1, 0, 0]), .blk 0, .code (cA (bodyOf Tryd.f22) [1, 1, 1])] (tOf 117 [(1, .pointer (some ⟨100, 0, none⟩)), (2, .bool (v2)), (3, I (v3))]) (mOf 101 [(0, .rom [I (1), I (2), I (3)] .glob), (10, .rom (encL cInt s.Rise) .loose), (11, .rom (encL cInt s.Thick) .loose), (12, .rom (encL cXRung s.Ladder) .loose), (13, .rom (encL cXSpan s.Sprouts) .loose), (100, .row [.slice (some ⟨10, 0, none⟩) (s.Rise.length) (q10), .slice (some ⟨11, 0, none⟩) (s.Thick.length) (q11), I (s.Top), I (s.Stout), I (s.Shade), I (s.Reach), .slice (some ⟨12, 0, none⟩) (s.Ladder.length) (q12), .slice (some ⟨13, 0, none⟩) (s.Sprouts.length) (q13)] 0)])) ∧ (∀ (v2_1 : Bool) (v5_1 : Int) (r : Bool), (ref02_Species_L fu s fk).2 v2_1 v5_1 = some r → FSat P GG Tryd.f22 (.bool (r)) (ids (looses (K_ref02_Species s))) 117 [.lp (cA (bodyOf Tryd.f22) [1, 1, 1, 0, 1, 0, 0]), .blk 2, .code (cA (bodyOf Tryd.f22) [1, 1, 1, 1])] (tOf 117 [(1, .pointer (some ⟨100, 0, none⟩)), (2, .bool (v2_1)), (5, I (v5_1))]) (mOf 101 [(0, .rom [I (1), I (2), I (3)] .glob), (10, .rom (encL cInt s.Rise) .loose), (11, .rom (encL cInt s.Thick) .loose), (12, .rom (encL cXRung s.Ladder) .loose), (13, .rom (encL cXSpan s.Sprouts) .loose), (100, .row [.slice (some ⟨10, 0, none⟩) (s.Rise.length) (q10), .slice (some ⟨11, 0, none⟩) (s.Thick.length) (q11), I (s.Top), I (s.Stout), I (s.Shade), I (s.Reach), .slice (some ⟨12, 0, none⟩) (s.Ladder.length) (q12), .slice (some ⟨13, 0, none⟩) (s.Sprouts.length) (q13)] 0)])) := by
  intro fk
  induction fk with
  | zero => exact ⟨(fun _ _ r hh => by cases hh), (fun _ _ r hh => by cases hh)⟩
  | succ fk ih =>
    refine ⟨?_, ?_⟩
    · intro v2 v3 r hh
      rcases Bool.eq_false_or_eq_true (decide (v3 < ((s.Ladder.length : Nat) : Int))) with h1 | h1
      · skip
        rcases Bool.eq_false_or_eq_true (decide (0 ≤ v3 ∧ v3 < ((s.Ladder.length : Nat) : Int))) with h2 | h2
        rotate_left
        · skip
          have e : (ref02_Species_L fu s (fk + 1)).1 v2 v3 = none := by rw [ref02_Species_L_s0]; rw [h1, cond_true, h2, cond_false]; first | done | rfl
          rw [e] at hh; cases hh
        · skip
          rcases Bool.eq_false_or_eq_true (ref02_in ((at_ zXRung s.Ladder v3).Height) 1 40000) with h3 | h3
          · skip
            rcases Bool.eq_false_or_eq_true (ref02_in ((at_ zXRung s.Ladder v3).Shoots) 0 300) with h4 | h4
            · skip
              rcases Bool.eq_false_or_eq_true (decide (v3 > 0)) with h5 | h5
              · skip
                rcases Bool.eq_false_or_eq_true (decide (0 ≤ (W (v3 - 1)) ∧ (W (v3 - 1)) < ((s.Ladder.length : Nat) : Int))) with h6 | h6
                rotate_left
                · skip
                  have e : (ref02_Species_L fu s (fk + 1)).1 v2 v3 = none := by rw [ref02_Species_L_s0]; rw [h1, cond_true, h2, cond_true, h3, cond_true, h4, cond_true, h5, cond_true, h6, cond_false]; first | done | rfl
                  rw [e] at hh; cases hh
                · skip
                  rcases Bool.eq_false_or_eq_true (decide (((at_ zXRung s.Ladder v3).Height) ≤ ((at_ zXRung s.Ladder (W (v3 - 1))).Height))) with h7 | h7
                  · skip
                    have e : (ref02_Species_L fu s (fk + 1)).1 v2 v3 = some false := by rw [ref02_Species_L_s0]; rw [h1, cond_true, h2, cond_true, h3, cond_true, h4, cond_true, h5, cond_true, h6, cond_true, h7, cond_true]; first | done | rfl
                    rw [e] at hh
                    have hr := Option.some.inj hh
                    rw [← hr]
                    exact FSat.done pfT (fuel := 21) (hs := (hR 4 (hT :: hE :: hE :: hE :: hX :: (z39i0 s v3) :: (hR 4 ((z39i1 s v3) :: (hR 4 ((z39i2 s v3) :: (hR 4 (hT :: (hR 7 (hX :: hE :: (hL (I ((at_ zXRung s.Ladder (W (v3 - 1))).Height))) :: hT :: (hR 5 [])))))))))))) (ss := [.go]) (R := [(decide (v3 < ((s.Ladder.length : Nat) : Int))) = true, 0 ≤ v3 ∧ v3 < ((s.Ladder.length : Nat) : Int), (z39r3 s v3), (z39r4 s v3), (ref02_in ((at_ zXRung s.Ladder v3).Height) 1 40000) = true, (z39r5 s v3), (ref02_in ((at_ zXRung s.Ladder v3).Shoots) 0 300) = true, (decide (v3 > 0)) = true, (z39r6 s v3), (z39r7 s v3), (z39r8 s v3)]) (by kernel_rfl) ⟨h1, of_decide_eq_true h2, RowLd.elem cXRung_len _ (.inl ⟨_, rfl⟩) rfl rfl _ _ (of_decide_eq_true h2), ref02_in_fc ((at_ zXRung s.Ladder v3).Height) 1 40000, h3, ref02_in_fc ((at_ zXRung s.Ladder v3).Shoots) 0 300, h4, h5, of_decide_eq_true h6, RowLd.part cXRung_len _ rfl rfl _ _ (of_decide_eq_true h6) 0 _ rfl (by decide), h7, trivial⟩ (by kernel_rfl)
                  · skip
                    rcases Bool.eq_false_or_eq_true (decide (((at_ zXRung s.Ladder v3).Shoots) ≥ ((at_ zXRung s.Ladder (W (v3 - 1))).Shoots))) with h8 | h8
                    · skip
                      have e : (ref02_Species_L fu s (fk + 1)).1 v2 v3 = some false := by rw [ref02_Species_L_s0]; rw [h1, cond_true, h2, cond_true, h3, cond_true, h4, cond_true, h5, cond_true, h6, cond_true, h7, cond_false, h8, cond_true]; first | done | rfl
                      rw [e] at hh
                      have hr := Option.some.inj hh
                      rw [← hr]
                      exact FSat.done pfT (fuel := 21) (hs := (hR 4 (hT :: hE :: hE :: hE :: hX :: (z39i0 s v3) :: (hR 4 ((z39i1 s v3) :: (hR 4 ((z39i2 s v3) :: (hR 4 (hT :: (hR 7 (hX :: hE :: (hL (I ((at_ zXRung s.Ladder (W (v3 - 1))).Height))) :: hF :: (hR 7 (hX :: hE :: (hL (I ((at_ zXRung s.Ladder (W (v3 - 1))).Shoots))) :: hT :: (hR 4 [])))))))))))))) (ss := [.go]) (R := [(decide (v3 < ((s.Ladder.length : Nat) : Int))) = true, 0 ≤ v3 ∧ v3 < ((s.Ladder.length : Nat) : Int), (z39r3 s v3), (z39r4 s v3), (ref02_in ((at_ zXRung s.Ladder v3).Height) 1 40000) = true, (z39r5 s v3), (ref02_in ((at_ zXRung s.Ladder v3).Shoots) 0 300) = true, (decide (v3 > 0)) = true, (z39r6 s v3), (z39r7 s v3), (z39r9 s v3), (z39r6 s v3), (z39r10 s v3), (z39r11 s v3)]) (by kernel_rfl) ⟨h1, of_decide_eq_true h2, RowLd.elem cXRung_len _ (.inl ⟨_, rfl⟩) rfl rfl _ _ (of_decide_eq_true h2), ref02_in_fc ((at_ zXRung s.Ladder v3).Height) 1 40000, h3, ref02_in_fc ((at_ zXRung s.Ladder v3).Shoots) 0 300, h4, h5, of_decide_eq_true h6, RowLd.part cXRung_len _ rfl rfl _ _ (of_decide_eq_true h6) 0 _ rfl (by decide), h7, of_decide_eq_true h6, RowLd.part cXRung_len _ rfl rfl _ _ (of_decide_eq_true h6) 1 _ rfl (by decide), h8, trivial⟩ (by kernel_rfl)
                    · skip
                      have e : (ref02_Species_L fu s (fk + 1)).1 v2 v3 = (ref02_Species_L fu s fk).1 v2 (W (v3 + 1)) := by rw [ref02_Species_L_s0]; rw [h1, cond_true, h2, cond_true, h3, cond_true, h4, cond_true, h5, cond_true, h6, cond_true, h7, cond_false, h8, cond_false]; first | done | rfl
                      rw [e] at hh
                      have nx := ih.1 v2 (W (v3 + 1)) r hh
                      refine FSat.stop pfT (fuel := 22) (hs := (hR 4 (hT :: hE :: hE :: hE :: hX :: (z39i0 s v3) :: (hR 4 ((z39i1 s v3) :: (hR 4 ((z39i2 s v3) :: (hR 4 (hT :: (hR 7 (hX :: hE :: (hL (I ((at_ zXRung s.Ladder (W (v3 - 1))).Height))) :: hF :: (hR 7 (hX :: hE :: (hL (I ((at_ zXRung s.Ladder (W (v3 - 1))).Shoots))) :: hF :: (hR 6 [])))))))))))))) (ss := [.go, .st [1, 2, 3] [0, 10, 11, 12, 13, 100]]) (R := [(decide (v3 < ((s.Ladder.length : Nat) : Int))) = true, 0 ≤ v3 ∧ v3 < ((s.Ladder.length : Nat) : Int), (z39r3 s v3), (z39r4 s v3), (ref02_in ((at_ zXRung s.Ladder v3).Height) 1 40000) = true, (z39r5 s v3), (ref02_in ((at_ zXRung s.Ladder v3).Shoots) 0 300) = true, (decide (v3 > 0)) = true, (z39r6 s v3), (z39r7 s v3), (z39r9 s v3), (z39r6 s v3), (z39r10 s v3), (z39r12 s v3)]) (by kernel_rfl) ⟨h1, of_decide_eq_true h2, RowLd.elem cXRung_len _ (.inl ⟨_, rfl⟩) rfl rfl _ _ (of_decide_eq_true h2), ref02_in_fc ((at_ zXRung s.Ladder v3).Height) 1 40000, h3, ref02_in_fc ((at_ zXRung s.Ladder v3).Shoots) 0 300, h4, h5, of_decide_eq_true h6, RowLd.part cXRung_len _ rfl rfl _ _ (of_decide_eq_true h6) 0 _ rfl (by decide), h7, of_decide_eq_true h6, RowLd.part cXRung_len _ rfl rfl _ _ (of_decide_eq_true h6) 1 _ rfl (by decide), h8, trivial⟩ 101 (by kernel_rfl) ?_ nx
                      exact ⟨PinL.lit (by kernel_rfl), PinL.pf (encL_pf cInt_pf _), PinL.pf (encL_pf cInt_pf _), PinL.pf (encL_pf cXRung_pf _), PinL.pf (encL_pf cXSpan_pf _), PinL.lit (by kernel_rfl), trivial⟩
              · skip
                have e : (ref02_Species_L fu s (fk + 1)).1 v2 v3 = (ref02_Species_L fu s fk).1 v2 (W (v3 + 1)) := by rw [ref02_Species_L_s0]; rw [h1, cond_true, h2, cond_true, h3, cond_true, h4, cond_true, h5, cond_false]; first | done | rfl
                rw [e] at hh
                have nx := ih.1 v2 (W (v3 + 1)) r hh
                refine FSat.stop pfT (fuel := 22) (hs := (hR 4 (hT :: hE :: hE :: hE :: hX :: (z39i0 s v3) :: (hR 4 ((z39i1 s v3) :: (hR 4 ((z39i2 s v3) :: (hR 4 (hF :: (hR 6 [])))))))))) (ss := [.go, .st [1, 2, 3] [0, 10, 11, 12, 13, 100]]) (R := [(decide (v3 < ((s.Ladder.length : Nat) : Int))) = true, 0 ≤ v3 ∧ v3 < ((s.Ladder.length : Nat) : Int), (z39r3 s v3), (z39r4 s v3), (ref02_in ((at_ zXRung s.Ladder v3).Height) 1 40000) = true, (z39r5 s v3), (ref02_in ((at_ zXRung s.Ladder v3).Shoots) 0 300) = true, (decide (v3 > 0)) = false]) (by kernel_rfl) ⟨h1, of_decide_eq_true h2, RowLd.elem cXRung_len _ (.inl ⟨_, rfl⟩) rfl rfl _ _ (of_decide_eq_true h2), ref02_in_fc ((at_ zXRung s.Ladder v3).Height) 1 40000, h3, ref02_in_fc ((at_ zXRung s.Ladder v3).Shoots) 0 300, h4, h5, trivial⟩ 101 (by kernel_rfl) ?_ nx
                exact ⟨PinL.lit (by kernel_rfl), PinL.pf (encL_pf cInt_pf _), PinL.pf (encL_pf cInt_pf _), PinL.pf (encL_pf cXRung_pf _), PinL.pf (encL_pf cXSpan_pf _), PinL.lit (by kernel_rfl), trivial⟩
            · skip
              have e : (ref02_Species_L fu s (fk + 1)).1 v2 v3 = some false := by rw [ref02_Species_L_s0]; rw [h1, cond_true, h2, cond_true, h3, cond_true, h4, cond_false]; first | done | rfl
              rw [e] at hh
              have hr := Option.some.inj hh
              rw [← hr]
              exact FSat.done pfT (fuel := 21) (hs := (hR 4 (hT :: hE :: hE :: hE :: hX :: (z39i0 s v3) :: (hR 4 ((z39i1 s v3) :: (hR 4 ((z39i13 s v3) :: (hR 5 [])))))))) (ss := [.go]) (R := [(decide (v3 < ((s.Ladder.length : Nat) : Int))) = true, 0 ≤ v3 ∧ v3 < ((s.Ladder.length : Nat) : Int), (z39r3 s v3), (z39r4 s v3), (ref02_in ((at_ zXRung s.Ladder v3).Height) 1 40000) = true, (z39r5 s v3), (ref02_in ((at_ zXRung s.Ladder v3).Shoots) 0 300) = false]) (by kernel_rfl) ⟨h1, of_decide_eq_true h2, RowLd.elem cXRung_len _ (.inl ⟨_, rfl⟩) rfl rfl _ _ (of_decide_eq_true h2), ref02_in_fc ((at_ zXRung s.Ladder v3).Height) 1 40000, h3, ref02_in_fc ((at_ zXRung s.Ladder v3).Shoots) 0 300, h4, trivial⟩ (by kernel_rfl)
          · skip
            have e : (ref02_Species_L fu s (fk + 1)).1 v2 v3 = some false := by rw [ref02_Species_L_s0]; rw [h1, cond_true, h2, cond_true, h3, cond_false]; first | done | rfl
            rw [e] at hh
            have hr := Option.some.inj hh
            rw [← hr]
            exact FSat.done pfT (fuel := 21) (hs := (hR 4 (hT :: hE :: hE :: hE :: hX :: (z39i0 s v3) :: (hR 4 ((z39i14 s v3) :: (hR 6 [])))))) (ss := [.go]) (R := [(decide (v3 < ((s.Ladder.length : Nat) : Int))) = true, 0 ≤ v3 ∧ v3 < ((s.Ladder.length : Nat) : Int), (z39r3 s v3), (z39r4 s v3), (z39r15 s v3)]) (by kernel_rfl) ⟨h1, of_decide_eq_true h2, RowLd.elem cXRung_len _ (.inl ⟨_, rfl⟩) rfl rfl _ _ (of_decide_eq_true h2), ref02_in_fc ((at_ zXRung s.Ladder v3).Height) 1 40000, h3, trivial⟩ (by kernel_rfl)
      · skip
        have e : (ref02_Species_L fu s (fk + 1)).1 v2 v3 = (ref02_Species_L fu s fk).2 v2 0 := by rw [ref02_Species_L_s0]; rw [h1, cond_false]; first | done | rfl
        rw [e] at hh
        have nx := ih.2 v2 0 r hh
        refine FSat.stop pfT (fuel := 17) (hs := (hR 4 [hF, hE])) (ss := [.go, .st [1, 2, 5] [0, 10, 11, 12, 13, 100]]) (R := [(decide (v3 < ((s.Ladder.length : Nat) : Int))) = false]) (by kernel_rfl) ⟨h1, trivial⟩ 101 (by kernel_rfl) ?_ nx
        exact ⟨PinL.lit (by kernel_rfl), PinL.pf (encL_pf cInt_pf _), PinL.pf (encL_pf cInt_pf _), PinL.pf (encL_pf cXRung_pf _), PinL.pf (encL_pf cXSpan_pf _), PinL.lit (by kernel_rfl), trivial⟩
    · intro v2_1 v5_1 r hh
      rcases Bool.eq_false_or_eq_true (decide (v5_1 < ((s.Sprouts.length : Nat) : Int))) with h1 | h1
      · skip
        rcases Bool.eq_false_or_eq_true (decide (0 ≤ v5_1 ∧ v5_1 < ((s.Sprouts.length : Nat) : Int))) with h2 | h2
        rotate_left
        · skip
          have e : (ref02_Species_L fu s (fk + 1)).2 v2_1 v5_1 = none := by rw [ref02_Species_L_s1]; rw [h1, cond_true, h2, cond_false]; first | done | rfl
          rw [e] at hh; cases hh
        · skip
          rcases Bool.eq_false_or_eq_true (ref02_Span (at_ zXSpan s.Sprouts v5_1) 300) with h3 | h3
          · skip
            have e : (ref02_Species_L fu s (fk + 1)).2 v2_1 v5_1 = (ref02_Species_L fu s fk).2 v2_1 (W (v5_1 + 1)) := by rw [ref02_Species_L_s1]; rw [h1, cond_true, h2, cond_true, h3, cond_true]; first | done | rfl
            rw [e] at hh
            have nx := ih.2 v2_1 (W (v5_1 + 1)) r hh
            refine FSat.stop pfT (fuel := 20) (hs := (hR 4 (hT :: hE :: hE :: hE :: hX :: (z39i16 s v5_1) :: (z39i17 s v5_1) :: (hR 4 [])))) (ss := [.go, .st [1, 2, 5] [0, 10, 11, 12, 13, 100]]) (R := [(decide (v5_1 < ((s.Sprouts.length : Nat) : Int))) = true, 0 ≤ v5_1 ∧ v5_1 < ((s.Sprouts.length : Nat) : Int), (z39r18 s v5_1), (z39r19 s v5_1), (ref02_Span (at_ zXSpan s.Sprouts v5_1) 300) = true]) (by kernel_rfl) ⟨h1, of_decide_eq_true h2, RowLd.elem cXSpan_len _ (.inl ⟨_, rfl⟩) rfl rfl _ _ (of_decide_eq_true h2), ref02_Span_fc (at_ zXSpan s.Sprouts v5_1) 300, h3, trivial⟩ 101 (by kernel_rfl) ?_ nx
            exact ⟨PinL.lit (by kernel_rfl), PinL.pf (encL_pf cInt_pf _), PinL.pf (encL_pf cInt_pf _), PinL.pf (encL_pf cXRung_pf _), PinL.pf (encL_pf cXSpan_pf _), PinL.lit (by kernel_rfl), trivial⟩
          · skip
            have e : (ref02_Species_L fu s (fk + 1)).2 v2_1 v5_1 = some false := by rw [ref02_Species_L_s1]; rw [h1, cond_true, h2, cond_true, h3, cond_false]; first | done | rfl
            rw [e] at hh
            have hr := Option.some.inj hh
            rw [← hr]
            exact FSat.done pfT (fuel := 19) (hs := (hR 4 [hT, hE, hE, hE, hX, (z39i16 s v5_1), (z39i20 s v5_1), hE, hE])) (ss := [.go]) (R := [(decide (v5_1 < ((s.Sprouts.length : Nat) : Int))) = true, 0 ≤ v5_1 ∧ v5_1 < ((s.Sprouts.length : Nat) : Int), (z39r18 s v5_1), (z39r19 s v5_1), (ref02_Span (at_ zXSpan s.Sprouts v5_1) 300) = false]) (by kernel_rfl) ⟨h1, of_decide_eq_true h2, RowLd.elem cXSpan_len _ (.inl ⟨_, rfl⟩) rfl rfl _ _ (of_decide_eq_true h2), ref02_Span_fc (at_ zXSpan s.Sprouts v5_1) 300, h3, trivial⟩ (by kernel_rfl)
      · skip
        have e : (ref02_Species_L fu s (fk + 1)).2 v2_1 v5_1 = some true := by rw [ref02_Species_L_s1]; rw [h1, cond_false]; first | done | rfl
        rw [e] at hh
        have hr := Option.some.inj hh
        rw [← hr]
        exact FSat.done pfT (fuel := 14) (hs := (hR 4 [hF, hE])) (ss := [.go]) (R := [(decide (v5_1 < ((s.Sprouts.length : Nat) : Int))) = false]) (by kernel_rfl) ⟨h1, trivial⟩ (by kernel_rfl)
theorem ref02_Species_fc (fu : Nat) (s : XSpecies) (q10 q11 q12 q13 : Nat) (r : Bool) (hh : ref02_Species fu s = some r) : FC P GG 22 (A_ref02_Species s q10 q11 q12 q13) (K_ref02_Species s) (.bool (r)) := by
  refine FC.of_fsat 117 100 Tryd.func22 (by kernel_rfl) (by kernel_rfl) (by kernel_rfl) ⟨PinL.pf (encL_pf cInt_pf _), PinL.pf (encL_pf cInt_pf _), PinL.pf (encL_pf cXRung_pf _), PinL.pf (encL_pf cXSpan_pf _), trivial⟩ ?_
  cases h1 : ref02_table fu s.Rise 5000 with
  | none =>
    have e : ref02_Species fu s = none := by unfold ref02_Species; rw [h1, Option.bind_none]; first | done | rfl
    rw [e] at hh; cases hh
  | some x1 =>
    rcases Bool.eq_false_or_eq_true (x1) with h2 | h2
    · skip
      cases h3 : ref02_table fu s.Thick 300 with
      | none =>
        have e : ref02_Species fu s = none := by unfold ref02_Species; rw [h1, Option.bind_some, h2, cond_true, h3, Option.bind_none]; first | done | rfl
        rw [e] at hh; cases hh
      | some x3 =>
        rcases Bool.eq_false_or_eq_true (x3) with h4 | h4
        · skip
          rcases Bool.eq_false_or_eq_true (ref02_in s.Top 1 40000) with h5 | h5
          · skip
            rcases Bool.eq_false_or_eq_true (ref02_in s.Stout 1 3000) with h6 | h6
            · skip
              rcases Bool.eq_false_or_eq_true (ref02_in s.Shade 0 99) with h7 | h7
              · skip
                rcases Bool.eq_false_or_eq_true (ref02_in s.Reach 0 40000) with h8 | h8
                · skip
                  rcases Bool.eq_false_or_eq_true (decide (((s.Ladder.length : Nat) : Int) > 20)) with h9 | h9
                  · skip
                    have e : ref02_Species fu s = some false := by unfold ref02_Species; rw [h1, Option.bind_some, h2, cond_true, h3, Option.bind_some, h4, cond_true, h5, cond_true, h6, cond_true, h7, cond_true, h8, cond_true, h9, cond_true]; first | done | rfl
                    rw [e] at hh
                    have hr := Option.some.inj hh
                    rw [← hr]
                    exact FSat.done pfT (fuel := 14) (hs := (hR 4 ((z39i21 s q10 x1) :: (hR 4 ((z39i22 s q11 x3) :: (hR 5 ((hB (hC (.bool (ref02_in s.Top 1 40000))) true) :: (hR 5 ((hB (hC (.bool (ref02_in s.Stout 1 3000))) true) :: (hR 5 ((hB (hC (.bool (ref02_in s.Shade 0 99))) true) :: (hR 5 ((hB (hC (.bool (ref02_in s.Reach 0 40000))) true) :: (hR 6 (hT :: (hR 4 [])))))))))))))))) (ss := []) (R := [(z39r23 s q10 x1), (z39r24 s q10), (z39r25 s), VR (Ren.emb [(10, 10, 0)]) (.bool (x1)) (.bool (x1)), (x1) = true, (z39r26 s q11 x3), (z39r27 s q11), (z39r28 s), VR (Ren.emb [(10, 11, 0)]) (.bool (x3)) (.bool (x3)), (x3) = true, (z39r29 s), (ref02_in s.Top 1 40000) = true, (z39r30 s), (ref02_in s.Stout 1 3000) = true, (z39r31 s), (ref02_in s.Shade 0 99) = true, (z39r32 s), (ref02_in s.Reach 0 40000) = true, (decide (((s.Ladder.length : Nat) : Int) > 20)) = true]) (by kernel_rfl) ⟨ref02_table_fc fu s.Rise 5000 q10 x1 h1, z39p33 s q10, ⟨MemAt.same _ (encL_pf cInt_pf _), trivial⟩, selfB_self 9 _ rfl _, h2, ref02_table_fc fu s.Thick 300 q11 x3 h3, z39p34 s q11, ⟨MemAt.same _ (encL_pf cInt_pf _), trivial⟩, selfB_self 9 _ rfl _, h4, ref02_in_fc s.Top 1 40000, h5, ref02_in_fc s.Stout 1 3000, h6, ref02_in_fc s.Shade 0 99, h7, ref02_in_fc s.Reach 0 40000, h8, h9, trivial⟩ (by kernel_rfl)
                  · skip
                    rcases Bool.eq_false_or_eq_true (ref02_in ((s.Sprouts.length : Nat) : Int) 1 60) with h10 | h10
                    · skip
                      have e : ref02_Species fu s = (ref02_Species_L fu s fu).1 false 0 := by unfold ref02_Species; rw [h1, Option.bind_some, h2, cond_true, h3, Option.bind_some, h4, cond_true, h5, cond_true, h6, cond_true, h7, cond_true, h8, cond_true, h9, cond_false, h10, cond_true]; first | done | rfl
                      rw [e] at hh
                      have nx := (ref02_Species_L_fs fu s q10 q11 q12 q13 fu).1 false 0 r hh
                      refine FSat.stop pfT (fuel := 18) (hs := (hR 4 ((z39i21 s q10 x1) :: (hR 4 ((z39i22 s q11 x3) :: (hR 5 ((hB (hC (.bool (ref02_in s.Top 1 40000))) true) :: (hR 5 ((hB (hC (.bool (ref02_in s.Stout 1 3000))) true) :: (hR 5 ((hB (hC (.bool (ref02_in s.Shade 0 99))) true) :: (hR 5 ((hB (hC (.bool (ref02_in s.Reach 0 40000))) true) :: (hR 6 (hF :: (hR 5 [(z39i35 s), hE, hE, hE])))))))))))))))) (ss := [.st [1, 2, 3] [0, 10, 11, 12, 13, 100]]) (R := [(z39r23 s q10 x1), (z39r24 s q10), (z39r25 s), VR (Ren.emb [(10, 10, 0)]) (.bool (x1)) (.bool (x1)), (x1) = true, (z39r26 s q11 x3), (z39r27 s q11), (z39r28 s), VR (Ren.emb [(10, 11, 0)]) (.bool (x3)) (.bool (x3)), (x3) = true, (z39r29 s), (ref02_in s.Top 1 40000) = true, (z39r30 s), (ref02_in s.Stout 1 3000) = true, (z39r31 s), (ref02_in s.Shade 0 99) = true, (z39r32 s), (ref02_in s.Reach 0 40000) = true, (decide (((s.Ladder.length : Nat) : Int) > 20)) = false, (z39r36 s), (ref02_in ((s.Sprouts.length : Nat) : Int) 1 60) = true]) (by kernel_rfl) ⟨ref02_table_fc fu s.Rise 5000 q10 x1 h1, z39p33 s q10, ⟨MemAt.same _ (encL_pf cInt_pf _), trivial⟩, selfB_self 9 _ rfl _, h2, ref02_table_fc fu s.Thick 300 q11 x3 h3, z39p34 s q11, ⟨MemAt.same _ (encL_pf cInt_pf _), trivial⟩, selfB_self 9 _ rfl _, h4, ref02_in_fc s.Top 1 40000, h5, ref02_in_fc s.Stout 1 3000, h6, ref02_in_fc s.Shade 0 99, h7, ref02_in_fc s.Reach 0 40000, h8, h9, ref02_in_fc ((s.Sprouts.length : Nat) : Int) 1 60, h10, trivial⟩ 101 (by kernel_rfl) ?_ nx
                      exact ⟨PinL.lit (by kernel_rfl), PinL.pf (encL_pf cInt_pf _), PinL.pf (encL_pf cInt_pf _), PinL.pf (encL_pf cXRung_pf _), PinL.pf (encL_pf cXSpan_pf _), PinL.lit (by kernel_rfl), trivial⟩
                    · skip
                      have e : ref02_Species fu s = some false := by unfold ref02_Species; rw [h1, Option.bind_some, h2, cond_true, h3, Option.bind_some, h4, cond_true, h5, cond_true, h6, cond_true, h7, cond_true, h8, cond_true, h9, cond_false, h10, cond_false]; first | done | rfl
                      rw [e] at hh
                      have hr := Option.some.inj hh
                      rw [← hr]
                      exact FSat.done pfT (fuel := 14) (hs := (hR 4 ((z39i21 s q10 x1) :: (hR 4 ((z39i22 s q11 x3) :: (hR 5 ((hB (hC (.bool (ref02_in s.Top 1 40000))) true) :: (hR 5 ((hB (hC (.bool (ref02_in s.Stout 1 3000))) true) :: (hR 5 ((hB (hC (.bool (ref02_in s.Shade 0 99))) true) :: (hR 5 ((hB (hC (.bool (ref02_in s.Reach 0 40000))) true) :: (hR 6 (hF :: (hR 5 [(z39i37 s), hE, hE, hE])))))))))))))))) (ss := []) (R := [(z39r23 s q10 x1), (z39r24 s q10), (z39r25 s), VR (Ren.emb [(10, 10, 0)]) (.bool (x1)) (.bool (x1)), (x1) = true, (z39r26 s q11 x3), (z39r27 s q11), (z39r28 s), VR (Ren.emb [(10, 11, 0)]) (.bool (x3)) (.bool (x3)), (x3) = true, (z39r29 s), (ref02_in s.Top 1 40000) = true, (z39r30 s), (ref02_in s.Stout 1 3000) = true, (z39r31 s), (ref02_in s.Shade 0 99) = true, (z39r32 s), (ref02_in s.Reach 0 40000) = true, (decide (((s.Ladder.length : Nat) : Int) > 20)) = false, (z39r36 s), (ref02_in ((s.Sprouts.length : Nat) : Int) 1 60) = false]) (by kernel_rfl) ⟨ref02_table_fc fu s.Rise 5000 q10 x1 h1, z39p33 s q10, ⟨MemAt.same _ (encL_pf cInt_pf _), trivial⟩, selfB_self 9 _ rfl _, h2, ref02_table_fc fu s.Thick 300 q11 x3 h3, z39p34 s q11, ⟨MemAt.same _ (encL_pf cInt_pf _), trivial⟩, selfB_self 9 _ rfl _, h4, ref02_in_fc s.Top 1 40000, h5, ref02_in_fc s.Stout 1 3000, h6, ref02_in_fc s.Shade 0 99, h7, ref02_in_fc s.Reach 0 40000, h8, h9, ref02_in_fc ((s.Sprouts.length : Nat) : Int) 1 60, h10, trivial⟩ (by kernel_rfl)
                · skip
                  have e : ref02_Species fu s = some false := by unfold ref02_Species; rw [h1, Option.bind_some, h2, cond_true, h3, Option.bind_some, h4, cond_true, h5, cond_true, h6, cond_true, h7, cond_true, h8, cond_false]; first | done | rfl
                  rw [e] at hh
                  have hr := Option.some.inj hh
                  rw [← hr]
                  exact FSat.done pfT (fuel := 14) (hs := (hR 4 ((z39i21 s q10 x1) :: (hR 4 ((z39i22 s q11 x3) :: (hR 5 ((hB (hC (.bool (ref02_in s.Top 1 40000))) true) :: (hR 5 ((hB (hC (.bool (ref02_in s.Stout 1 3000))) true) :: (hR 5 ((hB (hC (.bool (ref02_in s.Shade 0 99))) true) :: (hR 5 ((hB (hC (.bool (ref02_in s.Reach 0 40000))) false) :: (hR 7 [])))))))))))))) (ss := []) (R := [(z39r23 s q10 x1), (z39r24 s q10), (z39r25 s), VR (Ren.emb [(10, 10, 0)]) (.bool (x1)) (.bool (x1)), (x1) = true, (z39r26 s q11 x3), (z39r27 s q11), (z39r28 s), VR (Ren.emb [(10, 11, 0)]) (.bool (x3)) (.bool (x3)), (x3) = true, (z39r29 s), (ref02_in s.Top 1 40000) = true, (z39r30 s), (ref02_in s.Stout 1 3000) = true, (z39r31 s), (ref02_in s.Shade 0 99) = true, (z39r32 s), (ref02_in s.Reach 0 40000) = false]) (by kernel_rfl) ⟨ref02_table_fc fu s.Rise 5000 q10 x1 h1, z39p33 s q10, ⟨MemAt.same _ (encL_pf cInt_pf _), trivial⟩, selfB_self 9 _ rfl _, h2, ref02_table_fc fu s.Thick 300 q11 x3 h3, z39p34 s q11, ⟨MemAt.same _ (encL_pf cInt_pf _), trivial⟩, selfB_self 9 _ rfl _, h4, ref02_in_fc s.Top 1 40000, h5, ref02_in_fc s.Stout 1 3000, h6, ref02_in_fc s.Shade 0 99, h7, ref02_in_fc s.Reach 0 40000, h8, trivial⟩ (by kernel_rfl)
              · skip
                have e : ref02_Species fu s = some false := by unfold ref02_Species; rw [h1, Option.bind_some, h2, cond_true, h3, Option.bind_some, h4, cond_true, h5, cond_true, h6, cond_true, h7, cond_false]; first | done | rfl
                rw [e] at hh
                have hr := Option.some.inj hh
                rw [← hr]
                exact FSat.done pfT (fuel := 14) (hs := (hR 4 ((z39i21 s q10 x1) :: (hR 4 ((z39i22 s q11 x3) :: (hR 5 ((hB (hC (.bool (ref02_in s.Top 1 40000))) true) :: (hR 5 ((hB (hC (.bool (ref02_in s.Stout 1 3000))) true) :: (hR 5 ((hB (hC (.bool (ref02_in s.Shade 0 99))) false) :: (hR 9 [])))))))))))) (ss := []) (R := [(z39r23 s q10 x1), (z39r24 s q10), (z39r25 s), VR (Ren.emb [(10, 10, 0)]) (.bool (x1)) (.bool (x1)), (x1) = true, (z39r26 s q11 x3), (z39r27 s q11), (z39r28 s), VR (Ren.emb [(10, 11, 0)]) (.bool (x3)) (.bool (x3)), (x3) = true, (z39r29 s), (ref02_in s.Top 1 40000) = true, (z39r30 s), (ref02_in s.Stout 1 3000) = true, (z39r31 s), (ref02_in s.Shade 0 99) = false]) (by kernel_rfl) ⟨ref02_table_fc fu s.Rise 5000 q10 x1 h1, z39p33 s q10, ⟨MemAt.same _ (encL_pf cInt_pf _), trivial⟩, selfB_self 9 _ rfl _, h2, ref02_table_fc fu s.Thick 300 q11 x3 h3, z39p34 s q11, ⟨MemAt.same _ (encL_pf cInt_pf _), trivial⟩, selfB_self 9 _ rfl _, h4, ref02_in_fc s.Top 1 40000, h5, ref02_in_fc s.Stout 1 3000, h6, ref02_in_fc s.Shade 0 99, h7, trivial⟩ (by kernel_rfl)
            · skip
              have e : ref02_Species fu s = some false := by unfold ref02_Species; rw [h1, Option.bind_some, h2, cond_true, h3, Option.bind_some, h4, cond_true, h5, cond_true, h6, cond_false]; first | done | rfl
              rw [e] at hh
              have hr := Option.some.inj hh
              rw [← hr]
              exact FSat.done pfT (fuel := 14) (hs := (hR 4 ((z39i21 s q10 x1) :: (hR 4 ((z39i22 s q11 x3) :: (hR 5 ((hB (hC (.bool (ref02_in s.Top 1 40000))) true) :: (hR 5 ((hB (hC (.bool (ref02_in s.Stout 1 3000))) false) :: (hR 11 [])))))))))) (ss := []) (R := [(z39r23 s q10 x1), (z39r24 s q10), (z39r25 s), VR (Ren.emb [(10, 10, 0)]) (.bool (x1)) (.bool (x1)), (x1) = true, (z39r26 s q11 x3), (z39r27 s q11), (z39r28 s), VR (Ren.emb [(10, 11, 0)]) (.bool (x3)) (.bool (x3)), (x3) = true, (z39r29 s), (ref02_in s.Top 1 40000) = true, (z39r30 s), (ref02_in s.Stout 1 3000) = false]) (by kernel_rfl) ⟨ref02_table_fc fu s.Rise 5000 q10 x1 h1, z39p33 s q10, ⟨MemAt.same _ (encL_pf cInt_pf _), trivial⟩, selfB_self 9 _ rfl _, h2, ref02_table_fc fu s.Thick 300 q11 x3 h3, z39p34 s q11, ⟨MemAt.same _ (encL_pf cInt_pf _), trivial⟩, selfB_self 9 _ rfl _, h4, ref02_in_fc s.Top 1 40000, h5, ref02_in_fc s.Stout 1 3000, h6, trivial⟩ (by kernel_rfl)
          · skip
            have e : ref02_Species fu s = some false := by unfold ref02_Species; rw [h1, Option.bind_some, h2, cond_true, h3, Option.bind_some, h4, cond_true, h5, cond_false]; first | done | rfl
            rw [e] at hh
            have hr := Option.some.inj hh
            rw [← hr]
            exact FSat.done pfT (fuel := 14) (hs := (hR 4 ((z39i21 s q10 x1) :: (hR 4 ((z39i22 s q11 x3) :: (hR 5 ((hB (hC (.bool (ref02_in s.Top 1 40000))) false) :: (hR 13 [])))))))) (ss := []) (R := [(z39r23 s q10 x1), (z39r24 s q10), (z39r25 s), VR (Ren.emb [(10, 10, 0)]) (.bool (x1)) (.bool (x1)), (x1) = true, (z39r26 s q11 x3), (z39r27 s q11), (z39r28 s), VR (Ren.emb [(10, 11, 0)]) (.bool (x3)) (.bool (x3)), (x3) = true, (z39r29 s), (ref02_in s.Top 1 40000) = false]) (by kernel_rfl) ⟨ref02_table_fc fu s.Rise 5000 q10 x1 h1, z39p33 s q10, ⟨MemAt.same _ (encL_pf cInt_pf _), trivial⟩, selfB_self 9 _ rfl _, h2, ref02_table_fc fu s.Thick 300 q11 x3 h3, z39p34 s q11, ⟨MemAt.same _ (encL_pf cInt_pf _), trivial⟩, selfB_self 9 _ rfl _, h4, ref02_in_fc s.Top 1 40000, h5, trivial⟩ (by kernel_rfl)
        · skip
          have e : ref02_Species fu s = some false := by unfold ref02_Species; rw [h1, Option.bind_some, h2, cond_true, h3, Option.bind_some, h4, cond_false]; first | done | rfl
          rw [e] at hh
          have hr := Option.some.inj hh
          rw [← hr]
          exact FSat.done pfT (fuel := 14) (hs := (hR 4 ((z39i21 s q10 x1) :: (hR 4 ((z39i38 s q11 x3) :: (hR 15 [])))))) (ss := []) (R := [(z39r23 s q10 x1), (z39r24 s q10), (z39r25 s), VR (Ren.emb [(10, 10, 0)]) (.bool (x1)) (.bool (x1)), (x1) = true, (z39r26 s q11 x3), (z39r27 s q11), (z39r28 s), VR (Ren.emb [(10, 11, 0)]) (.bool (x3)) (.bool (x3)), (x3) = false]) (by kernel_rfl) ⟨ref02_table_fc fu s.Rise 5000 q10 x1 h1, z39p33 s q10, ⟨MemAt.same _ (encL_pf cInt_pf _), trivial⟩, selfB_self 9 _ rfl _, h2, ref02_table_fc fu s.Thick 300 q11 x3 h3, z39p34 s q11, ⟨MemAt.same _ (encL_pf cInt_pf _), trivial⟩, selfB_self 9 _ rfl _, h4, trivial⟩ (by kernel_rfl)
    · skip
      have e : ref02_Species fu s = some false := by unfold ref02_Species; rw [h1, Option.bind_some, h2, cond_false]; first | done | rfl
      rw [e] at hh
      have hr := Option.some.inj hh
      rw [← hr]
      exact FSat.done pfT (fuel := 14) (hs := (hR 4 ((z39i39 s q10 x1) :: (hR 16 [])))) (ss := []) (R := [(z39r23 s q10 x1), (z39r24 s q10), (z39r25 s), VR (Ren.emb [(10, 10, 0)]) (.bool (x1)) (.bool (x1)), (x1) = false]) (by kernel_rfl) ⟨ref02_table_fc fu s.Rise 5000 q10 x1 h1, z39p33 s q10, ⟨MemAt.same _ (encL_pf cInt_pf _), trivial⟩, selfB_self 9 _ rfl _, h2, trivial⟩ (by kernel_rfl)

/- greenhew/greenhewref02.Stand -/
abbrev z44r0 (x_0 : XStand) : Prop := FC P GG 63 (A_ref02_in x_0.Age 0 100000) [] (.bool (ref02_in x_0.Age 0 100000))
abbrev z44r1 (x_0 : XStand) : Prop := FC P GG 63 (A_ref02_in x_0.Shoots 0 300) [] (.bool (ref02_in x_0.Shoots 0 300))
abbrev z44r2 (x_0 : XStand) : Prop := FC P GG 63 (A_ref02_in x_0.Height 0 40000) [] (.bool (ref02_in x_0.Height 0 40000))
abbrev z44r3 (x_0 : XStand) : Prop := FC P GG 63 (A_ref02_in x_0.Girth 0 3000) [] (.bool (ref02_in x_0.Girth 0 3000))
abbrev A_ref02_Stand (x_0 : XStand) : List Value := [.agg #[I (x_0.Age), I (x_0.Shoots), I (x_0.Height), I (x_0.Girth)]]
noncomputable def ref02_Stand (x_0 : XStand) : Bool :=
  bif ref02_in x_0.Age 0 100000 then (bif ref02_in x_0.Shoots 0 300 then (bif ref02_in x_0.Height 0 40000 then ref02_in x_0.Girth 0 3000
      else false)
    else false)
  else false
theorem ref02_Stand_fc (x_0 : XStand) : FC P GG 23 (A_ref02_Stand x_0) [] (.bool (ref02_Stand x_0)) := by
  refine FC.of_fsat 21 100 Tryd.func23 (by kernel_rfl) (by kernel_rfl) (by kernel_rfl) trivial ?_
  rcases Bool.eq_false_or_eq_true (ref02_in x_0.Age 0 100000) with h1 | h1
  · skip
    rcases Bool.eq_false_or_eq_true (ref02_in x_0.Shoots 0 300) with h2 | h2
    · skip
      rcases Bool.eq_false_or_eq_true (ref02_in x_0.Height 0 40000) with h3 | h3
      · skip
        have e : ref02_Stand x_0 = ref02_in x_0.Girth 0 3000 := by unfold ref02_Stand; rw [h1, cond_true, h2, cond_true, h3, cond_true]; first | done | rfl
        rw [e]
        exact FSat.done pfT (fuel := 10) (hs := (hR 4 ((hB (hC (.bool (ref02_in x_0.Age 0 100000))) true) :: hE :: hE :: hE :: (hB (hC (.bool (ref02_in x_0.Shoots 0 300))) true) :: (hR 4 ((hB (hC (.bool (ref02_in x_0.Height 0 40000))) true) :: (hR 4 [(hC (.bool (ref02_in x_0.Girth 0 3000))), hE, hE])))))) (ss := []) (R := [(z44r0 x_0), (ref02_in x_0.Age 0 100000) = true, (z44r1 x_0), (ref02_in x_0.Shoots 0 300) = true, (z44r2 x_0), (ref02_in x_0.Height 0 40000) = true, (z44r3 x_0)]) (by kernel_rfl) ⟨ref02_in_fc x_0.Age 0 100000, h1, ref02_in_fc x_0.Shoots 0 300, h2, ref02_in_fc x_0.Height 0 40000, h3, ref02_in_fc x_0.Girth 0 3000, trivial⟩ (by kernel_rfl)
      · skip
        have e : ref02_Stand x_0 = false := by unfold ref02_Stand; rw [h1, cond_true, h2, cond_true, h3, cond_false]; first | done | rfl
        rw [e]
        exact FSat.done pfT (fuel := 10) (hs := (hR 4 ((hB (hC (.bool (ref02_in x_0.Age 0 100000))) true) :: hE :: hE :: hE :: (hB (hC (.bool (ref02_in x_0.Shoots 0 300))) true) :: (hR 4 ((hB (hC (.bool (ref02_in x_0.Height 0 40000))) false) :: (hR 4 [])))))) (ss := []) (R := [(z44r0 x_0), (ref02_in x_0.Age 0 100000) = true, (z44r1 x_0), (ref02_in x_0.Shoots 0 300) = true, (z44r2 x_0), (ref02_in x_0.Height 0 40000) = false]) (by kernel_rfl) ⟨ref02_in_fc x_0.Age 0 100000, h1, ref02_in_fc x_0.Shoots 0 300, h2, ref02_in_fc x_0.Height 0 40000, h3, trivial⟩ (by kernel_rfl)
    · skip
      have e : ref02_Stand x_0 = false := by unfold ref02_Stand; rw [h1, cond_true, h2, cond_false]; first | done | rfl
      rw [e]
      exact FSat.done pfT (fuel := 10) (hs := (hR 4 ((hB (hC (.bool (ref02_in x_0.Age 0 100000))) true) :: hE :: hE :: hE :: (hB (hC (.bool (ref02_in x_0.Shoots 0 300))) false) :: (hR 6 [])))) (ss := []) (R := [(z44r0 x_0), (ref02_in x_0.Age 0 100000) = true, (z44r1 x_0), (ref02_in x_0.Shoots 0 300) = false]) (by kernel_rfl) ⟨ref02_in_fc x_0.Age 0 100000, h1, ref02_in_fc x_0.Shoots 0 300, h2, trivial⟩ (by kernel_rfl)
  · skip
    have e : ref02_Stand x_0 = false := by unfold ref02_Stand; rw [h1, cond_false]; first | done | rfl
    rw [e]
    exact FSat.done pfT (fuel := 10) (hs := (hR 4 ((hB (hC (.bool (ref02_in x_0.Age 0 100000))) false) :: (hR 7 [])))) (ss := []) (R := [(z44r0 x_0), (ref02_in x_0.Age 0 100000) = false]) (by kernel_rfl) ⟨ref02_in_fc x_0.Age 0 100000, h1, trivial⟩ (by kernel_rfl)

/- greenhew/greenhewref02.Box -/
abbrev z43r0 (b : XBox) : Prop := FC P GG 23 (A_ref02_Stand b.Low) [] (.bool (ref02_Stand b.Low))
abbrev z43r1 (b : XBox) : Prop := FC P GG 23 (A_ref02_Stand b.High) [] (.bool (ref02_Stand b.High))
abbrev A_ref02_Box (b : XBox) : List Value := [.agg #[I (b.Low.Age), I (b.Low.Shoots), I (b.Low.Height), I (b.Low.Girth), I (b.High.Age), I (b.High.Shoots), I (b.High.Height), I (b.High.Girth)]]
noncomputable def ref02_Box (b : XBox) : Bool :=
  bif ref02_Stand b.Low then (bif ref02_Stand b.High then (bif b.Low.Age == b.High.Age then (bif decide (b.Low.Shoots ≤ b.High.Shoots) then (bif decide (b.Low.Height ≤ b.High.Height) then decide (b.Low.Girth ≤ b.High.Girth)
          else false)
        else false)
      else false)
    else false)
  else false
theorem ref02_Box_fc (b : XBox) : FC P GG 28 (A_ref02_Box b) [] (.bool (ref02_Box b)) := by
  refine FC.of_fsat 47 100 Tryd.func28 (by kernel_rfl) (by kernel_rfl) (by kernel_rfl) trivial ?_
  rcases Bool.eq_false_or_eq_true (ref02_Stand b.Low) with h1 | h1
  · skip
    rcases Bool.eq_false_or_eq_true (ref02_Stand b.High) with h2 | h2
    · skip
      rcases Bool.eq_false_or_eq_true (b.Low.Age == b.High.Age) with h3 | h3
      · skip
        rcases Bool.eq_false_or_eq_true (decide (b.Low.Shoots ≤ b.High.Shoots)) with h4 | h4
        · skip
          rcases Bool.eq_false_or_eq_true (decide (b.Low.Height ≤ b.High.Height)) with h5 | h5
          · skip
            have e : ref02_Box b = decide (b.Low.Girth ≤ b.High.Girth) := by unfold ref02_Box; rw [h1, cond_true, h2, cond_true, h3, cond_true, h4, cond_true, h5, cond_true]; first | done | rfl
            rw [e]
            exact FSat.done pfT (fuel := 10) (hs := (hR 4 ((hB (hC (.bool (ref02_Stand b.Low))) true) :: hE :: hE :: hE :: (hB (hC (.bool (ref02_Stand b.High))) true) :: (hR 8 (hT :: (hR 8 (hT :: (hR 8 (hT :: (hR 11 [])))))))))) (ss := []) (R := [(z43r0 b), (ref02_Stand b.Low) = true, (z43r1 b), (ref02_Stand b.High) = true, (b.Low.Age == b.High.Age) = true, (decide (b.Low.Shoots ≤ b.High.Shoots)) = true, (decide (b.Low.Height ≤ b.High.Height)) = true]) (by kernel_rfl) ⟨ref02_Stand_fc b.Low, h1, ref02_Stand_fc b.High, h2, h3, h4, h5, trivial⟩ (by kernel_rfl)
          · skip
            have e : ref02_Box b = false := by unfold ref02_Box; rw [h1, cond_true, h2, cond_true, h3, cond_true, h4, cond_true, h5, cond_false]; first | done | rfl
            rw [e]
            exact FSat.done pfT (fuel := 10) (hs := (hR 4 ((hB (hC (.bool (ref02_Stand b.Low))) true) :: hE :: hE :: hE :: (hB (hC (.bool (ref02_Stand b.High))) true) :: (hR 8 (hT :: (hR 8 (hT :: (hR 8 (hF :: (hR 4 [])))))))))) (ss := []) (R := [(z43r0 b), (ref02_Stand b.Low) = true, (z43r1 b), (ref02_Stand b.High) = true, (b.Low.Age == b.High.Age) = true, (decide (b.Low.Shoots ≤ b.High.Shoots)) = true, (decide (b.Low.Height ≤ b.High.Height)) = false]) (by kernel_rfl) ⟨ref02_Stand_fc b.Low, h1, ref02_Stand_fc b.High, h2, h3, h4, h5, trivial⟩ (by kernel_rfl)
        · skip
          have e : ref02_Box b = false := by unfold ref02_Box; rw [h1, cond_true, h2, cond_true, h3, cond_true, h4, cond_false]; first | done | rfl
          rw [e]
          exact FSat.done pfT (fuel := 10) (hs := (hR 4 ((hB (hC (.bool (ref02_Stand b.Low))) true) :: hE :: hE :: hE :: (hB (hC (.bool (ref02_Stand b.High))) true) :: (hR 8 (hT :: (hR 8 (hF :: (hR 6 [])))))))) (ss := []) (R := [(z43r0 b), (ref02_Stand b.Low) = true, (z43r1 b), (ref02_Stand b.High) = true, (b.Low.Age == b.High.Age) = true, (decide (b.Low.Shoots ≤ b.High.Shoots)) = false]) (by kernel_rfl) ⟨ref02_Stand_fc b.Low, h1, ref02_Stand_fc b.High, h2, h3, h4, trivial⟩ (by kernel_rfl)
      · skip
        have e : ref02_Box b = false := by unfold ref02_Box; rw [h1, cond_true, h2, cond_true, h3, cond_false]; first | done | rfl
        rw [e]
        exact FSat.done pfT (fuel := 10) (hs := (hR 4 ((hB (hC (.bool (ref02_Stand b.Low))) true) :: hE :: hE :: hE :: (hB (hC (.bool (ref02_Stand b.High))) true) :: (hR 8 (hF :: (hR 8 [])))))) (ss := []) (R := [(z43r0 b), (ref02_Stand b.Low) = true, (z43r1 b), (ref02_Stand b.High) = true, (b.Low.Age == b.High.Age) = false]) (by kernel_rfl) ⟨ref02_Stand_fc b.Low, h1, ref02_Stand_fc b.High, h2, h3, trivial⟩ (by kernel_rfl)
    · skip
      have e : ref02_Box b = false := by unfold ref02_Box; rw [h1, cond_true, h2, cond_false]; first | done | rfl
      rw [e]
      exact FSat.done pfT (fuel := 10) (hs := (hR 4 ((hB (hC (.bool (ref02_Stand b.Low))) true) :: hE :: hE :: hE :: (hB (hC (.bool (ref02_Stand b.High))) false) :: (hR 10 [])))) (ss := []) (R := [(z43r0 b), (ref02_Stand b.Low) = true, (z43r1 b), (ref02_Stand b.High) = false]) (by kernel_rfl) ⟨ref02_Stand_fc b.Low, h1, ref02_Stand_fc b.High, h2, trivial⟩ (by kernel_rfl)
  · skip
    have e : ref02_Box b = false := by unfold ref02_Box; rw [h1, cond_false]; first | done | rfl
    rw [e]
    exact FSat.done pfT (fuel := 10) (hs := (hR 4 ((hB (hC (.bool (ref02_Stand b.Low))) false) :: (hR 11 [])))) (ss := []) (R := [(z43r0 b), (ref02_Stand b.Low) = false]) (by kernel_rfl) ⟨ref02_Stand_fc b.Low, h1, trivial⟩ (by kernel_rfl)

/- greenhew/greenhewref02.Season -/
abbrev z45r0 (q : XSeason) : Prop := FC P GG 64 (A_ref02_Span q.Light 100) [] (.bool (ref02_Span q.Light 100))
abbrev z45r1 (q : XSeason) : Prop := FC P GG 64 (A_ref02_Span q.Browse 100) [] (.bool (ref02_Span q.Browse 100))
abbrev z45r2 (q : XSeason) : Prop := FC P GG 64 (A_ref02_Span q.Mild 200) [] (.bool (ref02_Span q.Mild 200))
abbrev A_ref02_Season (q : XSeason) : List Value := [.agg #[I (q.Light.Low), I (q.Light.High), I (q.Browse.Low), I (q.Browse.High), I (q.Mild.Low), I (q.Mild.High), .bool (q.Cut)]]
noncomputable def ref02_Season (q : XSeason) : Bool :=
  bif ref02_Span q.Light 100 then (bif ref02_Span q.Browse 100 then ref02_Span q.Mild 200
    else false)
  else false
theorem ref02_Season_fc (q : XSeason) : FC P GG 32 (A_ref02_Season q) [] (.bool (ref02_Season q)) := by
  refine FC.of_fsat 16 100 Tryd.func32 (by kernel_rfl) (by kernel_rfl) (by kernel_rfl) trivial ?_
  rcases Bool.eq_false_or_eq_true (ref02_Span q.Light 100) with h1 | h1
  · skip
    rcases Bool.eq_false_or_eq_true (ref02_Span q.Browse 100) with h2 | h2
    · skip
      have e : ref02_Season q = ref02_Span q.Mild 200 := by unfold ref02_Season; rw [h1, cond_true, h2, cond_true]; first | done | rfl
      rw [e]
      exact FSat.done pfT (fuel := 10) (hs := (hR 4 ((hB (hC (.bool (ref02_Span q.Light 100))) true) :: hE :: hE :: hE :: (hB (hC (.bool (ref02_Span q.Browse 100))) true) :: (hR 4 [(hC (.bool (ref02_Span q.Mild 200))), hE, hE])))) (ss := []) (R := [(z45r0 q), (ref02_Span q.Light 100) = true, (z45r1 q), (ref02_Span q.Browse 100) = true, (z45r2 q)]) (by kernel_rfl) ⟨ref02_Span_fc q.Light 100, h1, ref02_Span_fc q.Browse 100, h2, ref02_Span_fc q.Mild 200, trivial⟩ (by kernel_rfl)
    · skip
      have e : ref02_Season q = false := by unfold ref02_Season; rw [h1, cond_true, h2, cond_false]; first | done | rfl
      rw [e]
      exact FSat.done pfT (fuel := 10) (hs := (hR 4 ((hB (hC (.bool (ref02_Span q.Light 100))) true) :: hE :: hE :: hE :: (hB (hC (.bool (ref02_Span q.Browse 100))) false) :: (hR 4 [])))) (ss := []) (R := [(z45r0 q), (ref02_Span q.Light 100) = true, (z45r1 q), (ref02_Span q.Browse 100) = false]) (by kernel_rfl) ⟨ref02_Span_fc q.Light 100, h1, ref02_Span_fc q.Browse 100, h2, trivial⟩ (by kernel_rfl)
  · skip
    have e : ref02_Season q = false := by unfold ref02_Season; rw [h1, cond_false]; first | done | rfl
    rw [e]
    exact FSat.done pfT (fuel := 10) (hs := (hR 4 ((hB (hC (.bool (ref02_Span q.Light 100))) false) :: (hR 5 [])))) (ss := []) (R := [(z45r0 q), (ref02_Span q.Light 100) = false]) (by kernel_rfl) ⟨ref02_Span_fc q.Light 100, h1, trivial⟩ (by kernel_rfl)

/- greenhew/greenhewref02.Cut -/
noncomputable abbrev z48i0 (s : XSpecies) (age : Int) : Hint := (hL (.agg #[I ((at_ zXSpan s.Sprouts (imin age (W (((s.Sprouts.length : Nat) : Int) - 1)))).Low), I ((at_ zXSpan s.Sprouts (imin age (W (((s.Sprouts.length : Nat) : Int) - 1)))).High)]))
abbrev z48r1 (s : XSpecies) (age : Int) : Prop := 0 ≤ (imin age (W (((s.Sprouts.length : Nat) : Int) - 1))) ∧ (imin age (W (((s.Sprouts.length : Nat) : Int) - 1))) < ((s.Sprouts.length : Nat) : Int)
abbrev z48r2 (s : XSpecies) (age : Int) : Prop := RowLd P 56 (encL cXSpan s.Sprouts) (0 + (imin age (W (((s.Sprouts.length : Nat) : Int) - 1))).toNat * 2) (.agg #[I ((at_ zXSpan s.Sprouts (imin age (W (((s.Sprouts.length : Nat) : Int) - 1)))).Low), I ((at_ zXSpan s.Sprouts (imin age (W (((s.Sprouts.length : Nat) : Int) - 1)))).High)])
abbrev A_ref02_Cut (s : XSpecies) (age : Int) (q10 : Nat) (q11 : Nat) (q12 : Nat) (q13 : Nat) : List Value := [.agg #[.slice (some ⟨10, 0, none⟩) (s.Rise.length) (q10), .slice (some ⟨11, 0, none⟩) (s.Thick.length) (q11), I (s.Top), I (s.Stout), I (s.Shade), I (s.Reach), .slice (some ⟨12, 0, none⟩) (s.Ladder.length) (q12), .slice (some ⟨13, 0, none⟩) (s.Sprouts.length) (q13)], I (age)]
abbrev K_ref02_Cut (s : XSpecies) : List (Nat × List Value) := [(10, encL cInt s.Rise), (11, encL cInt s.Thick), (12, encL cXRung s.Ladder), (13, encL cXSpan s.Sprouts)]
noncomputable def ref02_Cut (s : XSpecies) (age : Int) : Option XBox :=
  bif decide (0 ≤ (imin age (W (((s.Sprouts.length : Nat) : Int) - 1))) ∧ (imin age (W (((s.Sprouts.length : Nat) : Int) - 1))) < ((s.Sprouts.length : Nat) : Int)) then some (⟨(⟨0, (at_ zXSpan s.Sprouts (imin age (W (((s.Sprouts.length : Nat) : Int) - 1)))).Low, 0, 0⟩ : XStand), (⟨0, (at_ zXSpan s.Sprouts (imin age (W (((s.Sprouts.length : Nat) : Int) - 1)))).High, 0, 0⟩ : XStand)⟩ : XBox) else none
theorem ref02_Cut_fc (s : XSpecies) (age : Int) (q10 q11 q12 q13 : Nat) (r : XBox) (hh : ref02_Cut s age = some r) : FC P GG 40 (A_ref02_Cut s age q10 q11 q12 q13) (K_ref02_Cut s) (.agg #[I (r.Low.Age), I (r.Low.Shoots), I (r.Low.Height), I (r.Low.Girth), I (r.High.Age), I (r.High.Shoots), I (r.High.Height), I (r.High.Girth)]) := by
  refine FC.of_fsat 23 100 Tryd.func40 (by kernel_rfl) (by kernel_rfl) (by kernel_rfl) ⟨PinL.pf (encL_pf cInt_pf _), PinL.pf (encL_pf cInt_pf _), PinL.pf (encL_pf cXRung_pf _), PinL.pf (encL_pf cXSpan_pf _), trivial⟩ ?_
  rcases Bool.eq_false_or_eq_true (decide (0 ≤ (imin age (W (((s.Sprouts.length : Nat) : Int) - 1))) ∧ (imin age (W (((s.Sprouts.length : Nat) : Int) - 1))) < ((s.Sprouts.length : Nat) : Int))) with h1 | h1
  rotate_left
  · skip
    have e : ref02_Cut s age = none := by unfold ref02_Cut; rw [h1, cond_false]; first | done | rfl
    rw [e] at hh; cases hh
  · skip
    have e : ref02_Cut s age = some (⟨(⟨0, (at_ zXSpan s.Sprouts (imin age (W (((s.Sprouts.length : Nat) : Int) - 1)))).Low, 0, 0⟩ : XStand), (⟨0, (at_ zXSpan s.Sprouts (imin age (W (((s.Sprouts.length : Nat) : Int) - 1)))).High, 0, 0⟩ : XStand)⟩ : XBox) := by unfold ref02_Cut; rw [h1, cond_true]; first | done | rfl
    rw [e] at hh
    have hr := Option.some.inj hh
    rw [← hr]
    exact FSat.done pfT (fuel := 12) (hs := (hR 10 (hX :: (z48i0 s age) :: (hR 10 [])))) (ss := []) (R := [(z48r1 s age), (z48r2 s age)]) (by kernel_rfl) ⟨of_decide_eq_true h1, RowLd.elem cXSpan_len _ (.inl ⟨_, rfl⟩) rfl rfl _ _ (of_decide_eq_true h1), trivial⟩ (by kernel_rfl)

/- greenhew/greenhewref02.at -/
noncomputable abbrev z50i0 (l : List Int) (age : Int) : Hint := (hL (I ((at_ 0 l (imin age (W (((l.length : Nat) : Int) - 1)))))))
abbrev z50r1 (l : List Int) (age : Int) : Prop := 0 ≤ (imin age (W (((l.length : Nat) : Int) - 1))) ∧ (imin age (W (((l.length : Nat) : Int) - 1))) < ((l.length : Nat) : Int)
abbrev z50r2 (l : List Int) (age : Int) : Prop := RowLd P 3 (encL cInt l) (0 + (imin age (W (((l.length : Nat) : Int) - 1))).toNat * 1) (I ((at_ 0 l (imin age (W (((l.length : Nat) : Int) - 1))))))
abbrev A_ref02_at (l : List Int) (age : Int) (q10 : Nat) : List Value := [.slice (some ⟨10, 0, none⟩) (l.length) (q10), I (age)]
abbrev K_ref02_at (l : List Int) : List (Nat × List Value) := [(10, encL cInt l)]
noncomputable def ref02_at (l : List Int) (age : Int) : Option Int :=
  bif decide (0 ≤ (imin age (W (((l.length : Nat) : Int) - 1))) ∧ (imin age (W (((l.length : Nat) : Int) - 1))) < ((l.length : Nat) : Int)) then some (at_ 0 l (imin age (W (((l.length : Nat) : Int) - 1)))) else none
theorem ref02_at_fc (l : List Int) (age : Int) (q10 : Nat) (r : Int) (hh : ref02_at l age = some r) : FC P GG 102 (A_ref02_at l age q10) (K_ref02_at l) (I (r)) := by
  refine FC.of_fsat 13 100 Tryd.func102 (by kernel_rfl) (by kernel_rfl) (by kernel_rfl) ⟨PinL.pf (encL_pf cInt_pf _), trivial⟩ ?_
  rcases Bool.eq_false_or_eq_true (decide (0 ≤ (imin age (W (((l.length : Nat) : Int) - 1))) ∧ (imin age (W (((l.length : Nat) : Int) - 1))) < ((l.length : Nat) : Int))) with h1 | h1
  rotate_left
  · skip
    have e : ref02_at l age = none := by unfold ref02_at; rw [h1, cond_false]; first | done | rfl
    rw [e] at hh; cases hh
  · skip
    have e : ref02_at l age = some (at_ 0 l (imin age (W (((l.length : Nat) : Int) - 1)))) := by unfold ref02_at; rw [h1, cond_true]; first | done | rfl
    rw [e] at hh
    have hr := Option.some.inj hh
    rw [← hr]
    exact FSat.done pfT (fuel := 10) (hs := (hR 7 [hX, (z50i0 l age), hE])) (ss := []) (R := [(z50r1 l age), (z50r2 l age)]) (by kernel_rfl) ⟨of_decide_eq_true h1, RowLd.part cInt_len _ rfl rfl _ _ (of_decide_eq_true h1) 0 _ rfl (by decide), trivial⟩ (by kernel_rfl)

/- greenhew/greenhewref02.share -/
abbrev A_ref02_share (s : XSpecies) (n : Int) (w : XWeather) (q10 : Nat) (q11 : Nat) (q12 : Nat) (q13 : Nat) : List Value := [.agg #[.slice (some ⟨10, 0, none⟩) (s.Rise.length) (q10), .slice (some ⟨11, 0, none⟩) (s.Thick.length) (q11), I (s.Top), I (s.Stout), I (s.Shade), I (s.Reach), .slice (some ⟨12, 0, none⟩) (s.Ladder.length) (q12), .slice (some ⟨13, 0, none⟩) (s.Sprouts.length) (q13)], I (n), .agg #[I (w.Light), I (w.Browse), I (w.Mild)]]
abbrev K_ref02_share (s : XSpecies) : List (Nat × List Value) := [(10, encL cInt s.Rise), (11, encL cInt s.Thick), (12, encL cXRung s.Ladder), (13, encL cXSpan s.Sprouts)]
noncomputable def ref02_share (s : XSpecies) (n : Int) (w : XWeather) : Option Int :=
  bif decide ((W (100 * (W (100 - s.Shade)))) ≠ 0) then some (W ((W ((W (n * (imax 0 (W (w.Light - s.Shade))))) * w.Mild)).tdiv (W (100 * (W (100 - s.Shade)))))) else none
theorem ref02_share_fc (s : XSpecies) (n : Int) (w : XWeather) (q10 q11 q12 q13 : Nat) (r : Int) (hh : ref02_share s n w = some r) : FC P GG 101 (A_ref02_share s n w q10 q11 q12 q13) (K_ref02_share s) (I (r)) := by
  refine FC.of_fsat 23 100 Tryd.func101 (by kernel_rfl) (by kernel_rfl) (by kernel_rfl) ⟨PinL.pf (encL_pf cInt_pf _), PinL.pf (encL_pf cInt_pf _), PinL.pf (encL_pf cXRung_pf _), PinL.pf (encL_pf cXSpan_pf _), trivial⟩ ?_
  rcases Bool.eq_false_or_eq_true (decide ((W (100 * (W (100 - s.Shade)))) ≠ 0)) with h1 | h1
  rotate_left
  · skip
    have e : ref02_share s n w = none := by unfold ref02_share; rw [h1, cond_false]; first | done | rfl
    rw [e] at hh; cases hh
  · skip
    have e : ref02_share s n w = some (W ((W ((W (n * (imax 0 (W (w.Light - s.Shade))))) * w.Mild)).tdiv (W (100 * (W (100 - s.Shade)))))) := by unfold ref02_share; rw [h1, cond_true]; first | done | rfl
    rw [e] at hh
    have hr := Option.some.inj hh
    rw [← hr]
    exact FSat.done pfT (fuel := 10) (hs := (hR 18 [hD, hE])) (ss := []) (R := [(W (100 * (W (100 - s.Shade)))) ≠ 0]) (by kernel_rfl) ⟨of_decide_eq_true h1, trivial⟩ (by kernel_rfl)

/- greenhew/greenhewref02.height -/
noncomputable abbrev z49i0 (s : XSpecies) (age : Int) (q10 : Nat) (x1 : Int) : Hint := (hM (I (x1)) (I (x1)) (A_ref02_at s.Rise age q10) (K_ref02_at s.Rise) [(10, 10, 0)])
noncomputable abbrev z49i1 (s : XSpecies) (w : XWeather) (q10 : Nat) (q11 : Nat) (q12 : Nat) (q13 : Nat) (x1 : Int) (x2 : Int) : Hint := (hM (I (x2)) (I (x2)) (A_ref02_share s x1 w q10 q11 q12 q13) (K_ref02_share s) [(10, 10, 0), (11, 11, 0), (12, 12, 0), (13, 13, 0)])
abbrev z49r2 (s : XSpecies) (age : Int) (q10 : Nat) (x1 : Int) : Prop := FC P GG 102 (A_ref02_at s.Rise age q10) (K_ref02_at s.Rise) (I (x1))
abbrev z49r3 (s : XSpecies) (age : Int) (q10 : Nat) : Prop := VRs (Ren.emb [(10, 10, 0)]) (A_ref02_at s.Rise age q10) [.slice (some ⟨10, 0, none⟩) (s.Rise.length) (q10), I (age)]
abbrev z49r4 (s : XSpecies) : Prop := MemAt (Ren.emb [(10, 10, 0)]) (encL cInt s.Rise) 0 (encL cInt s.Rise) ∧ True
abbrev z49r5 (s : XSpecies) (w : XWeather) (q10 : Nat) (q11 : Nat) (q12 : Nat) (q13 : Nat) (x1 : Int) (x2 : Int) : Prop := FC P GG 101 (A_ref02_share s x1 w q10 q11 q12 q13) (K_ref02_share s) (I (x2))
abbrev z49r6 (s : XSpecies) (w : XWeather) (q10 : Nat) (q11 : Nat) (q12 : Nat) (q13 : Nat) (x1 : Int) : Prop := VRs (Ren.emb [(10, 10, 0), (11, 11, 0), (12, 12, 0), (13, 13, 0)]) (A_ref02_share s x1 w q10 q11 q12 q13) [.agg #[.slice (some ⟨10, 0, none⟩) (s.Rise.length) (q10), .slice (some ⟨11, 0, none⟩) (s.Thick.length) (q11), I (s.Top), I (s.Stout), I (s.Shade), I (s.Reach), .slice (some ⟨12, 0, none⟩) (s.Ladder.length) (q12), .slice (some ⟨13, 0, none⟩) (s.Sprouts.length) (q13)], I (x1), .agg #[I (w.Light), I (w.Browse), I (w.Mild)]]
abbrev z49r7 (s : XSpecies) : Prop := MemAt (Ren.emb [(10, 10, 0), (11, 11, 0), (12, 12, 0), (13, 13, 0)]) (encL cInt s.Rise) 0 (encL cInt s.Rise) ∧ MemAt (Ren.emb [(10, 10, 0), (11, 11, 0), (12, 12, 0), (13, 13, 0)]) (encL cInt s.Thick) 0 (encL cInt s.Thick) ∧ MemAt (Ren.emb [(10, 10, 0), (11, 11, 0), (12, 12, 0), (13, 13, 0)]) (encL cXRung s.Ladder) 0 (encL cXRung s.Ladder) ∧ MemAt (Ren.emb [(10, 10, 0), (11, 11, 0), (12, 12, 0), (13, 13, 0)]) (encL cXSpan s.Sprouts) 0 (encL cXSpan s.Sprouts) ∧ True
abbrev z49r8 (x2 : Int) : Prop := VR (Ren.emb [(10, 10, 0), (11, 11, 0), (12, 12, 0), (13, 13, 0)]) (I (x2)) (I (x2))
theorem z49p9 (s : XSpecies) (age : Int) (q10 : Nat) : (z49r3 s age q10) := (.cons _ _ _ _ (.slc 10 0 _ _ _ ⟨10, 0, 0, 0⟩ rfl (.inl rfl)) (.cons _ _ _ _ (VR.of_pf rfl) .nil))
theorem z49p10 (s : XSpecies) (w : XWeather) (q10 : Nat) (q11 : Nat) (q12 : Nat) (q13 : Nat) (x1 : Int) : (z49r6 s w q10 q11 q12 q13 x1) := (.cons _ _ _ _ (.agg _ _ (.cons _ _ _ _ (.slc 10 0 _ _ _ ⟨10, 0, 0, 0⟩ rfl (.inl rfl)) (.cons _ _ _ _ (.slc 11 0 _ _ _ ⟨11, 0, 0, 0⟩ rfl (.inl rfl)) (.cons _ _ _ _ (VR.of_pf rfl) (.cons _ _ _ _ (VR.of_pf rfl) (.cons _ _ _ _ (VR.of_pf rfl) (.cons _ _ _ _ (VR.of_pf rfl) (.cons _ _ _ _ (.slc 12 0 _ _ _ ⟨12, 0, 0, 0⟩ rfl (.inl rfl)) (.cons _ _ _ _ (.slc 13 0 _ _ _ ⟨13, 0, 0, 0⟩ rfl (.inl rfl)) .nil))))))))) (.cons _ _ _ _ (VR.of_pf rfl) (.cons _ _ _ _ (VR.of_pf rfl) .nil)))
theorem z49p11 (s : XSpecies) : (z49r7 s) := ⟨MemAt.same _ (encL_pf cInt_pf _), MemAt.same _ (encL_pf cInt_pf _), MemAt.same _ (encL_pf cXRung_pf _), MemAt.same _ (encL_pf cXSpan_pf _), trivial⟩
abbrev A_ref02_height (s : XSpecies) (age : Int) (h : Int) (w : XWeather) (q10 : Nat) (q11 : Nat) (q12 : Nat) (q13 : Nat) : List Value := [.agg #[.slice (some ⟨10, 0, none⟩) (s.Rise.length) (q10), .slice (some ⟨11, 0, none⟩) (s.Thick.length) (q11), I (s.Top), I (s.Stout), I (s.Shade), I (s.Reach), .slice (some ⟨12, 0, none⟩) (s.Ladder.length) (q12), .slice (some ⟨13, 0, none⟩) (s.Sprouts.length) (q13)], I (age), I (h), .agg #[I (w.Light), I (w.Browse), I (w.Mild)]]
abbrev K_ref02_height (s : XSpecies) : List (Nat × List Value) := [(10, encL cInt s.Rise), (11, encL cInt s.Thick), (12, encL cXRung s.Ladder), (13, encL cXSpan s.Sprouts)]
noncomputable def ref02_height (s : XSpecies) (age : Int) (h : Int) (w : XWeather) : Option Int :=
  Option.bind (ref02_at s.Rise age) fun x1 =>
  Option.bind (ref02_share s x1 w) fun x2 =>
  bif decide (h < s.Reach) then some (imin s.Top (W (h + (W ((W (x2 * (W (100 - w.Browse)))).tdiv 100)))))
  else some (imin s.Top (W (h + x2)))
theorem ref02_height_fc (s : XSpecies) (age : Int) (h : Int) (w : XWeather) (q10 q11 q12 q13 : Nat) (r : Int) (hh : ref02_height s age h w = some r) : FC P GG 65 (A_ref02_height s age h w q10 q11 q12 q13) (K_ref02_height s) (I (r)) := by
  refine FC.of_fsat 33 100 Tryd.func65 (by kernel_rfl) (by kernel_rfl) (by kernel_rfl) ⟨PinL.pf (encL_pf cInt_pf _), PinL.pf (encL_pf cInt_pf _), PinL.pf (encL_pf cXRung_pf _), PinL.pf (encL_pf cXSpan_pf _), trivial⟩ ?_
  cases h1 : ref02_at s.Rise age with
  | none =>
    have e : ref02_height s age h w = none := by unfold ref02_height; rw [h1, Option.bind_none]; first | done | rfl
    rw [e] at hh; cases hh
  | some x1 =>
    cases h2 : ref02_share s x1 w with
    | none =>
      have e : ref02_height s age h w = none := by unfold ref02_height; rw [h1, Option.bind_some, h2, Option.bind_none]; first | done | rfl
      rw [e] at hh; cases hh
    | some x2 =>
      rcases Bool.eq_false_or_eq_true (decide (h < s.Reach)) with h3 | h3
      · skip
        have e : ref02_height s age h w = some (imin s.Top (W (h + (W ((W (x2 * (W (100 - w.Browse)))).tdiv 100))))) := by unfold ref02_height; rw [h1, Option.bind_some, h2, Option.bind_some, h3, cond_true]; first | done | rfl
        rw [e] at hh
        have hr := Option.some.inj hh
        rw [← hr]
        exact FSat.done pfT (fuel := 17) (hs := (hR 7 ((z49i0 s age q10 x1) :: hE :: (z49i1 s w q10 q11 q12 q13 x1 x2) :: (hR 4 (hT :: (hR 14 [])))))) (ss := []) (R := [(z49r2 s age q10 x1), (z49r3 s age q10), (z49r4 s), VR (Ren.emb [(10, 10, 0)]) (I (x1)) (I (x1)), (z49r5 s w q10 q11 q12 q13 x1 x2), (z49r6 s w q10 q11 q12 q13 x1), (z49r7 s), (z49r8 x2), (decide (h < s.Reach)) = true]) (by kernel_rfl) ⟨ref02_at_fc s.Rise age q10 x1 h1, z49p9 s age q10, ⟨MemAt.same _ (encL_pf cInt_pf _), trivial⟩, selfB_self 9 _ rfl _, ref02_share_fc s x1 w q10 q11 q12 q13 x2 h2, z49p10 s w q10 q11 q12 q13 x1, z49p11 s, selfB_self 9 _ rfl _, h3, trivial⟩ (by kernel_rfl)
      · skip
        have e : ref02_height s age h w = some (imin s.Top (W (h + x2))) := by unfold ref02_height; rw [h1, Option.bind_some, h2, Option.bind_some, h3, cond_false]; first | done | rfl
        rw [e] at hh
        have hr := Option.some.inj hh
        rw [← hr]
        exact FSat.done pfT (fuel := 17) (hs := (hR 7 ((z49i0 s age q10 x1) :: hE :: (z49i1 s w q10 q11 q12 q13 x1 x2) :: (hR 4 (hF :: (hR 7 [])))))) (ss := []) (R := [(z49r2 s age q10 x1), (z49r3 s age q10), (z49r4 s), VR (Ren.emb [(10, 10, 0)]) (I (x1)) (I (x1)), (z49r5 s w q10 q11 q12 q13 x1 x2), (z49r6 s w q10 q11 q12 q13 x1), (z49r7 s), (z49r8 x2), (decide (h < s.Reach)) = false]) (by kernel_rfl) ⟨ref02_at_fc s.Rise age q10 x1 h1, z49p9 s age q10, ⟨MemAt.same _ (encL_pf cInt_pf _), trivial⟩, selfB_self 9 _ rfl _, ref02_share_fc s x1 w q10 q11 q12 q13 x2 h2, z49p10 s w q10 q11 q12 q13 x1, z49p11 s, selfB_self 9 _ rfl _, h3, trivial⟩ (by kernel_rfl)

/- greenhew/greenhewref02.crowd -/
abbrev z52r0 (s : XSpecies) (v7 : Int) : Prop := RowLd P 3 (encL cXRung s.Ladder) (0 + v7.toNat * 2) (I ((at_ zXRung s.Ladder v7).Height))
abbrev z52r1 (s : XSpecies) (v7 : Int) : Prop := RowLd P 3 (encL cXRung s.Ladder) (0 + v7.toNat * 2 + 1) (I ((at_ zXRung s.Ladder v7).Shoots))
abbrev A_ref02_crowd (s : XSpecies) (shoots : Int) (h : Int) (q10 : Nat) (q11 : Nat) (q12 : Nat) (q13 : Nat) : List Value := [.agg #[.slice (some ⟨10, 0, none⟩) (s.Rise.length) (q10), .slice (some ⟨11, 0, none⟩) (s.Thick.length) (q11), I (s.Top), I (s.Stout), I (s.Shade), I (s.Reach), .slice (some ⟨12, 0, none⟩) (s.Ladder.length) (q12), .slice (some ⟨13, 0, none⟩) (s.Sprouts.length) (q13)], I (shoots), I (h)]
abbrev K_ref02_crowd (s : XSpecies) : List (Nat × List Value) := [(10, encL cInt s.Rise), (11, encL cInt s.Thick), (12, encL cXRung s.Ladder), (13, encL cXSpan s.Sprouts)]
noncomputable def ref02_crowd_L (fu : Nat) (s : XSpecies) (shoots : Int) (h : Int) : Nat → (Int → Int → Option Int)
  | 0 => (fun _ _ => none)
  | fk + 1 => (fun v1 v7 => bif decide (v7 < ((s.Ladder.length : Nat) : Int)) then (bif decide (0 ≤ v7 ∧ v7 < ((s.Ladder.length : Nat) : Int)) then (bif decide (((at_ zXRung s.Ladder v7).Height) ≤ h) then ref02_crowd_L fu s shoots h fk (imin v1 ((at_ zXRung s.Ladder v7).Shoots)) (W (v7 + 1))
        else ref02_crowd_L fu s shoots h fk v1 (W (v7 + 1))) else none)
      else some v1)
theorem ref02_crowd_L_s0 (fu : Nat) (s : XSpecies) (shoots : Int) (h : Int) (fk : Nat) (v1 : Int) (v7 : Int) : ref02_crowd_L fu s shoots h (fk + 1) v1 v7 = (bif decide (v7 < ((s.Ladder.length : Nat) : Int)) then (bif decide (0 ≤ v7 ∧ v7 < ((s.Ladder.length : Nat) : Int)) then (bif decide (((at_ zXRung s.Ladder v7).Height) ≤ h) then ref02_crowd_L fu s shoots h fk (imin v1 ((at_ zXRung s.Ladder v7).Shoots)) (W (v7 + 1))
        else ref02_crowd_L fu s shoots h fk v1 (W (v7 + 1))) else none)
      else some v1) := rfl
noncomputable def ref02_crowd (fu : Nat) (s : XSpecies) (shoots : Int) (h : Int) : Option Int :=
  ref02_crowd_L fu s shoots h fu shoots 0
theorem ref02_crowd_L_fs (fu : Nat) (s : XSpecies) (shoots : Int) (h : Int) (q10 q11 q12 q13 : Nat) : ∀ fk, (∀ (v1 : Int) (v7 : Int) (r : Int), ref02_crowd_L fu s shoots h fk v1 v7 = some r → FSat P GG Tryd.f66 (I (r)) (ids (looses (K_ref02_crowd s))) 32 [.lp (cA (bodyOf Tryd.f66) [1, 0, 1, 0, 0]), .blk 0, .code (cA (bodyOf Tryd.f66) [1, 1])] (tOf 32 [(1, I (v1)), (2, I (h)), (3, .pointer (some ⟨100, 0, none⟩)), (6, I (0)), (7, I (v7))]) (mOf 101 [(0, .rom [I (1), I (2), I (3)] .glob), (10, .rom (encL cInt s.Rise) .loose), (11, .rom (encL cInt s.Thick) .loose), (12, .rom (encL cXRung s.Ladder) .loose), (13, .rom (encL cXSpan s.Sprouts) .loose), (100, .row [.slice (some ⟨10, 0, none⟩) (s.Rise.length) (q10), .slice (some ⟨11, 0, none⟩) (s.Thick.length) (q11), I (s.Top), I (s.Stout), I (s.Shade), I (s.Reach), .slice (some ⟨12, 0, none⟩) (s.Ladder.length) (q12), .slice (some ⟨13, 0, none⟩) (s.Sprouts.length) (q13)] 0)])) := by
  intro fk
  induction fk with
  | zero => exact fun _ _ r hh => by cases hh
  | succ fk ih =>
    · intro v1 v7 r hh
      rcases Bool.eq_false_or_eq_true (decide (v7 < ((s.Ladder.length : Nat) : Int))) with h1 | h1
      · skip
        rcases Bool.eq_false_or_eq_true (decide (0 ≤ v7 ∧ v7 < ((s.Ladder.length : Nat) : Int))) with h2 | h2
        rotate_left
        · skip
          have e : ref02_crowd_L fu s shoots h (fk + 1) v1 v7 = none := by rw [ref02_crowd_L_s0]; rw [h1, cond_true, h2, cond_false]; first | done | rfl
          rw [e] at hh; cases hh
        · skip
          rcases Bool.eq_false_or_eq_true (decide (((at_ zXRung s.Ladder v7).Height) ≤ h)) with h3 | h3
          · skip
            have e : ref02_crowd_L fu s shoots h (fk + 1) v1 v7 = ref02_crowd_L fu s shoots h fk (imin v1 ((at_ zXRung s.Ladder v7).Shoots)) (W (v7 + 1)) := by rw [ref02_crowd_L_s0]; rw [h1, cond_true, h2, cond_true, h3, cond_true]; first | done | rfl
            rw [e] at hh
            have nx := ih (imin v1 ((at_ zXRung s.Ladder v7).Shoots)) (W (v7 + 1)) r hh
            refine FSat.stop pfT (fuel := 20) (hs := (hR 4 (hT :: hE :: hE :: hE :: hX :: hE :: (hL (I ((at_ zXRung s.Ladder v7).Height))) :: hE :: hT :: (hR 4 (hX :: hE :: (hL (I ((at_ zXRung s.Ladder v7).Shoots))) :: (hR 5 [])))))) (ss := [.go, .st [1, 2, 3, 6, 7] [0, 10, 11, 12, 13, 100]]) (R := [(decide (v7 < ((s.Ladder.length : Nat) : Int))) = true, 0 ≤ v7 ∧ v7 < ((s.Ladder.length : Nat) : Int), (z52r0 s v7), (decide (((at_ zXRung s.Ladder v7).Height) ≤ h)) = true, 0 ≤ v7 ∧ v7 < ((s.Ladder.length : Nat) : Int), (z52r1 s v7)]) (by kernel_rfl) ⟨h1, of_decide_eq_true h2, RowLd.part cXRung_len _ rfl rfl _ _ (of_decide_eq_true h2) 0 _ rfl (by decide), h3, of_decide_eq_true h2, RowLd.part cXRung_len _ rfl rfl _ _ (of_decide_eq_true h2) 1 _ rfl (by decide), trivial⟩ 101 (by kernel_rfl) ?_ nx
            exact ⟨PinL.lit (by kernel_rfl), PinL.pf (encL_pf cInt_pf _), PinL.pf (encL_pf cInt_pf _), PinL.pf (encL_pf cXRung_pf _), PinL.pf (encL_pf cXSpan_pf _), PinL.lit (by kernel_rfl), trivial⟩
          · skip
            have e : ref02_crowd_L fu s shoots h (fk + 1) v1 v7 = ref02_crowd_L fu s shoots h fk v1 (W (v7 + 1)) := by rw [ref02_crowd_L_s0]; rw [h1, cond_true, h2, cond_true, h3, cond_false]; first | done | rfl
            rw [e] at hh
            have nx := ih v1 (W (v7 + 1)) r hh
            refine FSat.stop pfT (fuel := 20) (hs := (hR 4 [hT, hE, hE, hE, hX, hE, (hL (I ((at_ zXRung s.Ladder v7).Height))), hE, hF, hE, hE, hE])) (ss := [.go, .st [1, 2, 3, 6, 7] [0, 10, 11, 12, 13, 100]]) (R := [(decide (v7 < ((s.Ladder.length : Nat) : Int))) = true, 0 ≤ v7 ∧ v7 < ((s.Ladder.length : Nat) : Int), (z52r0 s v7), (decide (((at_ zXRung s.Ladder v7).Height) ≤ h)) = false]) (by kernel_rfl) ⟨h1, of_decide_eq_true h2, RowLd.part cXRung_len _ rfl rfl _ _ (of_decide_eq_true h2) 0 _ rfl (by decide), h3, trivial⟩ 101 (by kernel_rfl) ?_ nx
            exact ⟨PinL.lit (by kernel_rfl), PinL.pf (encL_pf cInt_pf _), PinL.pf (encL_pf cInt_pf _), PinL.pf (encL_pf cXRung_pf _), PinL.pf (encL_pf cXSpan_pf _), PinL.lit (by kernel_rfl), trivial⟩
      · skip
        have e : ref02_crowd_L fu s shoots h (fk + 1) v1 v7 = some v1 := by rw [ref02_crowd_L_s0]; rw [h1, cond_false]; first | done | rfl
        rw [e] at hh
        have hr := Option.some.inj hh
        rw [← hr]
        exact FSat.done pfT (fuel := 14) (hs := (hR 4 [hF, hE, hE])) (ss := [.go]) (R := [(decide (v7 < ((s.Ladder.length : Nat) : Int))) = false]) (by kernel_rfl) ⟨h1, trivial⟩ (by kernel_rfl)
theorem ref02_crowd_fc (fu : Nat) (s : XSpecies) (shoots : Int) (h : Int) (q10 q11 q12 q13 : Nat) (r : Int) (hh : ref02_crowd fu s shoots h = some r) : FC P GG 66 (A_ref02_crowd s shoots h q10 q11 q12 q13) (K_ref02_crowd s) (I (r)) := by
  refine FC.of_fsat 32 100 Tryd.func66 (by kernel_rfl) (by kernel_rfl) (by kernel_rfl) ⟨PinL.pf (encL_pf cInt_pf _), PinL.pf (encL_pf cInt_pf _), PinL.pf (encL_pf cXRung_pf _), PinL.pf (encL_pf cXSpan_pf _), trivial⟩ ?_
  have e : ref02_crowd fu s shoots h = ref02_crowd_L fu s shoots h fu shoots 0 := by unfold ref02_crowd; rfl
  rw [e] at hh
  have nx := ref02_crowd_L_fs fu s shoots h q10 q11 q12 q13 fu shoots 0 r hh
  refine FSat.stop pfT (fuel := 13) (hs := [hE, hE, hE]) (ss := [.st [1, 2, 3, 6, 7] [0, 10, 11, 12, 13, 100]]) (R := []) (by kernel_rfl) trivial 101 (by kernel_rfl) ?_ nx
  exact ⟨PinL.lit (by kernel_rfl), PinL.pf (encL_pf cInt_pf _), PinL.pf (encL_pf cInt_pf _), PinL.pf (encL_pf cXRung_pf _), PinL.pf (encL_pf cXSpan_pf _), PinL.lit (by kernel_rfl), trivial⟩

/- greenhew/greenhewref02.girth -/
noncomputable abbrev z53i0 (s : XSpecies) (age : Int) (q11 : Nat) (x1 : Int) : Hint := (hM (I (x1)) (I (x1)) (A_ref02_at s.Thick age q11) (K_ref02_at s.Thick) [(10, 11, 0)])
noncomputable abbrev z53i1 (s : XSpecies) (w : XWeather) (q10 : Nat) (q11 : Nat) (q12 : Nat) (q13 : Nat) (x1 : Int) (x2 : Int) : Hint := (hM (I (x2)) (I (x2)) (A_ref02_share s x1 w q10 q11 q12 q13) (K_ref02_share s) [(10, 10, 0), (11, 11, 0), (12, 12, 0), (13, 13, 0)])
abbrev z53r2 (s : XSpecies) (age : Int) (q11 : Nat) (x1 : Int) : Prop := FC P GG 102 (A_ref02_at s.Thick age q11) (K_ref02_at s.Thick) (I (x1))
abbrev z53r3 (s : XSpecies) (age : Int) (q11 : Nat) : Prop := VRs (Ren.emb [(10, 11, 0)]) (A_ref02_at s.Thick age q11) [.slice (some ⟨11, 0, none⟩) (s.Thick.length) (q11), I (age)]
abbrev z53r4 (s : XSpecies) : Prop := MemAt (Ren.emb [(10, 11, 0)]) (encL cInt s.Thick) 0 (encL cInt s.Thick) ∧ True
abbrev z53r5 (s : XSpecies) (w : XWeather) (q10 : Nat) (q11 : Nat) (q12 : Nat) (q13 : Nat) (x1 : Int) (x2 : Int) : Prop := FC P GG 101 (A_ref02_share s x1 w q10 q11 q12 q13) (K_ref02_share s) (I (x2))
abbrev z53r6 (s : XSpecies) (w : XWeather) (q10 : Nat) (q11 : Nat) (q12 : Nat) (q13 : Nat) (x1 : Int) : Prop := VRs (Ren.emb [(10, 10, 0), (11, 11, 0), (12, 12, 0), (13, 13, 0)]) (A_ref02_share s x1 w q10 q11 q12 q13) [.agg #[.slice (some ⟨10, 0, none⟩) (s.Rise.length) (q10), .slice (some ⟨11, 0, none⟩) (s.Thick.length) (q11), I (s.Top), I (s.Stout), I (s.Shade), I (s.Reach), .slice (some ⟨12, 0, none⟩) (s.Ladder.length) (q12), .slice (some ⟨13, 0, none⟩) (s.Sprouts.length) (q13)], I (x1), .agg #[I (w.Light), I (w.Browse), I (w.Mild)]]
abbrev z53r7 (s : XSpecies) : Prop := MemAt (Ren.emb [(10, 10, 0), (11, 11, 0), (12, 12, 0), (13, 13, 0)]) (encL cInt s.Rise) 0 (encL cInt s.Rise) ∧ MemAt (Ren.emb [(10, 10, 0), (11, 11, 0), (12, 12, 0), (13, 13, 0)]) (encL cInt s.Thick) 0 (encL cInt s.Thick) ∧ MemAt (Ren.emb [(10, 10, 0), (11, 11, 0), (12, 12, 0), (13, 13, 0)]) (encL cXRung s.Ladder) 0 (encL cXRung s.Ladder) ∧ MemAt (Ren.emb [(10, 10, 0), (11, 11, 0), (12, 12, 0), (13, 13, 0)]) (encL cXSpan s.Sprouts) 0 (encL cXSpan s.Sprouts) ∧ True
abbrev z53r8 (x2 : Int) : Prop := VR (Ren.emb [(10, 10, 0), (11, 11, 0), (12, 12, 0), (13, 13, 0)]) (I (x2)) (I (x2))
theorem z53p9 (s : XSpecies) (age : Int) (q11 : Nat) : (z53r3 s age q11) := (.cons _ _ _ _ (.slc 10 0 _ _ _ ⟨11, 0, 0, 0⟩ rfl (.inl rfl)) (.cons _ _ _ _ (VR.of_pf rfl) .nil))
theorem z53p10 (s : XSpecies) (w : XWeather) (q10 : Nat) (q11 : Nat) (q12 : Nat) (q13 : Nat) (x1 : Int) : (z53r6 s w q10 q11 q12 q13 x1) := (.cons _ _ _ _ (.agg _ _ (.cons _ _ _ _ (.slc 10 0 _ _ _ ⟨10, 0, 0, 0⟩ rfl (.inl rfl)) (.cons _ _ _ _ (.slc 11 0 _ _ _ ⟨11, 0, 0, 0⟩ rfl (.inl rfl)) (.cons _ _ _ _ (VR.of_pf rfl) (.cons _ _ _ _ (VR.of_pf rfl) (.cons _ _ _ _ (VR.of_pf rfl) (.cons _ _ _ _ (VR.of_pf rfl) (.cons _ _ _ _ (.slc 12 0 _ _ _ ⟨12, 0, 0, 0⟩ rfl (.inl rfl)) (.cons _ _ _ _ (.slc 13 0 _ _ _ ⟨13, 0, 0, 0⟩ rfl (.inl rfl)) .nil))))))))) (.cons _ _ _ _ (VR.of_pf rfl) (.cons _ _ _ _ (VR.of_pf rfl) .nil)))
theorem z53p11 (s : XSpecies) : (z53r7 s) := ⟨MemAt.same _ (encL_pf cInt_pf _), MemAt.same _ (encL_pf cInt_pf _), MemAt.same _ (encL_pf cXRung_pf _), MemAt.same _ (encL_pf cXSpan_pf _), trivial⟩
abbrev A_ref02_girth (s : XSpecies) (age : Int) (shoots : Int) (g : Int) (w : XWeather) (q10 : Nat) (q11 : Nat) (q12 : Nat) (q13 : Nat) : List Value := [.agg #[.slice (some ⟨10, 0, none⟩) (s.Rise.length) (q10), .slice (some ⟨11, 0, none⟩) (s.Thick.length) (q11), I (s.Top), I (s.Stout), I (s.Shade), I (s.Reach), .slice (some ⟨12, 0, none⟩) (s.Ladder.length) (q12), .slice (some ⟨13, 0, none⟩) (s.Sprouts.length) (q13)], I (age), I (shoots), I (g), .agg #[I (w.Light), I (w.Browse), I (w.Mild)]]
abbrev K_ref02_girth (s : XSpecies) : List (Nat × List Value) := [(10, encL cInt s.Rise), (11, encL cInt s.Thick), (12, encL cXRung s.Ladder), (13, encL cXSpan s.Sprouts)]
noncomputable def ref02_girth (s : XSpecies) (age : Int) (shoots : Int) (g : Int) (w : XWeather) : Option Int :=
  Option.bind (ref02_at s.Thick age) fun x1 =>
  Option.bind (ref02_share s x1 w) fun x2 =>
  bif decide ((W (100 + shoots)) ≠ 0) then some (imin s.Stout (W (g + (W ((W (x2 * 100)).tdiv (W (100 + shoots))))))) else none
theorem ref02_girth_fc (s : XSpecies) (age : Int) (shoots : Int) (g : Int) (w : XWeather) (q10 q11 q12 q13 : Nat) (r : Int) (hh : ref02_girth s age shoots g w = some r) : FC P GG 67 (A_ref02_girth s age shoots g w q10 q11 q12 q13) (K_ref02_girth s) (I (r)) := by
  refine FC.of_fsat 27 100 Tryd.func67 (by kernel_rfl) (by kernel_rfl) (by kernel_rfl) ⟨PinL.pf (encL_pf cInt_pf _), PinL.pf (encL_pf cInt_pf _), PinL.pf (encL_pf cXRung_pf _), PinL.pf (encL_pf cXSpan_pf _), trivial⟩ ?_
  cases h1 : ref02_at s.Thick age with
  | none =>
    have e : ref02_girth s age shoots g w = none := by unfold ref02_girth; rw [h1, Option.bind_none]; first | done | rfl
    rw [e] at hh; cases hh
  | some x1 =>
    cases h2 : ref02_share s x1 w with
    | none =>
      have e : ref02_girth s age shoots g w = none := by unfold ref02_girth; rw [h1, Option.bind_some, h2, Option.bind_none]; first | done | rfl
      rw [e] at hh; cases hh
    | some x2 =>
      rcases Bool.eq_false_or_eq_true (decide ((W (100 + shoots)) ≠ 0)) with h3 | h3
      rotate_left
      · skip
        have e : ref02_girth s age shoots g w = none := by unfold ref02_girth; rw [h1, Option.bind_some, h2, Option.bind_some, h3, cond_false]; first | done | rfl
        rw [e] at hh; cases hh
      · skip
        have e : ref02_girth s age shoots g w = some (imin s.Stout (W (g + (W ((W (x2 * 100)).tdiv (W (100 + shoots))))))) := by unfold ref02_girth; rw [h1, Option.bind_some, h2, Option.bind_some, h3, cond_true]; first | done | rfl
        rw [e] at hh
        have hr := Option.some.inj hh
        rw [← hr]
        exact FSat.done pfT (fuel := 10) (hs := (hR 10 [(z53i0 s age q11 x1), hE, (z53i1 s w q10 q11 q12 q13 x1 x2), hE, hE, hE, hD, hE, hE, hE])) (ss := []) (R := [(z53r2 s age q11 x1), (z53r3 s age q11), (z53r4 s), VR (Ren.emb [(10, 11, 0)]) (I (x1)) (I (x1)), (z53r5 s w q10 q11 q12 q13 x1 x2), (z53r6 s w q10 q11 q12 q13 x1), (z53r7 s), (z53r8 x2), (W (100 + shoots)) ≠ 0]) (by kernel_rfl) ⟨ref02_at_fc s.Thick age q11 x1 h1, z53p9 s age q11, ⟨MemAt.same _ (encL_pf cInt_pf _), trivial⟩, selfB_self 9 _ rfl _, ref02_share_fc s x1 w q10 q11 q12 q13 x2 h2, z53p10 s w q10 q11 q12 q13 x1, z53p11 s, selfB_self 9 _ rfl _, of_decide_eq_true h3, trivial⟩ (by kernel_rfl)

/- greenhew/greenhewref02.Step -/
noncomputable abbrev z47i0 (s : XSpecies) (b : XBox) (q10 : Nat) (q11 : Nat) (q12 : Nat) (q13 : Nat) (x2 : XBox) : Hint := (hM (.agg #[I (x2.Low.Age), I (x2.Low.Shoots), I (x2.Low.Height), I (x2.Low.Girth), I (x2.High.Age), I (x2.High.Shoots), I (x2.High.Height), I (x2.High.Girth)]) (.agg #[I (x2.Low.Age), I (x2.Low.Shoots), I (x2.Low.Height), I (x2.Low.Girth), I (x2.High.Age), I (x2.High.Shoots), I (x2.High.Height), I (x2.High.Girth)]) (A_ref02_Cut s b.Low.Age q10 q11 q12 q13) (K_ref02_Cut s) [(10, 10, 0), (11, 11, 0), (12, 12, 0), (13, 13, 0)])
noncomputable abbrev z47i1 (s : XSpecies) (q : XSeason) (q10 : Nat) (q11 : Nat) (q12 : Nat) (q13 : Nat) (x2 : XBox) (x3 : Int) : Hint := (hM (I (x3)) (I (x3)) (A_ref02_height s x2.Low.Age x2.Low.Height (⟨q.Light.Low, q.Browse.High, q.Mild.Low⟩ : XWeather) q10 q11 q12 q13) (K_ref02_height s) [(10, 10, 0), (11, 11, 0), (12, 12, 0), (13, 13, 0)])
noncomputable abbrev z47i2 (s : XSpecies) (q : XSeason) (q10 : Nat) (q11 : Nat) (q12 : Nat) (q13 : Nat) (x2 : XBox) (x4 : Int) : Hint := (hM (I (x4)) (I (x4)) (A_ref02_height s x2.Low.Age x2.High.Height (⟨q.Light.High, q.Browse.Low, q.Mild.High⟩ : XWeather) q10 q11 q12 q13) (K_ref02_height s) [(10, 10, 0), (11, 11, 0), (12, 12, 0), (13, 13, 0)])
noncomputable abbrev z47i3 (s : XSpecies) (q10 : Nat) (q11 : Nat) (q12 : Nat) (q13 : Nat) (x2 : XBox) (x4 : Int) (x5 : Int) : Hint := (hM (I (x5)) (I (x5)) (A_ref02_crowd s x2.Low.Shoots x4 q10 q11 q12 q13) (K_ref02_crowd s) [(10, 10, 0), (11, 11, 0), (12, 12, 0), (13, 13, 0)])
noncomputable abbrev z47i4 (s : XSpecies) (q : XSeason) (q10 : Nat) (q11 : Nat) (q12 : Nat) (q13 : Nat) (x2 : XBox) (x6 : Int) : Hint := (hM (I (x6)) (I (x6)) (A_ref02_girth s x2.Low.Age x2.High.Shoots x2.Low.Girth (⟨q.Light.Low, q.Browse.High, q.Mild.Low⟩ : XWeather) q10 q11 q12 q13) (K_ref02_girth s) [(10, 10, 0), (11, 11, 0), (12, 12, 0), (13, 13, 0)])
noncomputable abbrev z47i5 (s : XSpecies) (q10 : Nat) (q11 : Nat) (q12 : Nat) (q13 : Nat) (x2 : XBox) (x3 : Int) (x7 : Int) : Hint := (hM (I (x7)) (I (x7)) (A_ref02_crowd s x2.High.Shoots x3 q10 q11 q12 q13) (K_ref02_crowd s) [(10, 10, 0), (11, 11, 0), (12, 12, 0), (13, 13, 0)])
noncomputable abbrev z47i6 (s : XSpecies) (q : XSeason) (q10 : Nat) (q11 : Nat) (q12 : Nat) (q13 : Nat) (x2 : XBox) (x8 : Int) : Hint := (hM (I (x8)) (I (x8)) (A_ref02_girth s x2.Low.Age x2.Low.Shoots x2.High.Girth (⟨q.Light.High, q.Browse.Low, q.Mild.High⟩ : XWeather) q10 q11 q12 q13) (K_ref02_girth s) [(10, 10, 0), (11, 11, 0), (12, 12, 0), (13, 13, 0)])
abbrev z47r7 (s : XSpecies) (b : XBox) (q10 : Nat) (q11 : Nat) (q12 : Nat) (q13 : Nat) (x2 : XBox) : Prop := FC P GG 40 (A_ref02_Cut s b.Low.Age q10 q11 q12 q13) (K_ref02_Cut s) (.agg #[I (x2.Low.Age), I (x2.Low.Shoots), I (x2.Low.Height), I (x2.Low.Girth), I (x2.High.Age), I (x2.High.Shoots), I (x2.High.Height), I (x2.High.Girth)])
abbrev z47r8 (s : XSpecies) (b : XBox) (q10 : Nat) (q11 : Nat) (q12 : Nat) (q13 : Nat) : Prop := VRs (Ren.emb [(10, 10, 0), (11, 11, 0), (12, 12, 0), (13, 13, 0)]) (A_ref02_Cut s b.Low.Age q10 q11 q12 q13) [.agg #[.slice (some ⟨10, 0, none⟩) (s.Rise.length) (q10), .slice (some ⟨11, 0, none⟩) (s.Thick.length) (q11), I (s.Top), I (s.Stout), I (s.Shade), I (s.Reach), .slice (some ⟨12, 0, none⟩) (s.Ladder.length) (q12), .slice (some ⟨13, 0, none⟩) (s.Sprouts.length) (q13)], I (b.Low.Age)]
abbrev z47r9 (s : XSpecies) : Prop := MemAt (Ren.emb [(10, 10, 0), (11, 11, 0), (12, 12, 0), (13, 13, 0)]) (encL cInt s.Rise) 0 (encL cInt s.Rise) ∧ MemAt (Ren.emb [(10, 10, 0), (11, 11, 0), (12, 12, 0), (13, 13, 0)]) (encL cInt s.Thick) 0 (encL cInt s.Thick) ∧ MemAt (Ren.emb [(10, 10, 0), (11, 11, 0), (12, 12, 0), (13, 13, 0)]) (encL cXRung s.Ladder) 0 (encL cXRung s.Ladder) ∧ MemAt (Ren.emb [(10, 10, 0), (11, 11, 0), (12, 12, 0), (13, 13, 0)]) (encL cXSpan s.Sprouts) 0 (encL cXSpan s.Sprouts) ∧ True
abbrev z47r10 (x2 : XBox) : Prop := VR (Ren.emb [(10, 10, 0), (11, 11, 0), (12, 12, 0), (13, 13, 0)]) (.agg #[I (x2.Low.Age), I (x2.Low.Shoots), I (x2.Low.Height), I (x2.Low.Girth), I (x2.High.Age), I (x2.High.Shoots), I (x2.High.Height), I (x2.High.Girth)]) (.agg #[I (x2.Low.Age), I (x2.Low.Shoots), I (x2.Low.Height), I (x2.Low.Girth), I (x2.High.Age), I (x2.High.Shoots), I (x2.High.Height), I (x2.High.Girth)])
abbrev z47r11 (s : XSpecies) (q : XSeason) (q10 : Nat) (q11 : Nat) (q12 : Nat) (q13 : Nat) (x2 : XBox) (x3 : Int) : Prop := FC P GG 65 (A_ref02_height s x2.Low.Age x2.Low.Height (⟨q.Light.Low, q.Browse.High, q.Mild.Low⟩ : XWeather) q10 q11 q12 q13) (K_ref02_height s) (I (x3))
abbrev z47r12 (s : XSpecies) (q : XSeason) (q10 : Nat) (q11 : Nat) (q12 : Nat) (q13 : Nat) (x2 : XBox) : Prop := VRs (Ren.emb [(10, 10, 0), (11, 11, 0), (12, 12, 0), (13, 13, 0)]) (A_ref02_height s x2.Low.Age x2.Low.Height (⟨q.Light.Low, q.Browse.High, q.Mild.Low⟩ : XWeather) q10 q11 q12 q13) [.agg #[.slice (some ⟨10, 0, none⟩) (s.Rise.length) (q10), .slice (some ⟨11, 0, none⟩) (s.Thick.length) (q11), I (s.Top), I (s.Stout), I (s.Shade), I (s.Reach), .slice (some ⟨12, 0, none⟩) (s.Ladder.length) (q12), .slice (some ⟨13, 0, none⟩) (s.Sprouts.length) (q13)], I (x2.Low.Age), I (x2.Low.Height), .agg #[I (q.Light.Low), I (q.Browse.High), I (q.Mild.Low)]]
abbrev z47r13 (x3 : Int) : Prop := VR (Ren.emb [(10, 10, 0), (11, 11, 0), (12, 12, 0), (13, 13, 0)]) (I (x3)) (I (x3))
abbrev z47r14 (s : XSpecies) (q : XSeason) (q10 : Nat) (q11 : Nat) (q12 : Nat) (q13 : Nat) (x2 : XBox) (x4 : Int) : Prop := FC P GG 65 (A_ref02_height s x2.Low.Age x2.High.Height (⟨q.Light.High, q.Browse.Low, q.Mild.High⟩ : XWeather) q10 q11 q12 q13) (K_ref02_height s) (I (x4))
abbrev z47r15 (s : XSpecies) (q : XSeason) (q10 : Nat) (q11 : Nat) (q12 : Nat) (q13 : Nat) (x2 : XBox) : Prop := VRs (Ren.emb [(10, 10, 0), (11, 11, 0), (12, 12, 0), (13, 13, 0)]) (A_ref02_height s x2.Low.Age x2.High.Height (⟨q.Light.High, q.Browse.Low, q.Mild.High⟩ : XWeather) q10 q11 q12 q13) [.agg #[.slice (some ⟨10, 0, none⟩) (s.Rise.length) (q10), .slice (some ⟨11, 0, none⟩) (s.Thick.length) (q11), I (s.Top), I (s.Stout), I (s.Shade), I (s.Reach), .slice (some ⟨12, 0, none⟩) (s.Ladder.length) (q12), .slice (some ⟨13, 0, none⟩) (s.Sprouts.length) (q13)], I (x2.Low.Age), I (x2.High.Height), .agg #[I (q.Light.High), I (q.Browse.Low), I (q.Mild.High)]]
abbrev z47r16 (x4 : Int) : Prop := VR (Ren.emb [(10, 10, 0), (11, 11, 0), (12, 12, 0), (13, 13, 0)]) (I (x4)) (I (x4))
abbrev z47r17 (s : XSpecies) (q10 : Nat) (q11 : Nat) (q12 : Nat) (q13 : Nat) (x2 : XBox) (x4 : Int) (x5 : Int) : Prop := FC P GG 66 (A_ref02_crowd s x2.Low.Shoots x4 q10 q11 q12 q13) (K_ref02_crowd s) (I (x5))
abbrev z47r18 (s : XSpecies) (q10 : Nat) (q11 : Nat) (q12 : Nat) (q13 : Nat) (x2 : XBox) (x4 : Int) : Prop := VRs (Ren.emb [(10, 10, 0), (11, 11, 0), (12, 12, 0), (13, 13, 0)]) (A_ref02_crowd s x2.Low.Shoots x4 q10 q11 q12 q13) [.agg #[.slice (some ⟨10, 0, none⟩) (s.Rise.length) (q10), .slice (some ⟨11, 0, none⟩) (s.Thick.length) (q11), I (s.Top), I (s.Stout), I (s.Shade), I (s.Reach), .slice (some ⟨12, 0, none⟩) (s.Ladder.length) (q12), .slice (some ⟨13, 0, none⟩) (s.Sprouts.length) (q13)], I (x2.Low.Shoots), I (x4)]
abbrev z47r19 (x5 : Int) : Prop := VR (Ren.emb [(10, 10, 0), (11, 11, 0), (12, 12, 0), (13, 13, 0)]) (I (x5)) (I (x5))
abbrev z47r20 (s : XSpecies) (q : XSeason) (q10 : Nat) (q11 : Nat) (q12 : Nat) (q13 : Nat) (x2 : XBox) (x6 : Int) : Prop := FC P GG 67 (A_ref02_girth s x2.Low.Age x2.High.Shoots x2.Low.Girth (⟨q.Light.Low, q.Browse.High, q.Mild.Low⟩ : XWeather) q10 q11 q12 q13) (K_ref02_girth s) (I (x6))
abbrev z47r21 (s : XSpecies) (q : XSeason) (q10 : Nat) (q11 : Nat) (q12 : Nat) (q13 : Nat) (x2 : XBox) : Prop := VRs (Ren.emb [(10, 10, 0), (11, 11, 0), (12, 12, 0), (13, 13, 0)]) (A_ref02_girth s x2.Low.Age x2.High.Shoots x2.Low.Girth (⟨q.Light.Low, q.Browse.High, q.Mild.Low⟩ : XWeather) q10 q11 q12 q13) [.agg #[.slice (some ⟨10, 0, none⟩) (s.Rise.length) (q10), .slice (some ⟨11, 0, none⟩) (s.Thick.length) (q11), I (s.Top), I (s.Stout), I (s.Shade), I (s.Reach), .slice (some ⟨12, 0, none⟩) (s.Ladder.length) (q12), .slice (some ⟨13, 0, none⟩) (s.Sprouts.length) (q13)], I (x2.Low.Age), I (x2.High.Shoots), I (x2.Low.Girth), .agg #[I (q.Light.Low), I (q.Browse.High), I (q.Mild.Low)]]
abbrev z47r22 (x6 : Int) : Prop := VR (Ren.emb [(10, 10, 0), (11, 11, 0), (12, 12, 0), (13, 13, 0)]) (I (x6)) (I (x6))
abbrev z47r23 (s : XSpecies) (q10 : Nat) (q11 : Nat) (q12 : Nat) (q13 : Nat) (x2 : XBox) (x3 : Int) (x7 : Int) : Prop := FC P GG 66 (A_ref02_crowd s x2.High.Shoots x3 q10 q11 q12 q13) (K_ref02_crowd s) (I (x7))
abbrev z47r24 (s : XSpecies) (q10 : Nat) (q11 : Nat) (q12 : Nat) (q13 : Nat) (x2 : XBox) (x3 : Int) : Prop := VRs (Ren.emb [(10, 10, 0), (11, 11, 0), (12, 12, 0), (13, 13, 0)]) (A_ref02_crowd s x2.High.Shoots x3 q10 q11 q12 q13) [.agg #[.slice (some ⟨10, 0, none⟩) (s.Rise.length) (q10), .slice (some ⟨11, 0, none⟩) (s.Thick.length) (q11), I (s.Top), I (s.Stout), I (s.Shade), I (s.Reach), .slice (some ⟨12, 0, none⟩) (s.Ladder.length) (q12), .slice (some ⟨13, 0, none⟩) (s.Sprouts.length) (q13)], I (x2.High.Shoots), I (x3)]
abbrev z47r25 (x7 : Int) : Prop := VR (Ren.emb [(10, 10, 0), (11, 11, 0), (12, 12, 0), (13, 13, 0)]) (I (x7)) (I (x7))
abbrev z47r26 (s : XSpecies) (q : XSeason) (q10 : Nat) (q11 : Nat) (q12 : Nat) (q13 : Nat) (x2 : XBox) (x8 : Int) : Prop := FC P GG 67 (A_ref02_girth s x2.Low.Age x2.Low.Shoots x2.High.Girth (⟨q.Light.High, q.Browse.Low, q.Mild.High⟩ : XWeather) q10 q11 q12 q13) (K_ref02_girth s) (I (x8))
abbrev z47r27 (s : XSpecies) (q : XSeason) (q10 : Nat) (q11 : Nat) (q12 : Nat) (q13 : Nat) (x2 : XBox) : Prop := VRs (Ren.emb [(10, 10, 0), (11, 11, 0), (12, 12, 0), (13, 13, 0)]) (A_ref02_girth s x2.Low.Age x2.Low.Shoots x2.High.Girth (⟨q.Light.High, q.Browse.Low, q.Mild.High⟩ : XWeather) q10 q11 q12 q13) [.agg #[.slice (some ⟨10, 0, none⟩) (s.Rise.length) (q10), .slice (some ⟨11, 0, none⟩) (s.Thick.length) (q11), I (s.Top), I (s.Stout), I (s.Shade), I (s.Reach), .slice (some ⟨12, 0, none⟩) (s.Ladder.length) (q12), .slice (some ⟨13, 0, none⟩) (s.Sprouts.length) (q13)], I (x2.Low.Age), I (x2.Low.Shoots), I (x2.High.Girth), .agg #[I (q.Light.High), I (q.Browse.Low), I (q.Mild.High)]]
abbrev z47r28 (x8 : Int) : Prop := VR (Ren.emb [(10, 10, 0), (11, 11, 0), (12, 12, 0), (13, 13, 0)]) (I (x8)) (I (x8))
theorem z47p29 (s : XSpecies) (b : XBox) (q10 : Nat) (q11 : Nat) (q12 : Nat) (q13 : Nat) : (z47r8 s b q10 q11 q12 q13) := (.cons _ _ _ _ (.agg _ _ (.cons _ _ _ _ (.slc 10 0 _ _ _ ⟨10, 0, 0, 0⟩ rfl (.inl rfl)) (.cons _ _ _ _ (.slc 11 0 _ _ _ ⟨11, 0, 0, 0⟩ rfl (.inl rfl)) (.cons _ _ _ _ (VR.of_pf rfl) (.cons _ _ _ _ (VR.of_pf rfl) (.cons _ _ _ _ (VR.of_pf rfl) (.cons _ _ _ _ (VR.of_pf rfl) (.cons _ _ _ _ (.slc 12 0 _ _ _ ⟨12, 0, 0, 0⟩ rfl (.inl rfl)) (.cons _ _ _ _ (.slc 13 0 _ _ _ ⟨13, 0, 0, 0⟩ rfl (.inl rfl)) .nil))))))))) (.cons _ _ _ _ (VR.of_pf rfl) .nil))
theorem z47p30 (s : XSpecies) : (z47r9 s) := ⟨MemAt.same _ (encL_pf cInt_pf _), MemAt.same _ (encL_pf cInt_pf _), MemAt.same _ (encL_pf cXRung_pf _), MemAt.same _ (encL_pf cXSpan_pf _), trivial⟩
theorem z47p31 (s : XSpecies) (q : XSeason) (q10 : Nat) (q11 : Nat) (q12 : Nat) (q13 : Nat) (x2 : XBox) : (z47r12 s q q10 q11 q12 q13 x2) := (.cons _ _ _ _ (.agg _ _ (.cons _ _ _ _ (.slc 10 0 _ _ _ ⟨10, 0, 0, 0⟩ rfl (.inl rfl)) (.cons _ _ _ _ (.slc 11 0 _ _ _ ⟨11, 0, 0, 0⟩ rfl (.inl rfl)) (.cons _ _ _ _ (VR.of_pf rfl) (.cons _ _ _ _ (VR.of_pf rfl) (.cons _ _ _ _ (VR.of_pf rfl) (.cons _ _ _ _ (VR.of_pf rfl) (.cons _ _ _ _ (.slc 12 0 _ _ _ ⟨12, 0, 0, 0⟩ rfl (.inl rfl)) (.cons _ _ _ _ (.slc 13 0 _ _ _ ⟨13, 0, 0, 0⟩ rfl (.inl rfl)) .nil))))))))) (.cons _ _ _ _ (VR.of_pf rfl) (.cons _ _ _ _ (VR.of_pf rfl) (.cons _ _ _ _ (VR.of_pf rfl) .nil))))
theorem z47p32 (s : XSpecies) (q : XSeason) (q10 : Nat) (q11 : Nat) (q12 : Nat) (q13 : Nat) (x2 : XBox) : (z47r15 s q q10 q11 q12 q13 x2) := (.cons _ _ _ _ (.agg _ _ (.cons _ _ _ _ (.slc 10 0 _ _ _ ⟨10, 0, 0, 0⟩ rfl (.inl rfl)) (.cons _ _ _ _ (.slc 11 0 _ _ _ ⟨11, 0, 0, 0⟩ rfl (.inl rfl)) (.cons _ _ _ _ (VR.of_pf rfl) (.cons _ _ _ _ (VR.of_pf rfl) (.cons _ _ _ _ (VR.of_pf rfl) (.cons _ _ _ _ (VR.of_pf rfl) (.cons _ _ _ _ (.slc 12 0 _ _ _ ⟨12, 0, 0, 0⟩ rfl (.inl rfl)) (.cons _ _ _ _ (.slc 13 0 _ _ _ ⟨13, 0, 0, 0⟩ rfl (.inl rfl)) .nil))))))))) (.cons _ _ _ _ (VR.of_pf rfl) (.cons _ _ _ _ (VR.of_pf rfl) (.cons _ _ _ _ (VR.of_pf rfl) .nil))))
theorem z47p33 (s : XSpecies) (q10 : Nat) (q11 : Nat) (q12 : Nat) (q13 : Nat) (x2 : XBox) (x4 : Int) : (z47r18 s q10 q11 q12 q13 x2 x4) := (.cons _ _ _ _ (.agg _ _ (.cons _ _ _ _ (.slc 10 0 _ _ _ ⟨10, 0, 0, 0⟩ rfl (.inl rfl)) (.cons _ _ _ _ (.slc 11 0 _ _ _ ⟨11, 0, 0, 0⟩ rfl (.inl rfl)) (.cons _ _ _ _ (VR.of_pf rfl) (.cons _ _ _ _ (VR.of_pf rfl) (.cons _ _ _ _ (VR.of_pf rfl) (.cons _ _ _ _ (VR.of_pf rfl) (.cons _ _ _ _ (.slc 12 0 _ _ _ ⟨12, 0, 0, 0⟩ rfl (.inl rfl)) (.cons _ _ _ _ (.slc 13 0 _ _ _ ⟨13, 0, 0, 0⟩ rfl (.inl rfl)) .nil))))))))) (.cons _ _ _ _ (VR.of_pf rfl) (.cons _ _ _ _ (VR.of_pf rfl) .nil)))
theorem z47p34 (s : XSpecies) (q : XSeason) (q10 : Nat) (q11 : Nat) (q12 : Nat) (q13 : Nat) (x2 : XBox) : (z47r21 s q q10 q11 q12 q13 x2) := (.cons _ _ _ _ (.agg _ _ (.cons _ _ _ _ (.slc 10 0 _ _ _ ⟨10, 0, 0, 0⟩ rfl (.inl rfl)) (.cons _ _ _ _ (.slc 11 0 _ _ _ ⟨11, 0, 0, 0⟩ rfl (.inl rfl)) (.cons _ _ _ _ (VR.of_pf rfl) (.cons _ _ _ _ (VR.of_pf rfl) (.cons _ _ _ _ (VR.of_pf rfl) (.cons _ _ _ _ (VR.of_pf rfl) (.cons _ _ _ _ (.slc 12 0 _ _ _ ⟨12, 0, 0, 0⟩ rfl (.inl rfl)) (.cons _ _ _ _ (.slc 13 0 _ _ _ ⟨13, 0, 0, 0⟩ rfl (.inl rfl)) .nil))))))))) (.cons _ _ _ _ (VR.of_pf rfl) (.cons _ _ _ _ (VR.of_pf rfl) (.cons _ _ _ _ (VR.of_pf rfl) (.cons _ _ _ _ (VR.of_pf rfl) .nil)))))
theorem z47p35 (s : XSpecies) (q10 : Nat) (q11 : Nat) (q12 : Nat) (q13 : Nat) (x2 : XBox) (x3 : Int) : (z47r24 s q10 q11 q12 q13 x2 x3) := (.cons _ _ _ _ (.agg _ _ (.cons _ _ _ _ (.slc 10 0 _ _ _ ⟨10, 0, 0, 0⟩ rfl (.inl rfl)) (.cons _ _ _ _ (.slc 11 0 _ _ _ ⟨11, 0, 0, 0⟩ rfl (.inl rfl)) (.cons _ _ _ _ (VR.of_pf rfl) (.cons _ _ _ _ (VR.of_pf rfl) (.cons _ _ _ _ (VR.of_pf rfl) (.cons _ _ _ _ (VR.of_pf rfl) (.cons _ _ _ _ (.slc 12 0 _ _ _ ⟨12, 0, 0, 0⟩ rfl (.inl rfl)) (.cons _ _ _ _ (.slc 13 0 _ _ _ ⟨13, 0, 0, 0⟩ rfl (.inl rfl)) .nil))))))))) (.cons _ _ _ _ (VR.of_pf rfl) (.cons _ _ _ _ (VR.of_pf rfl) .nil)))
theorem z47p36 (s : XSpecies) (q : XSeason) (q10 : Nat) (q11 : Nat) (q12 : Nat) (q13 : Nat) (x2 : XBox) : (z47r27 s q q10 q11 q12 q13 x2) := (.cons _ _ _ _ (.agg _ _ (.cons _ _ _ _ (.slc 10 0 _ _ _ ⟨10, 0, 0, 0⟩ rfl (.inl rfl)) (.cons _ _ _ _ (.slc 11 0 _ _ _ ⟨11, 0, 0, 0⟩ rfl (.inl rfl)) (.cons _ _ _ _ (VR.of_pf rfl) (.cons _ _ _ _ (VR.of_pf rfl) (.cons _ _ _ _ (VR.of_pf rfl) (.cons _ _ _ _ (VR.of_pf rfl) (.cons _ _ _ _ (.slc 12 0 _ _ _ ⟨12, 0, 0, 0⟩ rfl (.inl rfl)) (.cons _ _ _ _ (.slc 13 0 _ _ _ ⟨13, 0, 0, 0⟩ rfl (.inl rfl)) .nil))))))))) (.cons _ _ _ _ (VR.of_pf rfl) (.cons _ _ _ _ (VR.of_pf rfl) (.cons _ _ _ _ (VR.of_pf rfl) (.cons _ _ _ _ (VR.of_pf rfl) .nil)))))
noncomputable abbrev z47i37 (s : XSpecies) (b : XBox) (q : XSeason) (q10 : Nat) (q11 : Nat) (q12 : Nat) (q13 : Nat) (x2 : Int) : Hint := (hM (I (x2)) (I (x2)) (A_ref02_height s b.Low.Age b.Low.Height (⟨q.Light.Low, q.Browse.High, q.Mild.Low⟩ : XWeather) q10 q11 q12 q13) (K_ref02_height s) [(10, 10, 0), (11, 11, 0), (12, 12, 0), (13, 13, 0)])
noncomputable abbrev z47i38 (s : XSpecies) (b : XBox) (q : XSeason) (q10 : Nat) (q11 : Nat) (q12 : Nat) (q13 : Nat) (x3 : Int) : Hint := (hM (I (x3)) (I (x3)) (A_ref02_height s b.Low.Age b.High.Height (⟨q.Light.High, q.Browse.Low, q.Mild.High⟩ : XWeather) q10 q11 q12 q13) (K_ref02_height s) [(10, 10, 0), (11, 11, 0), (12, 12, 0), (13, 13, 0)])
noncomputable abbrev z47i39 (s : XSpecies) (b : XBox) (q10 : Nat) (q11 : Nat) (q12 : Nat) (q13 : Nat) (x3 : Int) (x4 : Int) : Hint := (hM (I (x4)) (I (x4)) (A_ref02_crowd s b.Low.Shoots x3 q10 q11 q12 q13) (K_ref02_crowd s) [(10, 10, 0), (11, 11, 0), (12, 12, 0), (13, 13, 0)])
noncomputable abbrev z47i40 (s : XSpecies) (b : XBox) (q : XSeason) (q10 : Nat) (q11 : Nat) (q12 : Nat) (q13 : Nat) (x5 : Int) : Hint := (hM (I (x5)) (I (x5)) (A_ref02_girth s b.Low.Age b.High.Shoots b.Low.Girth (⟨q.Light.Low, q.Browse.High, q.Mild.Low⟩ : XWeather) q10 q11 q12 q13) (K_ref02_girth s) [(10, 10, 0), (11, 11, 0), (12, 12, 0), (13, 13, 0)])
noncomputable abbrev z47i41 (s : XSpecies) (b : XBox) (q10 : Nat) (q11 : Nat) (q12 : Nat) (q13 : Nat) (x2 : Int) (x6 : Int) : Hint := (hM (I (x6)) (I (x6)) (A_ref02_crowd s b.High.Shoots x2 q10 q11 q12 q13) (K_ref02_crowd s) [(10, 10, 0), (11, 11, 0), (12, 12, 0), (13, 13, 0)])
noncomputable abbrev z47i42 (s : XSpecies) (b : XBox) (q : XSeason) (q10 : Nat) (q11 : Nat) (q12 : Nat) (q13 : Nat) (x7 : Int) : Hint := (hM (I (x7)) (I (x7)) (A_ref02_girth s b.Low.Age b.Low.Shoots b.High.Girth (⟨q.Light.High, q.Browse.Low, q.Mild.High⟩ : XWeather) q10 q11 q12 q13) (K_ref02_girth s) [(10, 10, 0), (11, 11, 0), (12, 12, 0), (13, 13, 0)])
abbrev z47r43 (s : XSpecies) (b : XBox) (q : XSeason) (q10 : Nat) (q11 : Nat) (q12 : Nat) (q13 : Nat) (x2 : Int) : Prop := FC P GG 65 (A_ref02_height s b.Low.Age b.Low.Height (⟨q.Light.Low, q.Browse.High, q.Mild.Low⟩ : XWeather) q10 q11 q12 q13) (K_ref02_height s) (I (x2))
abbrev z47r44 (s : XSpecies) (b : XBox) (q : XSeason) (q10 : Nat) (q11 : Nat) (q12 : Nat) (q13 : Nat) : Prop := VRs (Ren.emb [(10, 10, 0), (11, 11, 0), (12, 12, 0), (13, 13, 0)]) (A_ref02_height s b.Low.Age b.Low.Height (⟨q.Light.Low, q.Browse.High, q.Mild.Low⟩ : XWeather) q10 q11 q12 q13) [.agg #[.slice (some ⟨10, 0, none⟩) (s.Rise.length) (q10), .slice (some ⟨11, 0, none⟩) (s.Thick.length) (q11), I (s.Top), I (s.Stout), I (s.Shade), I (s.Reach), .slice (some ⟨12, 0, none⟩) (s.Ladder.length) (q12), .slice (some ⟨13, 0, none⟩) (s.Sprouts.length) (q13)], I (b.Low.Age), I (b.Low.Height), .agg #[I (q.Light.Low), I (q.Browse.High), I (q.Mild.Low)]]
abbrev z47r45 (x2 : Int) : Prop := VR (Ren.emb [(10, 10, 0), (11, 11, 0), (12, 12, 0), (13, 13, 0)]) (I (x2)) (I (x2))
abbrev z47r46 (s : XSpecies) (b : XBox) (q : XSeason) (q10 : Nat) (q11 : Nat) (q12 : Nat) (q13 : Nat) (x3 : Int) : Prop := FC P GG 65 (A_ref02_height s b.Low.Age b.High.Height (⟨q.Light.High, q.Browse.Low, q.Mild.High⟩ : XWeather) q10 q11 q12 q13) (K_ref02_height s) (I (x3))
abbrev z47r47 (s : XSpecies) (b : XBox) (q : XSeason) (q10 : Nat) (q11 : Nat) (q12 : Nat) (q13 : Nat) : Prop := VRs (Ren.emb [(10, 10, 0), (11, 11, 0), (12, 12, 0), (13, 13, 0)]) (A_ref02_height s b.Low.Age b.High.Height (⟨q.Light.High, q.Browse.Low, q.Mild.High⟩ : XWeather) q10 q11 q12 q13) [.agg #[.slice (some ⟨10, 0, none⟩) (s.Rise.length) (q10), .slice (some ⟨11, 0, none⟩) (s.Thick.length) (q11), I (s.Top), I (s.Stout), I (s.Shade), I (s.Reach), .slice (some ⟨12, 0, none⟩) (s.Ladder.length) (q12), .slice (some ⟨13, 0, none⟩) (s.Sprouts.length) (q13)], I (b.Low.Age), I (b.High.Height), .agg #[I (q.Light.High), I (q.Browse.Low), I (q.Mild.High)]]
abbrev z47r48 (s : XSpecies) (b : XBox) (q10 : Nat) (q11 : Nat) (q12 : Nat) (q13 : Nat) (x3 : Int) (x4 : Int) : Prop := FC P GG 66 (A_ref02_crowd s b.Low.Shoots x3 q10 q11 q12 q13) (K_ref02_crowd s) (I (x4))
abbrev z47r49 (s : XSpecies) (b : XBox) (q10 : Nat) (q11 : Nat) (q12 : Nat) (q13 : Nat) (x3 : Int) : Prop := VRs (Ren.emb [(10, 10, 0), (11, 11, 0), (12, 12, 0), (13, 13, 0)]) (A_ref02_crowd s b.Low.Shoots x3 q10 q11 q12 q13) [.agg #[.slice (some ⟨10, 0, none⟩) (s.Rise.length) (q10), .slice (some ⟨11, 0, none⟩) (s.Thick.length) (q11), I (s.Top), I (s.Stout), I (s.Shade), I (s.Reach), .slice (some ⟨12, 0, none⟩) (s.Ladder.length) (q12), .slice (some ⟨13, 0, none⟩) (s.Sprouts.length) (q13)], I (b.Low.Shoots), I (x3)]
abbrev z47r50 (s : XSpecies) (b : XBox) (q : XSeason) (q10 : Nat) (q11 : Nat) (q12 : Nat) (q13 : Nat) (x5 : Int) : Prop := FC P GG 67 (A_ref02_girth s b.Low.Age b.High.Shoots b.Low.Girth (⟨q.Light.Low, q.Browse.High, q.Mild.Low⟩ : XWeather) q10 q11 q12 q13) (K_ref02_girth s) (I (x5))
abbrev z47r51 (s : XSpecies) (b : XBox) (q : XSeason) (q10 : Nat) (q11 : Nat) (q12 : Nat) (q13 : Nat) : Prop := VRs (Ren.emb [(10, 10, 0), (11, 11, 0), (12, 12, 0), (13, 13, 0)]) (A_ref02_girth s b.Low.Age b.High.Shoots b.Low.Girth (⟨q.Light.Low, q.Browse.High, q.Mild.Low⟩ : XWeather) q10 q11 q12 q13) [.agg #[.slice (some ⟨10, 0, none⟩) (s.Rise.length) (q10), .slice (some ⟨11, 0, none⟩) (s.Thick.length) (q11), I (s.Top), I (s.Stout), I (s.Shade), I (s.Reach), .slice (some ⟨12, 0, none⟩) (s.Ladder.length) (q12), .slice (some ⟨13, 0, none⟩) (s.Sprouts.length) (q13)], I (b.Low.Age), I (b.High.Shoots), I (b.Low.Girth), .agg #[I (q.Light.Low), I (q.Browse.High), I (q.Mild.Low)]]
abbrev z47r52 (s : XSpecies) (b : XBox) (q10 : Nat) (q11 : Nat) (q12 : Nat) (q13 : Nat) (x2 : Int) (x6 : Int) : Prop := FC P GG 66 (A_ref02_crowd s b.High.Shoots x2 q10 q11 q12 q13) (K_ref02_crowd s) (I (x6))
abbrev z47r53 (s : XSpecies) (b : XBox) (q10 : Nat) (q11 : Nat) (q12 : Nat) (q13 : Nat) (x2 : Int) : Prop := VRs (Ren.emb [(10, 10, 0), (11, 11, 0), (12, 12, 0), (13, 13, 0)]) (A_ref02_crowd s b.High.Shoots x2 q10 q11 q12 q13) [.agg #[.slice (some ⟨10, 0, none⟩) (s.Rise.length) (q10), .slice (some ⟨11, 0, none⟩) (s.Thick.length) (q11), I (s.Top), I (s.Stout), I (s.Shade), I (s.Reach), .slice (some ⟨12, 0, none⟩) (s.Ladder.length) (q12), .slice (some ⟨13, 0, none⟩) (s.Sprouts.length) (q13)], I (b.High.Shoots), I (x2)]
abbrev z47r54 (s : XSpecies) (b : XBox) (q : XSeason) (q10 : Nat) (q11 : Nat) (q12 : Nat) (q13 : Nat) (x7 : Int) : Prop := FC P GG 67 (A_ref02_girth s b.Low.Age b.Low.Shoots b.High.Girth (⟨q.Light.High, q.Browse.Low, q.Mild.High⟩ : XWeather) q10 q11 q12 q13) (K_ref02_girth s) (I (x7))
abbrev z47r55 (s : XSpecies) (b : XBox) (q : XSeason) (q10 : Nat) (q11 : Nat) (q12 : Nat) (q13 : Nat) : Prop := VRs (Ren.emb [(10, 10, 0), (11, 11, 0), (12, 12, 0), (13, 13, 0)]) (A_ref02_girth s b.Low.Age b.Low.Shoots b.High.Girth (⟨q.Light.High, q.Browse.Low, q.Mild.High⟩ : XWeather) q10 q11 q12 q13) [.agg #[.slice (some ⟨10, 0, none⟩) (s.Rise.length) (q10), .slice (some ⟨11, 0, none⟩) (s.Thick.length) (q11), I (s.Top), I (s.Stout), I (s.Shade), I (s.Reach), .slice (some ⟨12, 0, none⟩) (s.Ladder.length) (q12), .slice (some ⟨13, 0, none⟩) (s.Sprouts.length) (q13)], I (b.Low.Age), I (b.Low.Shoots), I (b.High.Girth), .agg #[I (q.Light.High), I (q.Browse.Low), I (q.Mild.High)]]
theorem z47p56 (s : XSpecies) (b : XBox) (q : XSeason) (q10 : Nat) (q11 : Nat) (q12 : Nat) (q13 : Nat) : (z47r44 s b q q10 q11 q12 q13) := (.cons _ _ _ _ (.agg _ _ (.cons _ _ _ _ (.slc 10 0 _ _ _ ⟨10, 0, 0, 0⟩ rfl (.inl rfl)) (.cons _ _ _ _ (.slc 11 0 _ _ _ ⟨11, 0, 0, 0⟩ rfl (.inl rfl)) (.cons _ _ _ _ (VR.of_pf rfl) (.cons _ _ _ _ (VR.of_pf rfl) (.cons _ _ _ _ (VR.of_pf rfl) (.cons _ _ _ _ (VR.of_pf rfl) (.cons _ _ _ _ (.slc 12 0 _ _ _ ⟨12, 0, 0, 0⟩ rfl (.inl rfl)) (.cons _ _ _ _ (.slc 13 0 _ _ _ ⟨13, 0, 0, 0⟩ rfl (.inl rfl)) .nil))))))))) (.cons _ _ _ _ (VR.of_pf rfl) (.cons _ _ _ _ (VR.of_pf rfl) (.cons _ _ _ _ (VR.of_pf rfl) .nil))))
theorem z47p57 (s : XSpecies) (b : XBox) (q : XSeason) (q10 : Nat) (q11 : Nat) (q12 : Nat) (q13 : Nat) : (z47r47 s b q q10 q11 q12 q13) := (.cons _ _ _ _ (.agg _ _ (.cons _ _ _ _ (.slc 10 0 _ _ _ ⟨10, 0, 0, 0⟩ rfl (.inl rfl)) (.cons _ _ _ _ (.slc 11 0 _ _ _ ⟨11, 0, 0, 0⟩ rfl (.inl rfl)) (.cons _ _ _ _ (VR.of_pf rfl) (.cons _ _ _ _ (VR.of_pf rfl) (.cons _ _ _ _ (VR.of_pf rfl) (.cons _ _ _ _ (VR.of_pf rfl) (.cons _ _ _ _ (.slc 12 0 _ _ _ ⟨12, 0, 0, 0⟩ rfl (.inl rfl)) (.cons _ _ _ _ (.slc 13 0 _ _ _ ⟨13, 0, 0, 0⟩ rfl (.inl rfl)) .nil))))))))) (.cons _ _ _ _ (VR.of_pf rfl) (.cons _ _ _ _ (VR.of_pf rfl) (.cons _ _ _ _ (VR.of_pf rfl) .nil))))
theorem z47p58 (s : XSpecies) (b : XBox) (q10 : Nat) (q11 : Nat) (q12 : Nat) (q13 : Nat) (x3 : Int) : (z47r49 s b q10 q11 q12 q13 x3) := (.cons _ _ _ _ (.agg _ _ (.cons _ _ _ _ (.slc 10 0 _ _ _ ⟨10, 0, 0, 0⟩ rfl (.inl rfl)) (.cons _ _ _ _ (.slc 11 0 _ _ _ ⟨11, 0, 0, 0⟩ rfl (.inl rfl)) (.cons _ _ _ _ (VR.of_pf rfl) (.cons _ _ _ _ (VR.of_pf rfl) (.cons _ _ _ _ (VR.of_pf rfl) (.cons _ _ _ _ (VR.of_pf rfl) (.cons _ _ _ _ (.slc 12 0 _ _ _ ⟨12, 0, 0, 0⟩ rfl (.inl rfl)) (.cons _ _ _ _ (.slc 13 0 _ _ _ ⟨13, 0, 0, 0⟩ rfl (.inl rfl)) .nil))))))))) (.cons _ _ _ _ (VR.of_pf rfl) (.cons _ _ _ _ (VR.of_pf rfl) .nil)))
theorem z47p59 (s : XSpecies) (b : XBox) (q : XSeason) (q10 : Nat) (q11 : Nat) (q12 : Nat) (q13 : Nat) : (z47r51 s b q q10 q11 q12 q13) := (.cons _ _ _ _ (.agg _ _ (.cons _ _ _ _ (.slc 10 0 _ _ _ ⟨10, 0, 0, 0⟩ rfl (.inl rfl)) (.cons _ _ _ _ (.slc 11 0 _ _ _ ⟨11, 0, 0, 0⟩ rfl (.inl rfl)) (.cons _ _ _ _ (VR.of_pf rfl) (.cons _ _ _ _ (VR.of_pf rfl) (.cons _ _ _ _ (VR.of_pf rfl) (.cons _ _ _ _ (VR.of_pf rfl) (.cons _ _ _ _ (.slc 12 0 _ _ _ ⟨12, 0, 0, 0⟩ rfl (.inl rfl)) (.cons _ _ _ _ (.slc 13 0 _ _ _ ⟨13, 0, 0, 0⟩ rfl (.inl rfl)) .nil))))))))) (.cons _ _ _ _ (VR.of_pf rfl) (.cons _ _ _ _ (VR.of_pf rfl) (.cons _ _ _ _ (VR.of_pf rfl) (.cons _ _ _ _ (VR.of_pf rfl) .nil)))))
theorem z47p60 (s : XSpecies) (b : XBox) (q10 : Nat) (q11 : Nat) (q12 : Nat) (q13 : Nat) (x2 : Int) : (z47r53 s b q10 q11 q12 q13 x2) := (.cons _ _ _ _ (.agg _ _ (.cons _ _ _ _ (.slc 10 0 _ _ _ ⟨10, 0, 0, 0⟩ rfl (.inl rfl)) (.cons _ _ _ _ (.slc 11 0 _ _ _ ⟨11, 0, 0, 0⟩ rfl (.inl rfl)) (.cons _ _ _ _ (VR.of_pf rfl) (.cons _ _ _ _ (VR.of_pf rfl) (.cons _ _ _ _ (VR.of_pf rfl) (.cons _ _ _ _ (VR.of_pf rfl) (.cons _ _ _ _ (.slc 12 0 _ _ _ ⟨12, 0, 0, 0⟩ rfl (.inl rfl)) (.cons _ _ _ _ (.slc 13 0 _ _ _ ⟨13, 0, 0, 0⟩ rfl (.inl rfl)) .nil))))))))) (.cons _ _ _ _ (VR.of_pf rfl) (.cons _ _ _ _ (VR.of_pf rfl) .nil)))
theorem z47p61 (s : XSpecies) (b : XBox) (q : XSeason) (q10 : Nat) (q11 : Nat) (q12 : Nat) (q13 : Nat) : (z47r55 s b q q10 q11 q12 q13) := (.cons _ _ _ _ (.agg _ _ (.cons _ _ _ _ (.slc 10 0 _ _ _ ⟨10, 0, 0, 0⟩ rfl (.inl rfl)) (.cons _ _ _ _ (.slc 11 0 _ _ _ ⟨11, 0, 0, 0⟩ rfl (.inl rfl)) (.cons _ _ _ _ (VR.of_pf rfl) (.cons _ _ _ _ (VR.of_pf rfl) (.cons _ _ _ _ (VR.of_pf rfl) (.cons _ _ _ _ (VR.of_pf rfl) (.cons _ _ _ _ (.slc 12 0 _ _ _ ⟨12, 0, 0, 0⟩ rfl (.inl rfl)) (.cons _ _ _ _ (.slc 13 0 _ _ _ ⟨13, 0, 0, 0⟩ rfl (.inl rfl)) .nil))))))))) (.cons _ _ _ _ (VR.of_pf rfl) (.cons _ _ _ _ (VR.of_pf rfl) (.cons _ _ _ _ (VR.of_pf rfl) (.cons _ _ _ _ (VR.of_pf rfl) .nil)))))
abbrev A_ref02_Step (s : XSpecies) (b : XBox) (q : XSeason) (q10 : Nat) (q11 : Nat) (q12 : Nat) (q13 : Nat) : List Value := [.agg #[.slice (some ⟨10, 0, none⟩) (s.Rise.length) (q10), .slice (some ⟨11, 0, none⟩) (s.Thick.length) (q11), I (s.Top), I (s.Stout), I (s.Shade), I (s.Reach), .slice (some ⟨12, 0, none⟩) (s.Ladder.length) (q12), .slice (some ⟨13, 0, none⟩) (s.Sprouts.length) (q13)], .agg #[I (b.Low.Age), I (b.Low.Shoots), I (b.Low.Height), I (b.Low.Girth), I (b.High.Age), I (b.High.Shoots), I (b.High.Height), I (b.High.Girth)], .agg #[I (q.Light.Low), I (q.Light.High), I (q.Browse.Low), I (q.Browse.High), I (q.Mild.Low), I (q.Mild.High), .bool (q.Cut)]]
abbrev K_ref02_Step (s : XSpecies) : List (Nat × List Value) := [(10, encL cInt s.Rise), (11, encL cInt s.Thick), (12, encL cXRung s.Ladder), (13, encL cXSpan s.Sprouts)]
noncomputable def ref02_Step (fu : Nat) (s : XSpecies) (b : XBox) (q : XSeason) : Option XBox :=
  bif q.Cut then (Option.bind (ref02_Cut s b.Low.Age) fun x2 =>
    Option.bind (ref02_height s x2.Low.Age x2.Low.Height (⟨q.Light.Low, q.Browse.High, q.Mild.Low⟩ : XWeather)) fun x3 =>
    Option.bind (ref02_height s x2.Low.Age x2.High.Height (⟨q.Light.High, q.Browse.Low, q.Mild.High⟩ : XWeather)) fun x4 =>
    Option.bind (ref02_crowd fu s x2.Low.Shoots x4) fun x5 =>
    Option.bind (ref02_girth s x2.Low.Age x2.High.Shoots x2.Low.Girth (⟨q.Light.Low, q.Browse.High, q.Mild.Low⟩ : XWeather)) fun x6 =>
    Option.bind (ref02_crowd fu s x2.High.Shoots x3) fun x7 =>
    Option.bind (ref02_girth s x2.Low.Age x2.Low.Shoots x2.High.Girth (⟨q.Light.High, q.Browse.Low, q.Mild.High⟩ : XWeather)) fun x8 =>
    some (⟨(⟨imin 100000 (W (x2.Low.Age + 1)), x5, x3, x6⟩ : XStand), (⟨imin 100000 (W (x2.Low.Age + 1)), x7, x4, x8⟩ : XStand)⟩ : XBox))
  else (Option.bind (ref02_height s b.Low.Age b.Low.Height (⟨q.Light.Low, q.Browse.High, q.Mild.Low⟩ : XWeather)) fun x2 =>
    Option.bind (ref02_height s b.Low.Age b.High.Height (⟨q.Light.High, q.Browse.Low, q.Mild.High⟩ : XWeather)) fun x3 =>
    Option.bind (ref02_crowd fu s b.Low.Shoots x3) fun x4 =>
    Option.bind (ref02_girth s b.Low.Age b.High.Shoots b.Low.Girth (⟨q.Light.Low, q.Browse.High, q.Mild.Low⟩ : XWeather)) fun x5 =>
    Option.bind (ref02_crowd fu s b.High.Shoots x2) fun x6 =>
    Option.bind (ref02_girth s b.Low.Age b.Low.Shoots b.High.Girth (⟨q.Light.High, q.Browse.Low, q.Mild.High⟩ : XWeather)) fun x7 =>
    some (⟨(⟨imin 100000 (W (b.Low.Age + 1)), x4, x2, x5⟩ : XStand), (⟨imin 100000 (W (b.Low.Age + 1)), x6, x3, x7⟩ : XStand)⟩ : XBox))
theorem ref02_Step_fc (fu : Nat) (s : XSpecies) (b : XBox) (q : XSeason) (q10 q11 q12 q13 : Nat) (r : XBox) (hh : ref02_Step fu s b q = some r) : FC P GG 33 (A_ref02_Step s b q q10 q11 q12 q13) (K_ref02_Step s) (.agg #[I (r.Low.Age), I (r.Low.Shoots), I (r.Low.Height), I (r.Low.Girth), I (r.High.Age), I (r.High.Shoots), I (r.High.Height), I (r.High.Girth)]) := by
  refine FC.of_fsat 99 100 Tryd.func33 (by kernel_rfl) (by kernel_rfl) (by kernel_rfl) ⟨PinL.pf (encL_pf cInt_pf _), PinL.pf (encL_pf cInt_pf _), PinL.pf (encL_pf cXRung_pf _), PinL.pf (encL_pf cXSpan_pf _), trivial⟩ ?_
  rcases Bool.eq_false_or_eq_true (q.Cut) with h1 | h1
  · skip
    cases h2 : ref02_Cut s b.Low.Age with
    | none =>
      have e : ref02_Step fu s b q = none := by unfold ref02_Step; rw [h1, cond_true, h2, Option.bind_none]; first | done | rfl
      rw [e] at hh; cases hh
    | some x2 =>
      cases h3 : ref02_height s x2.Low.Age x2.Low.Height (⟨q.Light.Low, q.Browse.High, q.Mild.Low⟩ : XWeather) with
      | none =>
        have e : ref02_Step fu s b q = none := by unfold ref02_Step; rw [h1, cond_true, h2, Option.bind_some, h3, Option.bind_none]; first | done | rfl
        rw [e] at hh; cases hh
      | some x3 =>
        cases h4 : ref02_height s x2.Low.Age x2.High.Height (⟨q.Light.High, q.Browse.Low, q.Mild.High⟩ : XWeather) with
        | none =>
          have e : ref02_Step fu s b q = none := by unfold ref02_Step; rw [h1, cond_true, h2, Option.bind_some, h3, Option.bind_some, h4, Option.bind_none]; first | done | rfl
          rw [e] at hh; cases hh
        | some x4 =>
          cases h5 : ref02_crowd fu s x2.Low.Shoots x4 with
          | none =>
            have e : ref02_Step fu s b q = none := by unfold ref02_Step; rw [h1, cond_true, h2, Option.bind_some, h3, Option.bind_some, h4, Option.bind_some, h5, Option.bind_none]; first | done | rfl
            rw [e] at hh; cases hh
          | some x5 =>
            cases h6 : ref02_girth s x2.Low.Age x2.High.Shoots x2.Low.Girth (⟨q.Light.Low, q.Browse.High, q.Mild.Low⟩ : XWeather) with
            | none =>
              have e : ref02_Step fu s b q = none := by unfold ref02_Step; rw [h1, cond_true, h2, Option.bind_some, h3, Option.bind_some, h4, Option.bind_some, h5, Option.bind_some, h6, Option.bind_none]; first | done | rfl
              rw [e] at hh; cases hh
            | some x6 =>
              cases h7 : ref02_crowd fu s x2.High.Shoots x3 with
              | none =>
                have e : ref02_Step fu s b q = none := by unfold ref02_Step; rw [h1, cond_true, h2, Option.bind_some, h3, Option.bind_some, h4, Option.bind_some, h5, Option.bind_some, h6, Option.bind_some, h7, Option.bind_none]; first | done | rfl
                rw [e] at hh; cases hh
              | some x7 =>
                cases h8 : ref02_girth s x2.Low.Age x2.Low.Shoots x2.High.Girth (⟨q.Light.High, q.Browse.Low, q.Mild.High⟩ : XWeather) with
                | none =>
                  have e : ref02_Step fu s b q = none := by unfold ref02_Step; rw [h1, cond_true, h2, Option.bind_some, h3, Option.bind_some, h4, Option.bind_some, h5, Option.bind_some, h6, Option.bind_some, h7, Option.bind_some, h8, Option.bind_none]; first | done | rfl
                  rw [e] at hh; cases hh
                | some x8 =>
                  have e : ref02_Step fu s b q = some (⟨(⟨imin 100000 (W (x2.Low.Age + 1)), x5, x3, x6⟩ : XStand), (⟨imin 100000 (W (x2.Low.Age + 1)), x7, x4, x8⟩ : XStand)⟩ : XBox) := by unfold ref02_Step; rw [h1, cond_true, h2, Option.bind_some, h3, Option.bind_some, h4, Option.bind_some, h5, Option.bind_some, h6, Option.bind_some, h7, Option.bind_some, h8, Option.bind_some]; first | done | rfl
                  rw [e] at hh
                  have hr := Option.some.inj hh
                  rw [← hr]
                  exact FSat.done pfT (fuel := 25) (hs := (hR 5 (hT :: (hR 4 ((z47i0 s b q10 q11 q12 q13 x2) :: (hR 35 ((z47i1 s q q10 q11 q12 q13 x2 x3) :: (hR 6 ((z47i2 s q q10 q11 q12 q13 x2 x4) :: (hR 12 ((z47i3 s q10 q11 q12 q13 x2 x4 x5) :: (hR 10 ((z47i4 s q q10 q11 q12 q13 x2 x6) :: (hR 7 ((z47i5 s q10 q11 q12 q13 x2 x3 x7) :: (hR 10 [(z47i6 s q q10 q11 q12 q13 x2 x8), hE, hE, hE])))))))))))))))) (ss := []) (R := [(q.Cut) = true, (z47r7 s b q10 q11 q12 q13 x2), (z47r8 s b q10 q11 q12 q13), (z47r9 s), (z47r10 x2), (z47r11 s q q10 q11 q12 q13 x2 x3), (z47r12 s q q10 q11 q12 q13 x2), (z47r9 s), (z47r13 x3), (z47r14 s q q10 q11 q12 q13 x2 x4), (z47r15 s q q10 q11 q12 q13 x2), (z47r9 s), (z47r16 x4), (z47r17 s q10 q11 q12 q13 x2 x4 x5), (z47r18 s q10 q11 q12 q13 x2 x4), (z47r9 s), (z47r19 x5), (z47r20 s q q10 q11 q12 q13 x2 x6), (z47r21 s q q10 q11 q12 q13 x2), (z47r9 s), (z47r22 x6), (z47r23 s q10 q11 q12 q13 x2 x3 x7), (z47r24 s q10 q11 q12 q13 x2 x3), (z47r9 s), (z47r25 x7), (z47r26 s q q10 q11 q12 q13 x2 x8), (z47r27 s q q10 q11 q12 q13 x2), (z47r9 s), (z47r28 x8)]) (by kernel_rfl) ⟨h1, ref02_Cut_fc s b.Low.Age q10 q11 q12 q13 x2 h2, z47p29 s b q10 q11 q12 q13, z47p30 s, selfB_self 9 _ rfl _, ref02_height_fc s x2.Low.Age x2.Low.Height (⟨q.Light.Low, q.Browse.High, q.Mild.Low⟩ : XWeather) q10 q11 q12 q13 x3 h3, z47p31 s q q10 q11 q12 q13 x2, z47p30 s, selfB_self 9 _ rfl _, ref02_height_fc s x2.Low.Age x2.High.Height (⟨q.Light.High, q.Browse.Low, q.Mild.High⟩ : XWeather) q10 q11 q12 q13 x4 h4, z47p32 s q q10 q11 q12 q13 x2, z47p30 s, selfB_self 9 _ rfl _, ref02_crowd_fc fu s x2.Low.Shoots x4 q10 q11 q12 q13 x5 h5, z47p33 s q10 q11 q12 q13 x2 x4, z47p30 s, selfB_self 9 _ rfl _, ref02_girth_fc s x2.Low.Age x2.High.Shoots x2.Low.Girth (⟨q.Light.Low, q.Browse.High, q.Mild.Low⟩ : XWeather) q10 q11 q12 q13 x6 h6, z47p34 s q q10 q11 q12 q13 x2, z47p30 s, selfB_self 9 _ rfl _, ref02_crowd_fc fu s x2.High.Shoots x3 q10 q11 q12 q13 x7 h7, z47p35 s q10 q11 q12 q13 x2 x3, z47p30 s, selfB_self 9 _ rfl _, ref02_girth_fc s x2.Low.Age x2.Low.Shoots x2.High.Girth (⟨q.Light.High, q.Browse.Low, q.Mild.High⟩ : XWeather) q10 q11 q12 q13 x8 h8, z47p36 s q q10 q11 q12 q13 x2, z47p30 s, selfB_self 9 _ rfl _, trivial⟩ (by kernel_rfl)
  · skip
    cases h2 : ref02_height s b.Low.Age b.Low.Height (⟨q.Light.Low, q.Browse.High, q.Mild.Low⟩ : XWeather) with
    | none =>
      have e : ref02_Step fu s b q = none := by unfold ref02_Step; rw [h1, cond_false, h2, Option.bind_none]; first | done | rfl
      rw [e] at hh; cases hh
    | some x2 =>
      cases h3 : ref02_height s b.Low.Age b.High.Height (⟨q.Light.High, q.Browse.Low, q.Mild.High⟩ : XWeather) with
      | none =>
        have e : ref02_Step fu s b q = none := by unfold ref02_Step; rw [h1, cond_false, h2, Option.bind_some, h3, Option.bind_none]; first | done | rfl
        rw [e] at hh; cases hh
      | some x3 =>
        cases h4 : ref02_crowd fu s b.Low.Shoots x3 with
        | none =>
          have e : ref02_Step fu s b q = none := by unfold ref02_Step; rw [h1, cond_false, h2, Option.bind_some, h3, Option.bind_some, h4, Option.bind_none]; first | done | rfl
          rw [e] at hh; cases hh
        | some x4 =>
          cases h5 : ref02_girth s b.Low.Age b.High.Shoots b.Low.Girth (⟨q.Light.Low, q.Browse.High, q.Mild.Low⟩ : XWeather) with
          | none =>
            have e : ref02_Step fu s b q = none := by unfold ref02_Step; rw [h1, cond_false, h2, Option.bind_some, h3, Option.bind_some, h4, Option.bind_some, h5, Option.bind_none]; first | done | rfl
            rw [e] at hh; cases hh
          | some x5 =>
            cases h6 : ref02_crowd fu s b.High.Shoots x2 with
            | none =>
              have e : ref02_Step fu s b q = none := by unfold ref02_Step; rw [h1, cond_false, h2, Option.bind_some, h3, Option.bind_some, h4, Option.bind_some, h5, Option.bind_some, h6, Option.bind_none]; first | done | rfl
              rw [e] at hh; cases hh
            | some x6 =>
              cases h7 : ref02_girth s b.Low.Age b.Low.Shoots b.High.Girth (⟨q.Light.High, q.Browse.Low, q.Mild.High⟩ : XWeather) with
              | none =>
                have e : ref02_Step fu s b q = none := by unfold ref02_Step; rw [h1, cond_false, h2, Option.bind_some, h3, Option.bind_some, h4, Option.bind_some, h5, Option.bind_some, h6, Option.bind_some, h7, Option.bind_none]; first | done | rfl
                rw [e] at hh; cases hh
              | some x7 =>
                have e : ref02_Step fu s b q = some (⟨(⟨imin 100000 (W (b.Low.Age + 1)), x4, x2, x5⟩ : XStand), (⟨imin 100000 (W (b.Low.Age + 1)), x6, x3, x7⟩ : XStand)⟩ : XBox) := by unfold ref02_Step; rw [h1, cond_false, h2, Option.bind_some, h3, Option.bind_some, h4, Option.bind_some, h5, Option.bind_some, h6, Option.bind_some, h7, Option.bind_some]; first | done | rfl
                rw [e] at hh
                have hr := Option.some.inj hh
                rw [← hr]
                exact FSat.done pfT (fuel := 25) (hs := (hR 5 (hF :: (hR 34 ((z47i37 s b q q10 q11 q12 q13 x2) :: (hR 6 ((z47i38 s b q q10 q11 q12 q13 x3) :: (hR 12 ((z47i39 s b q10 q11 q12 q13 x3 x4) :: (hR 10 ((z47i40 s b q q10 q11 q12 q13 x5) :: (hR 7 ((z47i41 s b q10 q11 q12 q13 x2 x6) :: (hR 10 [(z47i42 s b q q10 q11 q12 q13 x7), hE, hE, hE])))))))))))))) (ss := []) (R := [(q.Cut) = false, (z47r43 s b q q10 q11 q12 q13 x2), (z47r44 s b q q10 q11 q12 q13), (z47r9 s), (z47r45 x2), (z47r46 s b q q10 q11 q12 q13 x3), (z47r47 s b q q10 q11 q12 q13), (z47r9 s), (z47r13 x3), (z47r48 s b q10 q11 q12 q13 x3 x4), (z47r49 s b q10 q11 q12 q13 x3), (z47r9 s), (z47r16 x4), (z47r50 s b q q10 q11 q12 q13 x5), (z47r51 s b q q10 q11 q12 q13), (z47r9 s), (z47r19 x5), (z47r52 s b q10 q11 q12 q13 x2 x6), (z47r53 s b q10 q11 q12 q13 x2), (z47r9 s), (z47r22 x6), (z47r54 s b q q10 q11 q12 q13 x7), (z47r55 s b q q10 q11 q12 q13), (z47r9 s), (z47r25 x7)]) (by kernel_rfl) ⟨h1, ref02_height_fc s b.Low.Age b.Low.Height (⟨q.Light.Low, q.Browse.High, q.Mild.Low⟩ : XWeather) q10 q11 q12 q13 x2 h2, z47p56 s b q q10 q11 q12 q13, z47p30 s, selfB_self 9 _ rfl _, ref02_height_fc s b.Low.Age b.High.Height (⟨q.Light.High, q.Browse.Low, q.Mild.High⟩ : XWeather) q10 q11 q12 q13 x3 h3, z47p57 s b q q10 q11 q12 q13, z47p30 s, selfB_self 9 _ rfl _, ref02_crowd_fc fu s b.Low.Shoots x3 q10 q11 q12 q13 x4 h4, z47p58 s b q10 q11 q12 q13 x3, z47p30 s, selfB_self 9 _ rfl _, ref02_girth_fc s b.Low.Age b.High.Shoots b.Low.Girth (⟨q.Light.Low, q.Browse.High, q.Mild.Low⟩ : XWeather) q10 q11 q12 q13 x5 h5, z47p59 s b q q10 q11 q12 q13, z47p30 s, selfB_self 9 _ rfl _, ref02_crowd_fc fu s b.High.Shoots x2 q10 q11 q12 q13 x6 h6, z47p60 s b q10 q11 q12 q13 x2, z47p30 s, selfB_self 9 _ rfl _, ref02_girth_fc s b.Low.Age b.Low.Shoots b.High.Girth (⟨q.Light.High, q.Browse.Low, q.Mild.High⟩ : XWeather) q10 q11 q12 q13 x7 h7, z47p61 s b q q10 q11 q12 q13, z47p30 s, selfB_self 9 _ rfl _, trivial⟩ (by kernel_rfl)

/- greenhew/greenhewref02.Get -/
abbrev A_ref02_Get (b : XBox) (k : Int) : List Value := [.agg #[I (b.Low.Age), I (b.Low.Shoots), I (b.Low.Height), I (b.Low.Girth), I (b.High.Age), I (b.High.Shoots), I (b.High.Height), I (b.High.Girth)], I (k)]
noncomputable def ref02_Get (b : XBox) (k : Int) : XSpan :=
  bif k == 1 then (⟨b.Low.Shoots, b.High.Shoots⟩ : XSpan)
  else (bif k == 2 then (⟨b.Low.Height, b.High.Height⟩ : XSpan)
    else (⟨b.Low.Girth, b.High.Girth⟩ : XSpan))
theorem ref02_Get_fc (b : XBox) (k : Int) : FC P GG 75 (A_ref02_Get b k) [] (.agg #[I ((ref02_Get b k).Low), I ((ref02_Get b k).High)]) := by
  refine FC.of_fsat 31 100 Tryd.func75 (by kernel_rfl) (by kernel_rfl) (by kernel_rfl) trivial ?_
  rcases Bool.eq_false_or_eq_true (k == 1) with h1 | h1
  · skip
    have e : ref02_Get b k = (⟨b.Low.Shoots, b.High.Shoots⟩ : XSpan) := by unfold ref02_Get; rw [h1, cond_true]; first | done | rfl
    rw [e]
    exact FSat.done pfT (fuel := 17) (hs := (hE :: hE :: hE :: hT :: (hR 9 []))) (ss := []) (R := [(k == 1) = true]) (by kernel_rfl) ⟨h1, trivial⟩ (by kernel_rfl)
  · skip
    rcases Bool.eq_false_or_eq_true (k == 2) with h2 | h2
    · skip
      have e : ref02_Get b k = (⟨b.Low.Height, b.High.Height⟩ : XSpan) := by unfold ref02_Get; rw [h1, cond_false, h2, cond_true]; first | done | rfl
      rw [e]
      exact FSat.done pfT (fuel := 20) (hs := (hE :: hE :: hE :: hF :: hE :: hT :: (hR 9 []))) (ss := []) (R := [(k == 1) = false, (k == 2) = true]) (by kernel_rfl) ⟨h1, h2, trivial⟩ (by kernel_rfl)
    · skip
      have e : ref02_Get b k = (⟨b.Low.Girth, b.High.Girth⟩ : XSpan) := by unfold ref02_Get; rw [h1, cond_false, h2, cond_false]; first | done | rfl
      rw [e]
      exact FSat.done pfT (fuel := 22) (hs := (hE :: hE :: hE :: hF :: hE :: hF :: (hR 9 []))) (ss := []) (R := [(k == 1) = false, (k == 2) = false]) (by kernel_rfl) ⟨h1, h2, trivial⟩ (by kernel_rfl)

structure XSample where
  Kind : Int
  Span : XSpan

def zXSample : XSample := ⟨0, zXSpan⟩

def cXSample (x : XSample) : List Value := [I (x.Kind), I (x.Span.Low), I (x.Span.High)]
theorem cXSample_len (x : XSample) : (cXSample x).length = 3 := rfl
theorem cXSample_pf : ∀ (x : XSample), ∀ v ∈ cXSample x, pf v = true := by
  intro x v hv
  simp only [cXSample, List.mem_cons, List.not_mem_nil, or_false] at hv
  rcases hv with rfl | rfl | rfl <;> rfl

/- greenhew/greenhewref02.Set -/
abbrev z57r0 : Prop := (.pointer (some ⟨101, 1, none⟩) : Value) = .pointer (some ⟨101, 1, none⟩)
abbrev A_ref02_Set (b : XBox) (k : Int) (s : XSpan) : List Value := [.agg #[I (b.Low.Age), I (b.Low.Shoots), I (b.Low.Height), I (b.Low.Girth), I (b.High.Age), I (b.High.Shoots), I (b.High.Height), I (b.High.Girth)], I (k), .agg #[I (s.Low), I (s.High)]]
noncomputable def ref02_Set (b : XBox) (k : Int) (s : XSpan) : XBox :=
  bif k == 1 then (⟨(⟨b.Low.Age, s.Low, b.Low.Height, b.Low.Girth⟩ : XStand), (⟨b.High.Age, s.High, b.High.Height, b.High.Girth⟩ : XStand)⟩ : XBox)
  else (bif k == 2 then (⟨(⟨b.Low.Age, b.Low.Shoots, s.Low, b.Low.Girth⟩ : XStand), (⟨b.High.Age, b.High.Shoots, s.High, b.High.Girth⟩ : XStand)⟩ : XBox)
    else (⟨(⟨b.Low.Age, b.Low.Shoots, b.Low.Height, s.Low⟩ : XStand), (⟨b.High.Age, b.High.Shoots, b.High.Height, s.High⟩ : XStand)⟩ : XBox))
theorem ref02_Set_fc (b : XBox) (k : Int) (s : XSpan) : FC P GG 82 (A_ref02_Set b k s) [] (.agg #[I (((ref02_Set b k s).Low).Age), I (((ref02_Set b k s).Low).Shoots), I (((ref02_Set b k s).Low).Height), I (((ref02_Set b k s).Low).Girth), I (((ref02_Set b k s).High).Age), I (((ref02_Set b k s).High).Shoots), I (((ref02_Set b k s).High).Height), I (((ref02_Set b k s).High).Girth)]) := by
  refine FC.of_fsat 37 100 Tryd.func82 (by kernel_rfl) (by kernel_rfl) (by kernel_rfl) trivial ?_
  rcases Bool.eq_false_or_eq_true (k == 1) with h1 | h1
  · skip
    have e : ref02_Set b k s = (⟨(⟨b.Low.Age, s.Low, b.Low.Height, b.Low.Girth⟩ : XStand), (⟨b.High.Age, s.High, b.High.Height, b.High.Girth⟩ : XStand)⟩ : XBox) := by unfold ref02_Set; rw [h1, cond_true]; first | done | rfl
    rw [e]
    exact FSat.done pfT (fuel := 19) (hs := (hR 4 (hT :: (hR 13 [])))) (ss := []) (R := [(k == 1) = true, z57r0, (I (s.High) : Value) = I (s.High)]) (by kernel_rfl) ⟨h1, rfl, rfl, trivial⟩ (by kernel_rfl)
  · skip
    rcases Bool.eq_false_or_eq_true (k == 2) with h2 | h2
    · skip
      have e : ref02_Set b k s = (⟨(⟨b.Low.Age, b.Low.Shoots, s.Low, b.Low.Girth⟩ : XStand), (⟨b.High.Age, b.High.Shoots, s.High, b.High.Girth⟩ : XStand)⟩ : XBox) := by unfold ref02_Set; rw [h1, cond_false, h2, cond_true]; first | done | rfl
      rw [e]
      exact FSat.done pfT (fuel := 22) (hs := (hR 4 (hF :: hE :: hT :: (hR 13 [])))) (ss := []) (R := [(k == 1) = false, (k == 2) = true, z57r0, (I (s.High) : Value) = I (s.High)]) (by kernel_rfl) ⟨h1, h2, rfl, rfl, trivial⟩ (by kernel_rfl)
    · skip
      have e : ref02_Set b k s = (⟨(⟨b.Low.Age, b.Low.Shoots, b.Low.Height, s.Low⟩ : XStand), (⟨b.High.Age, b.High.Shoots, b.High.Height, s.High⟩ : XStand)⟩ : XBox) := by unfold ref02_Set; rw [h1, cond_false, h2, cond_false]; first | done | rfl
      rw [e]
      exact FSat.done pfT (fuel := 22) (hs := (hR 4 (hF :: hE :: hF :: (hR 13 [])))) (ss := []) (R := [(k == 1) = false, (k == 2) = false, z57r0, (I (s.High) : Value) = I (s.High)]) (by kernel_rfl) ⟨h1, h2, rfl, rfl, trivial⟩ (by kernel_rfl)

end Go.Proofs.G2
