/- Contracts of the functions that the law runs, part 2: made by a program, checked by the kernel. No conditions. -/
import Derived.Test.YtfgdbanigkfjlaaDoorGa
namespace Go.Proofs.G2
open Go.Sim Go.Proofs
set_option maxRecDepth 20000
set_option maxHeartbeats 1000000
/- greenhew/growth.Step -/
noncomputable abbrev growth_Step_i0 (s : XSpecies) (q10 : Nat) (q11 : Nat) (q12 : Nat) (q13 : Nat) (x1 : Bool) : Hint := (hB (hM (.bool (x1)) (.bool (x1)) (A_growth_speciesIsDefined s q10 q11 q12 q13) (K_growth_speciesIsDefined s) [(10, 10, 0), (11, 11, 0), (12, 12, 0), (13, 13, 0)]) true)
noncomputable abbrev growth_Step_i1 (s : XSpecies) (b : XBox) (q : XSeason) (q10 : Nat) (q11 : Nat) (q12 : Nat) (q13 : Nat) (x5 : XBox) : Hint := (hM (.agg #[I (x5.Low.Age), I (x5.Low.Shoots), I (x5.Low.Height), I (x5.Low.Girth), I (x5.High.Age), I (x5.High.Shoots), I (x5.High.Height), I (x5.High.Girth)]) (.agg #[I (x5.Low.Age), I (x5.Low.Shoots), I (x5.Low.Height), I (x5.Low.Girth), I (x5.High.Age), I (x5.High.Shoots), I (x5.High.Height), I (x5.High.Girth)]) (A_growth_grower_step b q) (K_growth_grower_step (⟨s⟩ : Xgrower) q10 q11 q12 q13) [(11, 10, 0), (12, 11, 0), (13, 12, 0), (14, 13, 0), (10, 104, 0)])
abbrev growth_Step_r2 (s : XSpecies) (q10 : Nat) (q11 : Nat) (q12 : Nat) (q13 : Nat) (x1 : Bool) : Prop := FC P GG 57 (A_growth_speciesIsDefined s q10 q11 q12 q13) (K_growth_speciesIsDefined s) (.bool (x1))
abbrev growth_Step_r3 (s : XSpecies) (q10 : Nat) (q11 : Nat) (q12 : Nat) (q13 : Nat) : Prop := VRs (Ren.emb [(10, 10, 0), (11, 11, 0), (12, 12, 0), (13, 13, 0)]) (A_growth_speciesIsDefined s q10 q11 q12 q13) [.agg #[.slice (some ⟨10, 0, none⟩) (s.Rise.length) (q10), .slice (some ⟨11, 0, none⟩) (s.Thick.length) (q11), I (s.Top), I (s.Stout), I (s.Shade), I (s.Reach), .slice (some ⟨12, 0, none⟩) (s.Ladder.length) (q12), .slice (some ⟨13, 0, none⟩) (s.Sprouts.length) (q13)]]
abbrev growth_Step_r4 (s : XSpecies) : Prop := MemAt (Ren.emb [(10, 10, 0), (11, 11, 0), (12, 12, 0), (13, 13, 0)]) (encL cInt s.Rise) 0 (encL cInt s.Rise) ∧ MemAt (Ren.emb [(10, 10, 0), (11, 11, 0), (12, 12, 0), (13, 13, 0)]) (encL cInt s.Thick) 0 (encL cInt s.Thick) ∧ MemAt (Ren.emb [(10, 10, 0), (11, 11, 0), (12, 12, 0), (13, 13, 0)]) (encL cXRung s.Ladder) 0 (encL cXRung s.Ladder) ∧ MemAt (Ren.emb [(10, 10, 0), (11, 11, 0), (12, 12, 0), (13, 13, 0)]) (encL cXSpan s.Sprouts) 0 (encL cXSpan s.Sprouts) ∧ True
abbrev growth_Step_r5 (x1 : Bool) : Prop := VR (Ren.emb [(10, 10, 0), (11, 11, 0), (12, 12, 0), (13, 13, 0)]) (.bool (x1)) (.bool (x1))
abbrev growth_Step_r6 (b : XBox) : Prop := FC P GG 68 (A_growth_boxIsDefined b) [] (.bool (growth_boxIsDefined b))
abbrev growth_Step_r7 (q : XSeason) : Prop := FC P GG 72 (A_growth_seasonIsDefined q) [] (.bool (growth_seasonIsDefined q))
abbrev growth_Step_r8 (s : XSpecies) (b : XBox) (q : XSeason) (q10 : Nat) (q11 : Nat) (q12 : Nat) (q13 : Nat) (x5 : XBox) : Prop := FC P GG 73 (A_growth_grower_step b q) (K_growth_grower_step (⟨s⟩ : Xgrower) q10 q11 q12 q13) (.agg #[I (x5.Low.Age), I (x5.Low.Shoots), I (x5.Low.Height), I (x5.Low.Girth), I (x5.High.Age), I (x5.High.Shoots), I (x5.High.Height), I (x5.High.Girth)])
abbrev growth_Step_r9 (b : XBox) (q : XSeason) : Prop := VRs (Ren.emb [(11, 10, 0), (12, 11, 0), (13, 12, 0), (14, 13, 0), (10, 104, 0)]) (A_growth_grower_step b q) [.pointer (some ⟨104, 0, none⟩), .agg #[I (b.Low.Age), I (b.Low.Shoots), I (b.Low.Height), I (b.Low.Girth), I (b.High.Age), I (b.High.Shoots), I (b.High.Height), I (b.High.Girth)], .agg #[I (q.Light.Low), I (q.Light.High), I (q.Browse.Low), I (q.Browse.High), I (q.Mild.Low), I (q.Mild.High), .bool (q.Cut)]]
abbrev growth_Step_r10 (s : XSpecies) (q10 : Nat) (q11 : Nat) (q12 : Nat) (q13 : Nat) : Prop := MemAt (Ren.emb [(11, 10, 0), (12, 11, 0), (13, 12, 0), (14, 13, 0), (10, 104, 0)]) (encL cInt (((⟨s⟩ : Xgrower).Species).Rise)) 0 (encL cInt s.Rise) ∧ MemAt (Ren.emb [(11, 10, 0), (12, 11, 0), (13, 12, 0), (14, 13, 0), (10, 104, 0)]) (encL cInt (((⟨s⟩ : Xgrower).Species).Thick)) 0 (encL cInt s.Thick) ∧ MemAt (Ren.emb [(11, 10, 0), (12, 11, 0), (13, 12, 0), (14, 13, 0), (10, 104, 0)]) (encL cXRung (((⟨s⟩ : Xgrower).Species).Ladder)) 0 (encL cXRung s.Ladder) ∧ MemAt (Ren.emb [(11, 10, 0), (12, 11, 0), (13, 12, 0), (14, 13, 0), (10, 104, 0)]) (encL cXSpan (((⟨s⟩ : Xgrower).Species).Sprouts)) 0 (encL cXSpan s.Sprouts) ∧ MemAt (Ren.emb [(11, 10, 0), (12, 11, 0), (13, 12, 0), (14, 13, 0), (10, 104, 0)]) [.slice (some ⟨11, 0, none⟩) ((((⟨s⟩ : Xgrower).Species).Rise).length) (q10), .slice (some ⟨12, 0, none⟩) ((((⟨s⟩ : Xgrower).Species).Thick).length) (q11), I (((⟨s⟩ : Xgrower).Species).Top), I (((⟨s⟩ : Xgrower).Species).Stout), I (((⟨s⟩ : Xgrower).Species).Shade), I (((⟨s⟩ : Xgrower).Species).Reach), .slice (some ⟨13, 0, none⟩) ((((⟨s⟩ : Xgrower).Species).Ladder).length) (q12), .slice (some ⟨14, 0, none⟩) ((((⟨s⟩ : Xgrower).Species).Sprouts).length) (q13)] 0 [.slice (some ⟨10, 0, none⟩) (s.Rise.length) (q10), .slice (some ⟨11, 0, none⟩) (s.Thick.length) (q11), I (s.Top), I (s.Stout), I (s.Shade), I (s.Reach), .slice (some ⟨12, 0, none⟩) (s.Ladder.length) (q12), .slice (some ⟨13, 0, none⟩) (s.Sprouts.length) (q13)] ∧ True
abbrev growth_Step_r11 (x5 : XBox) : Prop := VR (Ren.emb [(11, 10, 0), (12, 11, 0), (13, 12, 0), (14, 13, 0), (10, 104, 0)]) (.agg #[I (x5.Low.Age), I (x5.Low.Shoots), I (x5.Low.Height), I (x5.Low.Girth), I (x5.High.Age), I (x5.High.Shoots), I (x5.High.Height), I (x5.High.Girth)]) (.agg #[I (x5.Low.Age), I (x5.Low.Shoots), I (x5.Low.Height), I (x5.Low.Girth), I (x5.High.Age), I (x5.High.Shoots), I (x5.High.Height), I (x5.High.Girth)])
theorem growth_Step_p12 (s : XSpecies) (q10 : Nat) (q11 : Nat) (q12 : Nat) (q13 : Nat) : (growth_Step_r3 s q10 q11 q12 q13) := (.cons _ _ _ _ (.agg _ _ (.cons _ _ _ _ (.slc 10 0 _ _ _ ⟨10, 0, 0, 0⟩ rfl (.inl rfl)) (.cons _ _ _ _ (.slc 11 0 _ _ _ ⟨11, 0, 0, 0⟩ rfl (.inl rfl)) (.cons _ _ _ _ (VR.of_pf rfl) (.cons _ _ _ _ (VR.of_pf rfl) (.cons _ _ _ _ (VR.of_pf rfl) (.cons _ _ _ _ (VR.of_pf rfl) (.cons _ _ _ _ (.slc 12 0 _ _ _ ⟨12, 0, 0, 0⟩ rfl (.inl rfl)) (.cons _ _ _ _ (.slc 13 0 _ _ _ ⟨13, 0, 0, 0⟩ rfl (.inl rfl)) .nil))))))))) .nil)
theorem growth_Step_p13 (s : XSpecies) : (growth_Step_r4 s) := ⟨MemAt.same _ (encL_pf cInt_pf _), MemAt.same _ (encL_pf cInt_pf _), MemAt.same _ (encL_pf cXRung_pf _), MemAt.same _ (encL_pf cXSpan_pf _), trivial⟩
theorem growth_Step_p14 (b : XBox) (q : XSeason) : (growth_Step_r9 b q) := (.cons _ _ _ _ (.ptr 10 0 ⟨104, 0, 0, 0⟩ rfl) (.cons _ _ _ _ (VR.of_pf rfl) (.cons _ _ _ _ (VR.of_pf rfl) .nil)))
theorem growth_Step_p15 (s : XSpecies) (q10 : Nat) (q11 : Nat) (q12 : Nat) (q13 : Nat) : (growth_Step_r10 s q10 q11 q12 q13) := ⟨MemAt.same _ (encL_pf cInt_pf _), MemAt.same _ (encL_pf cInt_pf _), MemAt.same _ (encL_pf cXRung_pf _), MemAt.same _ (encL_pf cXSpan_pf _), MemAt.of (.cons _ _ _ _ (.slc 11 0 _ _ _ ⟨10, 0, 0, 0⟩ rfl (.inl rfl)) (.cons _ _ _ _ (.slc 12 0 _ _ _ ⟨11, 0, 0, 0⟩ rfl (.inl rfl)) (.cons _ _ _ _ (VR.of_pf rfl) (.cons _ _ _ _ (VR.of_pf rfl) (.cons _ _ _ _ (VR.of_pf rfl) (.cons _ _ _ _ (VR.of_pf rfl) (.cons _ _ _ _ (.slc 13 0 _ _ _ ⟨12, 0, 0, 0⟩ rfl (.inl rfl)) (.cons _ _ _ _ (.slc 14 0 _ _ _ ⟨13, 0, 0, 0⟩ rfl (.inl rfl)) .nil)))))))), trivial⟩
noncomputable abbrev growth_Step_i16 (s : XSpecies) (q10 : Nat) (q11 : Nat) (q12 : Nat) (q13 : Nat) (x1 : Bool) : Hint := (hB (hM (.bool (x1)) (.bool (x1)) (A_growth_speciesIsDefined s q10 q11 q12 q13) (K_growth_speciesIsDefined s) [(10, 10, 0), (11, 11, 0), (12, 12, 0), (13, 13, 0)]) false)
abbrev A_growth_Step (s : XSpecies) (b : XBox) (q : XSeason) (q10 : Nat) (q11 : Nat) (q12 : Nat) (q13 : Nat) : List Value := [.agg #[.slice (some ⟨10, 0, none⟩) (s.Rise.length) (q10), .slice (some ⟨11, 0, none⟩) (s.Thick.length) (q11), I (s.Top), I (s.Stout), I (s.Shade), I (s.Reach), .slice (some ⟨12, 0, none⟩) (s.Ladder.length) (q12), .slice (some ⟨13, 0, none⟩) (s.Sprouts.length) (q13)], .agg #[I (b.Low.Age), I (b.Low.Shoots), I (b.Low.Height), I (b.Low.Girth), I (b.High.Age), I (b.High.Shoots), I (b.High.Height), I (b.High.Girth)], .agg #[I (q.Light.Low), I (q.Light.High), I (q.Browse.Low), I (q.Browse.High), I (q.Mild.Low), I (q.Mild.High), .bool (q.Cut)]]
abbrev K_growth_Step (s : XSpecies) : List (Nat × List Value) := [(10, encL cInt s.Rise), (11, encL cInt s.Thick), (12, encL cXRung s.Ladder), (13, encL cXSpan s.Sprouts)]
noncomputable def growth_Step (fu : Nat) (s : XSpecies) (b : XBox) (q : XSeason) : Option (XBox × Int) :=
  Option.bind (growth_speciesIsDefined fu s) fun x1 =>
  bif x1 then (bif growth_boxIsDefined b then (bif growth_seasonIsDefined q then (Option.bind (growth_grower_step fu (⟨s⟩ : Xgrower) b q) fun x5 =>
        some (x5, 0))
      else some ((⟨(⟨0, 0, 0, 0⟩ : XStand), (⟨0, 0, 0, 0⟩ : XStand)⟩ : XBox), 2))
    else some ((⟨(⟨0, 0, 0, 0⟩ : XStand), (⟨0, 0, 0, 0⟩ : XStand)⟩ : XBox), 2))
  else some ((⟨(⟨0, 0, 0, 0⟩ : XStand), (⟨0, 0, 0, 0⟩ : XStand)⟩ : XBox), 2)
theorem growth_Step_fc (fu : Nat) (s : XSpecies) (b : XBox) (q : XSeason) (q10 q11 q12 q13 : Nat) (r : XBox × Int) (hh : growth_Step fu s b q = some r) : FC P GG 31 [.agg #[.slice (some ⟨10, 0, none⟩) (s.Rise.length) (q10), .slice (some ⟨11, 0, none⟩) (s.Thick.length) (q11), I (s.Top), I (s.Stout), I (s.Shade), I (s.Reach), .slice (some ⟨12, 0, none⟩) (s.Ladder.length) (q12), .slice (some ⟨13, 0, none⟩) (s.Sprouts.length) (q13)], .agg #[I (b.Low.Age), I (b.Low.Shoots), I (b.Low.Height), I (b.Low.Girth), I (b.High.Age), I (b.High.Shoots), I (b.High.Height), I (b.High.Girth)], .agg #[I (q.Light.Low), I (q.Light.High), I (q.Browse.Low), I (q.Browse.High), I (q.Mild.Low), I (q.Mild.High), .bool (q.Cut)]] [(10, encL cInt s.Rise), (11, encL cInt s.Thick), (12, encL cXRung s.Ladder), (13, encL cXSpan s.Sprouts)] (.tuple #[.agg #[I (r.1.Low.Age), I (r.1.Low.Shoots), I (r.1.Low.Height), I (r.1.Low.Girth), I (r.1.High.Age), I (r.1.High.Shoots), I (r.1.High.Height), I (r.1.High.Girth)], I (r.2)]) := by
  refine FC.of_fsat 28 100 Tryd.func31 (by kernel_rfl) (by kernel_rfl) (by kernel_rfl) ⟨PinL.pf (encL_pf cInt_pf _), PinL.pf (encL_pf cInt_pf _), PinL.pf (encL_pf cXRung_pf _), PinL.pf (encL_pf cXSpan_pf _), trivial⟩ ?_
  cases h1 : growth_speciesIsDefined fu s with
  | none =>
    have e : growth_Step fu s b q = none := by unfold growth_Step; rw [h1, Option.bind_none]; first | done | rfl
    rw [e] at hh; cases hh
  | some x1 =>
    rcases Bool.eq_false_or_eq_true (x1) with h2 | h2
    · skip
      rcases Bool.eq_false_or_eq_true (growth_boxIsDefined b) with h3 | h3
      · skip
        rcases Bool.eq_false_or_eq_true (growth_seasonIsDefined q) with h4 | h4
        · skip
          cases h5 : growth_grower_step fu (⟨s⟩ : Xgrower) b q with
          | none =>
            have e : growth_Step fu s b q = none := by unfold growth_Step; rw [h1, Option.bind_some, h2, cond_true, h3, cond_true, h4, cond_true, h5, Option.bind_none]; first | done | rfl
            rw [e] at hh; cases hh
          | some x5 =>
            have e : growth_Step fu s b q = some (x5, 0) := by unfold growth_Step; rw [h1, Option.bind_some, h2, cond_true, h3, cond_true, h4, cond_true, h5, Option.bind_some]; first | done | rfl
            rw [e] at hh
            have hr := Option.some.inj hh
            rw [← hr]
            exact FSat.done pfT (fuel := 17) (hs := (hR 6 ((growth_Step_i0 s q10 q11 q12 q13 x1) :: hE :: hE :: hE :: (hB (hC (.bool (growth_boxIsDefined b))) true) :: (hR 4 ((hB (hC (.bool (growth_seasonIsDefined q))) true) :: (hR 8 [(growth_Step_i1 s b q q10 q11 q12 q13 x5), hE, hE])))))) (ss := []) (R := [(growth_Step_r2 s q10 q11 q12 q13 x1), (growth_Step_r3 s q10 q11 q12 q13), (growth_Step_r4 s), (growth_Step_r5 x1), (x1) = true, (growth_Step_r6 b), (growth_boxIsDefined b) = true, (growth_Step_r7 q), (growth_seasonIsDefined q) = true, (growth_Step_r8 s b q q10 q11 q12 q13 x5), (growth_Step_r9 b q), (growth_Step_r10 s q10 q11 q12 q13), (growth_Step_r11 x5)]) (by kernel_rfl) ⟨growth_speciesIsDefined_fc fu s q10 q11 q12 q13 x1 h1, growth_Step_p12 s q10 q11 q12 q13, growth_Step_p13 s, selfB_self 9 _ rfl _, h2, growth_boxIsDefined_fc b, h3, growth_seasonIsDefined_fc q, h4, growth_grower_step_fc fu (⟨s⟩ : Xgrower) b q q10 q11 q12 q13 x5 h5, growth_Step_p14 b q, growth_Step_p15 s q10 q11 q12 q13, selfB_self 9 _ rfl _, trivial⟩ (by kernel_rfl)
        · skip
          have e : growth_Step fu s b q = some ((⟨(⟨0, 0, 0, 0⟩ : XStand), (⟨0, 0, 0, 0⟩ : XStand)⟩ : XBox), 2) := by unfold growth_Step; rw [h1, Option.bind_some, h2, cond_true, h3, cond_true, h4, cond_false]; first | done | rfl
          rw [e] at hh
          have hr := Option.some.inj hh
          rw [← hr]
          exact FSat.done pfT (fuel := 14) (hs := (hR 6 ((growth_Step_i0 s q10 q11 q12 q13 x1) :: hE :: hE :: hE :: (hB (hC (.bool (growth_boxIsDefined b))) true) :: (hR 4 ((hB (hC (.bool (growth_seasonIsDefined q))) false) :: (hR 5 [])))))) (ss := []) (R := [(growth_Step_r2 s q10 q11 q12 q13 x1), (growth_Step_r3 s q10 q11 q12 q13), (growth_Step_r4 s), (growth_Step_r5 x1), (x1) = true, (growth_Step_r6 b), (growth_boxIsDefined b) = true, (growth_Step_r7 q), (growth_seasonIsDefined q) = false]) (by kernel_rfl) ⟨growth_speciesIsDefined_fc fu s q10 q11 q12 q13 x1 h1, growth_Step_p12 s q10 q11 q12 q13, growth_Step_p13 s, selfB_self 9 _ rfl _, h2, growth_boxIsDefined_fc b, h3, growth_seasonIsDefined_fc q, h4, trivial⟩ (by kernel_rfl)
      · skip
        have e : growth_Step fu s b q = some ((⟨(⟨0, 0, 0, 0⟩ : XStand), (⟨0, 0, 0, 0⟩ : XStand)⟩ : XBox), 2) := by unfold growth_Step; rw [h1, Option.bind_some, h2, cond_true, h3, cond_false]; first | done | rfl
        rw [e] at hh
        have hr := Option.some.inj hh
        rw [← hr]
        exact FSat.done pfT (fuel := 14) (hs := (hR 6 ((growth_Step_i0 s q10 q11 q12 q13 x1) :: hE :: hE :: hE :: (hB (hC (.bool (growth_boxIsDefined b))) false) :: (hR 7 [])))) (ss := []) (R := [(growth_Step_r2 s q10 q11 q12 q13 x1), (growth_Step_r3 s q10 q11 q12 q13), (growth_Step_r4 s), (growth_Step_r5 x1), (x1) = true, (growth_Step_r6 b), (growth_boxIsDefined b) = false]) (by kernel_rfl) ⟨growth_speciesIsDefined_fc fu s q10 q11 q12 q13 x1 h1, growth_Step_p12 s q10 q11 q12 q13, growth_Step_p13 s, selfB_self 9 _ rfl _, h2, growth_boxIsDefined_fc b, h3, trivial⟩ (by kernel_rfl)
    · skip
      have e : growth_Step fu s b q = some ((⟨(⟨0, 0, 0, 0⟩ : XStand), (⟨0, 0, 0, 0⟩ : XStand)⟩ : XBox), 2) := by unfold growth_Step; rw [h1, Option.bind_some, h2, cond_false]; first | done | rfl
      rw [e] at hh
      have hr := Option.some.inj hh
      rw [← hr]
      exact FSat.done pfT (fuel := 14) (hs := (hR 6 ((growth_Step_i16 s q10 q11 q12 q13 x1) :: (hR 8 [])))) (ss := []) (R := [(growth_Step_r2 s q10 q11 q12 q13 x1), (growth_Step_r3 s q10 q11 q12 q13), (growth_Step_r4 s), (growth_Step_r5 x1), (x1) = false]) (by kernel_rfl) ⟨growth_speciesIsDefined_fc fu s q10 q11 q12 q13 x1 h1, growth_Step_p12 s q10 q11 q12 q13, growth_Step_p13 s, selfB_self 9 _ rfl _, h2, trivial⟩ (by kernel_rfl)

/- greenhew/growth.spanOf -/
noncomputable abbrev growth_spanOf_i0 (b : XBox) (k : Int) : Hint := (hM (.pointer (some ⟨10, 1, none⟩)) (.pointer (some ⟨100, 1, none⟩)) (A_growth_number k) (K_growth_number b.Low) [(10, 100, 0)])
noncomputable abbrev growth_spanOf_i1 (b : XBox) (k : Int) : Hint := (hM (.pointer (some ⟨10, 1, none⟩)) (.pointer (some ⟨100, 5, none⟩)) (A_growth_number k) (K_growth_number b.High) [(10, 100, 4)])
abbrev growth_spanOf_r2 (b : XBox) (k : Int) : Prop := FC P GG 100 (A_growth_number k) (K_growth_number b.Low) (.pointer (some ⟨10, 1, none⟩))
abbrev growth_spanOf_r3 (k : Int) : Prop := VRs (Ren.emb [(10, 100, 0)]) (A_growth_number k) [.pointer (some ⟨100, 0, none⟩), I (k)]
abbrev growth_spanOf_r4 (b : XBox) : Prop := MemAt (Ren.emb [(10, 100, 0)]) [I (b.Low.Age), I (b.Low.Shoots), I (b.Low.Height), I (b.Low.Girth)] 0 [I (b.Low.Age), I (b.Low.Shoots), I (b.Low.Height), I (b.Low.Girth), I (b.High.Age), I (b.High.Shoots), I (b.High.Height), I (b.High.Girth)] ∧ True
abbrev growth_spanOf_r5 : Prop := VR (Ren.emb [(10, 100, 0)]) (.pointer (some ⟨10, 1, none⟩)) (.pointer (some ⟨100, 1, none⟩))
abbrev growth_spanOf_r6 (b : XBox) (k : Int) : Prop := FC P GG 100 (A_growth_number k) (K_growth_number b.High) (.pointer (some ⟨10, 1, none⟩))
abbrev growth_spanOf_r7 (k : Int) : Prop := VRs (Ren.emb [(10, 100, 4)]) (A_growth_number k) [.pointer (some ⟨100, 4, none⟩), I (k)]
abbrev growth_spanOf_r8 (b : XBox) : Prop := MemAt (Ren.emb [(10, 100, 4)]) [I (b.High.Age), I (b.High.Shoots), I (b.High.Height), I (b.High.Girth)] 4 [I (b.Low.Age), I (b.Low.Shoots), I (b.Low.Height), I (b.Low.Girth), I (b.High.Age), I (b.High.Shoots), I (b.High.Height), I (b.High.Girth)] ∧ True
abbrev growth_spanOf_r9 : Prop := VR (Ren.emb [(10, 100, 4)]) (.pointer (some ⟨10, 1, none⟩)) (.pointer (some ⟨100, 5, none⟩))
theorem growth_spanOf_p10 (k : Int) : (growth_spanOf_r3 k) := (.cons _ _ _ _ (.ptr 10 0 ⟨100, 0, 0, 0⟩ rfl) (.cons _ _ _ _ (VR.of_pf rfl) .nil))
theorem growth_spanOf_p11 (b : XBox) : (growth_spanOf_r4 b) := ⟨MemAt.of (.cons _ _ _ _ (VR.of_pf rfl) (.cons _ _ _ _ (VR.of_pf rfl) (.cons _ _ _ _ (VR.of_pf rfl) (.cons _ _ _ _ (VR.of_pf rfl) .nil)))), trivial⟩
theorem growth_spanOf_p12 (k : Int) : (growth_spanOf_r7 k) := (.cons _ _ _ _ (.ptr 10 0 ⟨100, 4, 0, 0⟩ rfl) (.cons _ _ _ _ (VR.of_pf rfl) .nil))
theorem growth_spanOf_p13 (b : XBox) : (growth_spanOf_r8 b) := ⟨MemAt.of (.cons _ _ _ _ (VR.of_pf rfl) (.cons _ _ _ _ (VR.of_pf rfl) (.cons _ _ _ _ (VR.of_pf rfl) (.cons _ _ _ _ (VR.of_pf rfl) .nil)))), trivial⟩
noncomputable abbrev growth_spanOf_i14 (b : XBox) (k : Int) : Hint := (hM (.pointer (some ⟨10, 2, none⟩)) (.pointer (some ⟨100, 2, none⟩)) (A_growth_number k) (K_growth_number b.Low) [(10, 100, 0)])
noncomputable abbrev growth_spanOf_i15 (b : XBox) (k : Int) : Hint := (hM (.pointer (some ⟨10, 2, none⟩)) (.pointer (some ⟨100, 6, none⟩)) (A_growth_number k) (K_growth_number b.High) [(10, 100, 4)])
abbrev growth_spanOf_r16 (b : XBox) (k : Int) : Prop := FC P GG 100 (A_growth_number k) (K_growth_number b.Low) (.pointer (some ⟨10, 2, none⟩))
abbrev growth_spanOf_r17 : Prop := VR (Ren.emb [(10, 100, 0)]) (.pointer (some ⟨10, 2, none⟩)) (.pointer (some ⟨100, 2, none⟩))
abbrev growth_spanOf_r18 (b : XBox) (k : Int) : Prop := FC P GG 100 (A_growth_number k) (K_growth_number b.High) (.pointer (some ⟨10, 2, none⟩))
abbrev growth_spanOf_r19 : Prop := VR (Ren.emb [(10, 100, 4)]) (.pointer (some ⟨10, 2, none⟩)) (.pointer (some ⟨100, 6, none⟩))
noncomputable abbrev growth_spanOf_i20 (b : XBox) (k : Int) : Hint := (hM (.pointer (some ⟨10, 3, none⟩)) (.pointer (some ⟨100, 3, none⟩)) (A_growth_number k) (K_growth_number b.Low) [(10, 100, 0)])
noncomputable abbrev growth_spanOf_i21 (b : XBox) (k : Int) : Hint := (hM (.pointer (some ⟨10, 3, none⟩)) (.pointer (some ⟨100, 7, none⟩)) (A_growth_number k) (K_growth_number b.High) [(10, 100, 4)])
abbrev growth_spanOf_r22 (b : XBox) (k : Int) : Prop := FC P GG 100 (A_growth_number k) (K_growth_number b.Low) (.pointer (some ⟨10, 3, none⟩))
abbrev growth_spanOf_r23 : Prop := VR (Ren.emb [(10, 100, 0)]) (.pointer (some ⟨10, 3, none⟩)) (.pointer (some ⟨100, 3, none⟩))
abbrev growth_spanOf_r24 (b : XBox) (k : Int) : Prop := FC P GG 100 (A_growth_number k) (K_growth_number b.High) (.pointer (some ⟨10, 3, none⟩))
abbrev growth_spanOf_r25 : Prop := VR (Ren.emb [(10, 100, 4)]) (.pointer (some ⟨10, 3, none⟩)) (.pointer (some ⟨100, 7, none⟩))
abbrev A_growth_spanOf (b : XBox) (k : Int) : List Value := [.agg #[I (b.Low.Age), I (b.Low.Shoots), I (b.Low.Height), I (b.Low.Girth), I (b.High.Age), I (b.High.Shoots), I (b.High.Height), I (b.High.Girth)], I (k)]
noncomputable def growth_spanOf (b : XBox) (k : Int) : XSpan :=
  bif k == 1 then (⟨b.Low.Shoots, b.High.Shoots⟩ : XSpan)
  else (bif k == 2 then (⟨b.Low.Height, b.High.Height⟩ : XSpan)
    else (⟨b.Low.Girth, b.High.Girth⟩ : XSpan))
theorem growth_spanOf_fc (b : XBox) (k : Int) : FC P GG 104 [.agg #[I (b.Low.Age), I (b.Low.Shoots), I (b.Low.Height), I (b.Low.Girth), I (b.High.Age), I (b.High.Shoots), I (b.High.Height), I (b.High.Girth)], I (k)] [] (.agg #[I ((growth_spanOf b k).Low), I ((growth_spanOf b k).High)]) := by
  refine FC.of_fsat 16 100 Tryd.func104 (by kernel_rfl) (by kernel_rfl) (by kernel_rfl) trivial ?_
  rcases Bool.eq_false_or_eq_true (k == 1) with h1 | h1
  · skip
    have e : growth_spanOf b k = (⟨b.Low.Shoots, b.High.Shoots⟩ : XSpan) := by unfold growth_spanOf; rw [h1, cond_true]; first | done | rfl
    rw [e]
    exact FSat.done pfT (fuel := 10) (hs := (hR 4 ((growth_spanOf_i0 b k) :: (hR 4 ((growth_spanOf_i1 b k) :: (hR 4 [])))))) (ss := []) (R := [(growth_spanOf_r2 b k), (growth_spanOf_r3 k), (growth_spanOf_r4 b), growth_spanOf_r5, (growth_spanOf_r6 b k), (growth_spanOf_r7 k), (growth_spanOf_r8 b), growth_spanOf_r9]) (by kernel_rfl) ⟨growth_number_fc_1 b.Low k h1, growth_spanOf_p10 k, growth_spanOf_p11 b, .ptr 10 1 ⟨100, 0, 0, 0⟩ rfl, growth_number_fc_1 b.High k h1, growth_spanOf_p12 k, growth_spanOf_p13 b, .ptr 10 1 ⟨100, 4, 0, 0⟩ rfl, trivial⟩ (by kernel_rfl)
  · skip
    rcases Bool.eq_false_or_eq_true (k == 2) with h2 | h2
    · skip
      have e : growth_spanOf b k = (⟨b.Low.Height, b.High.Height⟩ : XSpan) := by unfold growth_spanOf; rw [h1, cond_false, h2, cond_true]; first | done | rfl
      rw [e]
      exact FSat.done pfT (fuel := 10) (hs := (hR 4 ((growth_spanOf_i14 b k) :: (hR 4 ((growth_spanOf_i15 b k) :: (hR 4 [])))))) (ss := []) (R := [(growth_spanOf_r16 b k), (growth_spanOf_r3 k), (growth_spanOf_r4 b), growth_spanOf_r17, (growth_spanOf_r18 b k), (growth_spanOf_r7 k), (growth_spanOf_r8 b), growth_spanOf_r19]) (by kernel_rfl) ⟨growth_number_fc_2 b.Low k h1 h2, growth_spanOf_p10 k, growth_spanOf_p11 b, .ptr 10 2 ⟨100, 0, 0, 0⟩ rfl, growth_number_fc_2 b.High k h1 h2, growth_spanOf_p12 k, growth_spanOf_p13 b, .ptr 10 2 ⟨100, 4, 0, 0⟩ rfl, trivial⟩ (by kernel_rfl)
    · skip
      have e : growth_spanOf b k = (⟨b.Low.Girth, b.High.Girth⟩ : XSpan) := by unfold growth_spanOf; rw [h1, cond_false, h2, cond_false]; first | done | rfl
      rw [e]
      exact FSat.done pfT (fuel := 10) (hs := (hR 4 ((growth_spanOf_i20 b k) :: (hR 4 ((growth_spanOf_i21 b k) :: (hR 4 [])))))) (ss := []) (R := [(growth_spanOf_r22 b k), (growth_spanOf_r3 k), (growth_spanOf_r4 b), growth_spanOf_r23, (growth_spanOf_r24 b k), (growth_spanOf_r7 k), (growth_spanOf_r8 b), growth_spanOf_r25]) (by kernel_rfl) ⟨growth_number_fc_3 b.Low k h1 h2, growth_spanOf_p10 k, growth_spanOf_p11 b, .ptr 10 3 ⟨100, 0, 0, 0⟩ rfl, growth_number_fc_3 b.High k h1 h2, growth_spanOf_p12 k, growth_spanOf_p13 b, .ptr 10 3 ⟨100, 4, 0, 0⟩ rfl, trivial⟩ (by kernel_rfl)

/- greenhew/growth.keep -/
noncomputable abbrev growth_keep_i0 (b : XBox) (k : Int) : Hint := (hM (.pointer (some ⟨10, 1, none⟩)) (.pointer (some ⟨100, 1, none⟩)) (A_growth_number k) (K_growth_number b.Low) [(10, 100, 0)])
noncomputable abbrev growth_keep_i1 (b : XBox) (k : Int) : Hint := (hM (.pointer (some ⟨10, 1, none⟩)) (.pointer (some ⟨100, 5, none⟩)) (A_growth_number k) (K_growth_number b.High) [(10, 100, 4)])
abbrev growth_keep_r2 (b : XBox) (k : Int) : Prop := FC P GG 100 (A_growth_number k) (K_growth_number b.Low) (.pointer (some ⟨10, 1, none⟩))
abbrev growth_keep_r3 (k : Int) : Prop := VRs (Ren.emb [(10, 100, 0)]) (A_growth_number k) [.pointer (some ⟨100, 0, none⟩), I (k)]
abbrev growth_keep_r4 (b : XBox) : Prop := MemAt (Ren.emb [(10, 100, 0)]) [I (b.Low.Age), I (b.Low.Shoots), I (b.Low.Height), I (b.Low.Girth)] 0 [I (b.Low.Age), I (b.Low.Shoots), I (b.Low.Height), I (b.Low.Girth), I (b.High.Age), I (b.High.Shoots), I (b.High.Height), I (b.High.Girth)] ∧ True
abbrev growth_keep_r5 : Prop := VR (Ren.emb [(10, 100, 0)]) (.pointer (some ⟨10, 1, none⟩)) (.pointer (some ⟨100, 1, none⟩))
abbrev growth_keep_r6 (b : XBox) (k : Int) : Prop := FC P GG 100 (A_growth_number k) (K_growth_number b.High) (.pointer (some ⟨10, 1, none⟩))
abbrev growth_keep_r7 (k : Int) : Prop := VRs (Ren.emb [(10, 100, 4)]) (A_growth_number k) [.pointer (some ⟨100, 4, none⟩), I (k)]
abbrev growth_keep_r8 (b : XBox) : Prop := MemAt (Ren.emb [(10, 100, 4)]) [I (b.High.Age), I (b.High.Shoots), I (b.High.Height), I (b.High.Girth)] 4 [I (b.Low.Age), I (b.Low.Shoots), I (b.Low.Height), I (b.Low.Girth), I (b.High.Age), I (b.High.Shoots), I (b.High.Height), I (b.High.Girth)] ∧ True
abbrev growth_keep_r9 : Prop := VR (Ren.emb [(10, 100, 4)]) (.pointer (some ⟨10, 1, none⟩)) (.pointer (some ⟨100, 5, none⟩))
abbrev growth_keep_r10 : Prop := (.pointer (some ⟨100, 5, none⟩) : Value) = .pointer (some ⟨100, 5, none⟩)
abbrev growth_keep_r11 : Prop := (.pointer (some ⟨101, 1, none⟩) : Value) = .pointer (some ⟨101, 1, none⟩)
abbrev growth_keep_r12 (b : XBox) (s : XSpan) : Prop := (I (imin b.High.Shoots s.High) : Value) = I (imin b.High.Shoots s.High)
abbrev growth_keep_r13 (b : XBox) (s : XSpan) : Prop := (decide ((imax b.Low.Shoots s.Low) > (imin b.High.Shoots s.High))) = true
theorem growth_keep_p14 (k : Int) : (growth_keep_r3 k) := (.cons _ _ _ _ (.ptr 10 0 ⟨100, 0, 0, 0⟩ rfl) (.cons _ _ _ _ (VR.of_pf rfl) .nil))
theorem growth_keep_p15 (b : XBox) : (growth_keep_r4 b) := ⟨MemAt.of (.cons _ _ _ _ (VR.of_pf rfl) (.cons _ _ _ _ (VR.of_pf rfl) (.cons _ _ _ _ (VR.of_pf rfl) (.cons _ _ _ _ (VR.of_pf rfl) .nil)))), trivial⟩
theorem growth_keep_p16 (k : Int) : (growth_keep_r7 k) := (.cons _ _ _ _ (.ptr 10 0 ⟨100, 4, 0, 0⟩ rfl) (.cons _ _ _ _ (VR.of_pf rfl) .nil))
theorem growth_keep_p17 (b : XBox) : (growth_keep_r8 b) := ⟨MemAt.of (.cons _ _ _ _ (VR.of_pf rfl) (.cons _ _ _ _ (VR.of_pf rfl) (.cons _ _ _ _ (VR.of_pf rfl) (.cons _ _ _ _ (VR.of_pf rfl) .nil)))), trivial⟩
abbrev growth_keep_r18 (b : XBox) (s : XSpan) : Prop := (decide ((imax b.Low.Shoots s.Low) > (imin b.High.Shoots s.High))) = false
noncomputable abbrev growth_keep_i19 (b : XBox) (k : Int) : Hint := (hM (.pointer (some ⟨10, 2, none⟩)) (.pointer (some ⟨100, 2, none⟩)) (A_growth_number k) (K_growth_number b.Low) [(10, 100, 0)])
noncomputable abbrev growth_keep_i20 (b : XBox) (k : Int) : Hint := (hM (.pointer (some ⟨10, 2, none⟩)) (.pointer (some ⟨100, 6, none⟩)) (A_growth_number k) (K_growth_number b.High) [(10, 100, 4)])
abbrev growth_keep_r21 (b : XBox) (k : Int) : Prop := FC P GG 100 (A_growth_number k) (K_growth_number b.Low) (.pointer (some ⟨10, 2, none⟩))
abbrev growth_keep_r22 : Prop := VR (Ren.emb [(10, 100, 0)]) (.pointer (some ⟨10, 2, none⟩)) (.pointer (some ⟨100, 2, none⟩))
abbrev growth_keep_r23 (b : XBox) (k : Int) : Prop := FC P GG 100 (A_growth_number k) (K_growth_number b.High) (.pointer (some ⟨10, 2, none⟩))
abbrev growth_keep_r24 : Prop := VR (Ren.emb [(10, 100, 4)]) (.pointer (some ⟨10, 2, none⟩)) (.pointer (some ⟨100, 6, none⟩))
abbrev growth_keep_r25 : Prop := (.pointer (some ⟨100, 6, none⟩) : Value) = .pointer (some ⟨100, 6, none⟩)
abbrev growth_keep_r26 (b : XBox) (s : XSpan) : Prop := (I (imin b.High.Height s.High) : Value) = I (imin b.High.Height s.High)
abbrev growth_keep_r27 (b : XBox) (s : XSpan) : Prop := (decide ((imax b.Low.Height s.Low) > (imin b.High.Height s.High))) = true
abbrev growth_keep_r28 (b : XBox) (s : XSpan) : Prop := (decide ((imax b.Low.Height s.Low) > (imin b.High.Height s.High))) = false
noncomputable abbrev growth_keep_i29 (b : XBox) (k : Int) : Hint := (hM (.pointer (some ⟨10, 3, none⟩)) (.pointer (some ⟨100, 3, none⟩)) (A_growth_number k) (K_growth_number b.Low) [(10, 100, 0)])
noncomputable abbrev growth_keep_i30 (b : XBox) (k : Int) : Hint := (hM (.pointer (some ⟨10, 3, none⟩)) (.pointer (some ⟨100, 7, none⟩)) (A_growth_number k) (K_growth_number b.High) [(10, 100, 4)])
abbrev growth_keep_r31 (b : XBox) (k : Int) : Prop := FC P GG 100 (A_growth_number k) (K_growth_number b.Low) (.pointer (some ⟨10, 3, none⟩))
abbrev growth_keep_r32 : Prop := VR (Ren.emb [(10, 100, 0)]) (.pointer (some ⟨10, 3, none⟩)) (.pointer (some ⟨100, 3, none⟩))
abbrev growth_keep_r33 (b : XBox) (k : Int) : Prop := FC P GG 100 (A_growth_number k) (K_growth_number b.High) (.pointer (some ⟨10, 3, none⟩))
abbrev growth_keep_r34 : Prop := VR (Ren.emb [(10, 100, 4)]) (.pointer (some ⟨10, 3, none⟩)) (.pointer (some ⟨100, 7, none⟩))
abbrev growth_keep_r35 : Prop := (.pointer (some ⟨100, 7, none⟩) : Value) = .pointer (some ⟨100, 7, none⟩)
abbrev growth_keep_r36 (b : XBox) (s : XSpan) : Prop := (I (imin b.High.Girth s.High) : Value) = I (imin b.High.Girth s.High)
abbrev growth_keep_r37 (b : XBox) (s : XSpan) : Prop := (decide ((imax b.Low.Girth s.Low) > (imin b.High.Girth s.High))) = true
abbrev growth_keep_r38 (b : XBox) (s : XSpan) : Prop := (decide ((imax b.Low.Girth s.Low) > (imin b.High.Girth s.High))) = false
abbrev A_growth_keep (b : XBox) (k : Int) (s : XSpan) : List Value := [.agg #[I (b.Low.Age), I (b.Low.Shoots), I (b.Low.Height), I (b.Low.Girth), I (b.High.Age), I (b.High.Shoots), I (b.High.Height), I (b.High.Girth)], I (k), .agg #[I (s.Low), I (s.High)]]
noncomputable def growth_keep (b : XBox) (k : Int) (s : XSpan) : XBox × Bool :=
  bif k == 1 then (bif decide ((imax b.Low.Shoots s.Low) > (imin b.High.Shoots s.High)) then ((⟨(⟨0, 0, 0, 0⟩ : XStand), (⟨0, 0, 0, 0⟩ : XStand)⟩ : XBox), false)
    else ((⟨(⟨b.Low.Age, imax b.Low.Shoots s.Low, b.Low.Height, b.Low.Girth⟩ : XStand), (⟨b.High.Age, imin b.High.Shoots s.High, b.High.Height, b.High.Girth⟩ : XStand)⟩ : XBox), true))
  else (bif k == 2 then (bif decide ((imax b.Low.Height s.Low) > (imin b.High.Height s.High)) then ((⟨(⟨0, 0, 0, 0⟩ : XStand), (⟨0, 0, 0, 0⟩ : XStand)⟩ : XBox), false)
      else ((⟨(⟨b.Low.Age, b.Low.Shoots, imax b.Low.Height s.Low, b.Low.Girth⟩ : XStand), (⟨b.High.Age, b.High.Shoots, imin b.High.Height s.High, b.High.Girth⟩ : XStand)⟩ : XBox), true))
    else (bif decide ((imax b.Low.Girth s.Low) > (imin b.High.Girth s.High)) then ((⟨(⟨0, 0, 0, 0⟩ : XStand), (⟨0, 0, 0, 0⟩ : XStand)⟩ : XBox), false)
      else ((⟨(⟨b.Low.Age, b.Low.Shoots, b.Low.Height, imax b.Low.Girth s.Low⟩ : XStand), (⟨b.High.Age, b.High.Shoots, b.High.Height, imin b.High.Girth s.High⟩ : XStand)⟩ : XBox), true)))
theorem growth_keep_fc (b : XBox) (k : Int) (s : XSpan) : FC P GG 103 [.agg #[I (b.Low.Age), I (b.Low.Shoots), I (b.Low.Height), I (b.Low.Girth), I (b.High.Age), I (b.High.Shoots), I (b.High.Height), I (b.High.Girth)], I (k), .agg #[I (s.Low), I (s.High)]] [] (.tuple #[.agg #[I ((((growth_keep b k s).1).Low).Age), I ((((growth_keep b k s).1).Low).Shoots), I ((((growth_keep b k s).1).Low).Height), I ((((growth_keep b k s).1).Low).Girth), I ((((growth_keep b k s).1).High).Age), I ((((growth_keep b k s).1).High).Shoots), I ((((growth_keep b k s).1).High).Height), I ((((growth_keep b k s).1).High).Girth)], .bool ((growth_keep b k s).2)]) := by
  refine FC.of_fsat 41 100 Tryd.func103 (by kernel_rfl) (by kernel_rfl) (by kernel_rfl) trivial ?_
  rcases Bool.eq_false_or_eq_true (k == 1) with h1 | h1
  · skip
    rcases Bool.eq_false_or_eq_true (decide ((imax b.Low.Shoots s.Low) > (imin b.High.Shoots s.High))) with h2 | h2
    · skip
      have e : growth_keep b k s = ((⟨(⟨0, 0, 0, 0⟩ : XStand), (⟨0, 0, 0, 0⟩ : XStand)⟩ : XBox), false) := by unfold growth_keep; rw [h1, cond_true, h2, cond_true]; first | done | rfl
      rw [e]
      exact FSat.done pfT (fuel := 18) (hs := (hR 6 ((growth_keep_i0 b k) :: hE :: hE :: (growth_keep_i1 b k) :: (hR 26 [hT, hE, hE, hE])))) (ss := []) (R := [(growth_keep_r2 b k), (growth_keep_r3 k), (growth_keep_r4 b), growth_keep_r5, (growth_keep_r6 b k), (growth_keep_r7 k), (growth_keep_r8 b), growth_keep_r9, growth_keep_r10, growth_keep_r11, (I (s.High) : Value) = I (s.High), (growth_keep_r12 b s), (growth_keep_r13 b s)]) (by kernel_rfl) ⟨growth_number_fc_1 b.Low k h1, growth_keep_p14 k, growth_keep_p15 b, .ptr 10 1 ⟨100, 0, 0, 0⟩ rfl, growth_number_fc_1 b.High k h1, growth_keep_p16 k, growth_keep_p17 b, .ptr 10 1 ⟨100, 4, 0, 0⟩ rfl, rfl, rfl, rfl, rfl, h2, trivial⟩ (by kernel_rfl)
    · skip
      have e : growth_keep b k s = ((⟨(⟨b.Low.Age, imax b.Low.Shoots s.Low, b.Low.Height, b.Low.Girth⟩ : XStand), (⟨b.High.Age, imin b.High.Shoots s.High, b.High.Height, b.High.Girth⟩ : XStand)⟩ : XBox), true) := by unfold growth_keep; rw [h1, cond_true, h2, cond_false]; first | done | rfl
      rw [e]
      exact FSat.done pfT (fuel := 19) (hs := (hR 6 ((growth_keep_i0 b k) :: hE :: hE :: (growth_keep_i1 b k) :: (hR 26 [hF, hE, hE, hE])))) (ss := []) (R := [(growth_keep_r2 b k), (growth_keep_r3 k), (growth_keep_r4 b), growth_keep_r5, (growth_keep_r6 b k), (growth_keep_r7 k), (growth_keep_r8 b), growth_keep_r9, growth_keep_r10, growth_keep_r11, (I (s.High) : Value) = I (s.High), (growth_keep_r12 b s), (growth_keep_r18 b s)]) (by kernel_rfl) ⟨growth_number_fc_1 b.Low k h1, growth_keep_p14 k, growth_keep_p15 b, .ptr 10 1 ⟨100, 0, 0, 0⟩ rfl, growth_number_fc_1 b.High k h1, growth_keep_p16 k, growth_keep_p17 b, .ptr 10 1 ⟨100, 4, 0, 0⟩ rfl, rfl, rfl, rfl, rfl, h2, trivial⟩ (by kernel_rfl)
  · skip
    rcases Bool.eq_false_or_eq_true (k == 2) with h2 | h2
    · skip
      rcases Bool.eq_false_or_eq_true (decide ((imax b.Low.Height s.Low) > (imin b.High.Height s.High))) with h3 | h3
      · skip
        have e : growth_keep b k s = ((⟨(⟨0, 0, 0, 0⟩ : XStand), (⟨0, 0, 0, 0⟩ : XStand)⟩ : XBox), false) := by unfold growth_keep; rw [h1, cond_false, h2, cond_true, h3, cond_true]; first | done | rfl
        rw [e]
        exact FSat.done pfT (fuel := 18) (hs := (hR 6 ((growth_keep_i19 b k) :: hE :: hE :: (growth_keep_i20 b k) :: (hR 26 [hT, hE, hE, hE])))) (ss := []) (R := [(growth_keep_r21 b k), (growth_keep_r3 k), (growth_keep_r4 b), growth_keep_r22, (growth_keep_r23 b k), (growth_keep_r7 k), (growth_keep_r8 b), growth_keep_r24, growth_keep_r25, growth_keep_r11, (I (s.High) : Value) = I (s.High), (growth_keep_r26 b s), (growth_keep_r27 b s)]) (by kernel_rfl) ⟨growth_number_fc_2 b.Low k h1 h2, growth_keep_p14 k, growth_keep_p15 b, .ptr 10 2 ⟨100, 0, 0, 0⟩ rfl, growth_number_fc_2 b.High k h1 h2, growth_keep_p16 k, growth_keep_p17 b, .ptr 10 2 ⟨100, 4, 0, 0⟩ rfl, rfl, rfl, rfl, rfl, h3, trivial⟩ (by kernel_rfl)
      · skip
        have e : growth_keep b k s = ((⟨(⟨b.Low.Age, b.Low.Shoots, imax b.Low.Height s.Low, b.Low.Girth⟩ : XStand), (⟨b.High.Age, b.High.Shoots, imin b.High.Height s.High, b.High.Girth⟩ : XStand)⟩ : XBox), true) := by unfold growth_keep; rw [h1, cond_false, h2, cond_true, h3, cond_false]; first | done | rfl
        rw [e]
        exact FSat.done pfT (fuel := 19) (hs := (hR 6 ((growth_keep_i19 b k) :: hE :: hE :: (growth_keep_i20 b k) :: (hR 26 [hF, hE, hE, hE])))) (ss := []) (R := [(growth_keep_r21 b k), (growth_keep_r3 k), (growth_keep_r4 b), growth_keep_r22, (growth_keep_r23 b k), (growth_keep_r7 k), (growth_keep_r8 b), growth_keep_r24, growth_keep_r25, growth_keep_r11, (I (s.High) : Value) = I (s.High), (growth_keep_r26 b s), (growth_keep_r28 b s)]) (by kernel_rfl) ⟨growth_number_fc_2 b.Low k h1 h2, growth_keep_p14 k, growth_keep_p15 b, .ptr 10 2 ⟨100, 0, 0, 0⟩ rfl, growth_number_fc_2 b.High k h1 h2, growth_keep_p16 k, growth_keep_p17 b, .ptr 10 2 ⟨100, 4, 0, 0⟩ rfl, rfl, rfl, rfl, rfl, h3, trivial⟩ (by kernel_rfl)
    · skip
      rcases Bool.eq_false_or_eq_true (decide ((imax b.Low.Girth s.Low) > (imin b.High.Girth s.High))) with h3 | h3
      · skip
        have e : growth_keep b k s = ((⟨(⟨0, 0, 0, 0⟩ : XStand), (⟨0, 0, 0, 0⟩ : XStand)⟩ : XBox), false) := by unfold growth_keep; rw [h1, cond_false, h2, cond_false, h3, cond_true]; first | done | rfl
        rw [e]
        exact FSat.done pfT (fuel := 18) (hs := (hR 6 ((growth_keep_i29 b k) :: hE :: hE :: (growth_keep_i30 b k) :: (hR 26 [hT, hE, hE, hE])))) (ss := []) (R := [(growth_keep_r31 b k), (growth_keep_r3 k), (growth_keep_r4 b), growth_keep_r32, (growth_keep_r33 b k), (growth_keep_r7 k), (growth_keep_r8 b), growth_keep_r34, growth_keep_r35, growth_keep_r11, (I (s.High) : Value) = I (s.High), (growth_keep_r36 b s), (growth_keep_r37 b s)]) (by kernel_rfl) ⟨growth_number_fc_3 b.Low k h1 h2, growth_keep_p14 k, growth_keep_p15 b, .ptr 10 3 ⟨100, 0, 0, 0⟩ rfl, growth_number_fc_3 b.High k h1 h2, growth_keep_p16 k, growth_keep_p17 b, .ptr 10 3 ⟨100, 4, 0, 0⟩ rfl, rfl, rfl, rfl, rfl, h3, trivial⟩ (by kernel_rfl)
      · skip
        have e : growth_keep b k s = ((⟨(⟨b.Low.Age, b.Low.Shoots, b.Low.Height, imax b.Low.Girth s.Low⟩ : XStand), (⟨b.High.Age, b.High.Shoots, b.High.Height, imin b.High.Girth s.High⟩ : XStand)⟩ : XBox), true) := by unfold growth_keep; rw [h1, cond_false, h2, cond_false, h3, cond_false]; first | done | rfl
        rw [e]
        exact FSat.done pfT (fuel := 19) (hs := (hR 6 ((growth_keep_i29 b k) :: hE :: hE :: (growth_keep_i30 b k) :: (hR 26 [hF, hE, hE, hE])))) (ss := []) (R := [(growth_keep_r31 b k), (growth_keep_r3 k), (growth_keep_r4 b), growth_keep_r32, (growth_keep_r33 b k), (growth_keep_r7 k), (growth_keep_r8 b), growth_keep_r34, growth_keep_r35, growth_keep_r11, (I (s.High) : Value) = I (s.High), (growth_keep_r36 b s), (growth_keep_r38 b s)]) (by kernel_rfl) ⟨growth_number_fc_3 b.Low k h1 h2, growth_keep_p14 k, growth_keep_p15 b, .ptr 10 3 ⟨100, 0, 0, 0⟩ rfl, growth_number_fc_3 b.High k h1 h2, growth_keep_p16 k, growth_keep_p17 b, .ptr 10 3 ⟨100, 4, 0, 0⟩ rfl, rfl, rfl, rfl, rfl, h3, trivial⟩ (by kernel_rfl)

/- greenhew/growth.common -/
noncomputable abbrev growth_common_i0 (b : XBox) : Hint := (hC (.agg #[I ((growth_spanOf b 1).Low), I ((growth_spanOf b 1).High)]))
noncomputable abbrev growth_common_i1 (a : XBox) (b : XBox) : Hint := (hC (.tuple #[.agg #[I ((((growth_keep a 1 (growth_spanOf b 1)).1).Low).Age), I ((((growth_keep a 1 (growth_spanOf b 1)).1).Low).Shoots), I ((((growth_keep a 1 (growth_spanOf b 1)).1).Low).Height), I ((((growth_keep a 1 (growth_spanOf b 1)).1).Low).Girth), I ((((growth_keep a 1 (growth_spanOf b 1)).1).High).Age), I ((((growth_keep a 1 (growth_spanOf b 1)).1).High).Shoots), I ((((growth_keep a 1 (growth_spanOf b 1)).1).High).Height), I ((((growth_keep a 1 (growth_spanOf b 1)).1).High).Girth)], .bool ((growth_keep a 1 (growth_spanOf b 1)).2)]))
noncomputable abbrev growth_common_i2 (b : XBox) : Hint := (hC (.agg #[I ((growth_spanOf b 2).Low), I ((growth_spanOf b 2).High)]))
noncomputable abbrev growth_common_i3 (a : XBox) (b : XBox) : Hint := (hC (.tuple #[.agg #[I ((((growth_keep (⟨(((growth_keep a 1 (growth_spanOf b 1)).1).Low), (((growth_keep a 1 (growth_spanOf b 1)).1).High)⟩ : XBox) 2 (growth_spanOf b 2)).1).Low).Age), I ((((growth_keep (⟨(((growth_keep a 1 (growth_spanOf b 1)).1).Low), (((growth_keep a 1 (growth_spanOf b 1)).1).High)⟩ : XBox) 2 (growth_spanOf b 2)).1).Low).Shoots), I ((((growth_keep (⟨(((growth_keep a 1 (growth_spanOf b 1)).1).Low), (((growth_keep a 1 (growth_spanOf b 1)).1).High)⟩ : XBox) 2 (growth_spanOf b 2)).1).Low).Height), I ((((growth_keep (⟨(((growth_keep a 1 (growth_spanOf b 1)).1).Low), (((growth_keep a 1 (growth_spanOf b 1)).1).High)⟩ : XBox) 2 (growth_spanOf b 2)).1).Low).Girth), I ((((growth_keep (⟨(((growth_keep a 1 (growth_spanOf b 1)).1).Low), (((growth_keep a 1 (growth_spanOf b 1)).1).High)⟩ : XBox) 2 (growth_spanOf b 2)).1).High).Age), I ((((growth_keep (⟨(((growth_keep a 1 (growth_spanOf b 1)).1).Low), (((growth_keep a 1 (growth_spanOf b 1)).1).High)⟩ : XBox) 2 (growth_spanOf b 2)).1).High).Shoots), I ((((growth_keep (⟨(((growth_keep a 1 (growth_spanOf b 1)).1).Low), (((growth_keep a 1 (growth_spanOf b 1)).1).High)⟩ : XBox) 2 (growth_spanOf b 2)).1).High).Height), I ((((growth_keep (⟨(((growth_keep a 1 (growth_spanOf b 1)).1).Low), (((growth_keep a 1 (growth_spanOf b 1)).1).High)⟩ : XBox) 2 (growth_spanOf b 2)).1).High).Girth)], .bool ((growth_keep (⟨(((growth_keep a 1 (growth_spanOf b 1)).1).Low), (((growth_keep a 1 (growth_spanOf b 1)).1).High)⟩ : XBox) 2 (growth_spanOf b 2)).2)]))
noncomputable abbrev growth_common_i4 (b : XBox) : Hint := (hC (.agg #[I ((growth_spanOf b 3).Low), I ((growth_spanOf b 3).High)]))
noncomputable abbrev growth_common_i5 (a : XBox) (b : XBox) : Hint := (hC (.tuple #[.agg #[I ((((growth_keep (⟨(((growth_keep (⟨(((growth_keep a 1 (growth_spanOf b 1)).1).Low), (((growth_keep a 1 (growth_spanOf b 1)).1).High)⟩ : XBox) 2 (growth_spanOf b 2)).1).Low), (((growth_keep (⟨(((growth_keep a 1 (growth_spanOf b 1)).1).Low), (((growth_keep a 1 (growth_spanOf b 1)).1).High)⟩ : XBox) 2 (growth_spanOf b 2)).1).High)⟩ : XBox) 3 (growth_spanOf b 3)).1).Low).Age), I ((((growth_keep (⟨(((growth_keep (⟨(((growth_keep a 1 (growth_spanOf b 1)).1).Low), (((growth_keep a 1 (growth_spanOf b 1)).1).High)⟩ : XBox) 2 (growth_spanOf b 2)).1).Low), (((growth_keep (⟨(((growth_keep a 1 (growth_spanOf b 1)).1).Low), (((growth_keep a 1 (growth_spanOf b 1)).1).High)⟩ : XBox) 2 (growth_spanOf b 2)).1).High)⟩ : XBox) 3 (growth_spanOf b 3)).1).Low).Shoots), I ((((growth_keep (⟨(((growth_keep (⟨(((growth_keep a 1 (growth_spanOf b 1)).1).Low), (((growth_keep a 1 (growth_spanOf b 1)).1).High)⟩ : XBox) 2 (growth_spanOf b 2)).1).Low), (((growth_keep (⟨(((growth_keep a 1 (growth_spanOf b 1)).1).Low), (((growth_keep a 1 (growth_spanOf b 1)).1).High)⟩ : XBox) 2 (growth_spanOf b 2)).1).High)⟩ : XBox) 3 (growth_spanOf b 3)).1).Low).Height), I ((((growth_keep (⟨(((growth_keep (⟨(((growth_keep a 1 (growth_spanOf b 1)).1).Low), (((growth_keep a 1 (growth_spanOf b 1)).1).High)⟩ : XBox) 2 (growth_spanOf b 2)).1).Low), (((growth_keep (⟨(((growth_keep a 1 (growth_spanOf b 1)).1).Low), (((growth_keep a 1 (growth_spanOf b 1)).1).High)⟩ : XBox) 2 (growth_spanOf b 2)).1).High)⟩ : XBox) 3 (growth_spanOf b 3)).1).Low).Girth), I ((((growth_keep (⟨(((growth_keep (⟨(((growth_keep a 1 (growth_spanOf b 1)).1).Low), (((growth_keep a 1 (growth_spanOf b 1)).1).High)⟩ : XBox) 2 (growth_spanOf b 2)).1).Low), (((growth_keep (⟨(((growth_keep a 1 (growth_spanOf b 1)).1).Low), (((growth_keep a 1 (growth_spanOf b 1)).1).High)⟩ : XBox) 2 (growth_spanOf b 2)).1).High)⟩ : XBox) 3 (growth_spanOf b 3)).1).High).Age), I ((((growth_keep (⟨(((growth_keep (⟨(((growth_keep a 1 (growth_spanOf b 1)).1).Low), (((growth_keep a 1 (growth_spanOf b 1)).1).High)⟩ : XBox) 2 (growth_spanOf b 2)).1).Low), (((growth_keep (⟨(((growth_keep a 1 (growth_spanOf b 1)).1).Low), (((growth_keep a 1 (growth_spanOf b 1)).1).High)⟩ : XBox) 2 (growth_spanOf b 2)).1).High)⟩ : XBox) 3 (growth_spanOf b 3)).1).High).Shoots), I ((((growth_keep (⟨(((growth_keep (⟨(((growth_keep a 1 (growth_spanOf b 1)).1).Low), (((growth_keep a 1 (growth_spanOf b 1)).1).High)⟩ : XBox) 2 (growth_spanOf b 2)).1).Low), (((growth_keep (⟨(((growth_keep a 1 (growth_spanOf b 1)).1).Low), (((growth_keep a 1 (growth_spanOf b 1)).1).High)⟩ : XBox) 2 (growth_spanOf b 2)).1).High)⟩ : XBox) 3 (growth_spanOf b 3)).1).High).Height), I ((((growth_keep (⟨(((growth_keep (⟨(((growth_keep a 1 (growth_spanOf b 1)).1).Low), (((growth_keep a 1 (growth_spanOf b 1)).1).High)⟩ : XBox) 2 (growth_spanOf b 2)).1).Low), (((growth_keep (⟨(((growth_keep a 1 (growth_spanOf b 1)).1).Low), (((growth_keep a 1 (growth_spanOf b 1)).1).High)⟩ : XBox) 2 (growth_spanOf b 2)).1).High)⟩ : XBox) 3 (growth_spanOf b 3)).1).High).Girth)], .bool ((growth_keep (⟨(((growth_keep (⟨(((growth_keep a 1 (growth_spanOf b 1)).1).Low), (((growth_keep a 1 (growth_spanOf b 1)).1).High)⟩ : XBox) 2 (growth_spanOf b 2)).1).Low), (((growth_keep (⟨(((growth_keep a 1 (growth_spanOf b 1)).1).Low), (((growth_keep a 1 (growth_spanOf b 1)).1).High)⟩ : XBox) 2 (growth_spanOf b 2)).1).High)⟩ : XBox) 3 (growth_spanOf b 3)).2)]))
abbrev growth_common_r6 (b : XBox) : Prop := FC P GG 104 (A_growth_spanOf b 1) [] (.agg #[I ((growth_spanOf b 1).Low), I ((growth_spanOf b 1).High)])
abbrev growth_common_r7 (a : XBox) (b : XBox) : Prop := FC P GG 103 (A_growth_keep a 1 (growth_spanOf b 1)) [] (.tuple #[.agg #[I ((((growth_keep a 1 (growth_spanOf b 1)).1).Low).Age), I ((((growth_keep a 1 (growth_spanOf b 1)).1).Low).Shoots), I ((((growth_keep a 1 (growth_spanOf b 1)).1).Low).Height), I ((((growth_keep a 1 (growth_spanOf b 1)).1).Low).Girth), I ((((growth_keep a 1 (growth_spanOf b 1)).1).High).Age), I ((((growth_keep a 1 (growth_spanOf b 1)).1).High).Shoots), I ((((growth_keep a 1 (growth_spanOf b 1)).1).High).Height), I ((((growth_keep a 1 (growth_spanOf b 1)).1).High).Girth)], .bool ((growth_keep a 1 (growth_spanOf b 1)).2)])
abbrev growth_common_r8 (b : XBox) : Prop := FC P GG 104 (A_growth_spanOf b 2) [] (.agg #[I ((growth_spanOf b 2).Low), I ((growth_spanOf b 2).High)])
abbrev growth_common_r9 (a : XBox) (b : XBox) : Prop := FC P GG 103 (A_growth_keep (⟨(((growth_keep a 1 (growth_spanOf b 1)).1).Low), (((growth_keep a 1 (growth_spanOf b 1)).1).High)⟩ : XBox) 2 (growth_spanOf b 2)) [] (.tuple #[.agg #[I ((((growth_keep (⟨(((growth_keep a 1 (growth_spanOf b 1)).1).Low), (((growth_keep a 1 (growth_spanOf b 1)).1).High)⟩ : XBox) 2 (growth_spanOf b 2)).1).Low).Age), I ((((growth_keep (⟨(((growth_keep a 1 (growth_spanOf b 1)).1).Low), (((growth_keep a 1 (growth_spanOf b 1)).1).High)⟩ : XBox) 2 (growth_spanOf b 2)).1).Low).Shoots), I ((((growth_keep (⟨(((growth_keep a 1 (growth_spanOf b 1)).1).Low), (((growth_keep a 1 (growth_spanOf b 1)).1).High)⟩ : XBox) 2 (growth_spanOf b 2)).1).Low).Height), I ((((growth_keep (⟨(((growth_keep a 1 (growth_spanOf b 1)).1).Low), (((growth_keep a 1 (growth_spanOf b 1)).1).High)⟩ : XBox) 2 (growth_spanOf b 2)).1).Low).Girth), I ((((growth_keep (⟨(((growth_keep a 1 (growth_spanOf b 1)).1).Low), (((growth_keep a 1 (growth_spanOf b 1)).1).High)⟩ : XBox) 2 (growth_spanOf b 2)).1).High).Age), I ((((growth_keep (⟨(((growth_keep a 1 (growth_spanOf b 1)).1).Low), (((growth_keep a 1 (growth_spanOf b 1)).1).High)⟩ : XBox) 2 (growth_spanOf b 2)).1).High).Shoots), I ((((growth_keep (⟨(((growth_keep a 1 (growth_spanOf b 1)).1).Low), (((growth_keep a 1 (growth_spanOf b 1)).1).High)⟩ : XBox) 2 (growth_spanOf b 2)).1).High).Height), I ((((growth_keep (⟨(((growth_keep a 1 (growth_spanOf b 1)).1).Low), (((growth_keep a 1 (growth_spanOf b 1)).1).High)⟩ : XBox) 2 (growth_spanOf b 2)).1).High).Girth)], .bool ((growth_keep (⟨(((growth_keep a 1 (growth_spanOf b 1)).1).Low), (((growth_keep a 1 (growth_spanOf b 1)).1).High)⟩ : XBox) 2 (growth_spanOf b 2)).2)])
abbrev growth_common_r10 (a : XBox) (b : XBox) : Prop := ((growth_keep (⟨(((growth_keep a 1 (growth_spanOf b 1)).1).Low), (((growth_keep a 1 (growth_spanOf b 1)).1).High)⟩ : XBox) 2 (growth_spanOf b 2)).2) = true
abbrev growth_common_r11 (b : XBox) : Prop := FC P GG 104 (A_growth_spanOf b 3) [] (.agg #[I ((growth_spanOf b 3).Low), I ((growth_spanOf b 3).High)])
abbrev growth_common_r12 (a : XBox) (b : XBox) : Prop := FC P GG 103 (A_growth_keep (⟨(((growth_keep (⟨(((growth_keep a 1 (growth_spanOf b 1)).1).Low), (((growth_keep a 1 (growth_spanOf b 1)).1).High)⟩ : XBox) 2 (growth_spanOf b 2)).1).Low), (((growth_keep (⟨(((growth_keep a 1 (growth_spanOf b 1)).1).Low), (((growth_keep a 1 (growth_spanOf b 1)).1).High)⟩ : XBox) 2 (growth_spanOf b 2)).1).High)⟩ : XBox) 3 (growth_spanOf b 3)) [] (.tuple #[.agg #[I ((((growth_keep (⟨(((growth_keep (⟨(((growth_keep a 1 (growth_spanOf b 1)).1).Low), (((growth_keep a 1 (growth_spanOf b 1)).1).High)⟩ : XBox) 2 (growth_spanOf b 2)).1).Low), (((growth_keep (⟨(((growth_keep a 1 (growth_spanOf b 1)).1).Low), (((growth_keep a 1 (growth_spanOf b 1)).1).High)⟩ : XBox) 2 (growth_spanOf b 2)).1).High)⟩ : XBox) 3 (growth_spanOf b 3)).1).Low).Age), I ((((growth_keep (⟨(((growth_keep (⟨(((growth_keep a 1 (growth_spanOf b 1)).1).Low), (((growth_keep a 1 (growth_spanOf b 1)).1).High)⟩ : XBox) 2 (growth_spanOf b 2)).1).Low), (((growth_keep (⟨(((growth_keep a 1 (growth_spanOf b 1)).1).Low), (((growth_keep a 1 (growth_spanOf b 1)).1).High)⟩ : XBox) 2 (growth_spanOf b 2)).1).High)⟩ : XBox) 3 (growth_spanOf b 3)).1).Low).Shoots), I ((((growth_keep (⟨(((growth_keep (⟨(((growth_keep a 1 (growth_spanOf b 1)).1).Low), (((growth_keep a 1 (growth_spanOf b 1)).1).High)⟩ : XBox) 2 (growth_spanOf b 2)).1).Low), (((growth_keep (⟨(((growth_keep a 1 (growth_spanOf b 1)).1).Low), (((growth_keep a 1 (growth_spanOf b 1)).1).High)⟩ : XBox) 2 (growth_spanOf b 2)).1).High)⟩ : XBox) 3 (growth_spanOf b 3)).1).Low).Height), I ((((growth_keep (⟨(((growth_keep (⟨(((growth_keep a 1 (growth_spanOf b 1)).1).Low), (((growth_keep a 1 (growth_spanOf b 1)).1).High)⟩ : XBox) 2 (growth_spanOf b 2)).1).Low), (((growth_keep (⟨(((growth_keep a 1 (growth_spanOf b 1)).1).Low), (((growth_keep a 1 (growth_spanOf b 1)).1).High)⟩ : XBox) 2 (growth_spanOf b 2)).1).High)⟩ : XBox) 3 (growth_spanOf b 3)).1).Low).Girth), I ((((growth_keep (⟨(((growth_keep (⟨(((growth_keep a 1 (growth_spanOf b 1)).1).Low), (((growth_keep a 1 (growth_spanOf b 1)).1).High)⟩ : XBox) 2 (growth_spanOf b 2)).1).Low), (((growth_keep (⟨(((growth_keep a 1 (growth_spanOf b 1)).1).Low), (((growth_keep a 1 (growth_spanOf b 1)).1).High)⟩ : XBox) 2 (growth_spanOf b 2)).1).High)⟩ : XBox) 3 (growth_spanOf b 3)).1).High).Age), I ((((growth_keep (⟨(((growth_keep (⟨(((growth_keep a 1 (growth_spanOf b 1)).1).Low), (((growth_keep a 1 (growth_spanOf b 1)).1).High)⟩ : XBox) 2 (growth_spanOf b 2)).1).Low), (((growth_keep (⟨(((growth_keep a 1 (growth_spanOf b 1)).1).Low), (((growth_keep a 1 (growth_spanOf b 1)).1).High)⟩ : XBox) 2 (growth_spanOf b 2)).1).High)⟩ : XBox) 3 (growth_spanOf b 3)).1).High).Shoots), I ((((growth_keep (⟨(((growth_keep (⟨(((growth_keep a 1 (growth_spanOf b 1)).1).Low), (((growth_keep a 1 (growth_spanOf b 1)).1).High)⟩ : XBox) 2 (growth_spanOf b 2)).1).Low), (((growth_keep (⟨(((growth_keep a 1 (growth_spanOf b 1)).1).Low), (((growth_keep a 1 (growth_spanOf b 1)).1).High)⟩ : XBox) 2 (growth_spanOf b 2)).1).High)⟩ : XBox) 3 (growth_spanOf b 3)).1).High).Height), I ((((growth_keep (⟨(((growth_keep (⟨(((growth_keep a 1 (growth_spanOf b 1)).1).Low), (((growth_keep a 1 (growth_spanOf b 1)).1).High)⟩ : XBox) 2 (growth_spanOf b 2)).1).Low), (((growth_keep (⟨(((growth_keep a 1 (growth_spanOf b 1)).1).Low), (((growth_keep a 1 (growth_spanOf b 1)).1).High)⟩ : XBox) 2 (growth_spanOf b 2)).1).High)⟩ : XBox) 3 (growth_spanOf b 3)).1).High).Girth)], .bool ((growth_keep (⟨(((growth_keep (⟨(((growth_keep a 1 (growth_spanOf b 1)).1).Low), (((growth_keep a 1 (growth_spanOf b 1)).1).High)⟩ : XBox) 2 (growth_spanOf b 2)).1).Low), (((growth_keep (⟨(((growth_keep a 1 (growth_spanOf b 1)).1).Low), (((growth_keep a 1 (growth_spanOf b 1)).1).High)⟩ : XBox) 2 (growth_spanOf b 2)).1).High)⟩ : XBox) 3 (growth_spanOf b 3)).2)])
abbrev growth_common_r13 (a : XBox) (b : XBox) : Prop := ((growth_keep (⟨(((growth_keep (⟨(((growth_keep a 1 (growth_spanOf b 1)).1).Low), (((growth_keep a 1 (growth_spanOf b 1)).1).High)⟩ : XBox) 2 (growth_spanOf b 2)).1).Low), (((growth_keep (⟨(((growth_keep a 1 (growth_spanOf b 1)).1).Low), (((growth_keep a 1 (growth_spanOf b 1)).1).High)⟩ : XBox) 2 (growth_spanOf b 2)).1).High)⟩ : XBox) 3 (growth_spanOf b 3)).2) = true
theorem growth_common_p14 (a : XBox) (b : XBox) : (growth_common_r9 a b) := growth_keep_fc (⟨(((growth_keep a 1 (growth_spanOf b 1)).1).Low), (((growth_keep a 1 (growth_spanOf b 1)).1).High)⟩ : XBox) 2 (growth_spanOf b 2)
theorem growth_common_p15 (a : XBox) (b : XBox) : (growth_common_r12 a b) := growth_keep_fc (⟨(((growth_keep (⟨(((growth_keep a 1 (growth_spanOf b 1)).1).Low), (((growth_keep a 1 (growth_spanOf b 1)).1).High)⟩ : XBox) 2 (growth_spanOf b 2)).1).Low), (((growth_keep (⟨(((growth_keep a 1 (growth_spanOf b 1)).1).Low), (((growth_keep a 1 (growth_spanOf b 1)).1).High)⟩ : XBox) 2 (growth_spanOf b 2)).1).High)⟩ : XBox) 3 (growth_spanOf b 3)
abbrev growth_common_r16 (a : XBox) (b : XBox) : Prop := ((growth_keep (⟨(((growth_keep (⟨(((growth_keep a 1 (growth_spanOf b 1)).1).Low), (((growth_keep a 1 (growth_spanOf b 1)).1).High)⟩ : XBox) 2 (growth_spanOf b 2)).1).Low), (((growth_keep (⟨(((growth_keep a 1 (growth_spanOf b 1)).1).Low), (((growth_keep a 1 (growth_spanOf b 1)).1).High)⟩ : XBox) 2 (growth_spanOf b 2)).1).High)⟩ : XBox) 3 (growth_spanOf b 3)).2) = false
abbrev growth_common_r17 (a : XBox) (b : XBox) : Prop := ((growth_keep (⟨(((growth_keep a 1 (growth_spanOf b 1)).1).Low), (((growth_keep a 1 (growth_spanOf b 1)).1).High)⟩ : XBox) 2 (growth_spanOf b 2)).2) = false
abbrev A_growth_common (a : XBox) (b : XBox) : List Value := [.agg #[I (a.Low.Age), I (a.Low.Shoots), I (a.Low.Height), I (a.Low.Girth), I (a.High.Age), I (a.High.Shoots), I (a.High.Height), I (a.High.Girth)], .agg #[I (b.Low.Age), I (b.Low.Shoots), I (b.Low.Height), I (b.Low.Girth), I (b.High.Age), I (b.High.Shoots), I (b.High.Height), I (b.High.Girth)]]
noncomputable def growth_common (a : XBox) (b : XBox) : XBox × Bool :=
  bif a.Low.Age == b.Low.Age then (bif (growth_keep a 1 (growth_spanOf b 1)).2 then (bif (growth_keep (⟨(((growth_keep a 1 (growth_spanOf b 1)).1).Low), (((growth_keep a 1 (growth_spanOf b 1)).1).High)⟩ : XBox) 2 (growth_spanOf b 2)).2 then (bif (growth_keep (⟨(((growth_keep (⟨(((growth_keep a 1 (growth_spanOf b 1)).1).Low), (((growth_keep a 1 (growth_spanOf b 1)).1).High)⟩ : XBox) 2 (growth_spanOf b 2)).1).Low), (((growth_keep (⟨(((growth_keep a 1 (growth_spanOf b 1)).1).Low), (((growth_keep a 1 (growth_spanOf b 1)).1).High)⟩ : XBox) 2 (growth_spanOf b 2)).1).High)⟩ : XBox) 3 (growth_spanOf b 3)).2 then ((⟨(((growth_keep (⟨(((growth_keep (⟨(((growth_keep a 1 (growth_spanOf b 1)).1).Low), (((growth_keep a 1 (growth_spanOf b 1)).1).High)⟩ : XBox) 2 (growth_spanOf b 2)).1).Low), (((growth_keep (⟨(((growth_keep a 1 (growth_spanOf b 1)).1).Low), (((growth_keep a 1 (growth_spanOf b 1)).1).High)⟩ : XBox) 2 (growth_spanOf b 2)).1).High)⟩ : XBox) 3 (growth_spanOf b 3)).1).Low), (((growth_keep (⟨(((growth_keep (⟨(((growth_keep a 1 (growth_spanOf b 1)).1).Low), (((growth_keep a 1 (growth_spanOf b 1)).1).High)⟩ : XBox) 2 (growth_spanOf b 2)).1).Low), (((growth_keep (⟨(((growth_keep a 1 (growth_spanOf b 1)).1).Low), (((growth_keep a 1 (growth_spanOf b 1)).1).High)⟩ : XBox) 2 (growth_spanOf b 2)).1).High)⟩ : XBox) 3 (growth_spanOf b 3)).1).High)⟩ : XBox), true)
        else ((⟨(((growth_keep (⟨(((growth_keep (⟨(((growth_keep a 1 (growth_spanOf b 1)).1).Low), (((growth_keep a 1 (growth_spanOf b 1)).1).High)⟩ : XBox) 2 (growth_spanOf b 2)).1).Low), (((growth_keep (⟨(((growth_keep a 1 (growth_spanOf b 1)).1).Low), (((growth_keep a 1 (growth_spanOf b 1)).1).High)⟩ : XBox) 2 (growth_spanOf b 2)).1).High)⟩ : XBox) 3 (growth_spanOf b 3)).1).Low), (((growth_keep (⟨(((growth_keep (⟨(((growth_keep a 1 (growth_spanOf b 1)).1).Low), (((growth_keep a 1 (growth_spanOf b 1)).1).High)⟩ : XBox) 2 (growth_spanOf b 2)).1).Low), (((growth_keep (⟨(((growth_keep a 1 (growth_spanOf b 1)).1).Low), (((growth_keep a 1 (growth_spanOf b 1)).1).High)⟩ : XBox) 2 (growth_spanOf b 2)).1).High)⟩ : XBox) 3 (growth_spanOf b 3)).1).High)⟩ : XBox), false))
      else ((⟨(⟨0, 0, 0, 0⟩ : XStand), (⟨0, 0, 0, 0⟩ : XStand)⟩ : XBox), false))
    else ((⟨(⟨0, 0, 0, 0⟩ : XStand), (⟨0, 0, 0, 0⟩ : XStand)⟩ : XBox), false))
  else ((⟨(⟨0, 0, 0, 0⟩ : XStand), (⟨0, 0, 0, 0⟩ : XStand)⟩ : XBox), false)
theorem growth_common_fc (a : XBox) (b : XBox) : FC P GG 69 [.agg #[I (a.Low.Age), I (a.Low.Shoots), I (a.Low.Height), I (a.Low.Girth), I (a.High.Age), I (a.High.Shoots), I (a.High.Height), I (a.High.Girth)], .agg #[I (b.Low.Age), I (b.Low.Shoots), I (b.Low.Height), I (b.Low.Girth), I (b.High.Age), I (b.High.Shoots), I (b.High.Height), I (b.High.Girth)]] [] (.tuple #[.agg #[I ((((growth_common a b).1).Low).Age), I ((((growth_common a b).1).Low).Shoots), I ((((growth_common a b).1).Low).Height), I ((((growth_common a b).1).Low).Girth), I ((((growth_common a b).1).High).Age), I ((((growth_common a b).1).High).Shoots), I ((((growth_common a b).1).High).Height), I ((((growth_common a b).1).High).Girth)], .bool ((growth_common a b).2)]) := by
  refine FC.of_fsat 35 100 Tryd.func69 (by kernel_rfl) (by kernel_rfl) (by kernel_rfl) trivial ?_
  rcases Bool.eq_false_or_eq_true (a.Low.Age == b.Low.Age) with h1 | h1
  · skip
    rcases Bool.eq_false_or_eq_true ((growth_keep a 1 (growth_spanOf b 1)).2) with h2 | h2
    · skip
      rcases Bool.eq_false_or_eq_true ((growth_keep (⟨(((growth_keep a 1 (growth_spanOf b 1)).1).Low), (((growth_keep a 1 (growth_spanOf b 1)).1).High)⟩ : XBox) 2 (growth_spanOf b 2)).2) with h3 | h3
      · skip
        rcases Bool.eq_false_or_eq_true ((growth_keep (⟨(((growth_keep (⟨(((growth_keep a 1 (growth_spanOf b 1)).1).Low), (((growth_keep a 1 (growth_spanOf b 1)).1).High)⟩ : XBox) 2 (growth_spanOf b 2)).1).Low), (((growth_keep (⟨(((growth_keep a 1 (growth_spanOf b 1)).1).Low), (((growth_keep a 1 (growth_spanOf b 1)).1).High)⟩ : XBox) 2 (growth_spanOf b 2)).1).High)⟩ : XBox) 3 (growth_spanOf b 3)).2) with h4 | h4
        · skip
          have e : growth_common a b = ((⟨(((growth_keep (⟨(((growth_keep (⟨(((growth_keep a 1 (growth_spanOf b 1)).1).Low), (((growth_keep a 1 (growth_spanOf b 1)).1).High)⟩ : XBox) 2 (growth_spanOf b 2)).1).Low), (((growth_keep (⟨(((growth_keep a 1 (growth_spanOf b 1)).1).Low), (((growth_keep a 1 (growth_spanOf b 1)).1).High)⟩ : XBox) 2 (growth_spanOf b 2)).1).High)⟩ : XBox) 3 (growth_spanOf b 3)).1).Low), (((growth_keep (⟨(((growth_keep (⟨(((growth_keep a 1 (growth_spanOf b 1)).1).Low), (((growth_keep a 1 (growth_spanOf b 1)).1).High)⟩ : XBox) 2 (growth_spanOf b 2)).1).Low), (((growth_keep (⟨(((growth_keep a 1 (growth_spanOf b 1)).1).Low), (((growth_keep a 1 (growth_spanOf b 1)).1).High)⟩ : XBox) 2 (growth_spanOf b 2)).1).High)⟩ : XBox) 3 (growth_spanOf b 3)).1).High)⟩ : XBox), true) := by unfold growth_common; rw [h1, cond_true, h2, cond_true, h3, cond_true, h4, cond_true]; first | done | rfl
          rw [e]
          exact FSat.done pfT (fuel := 77) (hs := (hR 10 (hT :: (hR 12 ((growth_common_i0 b) :: (growth_common_i1 a b) :: hE :: hE :: hT :: (hR 13 ((growth_common_i2 b) :: (growth_common_i3 a b) :: hE :: hE :: hT :: (hR 13 ((growth_common_i4 b) :: (growth_common_i5 a b) :: hE :: hE :: hT :: (hR 9 [])))))))))) (ss := [.go, .go, .go, .go]) (R := [(a.Low.Age == b.Low.Age) = true, (growth_common_r6 b), (growth_common_r7 a b), ((growth_keep a 1 (growth_spanOf b 1)).2) = true, ((growth_keep a 1 (growth_spanOf b 1)).2) = true, (.bool (true) : Value) = .bool (true), (growth_common_r8 b), (growth_common_r9 a b), (growth_common_r10 a b), (growth_common_r10 a b), (.bool (true) : Value) = .bool (true), (growth_common_r11 b), (growth_common_r12 a b), (growth_common_r13 a b), (growth_common_r13 a b), (.bool (true) : Value) = .bool (true)]) (by kernel_rfl) ⟨h1, growth_spanOf_fc b 1, growth_keep_fc a 1 (growth_spanOf b 1), h2, h2, rfl, growth_spanOf_fc b 2, growth_common_p14 a b, h3, h3, rfl, growth_spanOf_fc b 3, growth_common_p15 a b, h4, h4, rfl, trivial⟩ (by kernel_rfl)
        · skip
          have e : growth_common a b = ((⟨(((growth_keep (⟨(((growth_keep (⟨(((growth_keep a 1 (growth_spanOf b 1)).1).Low), (((growth_keep a 1 (growth_spanOf b 1)).1).High)⟩ : XBox) 2 (growth_spanOf b 2)).1).Low), (((growth_keep (⟨(((growth_keep a 1 (growth_spanOf b 1)).1).Low), (((growth_keep a 1 (growth_spanOf b 1)).1).High)⟩ : XBox) 2 (growth_spanOf b 2)).1).High)⟩ : XBox) 3 (growth_spanOf b 3)).1).Low), (((growth_keep (⟨(((growth_keep (⟨(((growth_keep a 1 (growth_spanOf b 1)).1).Low), (((growth_keep a 1 (growth_spanOf b 1)).1).High)⟩ : XBox) 2 (growth_spanOf b 2)).1).Low), (((growth_keep (⟨(((growth_keep a 1 (growth_spanOf b 1)).1).Low), (((growth_keep a 1 (growth_spanOf b 1)).1).High)⟩ : XBox) 2 (growth_spanOf b 2)).1).High)⟩ : XBox) 3 (growth_spanOf b 3)).1).High)⟩ : XBox), false) := by unfold growth_common; rw [h1, cond_true, h2, cond_true, h3, cond_true, h4, cond_false]; first | done | rfl
          rw [e]
          exact FSat.done pfT (fuel := 77) (hs := (hR 10 (hT :: (hR 12 ((growth_common_i0 b) :: (growth_common_i1 a b) :: hE :: hE :: hT :: (hR 13 ((growth_common_i2 b) :: (growth_common_i3 a b) :: hE :: hE :: hT :: (hR 13 ((growth_common_i4 b) :: (growth_common_i5 a b) :: hE :: hE :: hF :: (hR 9 [])))))))))) (ss := [.go, .go, .go, .go]) (R := [(a.Low.Age == b.Low.Age) = true, (growth_common_r6 b), (growth_common_r7 a b), ((growth_keep a 1 (growth_spanOf b 1)).2) = true, ((growth_keep a 1 (growth_spanOf b 1)).2) = true, (.bool (true) : Value) = .bool (true), (growth_common_r8 b), (growth_common_r9 a b), (growth_common_r10 a b), (growth_common_r10 a b), (.bool (true) : Value) = .bool (true), (growth_common_r11 b), (growth_common_r12 a b), (growth_common_r16 a b), (growth_common_r16 a b), (.bool (false) : Value) = .bool (false)]) (by kernel_rfl) ⟨h1, growth_spanOf_fc b 1, growth_keep_fc a 1 (growth_spanOf b 1), h2, h2, rfl, growth_spanOf_fc b 2, growth_common_p14 a b, h3, h3, rfl, growth_spanOf_fc b 3, growth_common_p15 a b, h4, h4, rfl, trivial⟩ (by kernel_rfl)
      · skip
        have e : growth_common a b = ((⟨(⟨0, 0, 0, 0⟩ : XStand), (⟨0, 0, 0, 0⟩ : XStand)⟩ : XBox), false) := by unfold growth_common; rw [h1, cond_true, h2, cond_true, h3, cond_false]; first | done | rfl
        rw [e]
        exact FSat.done pfT (fuel := 67) (hs := (hR 10 (hT :: (hR 12 ((growth_common_i0 b) :: (growth_common_i1 a b) :: hE :: hE :: hT :: (hR 13 ((growth_common_i2 b) :: (growth_common_i3 a b) :: hE :: hE :: hF :: (hR 12 [])))))))) (ss := [.go, .go, .go]) (R := [(a.Low.Age == b.Low.Age) = true, (growth_common_r6 b), (growth_common_r7 a b), ((growth_keep a 1 (growth_spanOf b 1)).2) = true, ((growth_keep a 1 (growth_spanOf b 1)).2) = true, (.bool (true) : Value) = .bool (true), (growth_common_r8 b), (growth_common_r9 a b), (growth_common_r17 a b), (growth_common_r17 a b), (.bool (false) : Value) = .bool (false)]) (by kernel_rfl) ⟨h1, growth_spanOf_fc b 1, growth_keep_fc a 1 (growth_spanOf b 1), h2, h2, rfl, growth_spanOf_fc b 2, growth_common_p14 a b, h3, h3, rfl, trivial⟩ (by kernel_rfl)
    · skip
      have e : growth_common a b = ((⟨(⟨0, 0, 0, 0⟩ : XStand), (⟨0, 0, 0, 0⟩ : XStand)⟩ : XBox), false) := by unfold growth_common; rw [h1, cond_true, h2, cond_false]; first | done | rfl
      rw [e]
      exact FSat.done pfT (fuel := 49) (hs := (hR 10 (hT :: (hR 12 ((growth_common_i0 b) :: (growth_common_i1 a b) :: hE :: hE :: hF :: (hR 12 [])))))) (ss := [.go, .go]) (R := [(a.Low.Age == b.Low.Age) = true, (growth_common_r6 b), (growth_common_r7 a b), ((growth_keep a 1 (growth_spanOf b 1)).2) = false, ((growth_keep a 1 (growth_spanOf b 1)).2) = false, (.bool (false) : Value) = .bool (false)]) (by kernel_rfl) ⟨h1, growth_spanOf_fc b 1, growth_keep_fc a 1 (growth_spanOf b 1), h2, h2, rfl, trivial⟩ (by kernel_rfl)
  · skip
    have e : growth_common a b = ((⟨(⟨0, 0, 0, 0⟩ : XStand), (⟨0, 0, 0, 0⟩ : XStand)⟩ : XBox), false) := by unfold growth_common; rw [h1, cond_false]; first | done | rfl
    rw [e]
    exact FSat.done pfT (fuel := 31) (hs := (hR 10 (hF :: (hR 11 [])))) (ss := [.go]) (R := [(a.Low.Age == b.Low.Age) = false]) (by kernel_rfl) ⟨h1, trivial⟩ (by kernel_rfl)

/- greenhew/growth.Inside -/
noncomputable abbrev growth_Inside_i0 (b : XBox) (x_1 : XStand) : Hint := (hC (.tuple #[.agg #[I ((((growth_common b (⟨x_1, x_1⟩ : XBox)).1).Low).Age), I ((((growth_common b (⟨x_1, x_1⟩ : XBox)).1).Low).Shoots), I ((((growth_common b (⟨x_1, x_1⟩ : XBox)).1).Low).Height), I ((((growth_common b (⟨x_1, x_1⟩ : XBox)).1).Low).Girth), I ((((growth_common b (⟨x_1, x_1⟩ : XBox)).1).High).Age), I ((((growth_common b (⟨x_1, x_1⟩ : XBox)).1).High).Shoots), I ((((growth_common b (⟨x_1, x_1⟩ : XBox)).1).High).Height), I ((((growth_common b (⟨x_1, x_1⟩ : XBox)).1).High).Girth)], .bool ((growth_common b (⟨x_1, x_1⟩ : XBox)).2)]))
abbrev growth_Inside_r1 (b : XBox) : Prop := FC P GG 68 (A_growth_boxIsDefined b) [] (.bool (growth_boxIsDefined b))
abbrev growth_Inside_r2 (x_1 : XStand) : Prop := FC P GG 58 (A_growth_standIsDefined x_1) [] (.bool (growth_standIsDefined x_1))
abbrev growth_Inside_r3 (b : XBox) (x_1 : XStand) : Prop := FC P GG 69 (A_growth_common b (⟨x_1, x_1⟩ : XBox)) [] (.tuple #[.agg #[I ((((growth_common b (⟨x_1, x_1⟩ : XBox)).1).Low).Age), I ((((growth_common b (⟨x_1, x_1⟩ : XBox)).1).Low).Shoots), I ((((growth_common b (⟨x_1, x_1⟩ : XBox)).1).Low).Height), I ((((growth_common b (⟨x_1, x_1⟩ : XBox)).1).Low).Girth), I ((((growth_common b (⟨x_1, x_1⟩ : XBox)).1).High).Age), I ((((growth_common b (⟨x_1, x_1⟩ : XBox)).1).High).Shoots), I ((((growth_common b (⟨x_1, x_1⟩ : XBox)).1).High).Height), I ((((growth_common b (⟨x_1, x_1⟩ : XBox)).1).High).Girth)], .bool ((growth_common b (⟨x_1, x_1⟩ : XBox)).2)])
abbrev A_growth_Inside (b : XBox) (x_1 : XStand) : List Value := [.agg #[I (b.Low.Age), I (b.Low.Shoots), I (b.Low.Height), I (b.Low.Girth), I (b.High.Age), I (b.High.Shoots), I (b.High.Height), I (b.High.Girth)], .agg #[I (x_1.Age), I (x_1.Shoots), I (x_1.Height), I (x_1.Girth)]]
noncomputable def growth_Inside (b : XBox) (x_1 : XStand) : Bool :=
  bif growth_boxIsDefined b then (bif growth_standIsDefined x_1 then (growth_common b (⟨x_1, x_1⟩ : XBox)).2
    else false)
  else false
theorem growth_Inside_fc (b : XBox) (x_1 : XStand) : FC P GG 27 [.agg #[I (b.Low.Age), I (b.Low.Shoots), I (b.Low.Height), I (b.Low.Girth), I (b.High.Age), I (b.High.Shoots), I (b.High.Height), I (b.High.Girth)], .agg #[I (x_1.Age), I (x_1.Shoots), I (x_1.Height), I (x_1.Girth)]] [] (.bool (growth_Inside b x_1)) := by
  refine FC.of_fsat 24 100 Tryd.func27 (by kernel_rfl) (by kernel_rfl) (by kernel_rfl) trivial ?_
  rcases Bool.eq_false_or_eq_true (growth_boxIsDefined b) with h1 | h1
  · skip
    rcases Bool.eq_false_or_eq_true (growth_standIsDefined x_1) with h2 | h2
    · skip
      have e : growth_Inside b x_1 = (growth_common b (⟨x_1, x_1⟩ : XBox)).2 := by unfold growth_Inside; rw [h1, cond_true, h2, cond_true]; first | done | rfl
      rw [e]
      exact FSat.done pfT (fuel := 17) (hs := (hR 4 ((hB (hC (.bool (growth_boxIsDefined b))) true) :: hE :: hE :: hE :: (hB (hC (.bool (growth_standIsDefined x_1))) true) :: (hR 6 ((growth_Inside_i0 b x_1) :: (hR 8 [])))))) (ss := []) (R := [(growth_Inside_r1 b), (growth_boxIsDefined b) = true, (growth_Inside_r2 x_1), (growth_standIsDefined x_1) = true, (growth_Inside_r3 b x_1)]) (by kernel_rfl) ⟨growth_boxIsDefined_fc b, h1, growth_standIsDefined_fc x_1, h2, growth_common_fc b (⟨x_1, x_1⟩ : XBox), trivial⟩ (by kernel_rfl)
    · skip
      have e : growth_Inside b x_1 = false := by unfold growth_Inside; rw [h1, cond_true, h2, cond_false]; first | done | rfl
      rw [e]
      exact FSat.done pfT (fuel := 14) (hs := (hR 4 [(hB (hC (.bool (growth_boxIsDefined b))) true), hE, hE, hE, (hB (hC (.bool (growth_standIsDefined x_1))) false), hE, hE, hE])) (ss := []) (R := [(growth_Inside_r1 b), (growth_boxIsDefined b) = true, (growth_Inside_r2 x_1), (growth_standIsDefined x_1) = false]) (by kernel_rfl) ⟨growth_boxIsDefined_fc b, h1, growth_standIsDefined_fc x_1, h2, trivial⟩ (by kernel_rfl)
  · skip
    have e : growth_Inside b x_1 = false := by unfold growth_Inside; rw [h1, cond_false]; first | done | rfl
    rw [e]
    exact FSat.done pfT (fuel := 14) (hs := (hR 4 ((hB (hC (.bool (growth_boxIsDefined b))) false) :: (hR 4 [])))) (ss := []) (R := [(growth_Inside_r1 b), (growth_boxIsDefined b) = false]) (by kernel_rfl) ⟨growth_boxIsDefined_fc b, h1, trivial⟩ (by kernel_rfl)

/- greenhew/growth.weatherIsDefined -/
abbrev growth_weatherIsDefined_r0 (w : XWeather) : Prop := FC P GG 94 (A_growth_within w.Light 0 100) [] (.bool (growth_within w.Light 0 100))
abbrev growth_weatherIsDefined_r1 (w : XWeather) : Prop := FC P GG 94 (A_growth_within w.Browse 0 100) [] (.bool (growth_within w.Browse 0 100))
abbrev growth_weatherIsDefined_r2 (w : XWeather) : Prop := FC P GG 94 (A_growth_within w.Mild 0 200) [] (.bool (growth_within w.Mild 0 200))
abbrev A_growth_weatherIsDefined (w : XWeather) : List Value := [.agg #[I (w.Light), I (w.Browse), I (w.Mild)]]
noncomputable def growth_weatherIsDefined (w : XWeather) : Bool :=
  bif growth_within w.Light 0 100 then (bif growth_within w.Browse 0 100 then growth_within w.Mild 0 200
    else false)
  else false
theorem growth_weatherIsDefined_fc (w : XWeather) : FC P GG 59 [.agg #[I (w.Light), I (w.Browse), I (w.Mild)]] [] (.bool (growth_weatherIsDefined w)) := by
  refine FC.of_fsat 16 100 Tryd.func59 (by kernel_rfl) (by kernel_rfl) (by kernel_rfl) trivial ?_
  rcases Bool.eq_false_or_eq_true (growth_within w.Light 0 100) with h1 | h1
  · skip
    rcases Bool.eq_false_or_eq_true (growth_within w.Browse 0 100) with h2 | h2
    · skip
      have e : growth_weatherIsDefined w = growth_within w.Mild 0 200 := by unfold growth_weatherIsDefined; rw [h1, cond_true, h2, cond_true]; first | done | rfl
      rw [e]
      exact FSat.done pfT (fuel := 10) (hs := (hR 4 ((hB (hC (.bool (growth_within w.Light 0 100))) true) :: hE :: hE :: hE :: (hB (hC (.bool (growth_within w.Browse 0 100))) true) :: (hR 4 [(hC (.bool (growth_within w.Mild 0 200))), hE, hE])))) (ss := []) (R := [(growth_weatherIsDefined_r0 w), (growth_within w.Light 0 100) = true, (growth_weatherIsDefined_r1 w), (growth_within w.Browse 0 100) = true, (growth_weatherIsDefined_r2 w)]) (by kernel_rfl) ⟨growth_within_fc w.Light 0 100, h1, growth_within_fc w.Browse 0 100, h2, growth_within_fc w.Mild 0 200, trivial⟩ (by kernel_rfl)
    · skip
      have e : growth_weatherIsDefined w = false := by unfold growth_weatherIsDefined; rw [h1, cond_true, h2, cond_false]; first | done | rfl
      rw [e]
      exact FSat.done pfT (fuel := 10) (hs := (hR 4 ((hB (hC (.bool (growth_within w.Light 0 100))) true) :: hE :: hE :: hE :: (hB (hC (.bool (growth_within w.Browse 0 100))) false) :: (hR 4 [])))) (ss := []) (R := [(growth_weatherIsDefined_r0 w), (growth_within w.Light 0 100) = true, (growth_weatherIsDefined_r1 w), (growth_within w.Browse 0 100) = false]) (by kernel_rfl) ⟨growth_within_fc w.Light 0 100, h1, growth_within_fc w.Browse 0 100, h2, trivial⟩ (by kernel_rfl)
  · skip
    have e : growth_weatherIsDefined w = false := by unfold growth_weatherIsDefined; rw [h1, cond_false]; first | done | rfl
    rw [e]
    exact FSat.done pfT (fuel := 10) (hs := (hR 4 ((hB (hC (.bool (growth_within w.Light 0 100))) false) :: (hR 5 [])))) (ss := []) (R := [(growth_weatherIsDefined_r0 w), (growth_within w.Light 0 100) = false]) (by kernel_rfl) ⟨growth_within_fc w.Light 0 100, h1, trivial⟩ (by kernel_rfl)

/- greenhew/growth.Grow -/
noncomputable abbrev growth_Grow_i0 (s : XSpecies) (q10 : Nat) (q11 : Nat) (q12 : Nat) (q13 : Nat) (x1 : Bool) : Hint := (hB (hM (.bool (x1)) (.bool (x1)) (A_growth_speciesIsDefined s q10 q11 q12 q13) (K_growth_speciesIsDefined s) [(10, 10, 0), (11, 11, 0), (12, 12, 0), (13, 13, 0)]) true)
noncomputable abbrev growth_Grow_i1 (s : XSpecies) (x_1 : XStand) (w : XWeather) (q10 : Nat) (q11 : Nat) (q12 : Nat) (q13 : Nat) (x5 : XStand) : Hint := (hM (.agg #[I (x5.Age), I (x5.Shoots), I (x5.Height), I (x5.Girth)]) (.agg #[I (x5.Age), I (x5.Shoots), I (x5.Height), I (x5.Girth)]) (A_growth_grower_grow x_1 w) (K_growth_grower_grow (⟨s⟩ : Xgrower) q10 q11 q12 q13) [(11, 10, 0), (12, 11, 0), (13, 12, 0), (14, 13, 0), (10, 104, 0)])
abbrev growth_Grow_r2 (s : XSpecies) (q10 : Nat) (q11 : Nat) (q12 : Nat) (q13 : Nat) (x1 : Bool) : Prop := FC P GG 57 (A_growth_speciesIsDefined s q10 q11 q12 q13) (K_growth_speciesIsDefined s) (.bool (x1))
abbrev growth_Grow_r3 (s : XSpecies) (q10 : Nat) (q11 : Nat) (q12 : Nat) (q13 : Nat) : Prop := VRs (Ren.emb [(10, 10, 0), (11, 11, 0), (12, 12, 0), (13, 13, 0)]) (A_growth_speciesIsDefined s q10 q11 q12 q13) [.agg #[.slice (some ⟨10, 0, none⟩) (s.Rise.length) (q10), .slice (some ⟨11, 0, none⟩) (s.Thick.length) (q11), I (s.Top), I (s.Stout), I (s.Shade), I (s.Reach), .slice (some ⟨12, 0, none⟩) (s.Ladder.length) (q12), .slice (some ⟨13, 0, none⟩) (s.Sprouts.length) (q13)]]
abbrev growth_Grow_r4 (s : XSpecies) : Prop := MemAt (Ren.emb [(10, 10, 0), (11, 11, 0), (12, 12, 0), (13, 13, 0)]) (encL cInt s.Rise) 0 (encL cInt s.Rise) ∧ MemAt (Ren.emb [(10, 10, 0), (11, 11, 0), (12, 12, 0), (13, 13, 0)]) (encL cInt s.Thick) 0 (encL cInt s.Thick) ∧ MemAt (Ren.emb [(10, 10, 0), (11, 11, 0), (12, 12, 0), (13, 13, 0)]) (encL cXRung s.Ladder) 0 (encL cXRung s.Ladder) ∧ MemAt (Ren.emb [(10, 10, 0), (11, 11, 0), (12, 12, 0), (13, 13, 0)]) (encL cXSpan s.Sprouts) 0 (encL cXSpan s.Sprouts) ∧ True
abbrev growth_Grow_r5 (x1 : Bool) : Prop := VR (Ren.emb [(10, 10, 0), (11, 11, 0), (12, 12, 0), (13, 13, 0)]) (.bool (x1)) (.bool (x1))
abbrev growth_Grow_r6 (x_1 : XStand) : Prop := FC P GG 58 (A_growth_standIsDefined x_1) [] (.bool (growth_standIsDefined x_1))
abbrev growth_Grow_r7 (w : XWeather) : Prop := FC P GG 59 (A_growth_weatherIsDefined w) [] (.bool (growth_weatherIsDefined w))
abbrev growth_Grow_r8 (s : XSpecies) (x_1 : XStand) (w : XWeather) (q10 : Nat) (q11 : Nat) (q12 : Nat) (q13 : Nat) (x5 : XStand) : Prop := FC P GG 60 (A_growth_grower_grow x_1 w) (K_growth_grower_grow (⟨s⟩ : Xgrower) q10 q11 q12 q13) (.agg #[I (x5.Age), I (x5.Shoots), I (x5.Height), I (x5.Girth)])
abbrev growth_Grow_r9 (x_1 : XStand) (w : XWeather) : Prop := VRs (Ren.emb [(11, 10, 0), (12, 11, 0), (13, 12, 0), (14, 13, 0), (10, 104, 0)]) (A_growth_grower_grow x_1 w) [.pointer (some ⟨104, 0, none⟩), .agg #[I (x_1.Age), I (x_1.Shoots), I (x_1.Height), I (x_1.Girth)], .agg #[I (w.Light), I (w.Browse), I (w.Mild)]]
abbrev growth_Grow_r10 (s : XSpecies) (q10 : Nat) (q11 : Nat) (q12 : Nat) (q13 : Nat) : Prop := MemAt (Ren.emb [(11, 10, 0), (12, 11, 0), (13, 12, 0), (14, 13, 0), (10, 104, 0)]) (encL cInt (((⟨s⟩ : Xgrower).Species).Rise)) 0 (encL cInt s.Rise) ∧ MemAt (Ren.emb [(11, 10, 0), (12, 11, 0), (13, 12, 0), (14, 13, 0), (10, 104, 0)]) (encL cInt (((⟨s⟩ : Xgrower).Species).Thick)) 0 (encL cInt s.Thick) ∧ MemAt (Ren.emb [(11, 10, 0), (12, 11, 0), (13, 12, 0), (14, 13, 0), (10, 104, 0)]) (encL cXRung (((⟨s⟩ : Xgrower).Species).Ladder)) 0 (encL cXRung s.Ladder) ∧ MemAt (Ren.emb [(11, 10, 0), (12, 11, 0), (13, 12, 0), (14, 13, 0), (10, 104, 0)]) (encL cXSpan (((⟨s⟩ : Xgrower).Species).Sprouts)) 0 (encL cXSpan s.Sprouts) ∧ MemAt (Ren.emb [(11, 10, 0), (12, 11, 0), (13, 12, 0), (14, 13, 0), (10, 104, 0)]) [.slice (some ⟨11, 0, none⟩) ((((⟨s⟩ : Xgrower).Species).Rise).length) (q10), .slice (some ⟨12, 0, none⟩) ((((⟨s⟩ : Xgrower).Species).Thick).length) (q11), I (((⟨s⟩ : Xgrower).Species).Top), I (((⟨s⟩ : Xgrower).Species).Stout), I (((⟨s⟩ : Xgrower).Species).Shade), I (((⟨s⟩ : Xgrower).Species).Reach), .slice (some ⟨13, 0, none⟩) ((((⟨s⟩ : Xgrower).Species).Ladder).length) (q12), .slice (some ⟨14, 0, none⟩) ((((⟨s⟩ : Xgrower).Species).Sprouts).length) (q13)] 0 [.slice (some ⟨10, 0, none⟩) (s.Rise.length) (q10), .slice (some ⟨11, 0, none⟩) (s.Thick.length) (q11), I (s.Top), I (s.Stout), I (s.Shade), I (s.Reach), .slice (some ⟨12, 0, none⟩) (s.Ladder.length) (q12), .slice (some ⟨13, 0, none⟩) (s.Sprouts.length) (q13)] ∧ True
abbrev growth_Grow_r11 (x5 : XStand) : Prop := VR (Ren.emb [(11, 10, 0), (12, 11, 0), (13, 12, 0), (14, 13, 0), (10, 104, 0)]) (.agg #[I (x5.Age), I (x5.Shoots), I (x5.Height), I (x5.Girth)]) (.agg #[I (x5.Age), I (x5.Shoots), I (x5.Height), I (x5.Girth)])
theorem growth_Grow_p12 (s : XSpecies) (q10 : Nat) (q11 : Nat) (q12 : Nat) (q13 : Nat) : (growth_Grow_r3 s q10 q11 q12 q13) := (.cons _ _ _ _ (.agg _ _ (.cons _ _ _ _ (.slc 10 0 _ _ _ ⟨10, 0, 0, 0⟩ rfl (.inl rfl)) (.cons _ _ _ _ (.slc 11 0 _ _ _ ⟨11, 0, 0, 0⟩ rfl (.inl rfl)) (.cons _ _ _ _ (VR.of_pf rfl) (.cons _ _ _ _ (VR.of_pf rfl) (.cons _ _ _ _ (VR.of_pf rfl) (.cons _ _ _ _ (VR.of_pf rfl) (.cons _ _ _ _ (.slc 12 0 _ _ _ ⟨12, 0, 0, 0⟩ rfl (.inl rfl)) (.cons _ _ _ _ (.slc 13 0 _ _ _ ⟨13, 0, 0, 0⟩ rfl (.inl rfl)) .nil))))))))) .nil)
theorem growth_Grow_p13 (s : XSpecies) : (growth_Grow_r4 s) := ⟨MemAt.same _ (encL_pf cInt_pf _), MemAt.same _ (encL_pf cInt_pf _), MemAt.same _ (encL_pf cXRung_pf _), MemAt.same _ (encL_pf cXSpan_pf _), trivial⟩
theorem growth_Grow_p14 (x_1 : XStand) (w : XWeather) : (growth_Grow_r9 x_1 w) := (.cons _ _ _ _ (.ptr 10 0 ⟨104, 0, 0, 0⟩ rfl) (.cons _ _ _ _ (VR.of_pf rfl) (.cons _ _ _ _ (VR.of_pf rfl) .nil)))
theorem growth_Grow_p15 (s : XSpecies) (q10 : Nat) (q11 : Nat) (q12 : Nat) (q13 : Nat) : (growth_Grow_r10 s q10 q11 q12 q13) := ⟨MemAt.same _ (encL_pf cInt_pf _), MemAt.same _ (encL_pf cInt_pf _), MemAt.same _ (encL_pf cXRung_pf _), MemAt.same _ (encL_pf cXSpan_pf _), MemAt.of (.cons _ _ _ _ (.slc 11 0 _ _ _ ⟨10, 0, 0, 0⟩ rfl (.inl rfl)) (.cons _ _ _ _ (.slc 12 0 _ _ _ ⟨11, 0, 0, 0⟩ rfl (.inl rfl)) (.cons _ _ _ _ (VR.of_pf rfl) (.cons _ _ _ _ (VR.of_pf rfl) (.cons _ _ _ _ (VR.of_pf rfl) (.cons _ _ _ _ (VR.of_pf rfl) (.cons _ _ _ _ (.slc 13 0 _ _ _ ⟨12, 0, 0, 0⟩ rfl (.inl rfl)) (.cons _ _ _ _ (.slc 14 0 _ _ _ ⟨13, 0, 0, 0⟩ rfl (.inl rfl)) .nil)))))))), trivial⟩
noncomputable abbrev growth_Grow_i16 (s : XSpecies) (q10 : Nat) (q11 : Nat) (q12 : Nat) (q13 : Nat) (x1 : Bool) : Hint := (hB (hM (.bool (x1)) (.bool (x1)) (A_growth_speciesIsDefined s q10 q11 q12 q13) (K_growth_speciesIsDefined s) [(10, 10, 0), (11, 11, 0), (12, 12, 0), (13, 13, 0)]) false)
abbrev A_growth_Grow (s : XSpecies) (x_1 : XStand) (w : XWeather) (q10 : Nat) (q11 : Nat) (q12 : Nat) (q13 : Nat) : List Value := [.agg #[.slice (some ⟨10, 0, none⟩) (s.Rise.length) (q10), .slice (some ⟨11, 0, none⟩) (s.Thick.length) (q11), I (s.Top), I (s.Stout), I (s.Shade), I (s.Reach), .slice (some ⟨12, 0, none⟩) (s.Ladder.length) (q12), .slice (some ⟨13, 0, none⟩) (s.Sprouts.length) (q13)], .agg #[I (x_1.Age), I (x_1.Shoots), I (x_1.Height), I (x_1.Girth)], .agg #[I (w.Light), I (w.Browse), I (w.Mild)]]
abbrev K_growth_Grow (s : XSpecies) : List (Nat × List Value) := [(10, encL cInt s.Rise), (11, encL cInt s.Thick), (12, encL cXRung s.Ladder), (13, encL cXSpan s.Sprouts)]
noncomputable def growth_Grow (fu : Nat) (s : XSpecies) (x_1 : XStand) (w : XWeather) : Option (XStand × Int) :=
  Option.bind (growth_speciesIsDefined fu s) fun x1 =>
  bif x1 then (bif growth_standIsDefined x_1 then (bif growth_weatherIsDefined w then (Option.bind (growth_grower_grow fu (⟨s⟩ : Xgrower) x_1 w) fun x5 =>
        some (x5, 0))
      else some ((⟨0, 0, 0, 0⟩ : XStand), 2))
    else some ((⟨0, 0, 0, 0⟩ : XStand), 2))
  else some ((⟨0, 0, 0, 0⟩ : XStand), 2)
theorem growth_Grow_fc (fu : Nat) (s : XSpecies) (x_1 : XStand) (w : XWeather) (q10 q11 q12 q13 : Nat) (r : XStand × Int) (hh : growth_Grow fu s x_1 w = some r) : FC P GG 19 [.agg #[.slice (some ⟨10, 0, none⟩) (s.Rise.length) (q10), .slice (some ⟨11, 0, none⟩) (s.Thick.length) (q11), I (s.Top), I (s.Stout), I (s.Shade), I (s.Reach), .slice (some ⟨12, 0, none⟩) (s.Ladder.length) (q12), .slice (some ⟨13, 0, none⟩) (s.Sprouts.length) (q13)], .agg #[I (x_1.Age), I (x_1.Shoots), I (x_1.Height), I (x_1.Girth)], .agg #[I (w.Light), I (w.Browse), I (w.Mild)]] [(10, encL cInt s.Rise), (11, encL cInt s.Thick), (12, encL cXRung s.Ladder), (13, encL cXSpan s.Sprouts)] (.tuple #[.agg #[I (r.1.Age), I (r.1.Shoots), I (r.1.Height), I (r.1.Girth)], I (r.2)]) := by
  refine FC.of_fsat 28 100 Tryd.func19 (by kernel_rfl) (by kernel_rfl) (by kernel_rfl) ⟨PinL.pf (encL_pf cInt_pf _), PinL.pf (encL_pf cInt_pf _), PinL.pf (encL_pf cXRung_pf _), PinL.pf (encL_pf cXSpan_pf _), trivial⟩ ?_
  cases h1 : growth_speciesIsDefined fu s with
  | none =>
    have e : growth_Grow fu s x_1 w = none := by unfold growth_Grow; rw [h1, Option.bind_none]; first | done | rfl
    rw [e] at hh; cases hh
  | some x1 =>
    rcases Bool.eq_false_or_eq_true (x1) with h2 | h2
    · skip
      rcases Bool.eq_false_or_eq_true (growth_standIsDefined x_1) with h3 | h3
      · skip
        rcases Bool.eq_false_or_eq_true (growth_weatherIsDefined w) with h4 | h4
        · skip
          cases h5 : growth_grower_grow fu (⟨s⟩ : Xgrower) x_1 w with
          | none =>
            have e : growth_Grow fu s x_1 w = none := by unfold growth_Grow; rw [h1, Option.bind_some, h2, cond_true, h3, cond_true, h4, cond_true, h5, Option.bind_none]; first | done | rfl
            rw [e] at hh; cases hh
          | some x5 =>
            have e : growth_Grow fu s x_1 w = some (x5, 0) := by unfold growth_Grow; rw [h1, Option.bind_some, h2, cond_true, h3, cond_true, h4, cond_true, h5, Option.bind_some]; first | done | rfl
            rw [e] at hh
            have hr := Option.some.inj hh
            rw [← hr]
            exact FSat.done pfT (fuel := 17) (hs := (hR 6 ((growth_Grow_i0 s q10 q11 q12 q13 x1) :: hE :: hE :: hE :: (hB (hC (.bool (growth_standIsDefined x_1))) true) :: (hR 4 ((hB (hC (.bool (growth_weatherIsDefined w))) true) :: (hR 8 [(growth_Grow_i1 s x_1 w q10 q11 q12 q13 x5), hE, hE])))))) (ss := []) (R := [(growth_Grow_r2 s q10 q11 q12 q13 x1), (growth_Grow_r3 s q10 q11 q12 q13), (growth_Grow_r4 s), (growth_Grow_r5 x1), (x1) = true, (growth_Grow_r6 x_1), (growth_standIsDefined x_1) = true, (growth_Grow_r7 w), (growth_weatherIsDefined w) = true, (growth_Grow_r8 s x_1 w q10 q11 q12 q13 x5), (growth_Grow_r9 x_1 w), (growth_Grow_r10 s q10 q11 q12 q13), (growth_Grow_r11 x5)]) (by kernel_rfl) ⟨growth_speciesIsDefined_fc fu s q10 q11 q12 q13 x1 h1, growth_Grow_p12 s q10 q11 q12 q13, growth_Grow_p13 s, selfB_self 9 _ rfl _, h2, growth_standIsDefined_fc x_1, h3, growth_weatherIsDefined_fc w, h4, growth_grower_grow_fc fu (⟨s⟩ : Xgrower) x_1 w q10 q11 q12 q13 x5 h5, growth_Grow_p14 x_1 w, growth_Grow_p15 s q10 q11 q12 q13, selfB_self 9 _ rfl _, trivial⟩ (by kernel_rfl)
        · skip
          have e : growth_Grow fu s x_1 w = some ((⟨0, 0, 0, 0⟩ : XStand), 2) := by unfold growth_Grow; rw [h1, Option.bind_some, h2, cond_true, h3, cond_true, h4, cond_false]; first | done | rfl
          rw [e] at hh
          have hr := Option.some.inj hh
          rw [← hr]
          exact FSat.done pfT (fuel := 14) (hs := (hR 6 ((growth_Grow_i0 s q10 q11 q12 q13 x1) :: hE :: hE :: hE :: (hB (hC (.bool (growth_standIsDefined x_1))) true) :: (hR 4 ((hB (hC (.bool (growth_weatherIsDefined w))) false) :: (hR 5 [])))))) (ss := []) (R := [(growth_Grow_r2 s q10 q11 q12 q13 x1), (growth_Grow_r3 s q10 q11 q12 q13), (growth_Grow_r4 s), (growth_Grow_r5 x1), (x1) = true, (growth_Grow_r6 x_1), (growth_standIsDefined x_1) = true, (growth_Grow_r7 w), (growth_weatherIsDefined w) = false]) (by kernel_rfl) ⟨growth_speciesIsDefined_fc fu s q10 q11 q12 q13 x1 h1, growth_Grow_p12 s q10 q11 q12 q13, growth_Grow_p13 s, selfB_self 9 _ rfl _, h2, growth_standIsDefined_fc x_1, h3, growth_weatherIsDefined_fc w, h4, trivial⟩ (by kernel_rfl)
      · skip
        have e : growth_Grow fu s x_1 w = some ((⟨0, 0, 0, 0⟩ : XStand), 2) := by unfold growth_Grow; rw [h1, Option.bind_some, h2, cond_true, h3, cond_false]; first | done | rfl
        rw [e] at hh
        have hr := Option.some.inj hh
        rw [← hr]
        exact FSat.done pfT (fuel := 14) (hs := (hR 6 ((growth_Grow_i0 s q10 q11 q12 q13 x1) :: hE :: hE :: hE :: (hB (hC (.bool (growth_standIsDefined x_1))) false) :: (hR 7 [])))) (ss := []) (R := [(growth_Grow_r2 s q10 q11 q12 q13 x1), (growth_Grow_r3 s q10 q11 q12 q13), (growth_Grow_r4 s), (growth_Grow_r5 x1), (x1) = true, (growth_Grow_r6 x_1), (growth_standIsDefined x_1) = false]) (by kernel_rfl) ⟨growth_speciesIsDefined_fc fu s q10 q11 q12 q13 x1 h1, growth_Grow_p12 s q10 q11 q12 q13, growth_Grow_p13 s, selfB_self 9 _ rfl _, h2, growth_standIsDefined_fc x_1, h3, trivial⟩ (by kernel_rfl)
    · skip
      have e : growth_Grow fu s x_1 w = some ((⟨0, 0, 0, 0⟩ : XStand), 2) := by unfold growth_Grow; rw [h1, Option.bind_some, h2, cond_false]; first | done | rfl
      rw [e] at hh
      have hr := Option.some.inj hh
      rw [← hr]
      exact FSat.done pfT (fuel := 14) (hs := (hR 6 ((growth_Grow_i16 s q10 q11 q12 q13 x1) :: (hR 8 [])))) (ss := []) (R := [(growth_Grow_r2 s q10 q11 q12 q13 x1), (growth_Grow_r3 s q10 q11 q12 q13), (growth_Grow_r4 s), (growth_Grow_r5 x1), (x1) = false]) (by kernel_rfl) ⟨growth_speciesIsDefined_fc fu s q10 q11 q12 q13 x1 h1, growth_Grow_p12 s q10 q11 q12 q13, growth_Grow_p13 s, selfB_self 9 _ rfl _, h2, trivial⟩ (by kernel_rfl)

/- greenhew/growth.wood -/
abbrev A_growth_wood (x_0 : XStand) : List Value := [.agg #[I (x_0.Age), I (x_0.Shoots), I (x_0.Height), I (x_0.Girth)]]
noncomputable def growth_wood (x_0 : XStand) : Int :=
  W ((W ((W ((W (x_0.Shoots * x_0.Height)) * x_0.Girth)) * x_0.Girth)).tdiv 25000000)
theorem growth_wood_fc (x_0 : XStand) : FC P GG 61 [.agg #[I (x_0.Age), I (x_0.Shoots), I (x_0.Height), I (x_0.Girth)]] [] (I (growth_wood x_0)) := by
  refine FC.of_fsat 15 100 Tryd.func61 (by kernel_rfl) (by kernel_rfl) (by kernel_rfl) trivial ?_
  have e : growth_wood x_0 = W ((W ((W ((W (x_0.Shoots * x_0.Height)) * x_0.Girth)) * x_0.Girth)).tdiv 25000000) := by unfold growth_wood; rfl
  rw [e]
  exact FSat.done pfT (fuel := 10) (hs := (hR 15 [])) (ss := []) (R := []) (by kernel_rfl) trivial (by kernel_rfl)

/- greenhew/growth.Woods -/
abbrev growth_Woods_r0 (b : XBox) : Prop := FC P GG 68 (A_growth_boxIsDefined b) [] (.bool (growth_boxIsDefined b))
abbrev growth_Woods_r1 (b : XBox) : Prop := FC P GG 61 (A_growth_wood b.High) [] (I (growth_wood b.High))
abbrev A_growth_Woods (b : XBox) : List Value := [.agg #[I (b.Low.Age), I (b.Low.Shoots), I (b.Low.Height), I (b.Low.Girth), I (b.High.Age), I (b.High.Shoots), I (b.High.Height), I (b.High.Girth)]]
noncomputable def growth_Woods (b : XBox) : Int × Int × Int :=
  bif growth_boxIsDefined b then (growth_wood b.Low, growth_wood b.High, 0)
  else (0, 0, 2)
theorem growth_Woods_fc (b : XBox) : FC P GG 41 [.agg #[I (b.Low.Age), I (b.Low.Shoots), I (b.Low.Height), I (b.Low.Girth), I (b.High.Age), I (b.High.Shoots), I (b.High.Height), I (b.High.Girth)]] [] (.tuple #[I ((growth_Woods b).1), I ((growth_Woods b).2.1), I ((growth_Woods b).2.2)]) := by
  refine FC.of_fsat 14 100 Tryd.func41 (by kernel_rfl) (by kernel_rfl) (by kernel_rfl) trivial ?_
  rcases Bool.eq_false_or_eq_true (growth_boxIsDefined b) with h1 | h1
  · skip
    have e : growth_Woods b = (growth_wood b.Low, growth_wood b.High, 0) := by unfold growth_Woods; rw [h1, cond_true]; first | done | rfl
    rw [e]
    exact FSat.done pfT (fuel := 15) (hs := (hR 5 [(hB (hC (.bool (growth_boxIsDefined b))) true), hE, hE, hE, (hC (I (growth_wood b.Low))), hE, hE, (hC (I (growth_wood b.High))), hE, hE, hE])) (ss := []) (R := [(growth_Woods_r0 b), (growth_boxIsDefined b) = true, FC P GG 61 (A_growth_wood b.Low) [] (I (growth_wood b.Low)), (growth_Woods_r1 b)]) (by kernel_rfl) ⟨growth_boxIsDefined_fc b, h1, growth_wood_fc b.Low, growth_wood_fc b.High, trivial⟩ (by kernel_rfl)
  · skip
    have e : growth_Woods b = (0, 0, 2) := by unfold growth_Woods; rw [h1, cond_false]; first | done | rfl
    rw [e]
    exact FSat.done pfT (fuel := 14) (hs := (hR 5 ((hB (hC (.bool (growth_boxIsDefined b))) false) :: (hR 4 [])))) (ss := []) (R := [(growth_Woods_r0 b), (growth_boxIsDefined b) = false]) (by kernel_rfl) ⟨growth_boxIsDefined_fc b, h1, trivial⟩ (by kernel_rfl)

structure XTolerance where
  Shoots : Int
  Height : Int
  Girth : Int

def zXTolerance : XTolerance := ⟨0, 0, 0⟩

/- greenhew/growth.toleranceIsDefined -/
abbrev growth_toleranceIsDefined_r0 (t_0 : XTolerance) : Prop := FC P GG 94 (A_growth_within t_0.Shoots 0 100000) [] (.bool (growth_within t_0.Shoots 0 100000))
abbrev growth_toleranceIsDefined_r1 (t_0 : XTolerance) : Prop := FC P GG 94 (A_growth_within t_0.Height 0 100000) [] (.bool (growth_within t_0.Height 0 100000))
abbrev growth_toleranceIsDefined_r2 (t_0 : XTolerance) : Prop := FC P GG 94 (A_growth_within t_0.Girth 0 100000) [] (.bool (growth_within t_0.Girth 0 100000))
abbrev A_growth_toleranceIsDefined (t_0 : XTolerance) : List Value := [.agg #[I (t_0.Shoots), I (t_0.Height), I (t_0.Girth)]]
noncomputable def growth_toleranceIsDefined (t_0 : XTolerance) : Bool :=
  bif growth_within t_0.Shoots 0 100000 then (bif growth_within t_0.Height 0 100000 then growth_within t_0.Girth 0 100000
    else false)
  else false
theorem growth_toleranceIsDefined_fc (t_0 : XTolerance) : FC P GG 90 [.agg #[I (t_0.Shoots), I (t_0.Height), I (t_0.Girth)]] [] (.bool (growth_toleranceIsDefined t_0)) := by
  refine FC.of_fsat 16 100 Tryd.func90 (by kernel_rfl) (by kernel_rfl) (by kernel_rfl) trivial ?_
  rcases Bool.eq_false_or_eq_true (growth_within t_0.Shoots 0 100000) with h1 | h1
  · skip
    rcases Bool.eq_false_or_eq_true (growth_within t_0.Height 0 100000) with h2 | h2
    · skip
      have e : growth_toleranceIsDefined t_0 = growth_within t_0.Girth 0 100000 := by unfold growth_toleranceIsDefined; rw [h1, cond_true, h2, cond_true]; first | done | rfl
      rw [e]
      exact FSat.done pfT (fuel := 10) (hs := (hR 4 ((hB (hC (.bool (growth_within t_0.Shoots 0 100000))) true) :: hE :: hE :: hE :: (hB (hC (.bool (growth_within t_0.Height 0 100000))) true) :: (hR 4 [(hC (.bool (growth_within t_0.Girth 0 100000))), hE, hE])))) (ss := []) (R := [(growth_toleranceIsDefined_r0 t_0), (growth_within t_0.Shoots 0 100000) = true, (growth_toleranceIsDefined_r1 t_0), (growth_within t_0.Height 0 100000) = true, (growth_toleranceIsDefined_r2 t_0)]) (by kernel_rfl) ⟨growth_within_fc t_0.Shoots 0 100000, h1, growth_within_fc t_0.Height 0 100000, h2, growth_within_fc t_0.Girth 0 100000, trivial⟩ (by kernel_rfl)
    · skip
      have e : growth_toleranceIsDefined t_0 = false := by unfold growth_toleranceIsDefined; rw [h1, cond_true, h2, cond_false]; first | done | rfl
      rw [e]
      exact FSat.done pfT (fuel := 10) (hs := (hR 4 ((hB (hC (.bool (growth_within t_0.Shoots 0 100000))) true) :: hE :: hE :: hE :: (hB (hC (.bool (growth_within t_0.Height 0 100000))) false) :: (hR 4 [])))) (ss := []) (R := [(growth_toleranceIsDefined_r0 t_0), (growth_within t_0.Shoots 0 100000) = true, (growth_toleranceIsDefined_r1 t_0), (growth_within t_0.Height 0 100000) = false]) (by kernel_rfl) ⟨growth_within_fc t_0.Shoots 0 100000, h1, growth_within_fc t_0.Height 0 100000, h2, trivial⟩ (by kernel_rfl)
  · skip
    have e : growth_toleranceIsDefined t_0 = false := by unfold growth_toleranceIsDefined; rw [h1, cond_false]; first | done | rfl
    rw [e]
    exact FSat.done pfT (fuel := 10) (hs := (hR 4 ((hB (hC (.bool (growth_within t_0.Shoots 0 100000))) false) :: (hR 5 [])))) (ss := []) (R := [(growth_toleranceIsDefined_r0 t_0), (growth_within t_0.Shoots 0 100000) = false]) (by kernel_rfl) ⟨growth_within_fc t_0.Shoots 0 100000, h1, trivial⟩ (by kernel_rfl)

/- greenhew/growth.promise -/
noncomputable abbrev growth_promise_i0 (b : XBox) (k : Int) (wrong : Int) (v9 : Int) : Hint := (hC (.tuple #[.agg #[I ((((growth_keep b k (⟨W (v9 - wrong), W (v9 + wrong)⟩ : XSpan)).1).Low).Age), I ((((growth_keep b k (⟨W (v9 - wrong), W (v9 + wrong)⟩ : XSpan)).1).Low).Shoots), I ((((growth_keep b k (⟨W (v9 - wrong), W (v9 + wrong)⟩ : XSpan)).1).Low).Height), I ((((growth_keep b k (⟨W (v9 - wrong), W (v9 + wrong)⟩ : XSpan)).1).Low).Girth), I ((((growth_keep b k (⟨W (v9 - wrong), W (v9 + wrong)⟩ : XSpan)).1).High).Age), I ((((growth_keep b k (⟨W (v9 - wrong), W (v9 + wrong)⟩ : XSpan)).1).High).Shoots), I ((((growth_keep b k (⟨W (v9 - wrong), W (v9 + wrong)⟩ : XSpan)).1).High).Height), I ((((growth_keep b k (⟨W (v9 - wrong), W (v9 + wrong)⟩ : XSpan)).1).High).Girth)], .bool ((growth_keep b k (⟨W (v9 - wrong), W (v9 + wrong)⟩ : XSpan)).2)]))
noncomputable abbrev growth_promise_i1 (b : XBox) (k : Int) (wrong : Int) (v9 : Int) : Hint := (hC (I (growth_wood (((growth_keep b k (⟨W (v9 - wrong), W (v9 + wrong)⟩ : XSpan)).1).High))))
noncomputable abbrev growth_promise_i2 (b : XBox) (k : Int) (wrong : Int) (v9 : Int) : Hint := (hC (I (growth_wood (((growth_keep b k (⟨W (v9 - wrong), W (v9 + wrong)⟩ : XSpan)).1).Low))))
abbrev growth_promise_r3 (b : XBox) (k : Int) (wrong : Int) (v9 : Int) : Prop := FC P GG 103 (A_growth_keep b k (⟨W (v9 - wrong), W (v9 + wrong)⟩ : XSpan)) [] (.tuple #[.agg #[I ((((growth_keep b k (⟨W (v9 - wrong), W (v9 + wrong)⟩ : XSpan)).1).Low).Age), I ((((growth_keep b k (⟨W (v9 - wrong), W (v9 + wrong)⟩ : XSpan)).1).Low).Shoots), I ((((growth_keep b k (⟨W (v9 - wrong), W (v9 + wrong)⟩ : XSpan)).1).Low).Height), I ((((growth_keep b k (⟨W (v9 - wrong), W (v9 + wrong)⟩ : XSpan)).1).Low).Girth), I ((((growth_keep b k (⟨W (v9 - wrong), W (v9 + wrong)⟩ : XSpan)).1).High).Age), I ((((growth_keep b k (⟨W (v9 - wrong), W (v9 + wrong)⟩ : XSpan)).1).High).Shoots), I ((((growth_keep b k (⟨W (v9 - wrong), W (v9 + wrong)⟩ : XSpan)).1).High).Height), I ((((growth_keep b k (⟨W (v9 - wrong), W (v9 + wrong)⟩ : XSpan)).1).High).Girth)], .bool ((growth_keep b k (⟨W (v9 - wrong), W (v9 + wrong)⟩ : XSpan)).2)])
abbrev growth_promise_r4 (b : XBox) (k : Int) (wrong : Int) (v9 : Int) : Prop := FC P GG 61 (A_growth_wood (((growth_keep b k (⟨W (v9 - wrong), W (v9 + wrong)⟩ : XSpan)).1).High)) [] (I (growth_wood (((growth_keep b k (⟨W (v9 - wrong), W (v9 + wrong)⟩ : XSpan)).1).High)))
abbrev growth_promise_r5 (b : XBox) (k : Int) (wrong : Int) (v9 : Int) : Prop := FC P GG 61 (A_growth_wood (((growth_keep b k (⟨W (v9 - wrong), W (v9 + wrong)⟩ : XSpan)).1).Low)) [] (I (growth_wood (((growth_keep b k (⟨W (v9 - wrong), W (v9 + wrong)⟩ : XSpan)).1).Low)))
theorem growth_promise_p6 (b : XBox) (k : Int) (wrong : Int) (v9 : Int) : (growth_promise_r3 b k wrong v9) := growth_keep_fc b k (⟨W (v9 - wrong), W (v9 + wrong)⟩ : XSpan)
theorem growth_promise_p7 (b : XBox) (k : Int) (wrong : Int) (v9 : Int) : (growth_promise_r4 b k wrong v9) := growth_wood_fc (((growth_keep b k (⟨W (v9 - wrong), W (v9 + wrong)⟩ : XSpan)).1).High)
theorem growth_promise_p8 (b : XBox) (k : Int) (wrong : Int) (v9 : Int) : (growth_promise_r5 b k wrong v9) := growth_wood_fc (((growth_keep b k (⟨W (v9 - wrong), W (v9 + wrong)⟩ : XSpan)).1).Low)
noncomputable abbrev growth_promise_i9 (b : XBox) (k : Int) : Hint := (hC (.agg #[I ((growth_spanOf b k).Low), I ((growth_spanOf b k).High)]))
abbrev growth_promise_r10 (b : XBox) (k : Int) : Prop := FC P GG 104 (A_growth_spanOf b k) [] (.agg #[I ((growth_spanOf b k).Low), I ((growth_spanOf b k).High)])
abbrev A_growth_promise (b : XBox) (k : Int) (wrong : Int) : List Value := [.agg #[I (b.Low.Age), I (b.Low.Shoots), I (b.Low.Height), I (b.Low.Girth), I (b.High.Age), I (b.High.Shoots), I (b.High.Height), I (b.High.Girth)], I (k), I (wrong)]
noncomputable def growth_promise_L (fu : Nat) (b : XBox) (k : Int) (wrong : Int) : Nat → (Int → Int → Option Int)
  | 0 => (fun _ _ => none)
  | fk + 1 => (fun v7 v9 => bif decide (v9 ≤ ((growth_spanOf b k).High)) then growth_promise_L fu b k wrong fk (imax v7 (W ((growth_wood (((growth_keep b k (⟨W (v9 - wrong), W (v9 + wrong)⟩ : XSpan)).1).High)) - (growth_wood (((growth_keep b k (⟨W (v9 - wrong), W (v9 + wrong)⟩ : XSpan)).1).Low))))) (W (v9 + 1))
      else some v7)
theorem growth_promise_L_s0 (fu : Nat) (b : XBox) (k : Int) (wrong : Int) (fk : Nat) (v7 : Int) (v9 : Int) : growth_promise_L fu b k wrong (fk + 1) v7 v9 = (bif decide (v9 ≤ ((growth_spanOf b k).High)) then growth_promise_L fu b k wrong fk (imax v7 (W ((growth_wood (((growth_keep b k (⟨W (v9 - wrong), W (v9 + wrong)⟩ : XSpan)).1).High)) - (growth_wood (((growth_keep b k (⟨W (v9 - wrong), W (v9 + wrong)⟩ : XSpan)).1).Low))))) (W (v9 + 1))
      else some v7) := rfl
noncomputable def growth_promise (fu : Nat) (b : XBox) (k : Int) (wrong : Int) : Option Int :=
  growth_promise_L fu b k wrong fu 0 ((growth_spanOf b k).Low)
theorem growth_promise_L_fs (fu : Nat) (b : XBox) (k : Int) (wrong : Int) : ∀ fk, (∀ (v7 : Int) (v9 : Int) (r : Int), growth_promise_L fu b k wrong fk v7 v9 = some r → FSat P GG Tryd.f91 (I (r)) (ids (looses [])) 46 [.lp (cA (bodyOf Tryd.f91) [1, 1, 1, 0, 1, 0, 0]), .blk 0, .code (cA (bodyOf Tryd.f91) [1, 1, 1, 1])] (tOf 46 [(1, I (k)), (2, I (wrong)), (3, .pointer (some ⟨100, 0, none⟩)), (6, I (0)), (7, I (v7)), (8, .pointer (some ⟨101, 0, none⟩)), (9, I (v9))]) (mOf 102 [(0, .rom [I (1), I (2), I (3)] .glob), (100, .row [I (b.Low.Age), I (b.Low.Shoots), I (b.Low.Height), I (b.Low.Girth), I (b.High.Age), I (b.High.Shoots), I (b.High.Height), I (b.High.Girth)] 0), (101, .row [I ((growth_spanOf b k).Low), I ((growth_spanOf b k).High)] 0)])) := by
  intro fk
  induction fk with
  | zero => exact fun _ _ r hh => by cases hh
  | succ fk ih =>
    · intro v7 v9 r hh
      rcases Bool.eq_false_or_eq_true (decide (v9 ≤ ((growth_spanOf b k).High))) with h1 | h1
      · skip
        have e : growth_promise_L fu b k wrong (fk + 1) v7 v9 = growth_promise_L fu b k wrong fk (imax v7 (W ((growth_wood (((growth_keep b k (⟨W (v9 - wrong), W (v9 + wrong)⟩ : XSpan)).1).High)) - (growth_wood (((growth_keep b k (⟨W (v9 - wrong), W (v9 + wrong)⟩ : XSpan)).1).Low))))) (W (v9 + 1)) := by rw [growth_promise_L_s0]; rw [h1, cond_true]; first | done | rfl
        rw [e] at hh
        have nx := ih (imax v7 (W ((growth_wood (((growth_keep b k (⟨W (v9 - wrong), W (v9 + wrong)⟩ : XSpan)).1).High)) - (growth_wood (((growth_keep b k (⟨W (v9 - wrong), W (v9 + wrong)⟩ : XSpan)).1).Low))))) (W (v9 + 1)) r hh
        refine FSat.stop pfT (fuel := 19) (hs := (hE :: hE :: hE :: hT :: (hR 9 ((growth_promise_i0 b k wrong v9) :: (hR 9 ((growth_promise_i1 b k wrong v9) :: hE :: hE :: (growth_promise_i2 b k wrong v9) :: (hR 6 []))))))) (ss := [.go, .st [1, 2, 3, 6, 7, 8, 9] [0, 100, 101]]) (R := [(decide (v9 ≤ ((growth_spanOf b k).High))) = true, (growth_promise_r3 b k wrong v9), (growth_promise_r4 b k wrong v9), (growth_promise_r5 b k wrong v9)]) (by kernel_rfl) ⟨h1, growth_promise_p6 b k wrong v9, growth_promise_p7 b k wrong v9, growth_promise_p8 b k wrong v9, trivial⟩ 102 (by kernel_rfl) ?_ nx
        exact ⟨PinL.lit (by kernel_rfl), PinL.lit (by kernel_rfl), PinL.lit (by kernel_rfl), trivial⟩
      · skip
        have e : growth_promise_L fu b k wrong (fk + 1) v7 v9 = some v7 := by rw [growth_promise_L_s0]; rw [h1, cond_false]; first | done | rfl
        rw [e] at hh
        have hr := Option.some.inj hh
        rw [← hr]
        exact FSat.done pfT (fuel := 14) (hs := [hE, hE, hE, hF, hE, hE]) (ss := [.go]) (R := [(decide (v9 ≤ ((growth_spanOf b k).High))) = false]) (by kernel_rfl) ⟨h1, trivial⟩ (by kernel_rfl)
theorem growth_promise_fc (fu : Nat) (b : XBox) (k : Int) (wrong : Int) (r : Int) (hh : growth_promise fu b k wrong = some r) : FC P GG 91 [.agg #[I (b.Low.Age), I (b.Low.Shoots), I (b.Low.Height), I (b.Low.Girth), I (b.High.Age), I (b.High.Shoots), I (b.High.Height), I (b.High.Girth)], I (k), I (wrong)] [] (I (r)) := by
  refine FC.of_fsat 46 100 Tryd.func91 (by kernel_rfl) (by kernel_rfl) (by kernel_rfl) trivial ?_
  have e : growth_promise fu b k wrong = growth_promise_L fu b k wrong fu 0 ((growth_spanOf b k).Low) := by unfold growth_promise; rfl
  rw [e] at hh
  have nx := growth_promise_L_fs fu b k wrong fu 0 ((growth_spanOf b k).Low) r hh
  refine FSat.stop pfT (fuel := 17) (hs := (hR 5 ((growth_promise_i9 b k) :: (hR 5 [])))) (ss := [.st [1, 2, 3, 6, 7, 8, 9] [0, 100, 101]]) (R := [(growth_promise_r10 b k)]) (by kernel_rfl) ⟨growth_spanOf_fc b k, trivial⟩ 102 (by kernel_rfl) ?_ nx
  exact ⟨PinL.lit (by kernel_rfl), PinL.lit (by kernel_rfl), PinL.lit (by kernel_rfl), trivial⟩

/- greenhew/growth.Ask -/
abbrev growth_Ask_r0 (b : XBox) : Prop := FC P GG 68 (A_growth_boxIsDefined b) [] (.bool (growth_boxIsDefined b))
abbrev growth_Ask_r1 (t_1 : XTolerance) : Prop := FC P GG 90 (A_growth_toleranceIsDefined t_1) [] (.bool (growth_toleranceIsDefined t_1))
abbrev A_growth_Ask (b : XBox) (t_1 : XTolerance) : List Value := [.agg #[I (b.Low.Age), I (b.Low.Shoots), I (b.Low.Height), I (b.Low.Girth), I (b.High.Age), I (b.High.Shoots), I (b.High.Height), I (b.High.Girth)], .agg #[I (t_1.Shoots), I (t_1.Height), I (t_1.Girth)]]
noncomputable def growth_Ask (fu : Nat) (b : XBox) (t_1 : XTolerance) : Option (Int × Int × Int) :=
  bif growth_boxIsDefined b then (bif growth_toleranceIsDefined t_1 then (Option.bind (growth_promise fu b 1 t_1.Shoots) fun x3 =>
      Option.bind (growth_promise fu b 2 t_1.Height) fun x4 =>
      bif decide (x4 < x3) then (Option.bind (growth_promise fu b 3 t_1.Girth) fun x6 =>
        bif decide (x6 < x4) then some (3, x6, 0)
        else some (2, x4, 0))
      else (Option.bind (growth_promise fu b 3 t_1.Girth) fun x6 =>
        bif decide (x6 < x3) then some (3, x6, 0)
        else some (1, x3, 0)))
    else some (0, 0, 2))
  else some (0, 0, 2)
theorem growth_Ask_fc (fu : Nat) (b : XBox) (t_1 : XTolerance) (r : Int × Int × Int) (hh : growth_Ask fu b t_1 = some r) : FC P GG 52 [.agg #[I (b.Low.Age), I (b.Low.Shoots), I (b.Low.Height), I (b.Low.Girth), I (b.High.Age), I (b.High.Shoots), I (b.High.Height), I (b.High.Girth)], .agg #[I (t_1.Shoots), I (t_1.Height), I (t_1.Girth)]] [] (.tuple #[I (r.1), I (r.2.1), I (r.2.2)]) := by
  refine FC.of_fsat 50 100 Tryd.func52 (by kernel_rfl) (by kernel_rfl) (by kernel_rfl) trivial ?_
  rcases Bool.eq_false_or_eq_true (growth_boxIsDefined b) with h1 | h1
  · skip
    rcases Bool.eq_false_or_eq_true (growth_toleranceIsDefined t_1) with h2 | h2
    · skip
      cases h3 : growth_promise fu b 1 t_1.Shoots with
      | none =>
        have e : growth_Ask fu b t_1 = none := by unfold growth_Ask; rw [h1, cond_true, h2, cond_true, h3, Option.bind_none]; first | done | rfl
        rw [e] at hh; cases hh
      | some x3 =>
        cases h4 : growth_promise fu b 2 t_1.Height with
        | none =>
          have e : growth_Ask fu b t_1 = none := by unfold growth_Ask; rw [h1, cond_true, h2, cond_true, h3, Option.bind_some, h4, Option.bind_none]; first | done | rfl
          rw [e] at hh; cases hh
        | some x4 =>
          rcases Bool.eq_false_or_eq_true (decide (x4 < x3)) with h5 | h5
          · skip
            cases h6 : growth_promise fu b 3 t_1.Girth with
            | none =>
              have e : growth_Ask fu b t_1 = none := by unfold growth_Ask; rw [h1, cond_true, h2, cond_true, h3, Option.bind_some, h4, Option.bind_some, h5, cond_true, h6, Option.bind_none]; first | done | rfl
              rw [e] at hh; cases hh
            | some x6 =>
              rcases Bool.eq_false_or_eq_true (decide (x6 < x4)) with h7 | h7
              · skip
                have e : growth_Ask fu b t_1 = some (3, x6, 0) := by unfold growth_Ask; rw [h1, cond_true, h2, cond_true, h3, Option.bind_some, h4, Option.bind_some, h5, cond_true, h6, Option.bind_some, h7, cond_true]; first | done | rfl
                rw [e] at hh
                have hr := Option.some.inj hh
                rw [← hr]
                exact FSat.done pfT (fuel := 84) (hs := (hR 6 ((hB (hC (.bool (growth_boxIsDefined b))) true) :: hE :: hE :: hE :: (hB (hC (.bool (growth_toleranceIsDefined t_1))) true) :: (hR 23 ((hC (I (x3))) :: (hR 19 ((hC (I (x4))) :: (hR 6 (hT :: (hR 15 ((hC (I (x6))) :: (hR 6 (hT :: (hR 13 [])))))))))))))) (ss := [.go, .go, .go, .go]) (R := [(growth_Ask_r0 b), (growth_boxIsDefined b) = true, (growth_Ask_r1 t_1), (growth_toleranceIsDefined t_1) = true, FC P GG 91 (A_growth_promise b 1 t_1.Shoots) [] (I (x3)), FC P GG 91 (A_growth_promise b 2 t_1.Height) [] (I (x4)), (decide (x4 < x3)) = true, FC P GG 91 (A_growth_promise b 3 t_1.Girth) [] (I (x6)), (decide (x6 < x4)) = true]) (by kernel_rfl) ⟨growth_boxIsDefined_fc b, h1, growth_toleranceIsDefined_fc t_1, h2, growth_promise_fc fu b 1 t_1.Shoots x3 h3, growth_promise_fc fu b 2 t_1.Height x4 h4, h5, growth_promise_fc fu b 3 t_1.Girth x6 h6, h7, trivial⟩ (by kernel_rfl)
              · skip
                have e : growth_Ask fu b t_1 = some (2, x4, 0) := by unfold growth_Ask; rw [h1, cond_true, h2, cond_true, h3, Option.bind_some, h4, Option.bind_some, h5, cond_true, h6, Option.bind_some, h7, cond_false]; first | done | rfl
                rw [e] at hh
                have hr := Option.some.inj hh
                rw [← hr]
                exact FSat.done pfT (fuel := 84) (hs := (hR 6 ((hB (hC (.bool (growth_boxIsDefined b))) true) :: hE :: hE :: hE :: (hB (hC (.bool (growth_toleranceIsDefined t_1))) true) :: (hR 23 ((hC (I (x3))) :: (hR 19 ((hC (I (x4))) :: (hR 6 (hT :: (hR 15 ((hC (I (x6))) :: (hR 6 (hF :: (hR 9 [])))))))))))))) (ss := [.go, .go, .go, .go]) (R := [(growth_Ask_r0 b), (growth_boxIsDefined b) = true, (growth_Ask_r1 t_1), (growth_toleranceIsDefined t_1) = true, FC P GG 91 (A_growth_promise b 1 t_1.Shoots) [] (I (x3)), FC P GG 91 (A_growth_promise b 2 t_1.Height) [] (I (x4)), (decide (x4 < x3)) = true, FC P GG 91 (A_growth_promise b 3 t_1.Girth) [] (I (x6)), (decide (x6 < x4)) = false]) (by kernel_rfl) ⟨growth_boxIsDefined_fc b, h1, growth_toleranceIsDefined_fc t_1, h2, growth_promise_fc fu b 1 t_1.Shoots x3 h3, growth_promise_fc fu b 2 t_1.Height x4 h4, h5, growth_promise_fc fu b 3 t_1.Girth x6 h6, h7, trivial⟩ (by kernel_rfl)
          · skip
            cases h6 : growth_promise fu b 3 t_1.Girth with
            | none =>
              have e : growth_Ask fu b t_1 = none := by unfold growth_Ask; rw [h1, cond_true, h2, cond_true, h3, Option.bind_some, h4, Option.bind_some, h5, cond_false, h6, Option.bind_none]; first | done | rfl
              rw [e] at hh; cases hh
            | some x6 =>
              rcases Bool.eq_false_or_eq_true (decide (x6 < x3)) with h7 | h7
              · skip
                have e : growth_Ask fu b t_1 = some (3, x6, 0) := by unfold growth_Ask; rw [h1, cond_true, h2, cond_true, h3, Option.bind_some, h4, Option.bind_some, h5, cond_false, h6, Option.bind_some, h7, cond_true]; first | done | rfl
                rw [e] at hh
                have hr := Option.some.inj hh
                rw [← hr]
                exact FSat.done pfT (fuel := 84) (hs := (hR 6 ((hB (hC (.bool (growth_boxIsDefined b))) true) :: hE :: hE :: hE :: (hB (hC (.bool (growth_toleranceIsDefined t_1))) true) :: (hR 23 ((hC (I (x3))) :: (hR 19 ((hC (I (x4))) :: (hR 6 (hF :: (hR 11 ((hC (I (x6))) :: (hR 6 (hT :: (hR 13 [])))))))))))))) (ss := [.go, .go, .go, .go]) (R := [(growth_Ask_r0 b), (growth_boxIsDefined b) = true, (growth_Ask_r1 t_1), (growth_toleranceIsDefined t_1) = true, FC P GG 91 (A_growth_promise b 1 t_1.Shoots) [] (I (x3)), FC P GG 91 (A_growth_promise b 2 t_1.Height) [] (I (x4)), (decide (x4 < x3)) = false, FC P GG 91 (A_growth_promise b 3 t_1.Girth) [] (I (x6)), (decide (x6 < x3)) = true]) (by kernel_rfl) ⟨growth_boxIsDefined_fc b, h1, growth_toleranceIsDefined_fc t_1, h2, growth_promise_fc fu b 1 t_1.Shoots x3 h3, growth_promise_fc fu b 2 t_1.Height x4 h4, h5, growth_promise_fc fu b 3 t_1.Girth x6 h6, h7, trivial⟩ (by kernel_rfl)
              · skip
                have e : growth_Ask fu b t_1 = some (1, x3, 0) := by unfold growth_Ask; rw [h1, cond_true, h2, cond_true, h3, Option.bind_some, h4, Option.bind_some, h5, cond_false, h6, Option.bind_some, h7, cond_false]; first | done | rfl
                rw [e] at hh
                have hr := Option.some.inj hh
                rw [← hr]
                exact FSat.done pfT (fuel := 84) (hs := (hR 6 ((hB (hC (.bool (growth_boxIsDefined b))) true) :: hE :: hE :: hE :: (hB (hC (.bool (growth_toleranceIsDefined t_1))) true) :: (hR 23 ((hC (I (x3))) :: (hR 19 ((hC (I (x4))) :: (hR 6 (hF :: (hR 11 ((hC (I (x6))) :: (hR 6 (hF :: (hR 9 [])))))))))))))) (ss := [.go, .go, .go, .go]) (R := [(growth_Ask_r0 b), (growth_boxIsDefined b) = true, (growth_Ask_r1 t_1), (growth_toleranceIsDefined t_1) = true, FC P GG 91 (A_growth_promise b 1 t_1.Shoots) [] (I (x3)), FC P GG 91 (A_growth_promise b 2 t_1.Height) [] (I (x4)), (decide (x4 < x3)) = false, FC P GG 91 (A_growth_promise b 3 t_1.Girth) [] (I (x6)), (decide (x6 < x3)) = false]) (by kernel_rfl) ⟨growth_boxIsDefined_fc b, h1, growth_toleranceIsDefined_fc t_1, h2, growth_promise_fc fu b 1 t_1.Shoots x3 h3, growth_promise_fc fu b 2 t_1.Height x4 h4, h5, growth_promise_fc fu b 3 t_1.Girth x6 h6, h7, trivial⟩ (by kernel_rfl)
    · skip
      have e : growth_Ask fu b t_1 = some (0, 0, 2) := by unfold growth_Ask; rw [h1, cond_true, h2, cond_false]; first | done | rfl
      rw [e] at hh
      have hr := Option.some.inj hh
      rw [← hr]
      exact FSat.done pfT (fuel := 14) (hs := (hR 6 ((hB (hC (.bool (growth_boxIsDefined b))) true) :: hE :: hE :: hE :: (hB (hC (.bool (growth_toleranceIsDefined t_1))) false) :: (hR 5 [])))) (ss := []) (R := [(growth_Ask_r0 b), (growth_boxIsDefined b) = true, (growth_Ask_r1 t_1), (growth_toleranceIsDefined t_1) = false]) (by kernel_rfl) ⟨growth_boxIsDefined_fc b, h1, growth_toleranceIsDefined_fc t_1, h2, trivial⟩ (by kernel_rfl)
  · skip
    have e : growth_Ask fu b t_1 = some (0, 0, 2) := by unfold growth_Ask; rw [h1, cond_false]; first | done | rfl
    rw [e] at hh
    have hr := Option.some.inj hh
    rw [← hr]
    exact FSat.done pfT (fuel := 14) (hs := (hR 6 ((hB (hC (.bool (growth_boxIsDefined b))) false) :: (hR 6 [])))) (ss := []) (R := [(growth_Ask_r0 b), (growth_boxIsDefined b) = false]) (by kernel_rfl) ⟨growth_boxIsDefined_fc b, h1, trivial⟩ (by kernel_rfl)

/- greenhew/greenhewlaw02.known -/
noncomputable abbrev law02_known_i0 (x1 : XStand × Int) : Hint := (hM (.tuple #[.agg #[I (x1.1.Age), I (x1.1.Shoots), I (x1.1.Height), I (x1.1.Girth)], I (x1.2)]) (.tuple #[.agg #[I (x1.1.Age), I (x1.1.Shoots), I (x1.1.Height), I (x1.1.Girth)], I (x1.2)]) (A_growth_Grow (⟨[1000, 500], [60, 40], 8000, 400, 20, 1500, [(⟨1000, 20⟩ : XRung), (⟨3000, 8⟩ : XRung)], [(⟨5, 10⟩ : XSpan), (⟨10, 30⟩ : XSpan)]⟩ : XSpecies) (⟨0, 30, 0, 0⟩ : XStand) (⟨100, 0, 100⟩ : XWeather) 2 2 2 2) (K_growth_Grow (⟨[1000, 500], [60, 40], 8000, 400, 20, 1500, [(⟨1000, 20⟩ : XRung), (⟨3000, 8⟩ : XRung)], [(⟨5, 10⟩ : XSpan), (⟨10, 30⟩ : XSpan)]⟩ : XSpecies)) [(10, 101, 0), (11, 102, 0), (12, 103, 0), (13, 104, 0)])
noncomputable abbrev law02_known_i1 (x2 : XBox × Int) : Hint := (hM (.tuple #[.agg #[I (x2.1.Low.Age), I (x2.1.Low.Shoots), I (x2.1.Low.Height), I (x2.1.Low.Girth), I (x2.1.High.Age), I (x2.1.High.Shoots), I (x2.1.High.Height), I (x2.1.High.Girth)], I (x2.2)]) (.tuple #[.agg #[I (x2.1.Low.Age), I (x2.1.Low.Shoots), I (x2.1.Low.Height), I (x2.1.Low.Girth), I (x2.1.High.Age), I (x2.1.High.Shoots), I (x2.1.High.Height), I (x2.1.High.Girth)], I (x2.2)]) (A_growth_Step (⟨[1000, 500], [60, 40], 8000, 400, 20, 1500, [(⟨1000, 20⟩ : XRung), (⟨3000, 8⟩ : XRung)], [(⟨5, 10⟩ : XSpan), (⟨10, 30⟩ : XSpan)]⟩ : XSpecies) (⟨(⟨0, 30, 0, 0⟩ : XStand), (⟨0, 30, 0, 0⟩ : XStand)⟩ : XBox) (⟨(⟨100, 100⟩ : XSpan), (⟨0, 50⟩ : XSpan), (⟨100, 150⟩ : XSpan), false⟩ : XSeason) 2 2 2 2) (K_growth_Step (⟨[1000, 500], [60, 40], 8000, 400, 20, 1500, [(⟨1000, 20⟩ : XRung), (⟨3000, 8⟩ : XRung)], [(⟨5, 10⟩ : XSpan), (⟨10, 30⟩ : XSpan)]⟩ : XSpecies)) [(10, 101, 0), (11, 102, 0), (12, 103, 0), (13, 104, 0)])
noncomputable abbrev law02_known_i2 (x2 : XBox × Int) : Hint := (hC (.tuple #[I ((growth_Woods x2.1).1), I ((growth_Woods x2.1).2.1), I ((growth_Woods x2.1).2.2)]))
abbrev law02_known_r3 (x1 : XStand × Int) : Prop := FC P GG 19 (A_growth_Grow (⟨[1000, 500], [60, 40], 8000, 400, 20, 1500, [(⟨1000, 20⟩ : XRung), (⟨3000, 8⟩ : XRung)], [(⟨5, 10⟩ : XSpan), (⟨10, 30⟩ : XSpan)]⟩ : XSpecies) (⟨0, 30, 0, 0⟩ : XStand) (⟨100, 0, 100⟩ : XWeather) 2 2 2 2) (K_growth_Grow (⟨[1000, 500], [60, 40], 8000, 400, 20, 1500, [(⟨1000, 20⟩ : XRung), (⟨3000, 8⟩ : XRung)], [(⟨5, 10⟩ : XSpan), (⟨10, 30⟩ : XSpan)]⟩ : XSpecies)) (.tuple #[.agg #[I (x1.1.Age), I (x1.1.Shoots), I (x1.1.Height), I (x1.1.Girth)], I (x1.2)])
abbrev law02_known_r4 : Prop := VRs (Ren.emb [(10, 101, 0), (11, 102, 0), (12, 103, 0), (13, 104, 0)]) (A_growth_Grow (⟨[1000, 500], [60, 40], 8000, 400, 20, 1500, [(⟨1000, 20⟩ : XRung), (⟨3000, 8⟩ : XRung)], [(⟨5, 10⟩ : XSpan), (⟨10, 30⟩ : XSpan)]⟩ : XSpecies) (⟨0, 30, 0, 0⟩ : XStand) (⟨100, 0, 100⟩ : XWeather) 2 2 2 2) [.agg #[.slice (some ⟨101, 0, none⟩) (2) (2), .slice (some ⟨102, 0, none⟩) (2) (2), I (8000), I (400), I (20), I (1500), .slice (some ⟨103, 0, none⟩) (2) (2), .slice (some ⟨104, 0, none⟩) (2) (2)], .agg #[I (0), I (30), I (0), I (0)], .agg #[I (100), I (0), I (100)]]
abbrev law02_known_r5 : Prop := MemAt (Ren.emb [(10, 101, 0), (11, 102, 0), (12, 103, 0), (13, 104, 0)]) (encL cInt ((⟨[1000, 500], [60, 40], 8000, 400, 20, 1500, [(⟨1000, 20⟩ : XRung), (⟨3000, 8⟩ : XRung)], [(⟨5, 10⟩ : XSpan), (⟨10, 30⟩ : XSpan)]⟩ : XSpecies).Rise)) 0 ([I (1000), I (500)]) ∧ MemAt (Ren.emb [(10, 101, 0), (11, 102, 0), (12, 103, 0), (13, 104, 0)]) (encL cInt ((⟨[1000, 500], [60, 40], 8000, 400, 20, 1500, [(⟨1000, 20⟩ : XRung), (⟨3000, 8⟩ : XRung)], [(⟨5, 10⟩ : XSpan), (⟨10, 30⟩ : XSpan)]⟩ : XSpecies).Thick)) 0 ([I (60), I (40)]) ∧ MemAt (Ren.emb [(10, 101, 0), (11, 102, 0), (12, 103, 0), (13, 104, 0)]) (encL cXRung ((⟨[1000, 500], [60, 40], 8000, 400, 20, 1500, [(⟨1000, 20⟩ : XRung), (⟨3000, 8⟩ : XRung)], [(⟨5, 10⟩ : XSpan), (⟨10, 30⟩ : XSpan)]⟩ : XSpecies).Ladder)) 0 ([I (1000), I (20), I (3000), I (8)]) ∧ MemAt (Ren.emb [(10, 101, 0), (11, 102, 0), (12, 103, 0), (13, 104, 0)]) (encL cXSpan ((⟨[1000, 500], [60, 40], 8000, 400, 20, 1500, [(⟨1000, 20⟩ : XRung), (⟨3000, 8⟩ : XRung)], [(⟨5, 10⟩ : XSpan), (⟨10, 30⟩ : XSpan)]⟩ : XSpecies).Sprouts)) 0 ([I (5), I (10), I (10), I (30)]) ∧ True
abbrev law02_known_r6 (x1 : XStand × Int) : Prop := VR (Ren.emb [(10, 101, 0), (11, 102, 0), (12, 103, 0), (13, 104, 0)]) (.tuple #[.agg #[I (x1.1.Age), I (x1.1.Shoots), I (x1.1.Height), I (x1.1.Girth)], I (x1.2)]) (.tuple #[.agg #[I (x1.1.Age), I (x1.1.Shoots), I (x1.1.Height), I (x1.1.Girth)], I (x1.2)])
abbrev law02_known_r7 (x2 : XBox × Int) : Prop := FC P GG 31 (A_growth_Step (⟨[1000, 500], [60, 40], 8000, 400, 20, 1500, [(⟨1000, 20⟩ : XRung), (⟨3000, 8⟩ : XRung)], [(⟨5, 10⟩ : XSpan), (⟨10, 30⟩ : XSpan)]⟩ : XSpecies) (⟨(⟨0, 30, 0, 0⟩ : XStand), (⟨0, 30, 0, 0⟩ : XStand)⟩ : XBox) (⟨(⟨100, 100⟩ : XSpan), (⟨0, 50⟩ : XSpan), (⟨100, 150⟩ : XSpan), false⟩ : XSeason) 2 2 2 2) (K_growth_Step (⟨[1000, 500], [60, 40], 8000, 400, 20, 1500, [(⟨1000, 20⟩ : XRung), (⟨3000, 8⟩ : XRung)], [(⟨5, 10⟩ : XSpan), (⟨10, 30⟩ : XSpan)]⟩ : XSpecies)) (.tuple #[.agg #[I (x2.1.Low.Age), I (x2.1.Low.Shoots), I (x2.1.Low.Height), I (x2.1.Low.Girth), I (x2.1.High.Age), I (x2.1.High.Shoots), I (x2.1.High.Height), I (x2.1.High.Girth)], I (x2.2)])
abbrev law02_known_r8 : Prop := VRs (Ren.emb [(10, 101, 0), (11, 102, 0), (12, 103, 0), (13, 104, 0)]) (A_growth_Step (⟨[1000, 500], [60, 40], 8000, 400, 20, 1500, [(⟨1000, 20⟩ : XRung), (⟨3000, 8⟩ : XRung)], [(⟨5, 10⟩ : XSpan), (⟨10, 30⟩ : XSpan)]⟩ : XSpecies) (⟨(⟨0, 30, 0, 0⟩ : XStand), (⟨0, 30, 0, 0⟩ : XStand)⟩ : XBox) (⟨(⟨100, 100⟩ : XSpan), (⟨0, 50⟩ : XSpan), (⟨100, 150⟩ : XSpan), false⟩ : XSeason) 2 2 2 2) [.agg #[.slice (some ⟨101, 0, none⟩) (2) (2), .slice (some ⟨102, 0, none⟩) (2) (2), I (8000), I (400), I (20), I (1500), .slice (some ⟨103, 0, none⟩) (2) (2), .slice (some ⟨104, 0, none⟩) (2) (2)], .agg #[I (0), I (30), I (0), I (0), I (0), I (30), I (0), I (0)], .agg #[I (100), I (100), I (0), I (50), I (100), I (150), .bool (false)]]
abbrev law02_known_r9 (x2 : XBox × Int) : Prop := VR (Ren.emb [(10, 101, 0), (11, 102, 0), (12, 103, 0), (13, 104, 0)]) (.tuple #[.agg #[I (x2.1.Low.Age), I (x2.1.Low.Shoots), I (x2.1.Low.Height), I (x2.1.Low.Girth), I (x2.1.High.Age), I (x2.1.High.Shoots), I (x2.1.High.Height), I (x2.1.High.Girth)], I (x2.2)]) (.tuple #[.agg #[I (x2.1.Low.Age), I (x2.1.Low.Shoots), I (x2.1.Low.Height), I (x2.1.Low.Girth), I (x2.1.High.Age), I (x2.1.High.Shoots), I (x2.1.High.Height), I (x2.1.High.Girth)], I (x2.2)])
abbrev law02_known_r10 (x2 : XBox × Int) : Prop := FC P GG 41 (A_growth_Woods x2.1) [] (.tuple #[I ((growth_Woods x2.1).1), I ((growth_Woods x2.1).2.1), I ((growth_Woods x2.1).2.2)])
abbrev law02_known_r11 (x3 : Int × Int × Int) : Prop := FC P GG 52 (A_growth_Ask (⟨(⟨4, 10, 3000, 150⟩ : XStand), (⟨4, 20, 5000, 250⟩ : XStand)⟩ : XBox) (⟨2, 500, 20⟩ : XTolerance)) [] (.tuple #[I (x3.1), I (x3.2.1), I (x3.2.2)])
theorem law02_known_p12 : law02_known_r4 := (.cons _ _ _ _ (.agg _ _ (.cons _ _ _ _ (.slc 10 0 _ _ _ ⟨101, 0, 0, 0⟩ rfl (.inl rfl)) (.cons _ _ _ _ (.slc 11 0 _ _ _ ⟨102, 0, 0, 0⟩ rfl (.inl rfl)) (.cons _ _ _ _ (VR.of_pf rfl) (.cons _ _ _ _ (VR.of_pf rfl) (.cons _ _ _ _ (VR.of_pf rfl) (.cons _ _ _ _ (VR.of_pf rfl) (.cons _ _ _ _ (.slc 12 0 _ _ _ ⟨103, 0, 0, 0⟩ rfl (.inl rfl)) (.cons _ _ _ _ (.slc 13 0 _ _ _ ⟨104, 0, 0, 0⟩ rfl (.inl rfl)) .nil))))))))) (.cons _ _ _ _ (VR.of_pf rfl) (.cons _ _ _ _ (VR.of_pf rfl) .nil)))
theorem law02_known_p13 : law02_known_r5 := ⟨MemAt.same _ (encL_pf cInt_pf _), MemAt.same _ (encL_pf cInt_pf _), MemAt.same _ (encL_pf cXRung_pf _), MemAt.same _ (encL_pf cXSpan_pf _), trivial⟩
theorem law02_known_p14 : law02_known_r8 := (.cons _ _ _ _ (.agg _ _ (.cons _ _ _ _ (.slc 10 0 _ _ _ ⟨101, 0, 0, 0⟩ rfl (.inl rfl)) (.cons _ _ _ _ (.slc 11 0 _ _ _ ⟨102, 0, 0, 0⟩ rfl (.inl rfl)) (.cons _ _ _ _ (VR.of_pf rfl) (.cons _ _ _ _ (VR.of_pf rfl) (.cons _ _ _ _ (VR.of_pf rfl) (.cons _ _ _ _ (VR.of_pf rfl) (.cons _ _ _ _ (.slc 12 0 _ _ _ ⟨103, 0, 0, 0⟩ rfl (.inl rfl)) (.cons _ _ _ _ (.slc 13 0 _ _ _ ⟨104, 0, 0, 0⟩ rfl (.inl rfl)) .nil))))))))) (.cons _ _ _ _ (VR.of_pf rfl) (.cons _ _ _ _ (VR.of_pf rfl) .nil)))
abbrev law02_known_r15 (x1 : XStand × Int) : Prop := (((x1.1.Age == 1) && ((x1.1.Shoots == 20) && ((x1.1.Height == 1000) && ((x1.1.Girth == 46) && true))))) = true
abbrev law02_known_r16 (x1 : XStand × Int) : Prop := (((x1.1.Age == 1) && ((x1.1.Shoots == 20) && ((x1.1.Height == 1000) && ((x1.1.Girth == 46) && true))))) = false
abbrev A_law02_known : List Value := []
noncomputable def law02_known (fu : Nat)  : Option Bool :=
  Option.bind (growth_Grow fu (⟨[1000, 500], [60, 40], 8000, 400, 20, 1500, [(⟨1000, 20⟩ : XRung), (⟨3000, 8⟩ : XRung)], [(⟨5, 10⟩ : XSpan), (⟨10, 30⟩ : XSpan)]⟩ : XSpecies) (⟨0, 30, 0, 0⟩ : XStand) (⟨100, 0, 100⟩ : XWeather)) fun x1 =>
  Option.bind (growth_Step fu (⟨[1000, 500], [60, 40], 8000, 400, 20, 1500, [(⟨1000, 20⟩ : XRung), (⟨3000, 8⟩ : XRung)], [(⟨5, 10⟩ : XSpan), (⟨10, 30⟩ : XSpan)]⟩ : XSpecies) (⟨(⟨0, 30, 0, 0⟩ : XStand), (⟨0, 30, 0, 0⟩ : XStand)⟩ : XBox) (⟨(⟨100, 100⟩ : XSpan), (⟨0, 50⟩ : XSpan), (⟨100, 150⟩ : XSpan), false⟩ : XSeason)) fun x2 =>
  Option.bind (growth_Ask fu (⟨(⟨4, 10, 3000, 150⟩ : XStand), (⟨4, 20, 5000, 250⟩ : XStand)⟩ : XBox) (⟨2, 500, 20⟩ : XTolerance)) fun x3 =>
  bif x1.2 != 0 then some false
  else (bif x2.2 != 0 then some false
    else (bif ((growth_Woods x2.1).2.2) != 0 then some false
      else (bif x3.2.2 != 0 then some false
        else (bif ((growth_Woods x2.1).1) != 0 then some false
          else (bif ((growth_Woods x2.1).2.1) != 8 then some false
            else (bif x3.1 != 3 then some false
              else (bif x3.2.1 != 198 then some false
                else (bif ((x1.1.Age == 1) && ((x1.1.Shoots == 20) && ((x1.1.Height == 1000) && ((x1.1.Girth == 46) && true)))) then some (((x2.1.Low.Age == 1) && ((x2.1.Low.Shoots == 20) && ((x2.1.Low.Height == 500) && ((x2.1.Low.Girth == 46) && true)))) && (((x2.1.High.Age == 1) && ((x2.1.High.Shoots == 30) && ((x2.1.High.Height == 1500) && ((x2.1.High.Girth == 69) && true)))) && true))
                  else some false))))))))
theorem law02_known_fc (fu : Nat)  (r : Bool) (hh : law02_known fu = some r) : FC P GG 18 [] [] (.bool (r)) := by
  refine FC.of_fsat 91 100 Tryd.func18 (by kernel_rfl) (by kernel_rfl) (by kernel_rfl) trivial ?_
  cases h1 : growth_Grow fu (⟨[1000, 500], [60, 40], 8000, 400, 20, 1500, [(⟨1000, 20⟩ : XRung), (⟨3000, 8⟩ : XRung)], [(⟨5, 10⟩ : XSpan), (⟨10, 30⟩ : XSpan)]⟩ : XSpecies) (⟨0, 30, 0, 0⟩ : XStand) (⟨100, 0, 100⟩ : XWeather) with
  | none =>
    have e : law02_known fu = none := by unfold law02_known; rw [h1, Option.bind_none]; first | done | rfl
    rw [e] at hh; cases hh
  | some x1 =>
    cases h2 : growth_Step fu (⟨[1000, 500], [60, 40], 8000, 400, 20, 1500, [(⟨1000, 20⟩ : XRung), (⟨3000, 8⟩ : XRung)], [(⟨5, 10⟩ : XSpan), (⟨10, 30⟩ : XSpan)]⟩ : XSpecies) (⟨(⟨0, 30, 0, 0⟩ : XStand), (⟨0, 30, 0, 0⟩ : XStand)⟩ : XBox) (⟨(⟨100, 100⟩ : XSpan), (⟨0, 50⟩ : XSpan), (⟨100, 150⟩ : XSpan), false⟩ : XSeason) with
    | none =>
      have e : law02_known fu = none := by unfold law02_known; rw [h1, Option.bind_some, h2, Option.bind_none]; first | done | rfl
      rw [e] at hh; cases hh
    | some x2 =>
      cases h3 : growth_Ask fu (⟨(⟨4, 10, 3000, 150⟩ : XStand), (⟨4, 20, 5000, 250⟩ : XStand)⟩ : XBox) (⟨2, 500, 20⟩ : XTolerance) with
      | none =>
        have e : law02_known fu = none := by unfold law02_known; rw [h1, Option.bind_some, h2, Option.bind_some, h3, Option.bind_none]; first | done | rfl
        rw [e] at hh; cases hh
      | some x3 =>
        rcases Bool.eq_false_or_eq_true (x1.2 != 0) with h4 | h4
        · skip
          have e : law02_known fu = some false := by unfold law02_known; rw [h1, Option.bind_some, h2, Option.bind_some, h3, Option.bind_some, h4, cond_true]; first | done | rfl
          rw [e] at hh
          have hr := Option.some.inj hh
          rw [← hr]
          exact FSat.done pfT (fuel := 28) (hs := (hR 10 ((law02_known_i0 x1) :: (hR 17 ((law02_known_i1 x2) :: (hR 7 ((law02_known_i2 x2) :: (hR 11 ((hC (.tuple #[I (x3.1), I (x3.2.1), I (x3.2.2)])) :: (hR 8 (hT :: (hR 15 [])))))))))))) (ss := []) (R := [(law02_known_r3 x1), law02_known_r4, law02_known_r5, (law02_known_r6 x1), (law02_known_r7 x2), law02_known_r8, law02_known_r5, (law02_known_r9 x2), (law02_known_r10 x2), (law02_known_r11 x3), (x1.2 != 0) = true]) (by kernel_rfl) ⟨growth_Grow_fc fu (⟨[1000, 500], [60, 40], 8000, 400, 20, 1500, [(⟨1000, 20⟩ : XRung), (⟨3000, 8⟩ : XRung)], [(⟨5, 10⟩ : XSpan), (⟨10, 30⟩ : XSpan)]⟩ : XSpecies) (⟨0, 30, 0, 0⟩ : XStand) (⟨100, 0, 100⟩ : XWeather) 2 2 2 2 x1 h1, law02_known_p12, law02_known_p13, selfB_self 9 _ rfl _, growth_Step_fc fu (⟨[1000, 500], [60, 40], 8000, 400, 20, 1500, [(⟨1000, 20⟩ : XRung), (⟨3000, 8⟩ : XRung)], [(⟨5, 10⟩ : XSpan), (⟨10, 30⟩ : XSpan)]⟩ : XSpecies) (⟨(⟨0, 30, 0, 0⟩ : XStand), (⟨0, 30, 0, 0⟩ : XStand)⟩ : XBox) (⟨(⟨100, 100⟩ : XSpan), (⟨0, 50⟩ : XSpan), (⟨100, 150⟩ : XSpan), false⟩ : XSeason) 2 2 2 2 x2 h2, law02_known_p14, law02_known_p13, selfB_self 9 _ rfl _, growth_Woods_fc x2.1, growth_Ask_fc fu (⟨(⟨4, 10, 3000, 150⟩ : XStand), (⟨4, 20, 5000, 250⟩ : XStand)⟩ : XBox) (⟨2, 500, 20⟩ : XTolerance) x3 h3, h4, trivial⟩ (by kernel_rfl)
        · skip
          rcases Bool.eq_false_or_eq_true (x2.2 != 0) with h5 | h5
          · skip
            have e : law02_known fu = some false := by unfold law02_known; rw [h1, Option.bind_some, h2, Option.bind_some, h3, Option.bind_some, h4, cond_false, h5, cond_true]; first | done | rfl
            rw [e] at hh
            have hr := Option.some.inj hh
            rw [← hr]
            exact FSat.done pfT (fuel := 28) (hs := (hR 10 ((law02_known_i0 x1) :: (hR 17 ((law02_known_i1 x2) :: (hR 7 ((law02_known_i2 x2) :: (hR 11 ((hC (.tuple #[I (x3.1), I (x3.2.1), I (x3.2.2)])) :: (hR 8 (hF :: hE :: hE :: hT :: (hR 14 [])))))))))))) (ss := []) (R := [(law02_known_r3 x1), law02_known_r4, law02_known_r5, (law02_known_r6 x1), (law02_known_r7 x2), law02_known_r8, law02_known_r5, (law02_known_r9 x2), (law02_known_r10 x2), (law02_known_r11 x3), (x1.2 != 0) = false, (x2.2 != 0) = true]) (by kernel_rfl) ⟨growth_Grow_fc fu (⟨[1000, 500], [60, 40], 8000, 400, 20, 1500, [(⟨1000, 20⟩ : XRung), (⟨3000, 8⟩ : XRung)], [(⟨5, 10⟩ : XSpan), (⟨10, 30⟩ : XSpan)]⟩ : XSpecies) (⟨0, 30, 0, 0⟩ : XStand) (⟨100, 0, 100⟩ : XWeather) 2 2 2 2 x1 h1, law02_known_p12, law02_known_p13, selfB_self 9 _ rfl _, growth_Step_fc fu (⟨[1000, 500], [60, 40], 8000, 400, 20, 1500, [(⟨1000, 20⟩ : XRung), (⟨3000, 8⟩ : XRung)], [(⟨5, 10⟩ : XSpan), (⟨10, 30⟩ : XSpan)]⟩ : XSpecies) (⟨(⟨0, 30, 0, 0⟩ : XStand), (⟨0, 30, 0, 0⟩ : XStand)⟩ : XBox) (⟨(⟨100, 100⟩ : XSpan), (⟨0, 50⟩ : XSpan), (⟨100, 150⟩ : XSpan), false⟩ : XSeason) 2 2 2 2 x2 h2, law02_known_p14, law02_known_p13, selfB_self 9 _ rfl _, growth_Woods_fc x2.1, growth_Ask_fc fu (⟨(⟨4, 10, 3000, 150⟩ : XStand), (⟨4, 20, 5000, 250⟩ : XStand)⟩ : XBox) (⟨2, 500, 20⟩ : XTolerance) x3 h3, h4, h5, trivial⟩ (by kernel_rfl)
          · skip
            rcases Bool.eq_false_or_eq_true (((growth_Woods x2.1).2.2) != 0) with h6 | h6
            · skip
              have e : law02_known fu = some false := by unfold law02_known; rw [h1, Option.bind_some, h2, Option.bind_some, h3, Option.bind_some, h4, cond_false, h5, cond_false, h6, cond_true]; first | done | rfl
              rw [e] at hh
              have hr := Option.some.inj hh
              rw [← hr]
              exact FSat.done pfT (fuel := 28) (hs := (hR 10 ((law02_known_i0 x1) :: (hR 17 ((law02_known_i1 x2) :: (hR 7 ((law02_known_i2 x2) :: (hR 11 ((hC (.tuple #[I (x3.1), I (x3.2.1), I (x3.2.2)])) :: (hR 8 (hF :: hE :: hE :: hF :: hE :: hE :: hE :: hT :: (hR 12 [])))))))))))) (ss := []) (R := [(law02_known_r3 x1), law02_known_r4, law02_known_r5, (law02_known_r6 x1), (law02_known_r7 x2), law02_known_r8, law02_known_r5, (law02_known_r9 x2), (law02_known_r10 x2), (law02_known_r11 x3), (x1.2 != 0) = false, (x2.2 != 0) = false, (((growth_Woods x2.1).2.2) != 0) = true]) (by kernel_rfl) ⟨growth_Grow_fc fu (⟨[1000, 500], [60, 40], 8000, 400, 20, 1500, [(⟨1000, 20⟩ : XRung), (⟨3000, 8⟩ : XRung)], [(⟨5, 10⟩ : XSpan), (⟨10, 30⟩ : XSpan)]⟩ : XSpecies) (⟨0, 30, 0, 0⟩ : XStand) (⟨100, 0, 100⟩ : XWeather) 2 2 2 2 x1 h1, law02_known_p12, law02_known_p13, selfB_self 9 _ rfl _, growth_Step_fc fu (⟨[1000, 500], [60, 40], 8000, 400, 20, 1500, [(⟨1000, 20⟩ : XRung), (⟨3000, 8⟩ : XRung)], [(⟨5, 10⟩ : XSpan), (⟨10, 30⟩ : XSpan)]⟩ : XSpecies) (⟨(⟨0, 30, 0, 0⟩ : XStand), (⟨0, 30, 0, 0⟩ : XStand)⟩ : XBox) (⟨(⟨100, 100⟩ : XSpan), (⟨0, 50⟩ : XSpan), (⟨100, 150⟩ : XSpan), false⟩ : XSeason) 2 2 2 2 x2 h2, law02_known_p14, law02_known_p13, selfB_self 9 _ rfl _, growth_Woods_fc x2.1, growth_Ask_fc fu (⟨(⟨4, 10, 3000, 150⟩ : XStand), (⟨4, 20, 5000, 250⟩ : XStand)⟩ : XBox) (⟨2, 500, 20⟩ : XTolerance) x3 h3, h4, h5, h6, trivial⟩ (by kernel_rfl)
            · skip
              rcases Bool.eq_false_or_eq_true (x3.2.2 != 0) with h7 | h7
              · skip
                have e : law02_known fu = some false := by unfold law02_known; rw [h1, Option.bind_some, h2, Option.bind_some, h3, Option.bind_some, h4, cond_false, h5, cond_false, h6, cond_false, h7, cond_true]; first | done | rfl
                rw [e] at hh
                have hr := Option.some.inj hh
                rw [← hr]
                exact FSat.done pfT (fuel := 28) (hs := (hR 10 ((law02_known_i0 x1) :: (hR 17 ((law02_known_i1 x2) :: (hR 7 ((law02_known_i2 x2) :: (hR 11 ((hC (.tuple #[I (x3.1), I (x3.2.1), I (x3.2.2)])) :: (hR 8 (hF :: hE :: hE :: hF :: hE :: hE :: hE :: hF :: hE :: hE :: hE :: hT :: (hR 10 [])))))))))))) (ss := []) (R := [(law02_known_r3 x1), law02_known_r4, law02_known_r5, (law02_known_r6 x1), (law02_known_r7 x2), law02_known_r8, law02_known_r5, (law02_known_r9 x2), (law02_known_r10 x2), (law02_known_r11 x3), (x1.2 != 0) = false, (x2.2 != 0) = false, (((growth_Woods x2.1).2.2) != 0) = false, (x3.2.2 != 0) = true]) (by kernel_rfl) ⟨growth_Grow_fc fu (⟨[1000, 500], [60, 40], 8000, 400, 20, 1500, [(⟨1000, 20⟩ : XRung), (⟨3000, 8⟩ : XRung)], [(⟨5, 10⟩ : XSpan), (⟨10, 30⟩ : XSpan)]⟩ : XSpecies) (⟨0, 30, 0, 0⟩ : XStand) (⟨100, 0, 100⟩ : XWeather) 2 2 2 2 x1 h1, law02_known_p12, law02_known_p13, selfB_self 9 _ rfl _, growth_Step_fc fu (⟨[1000, 500], [60, 40], 8000, 400, 20, 1500, [(⟨1000, 20⟩ : XRung), (⟨3000, 8⟩ : XRung)], [(⟨5, 10⟩ : XSpan), (⟨10, 30⟩ : XSpan)]⟩ : XSpecies) (⟨(⟨0, 30, 0, 0⟩ : XStand), (⟨0, 30, 0, 0⟩ : XStand)⟩ : XBox) (⟨(⟨100, 100⟩ : XSpan), (⟨0, 50⟩ : XSpan), (⟨100, 150⟩ : XSpan), false⟩ : XSeason) 2 2 2 2 x2 h2, law02_known_p14, law02_known_p13, selfB_self 9 _ rfl _, growth_Woods_fc x2.1, growth_Ask_fc fu (⟨(⟨4, 10, 3000, 150⟩ : XStand), (⟨4, 20, 5000, 250⟩ : XStand)⟩ : XBox) (⟨2, 500, 20⟩ : XTolerance) x3 h3, h4, h5, h6, h7, trivial⟩ (by kernel_rfl)
              · skip
                rcases Bool.eq_false_or_eq_true (((growth_Woods x2.1).1) != 0) with h8 | h8
                · skip
                  have e : law02_known fu = some false := by unfold law02_known; rw [h1, Option.bind_some, h2, Option.bind_some, h3, Option.bind_some, h4, cond_false, h5, cond_false, h6, cond_false, h7, cond_false, h8, cond_true]; first | done | rfl
                  rw [e] at hh
                  have hr := Option.some.inj hh
                  rw [← hr]
                  exact FSat.done pfT (fuel := 28) (hs := (hR 10 ((law02_known_i0 x1) :: (hR 17 ((law02_known_i1 x2) :: (hR 7 ((law02_known_i2 x2) :: (hR 11 ((hC (.tuple #[I (x3.1), I (x3.2.1), I (x3.2.2)])) :: (hR 8 (hF :: hE :: hE :: hF :: hE :: hE :: hE :: hF :: hE :: hE :: hE :: hF :: hE :: hE :: hE :: hT :: (hR 8 [])))))))))))) (ss := []) (R := [(law02_known_r3 x1), law02_known_r4, law02_known_r5, (law02_known_r6 x1), (law02_known_r7 x2), law02_known_r8, law02_known_r5, (law02_known_r9 x2), (law02_known_r10 x2), (law02_known_r11 x3), (x1.2 != 0) = false, (x2.2 != 0) = false, (((growth_Woods x2.1).2.2) != 0) = false, (x3.2.2 != 0) = false, (((growth_Woods x2.1).1) != 0) = true]) (by kernel_rfl) ⟨growth_Grow_fc fu (⟨[1000, 500], [60, 40], 8000, 400, 20, 1500, [(⟨1000, 20⟩ : XRung), (⟨3000, 8⟩ : XRung)], [(⟨5, 10⟩ : XSpan), (⟨10, 30⟩ : XSpan)]⟩ : XSpecies) (⟨0, 30, 0, 0⟩ : XStand) (⟨100, 0, 100⟩ : XWeather) 2 2 2 2 x1 h1, law02_known_p12, law02_known_p13, selfB_self 9 _ rfl _, growth_Step_fc fu (⟨[1000, 500], [60, 40], 8000, 400, 20, 1500, [(⟨1000, 20⟩ : XRung), (⟨3000, 8⟩ : XRung)], [(⟨5, 10⟩ : XSpan), (⟨10, 30⟩ : XSpan)]⟩ : XSpecies) (⟨(⟨0, 30, 0, 0⟩ : XStand), (⟨0, 30, 0, 0⟩ : XStand)⟩ : XBox) (⟨(⟨100, 100⟩ : XSpan), (⟨0, 50⟩ : XSpan), (⟨100, 150⟩ : XSpan), false⟩ : XSeason) 2 2 2 2 x2 h2, law02_known_p14, law02_known_p13, selfB_self 9 _ rfl _, growth_Woods_fc x2.1, growth_Ask_fc fu (⟨(⟨4, 10, 3000, 150⟩ : XStand), (⟨4, 20, 5000, 250⟩ : XStand)⟩ : XBox) (⟨2, 500, 20⟩ : XTolerance) x3 h3, h4, h5, h6, h7, h8, trivial⟩ (by kernel_rfl)
                · skip
                  rcases Bool.eq_false_or_eq_true (((growth_Woods x2.1).2.1) != 8) with h9 | h9
                  · skip
                    have e : law02_known fu = some false := by unfold law02_known; rw [h1, Option.bind_some, h2, Option.bind_some, h3, Option.bind_some, h4, cond_false, h5, cond_false, h6, cond_false, h7, cond_false, h8, cond_false, h9, cond_true]; first | done | rfl
                    rw [e] at hh
                    have hr := Option.some.inj hh
                    rw [← hr]
                    exact FSat.done pfT (fuel := 28) (hs := (hR 10 ((law02_known_i0 x1) :: (hR 17 ((law02_known_i1 x2) :: (hR 7 ((law02_known_i2 x2) :: (hR 11 ((hC (.tuple #[I (x3.1), I (x3.2.1), I (x3.2.2)])) :: (hR 8 (hF :: hE :: hE :: hF :: hE :: hE :: hE :: hF :: hE :: hE :: hE :: hF :: hE :: hE :: hE :: hF :: hE :: hE :: hE :: hT :: (hR 6 [])))))))))))) (ss := []) (R := [(law02_known_r3 x1), law02_known_r4, law02_known_r5, (law02_known_r6 x1), (law02_known_r7 x2), law02_known_r8, law02_known_r5, (law02_known_r9 x2), (law02_known_r10 x2), (law02_known_r11 x3), (x1.2 != 0) = false, (x2.2 != 0) = false, (((growth_Woods x2.1).2.2) != 0) = false, (x3.2.2 != 0) = false, (((growth_Woods x2.1).1) != 0) = false, (((growth_Woods x2.1).2.1) != 8) = true]) (by kernel_rfl) ⟨growth_Grow_fc fu (⟨[1000, 500], [60, 40], 8000, 400, 20, 1500, [(⟨1000, 20⟩ : XRung), (⟨3000, 8⟩ : XRung)], [(⟨5, 10⟩ : XSpan), (⟨10, 30⟩ : XSpan)]⟩ : XSpecies) (⟨0, 30, 0, 0⟩ : XStand) (⟨100, 0, 100⟩ : XWeather) 2 2 2 2 x1 h1, law02_known_p12, law02_known_p13, selfB_self 9 _ rfl _, growth_Step_fc fu (⟨[1000, 500], [60, 40], 8000, 400, 20, 1500, [(⟨1000, 20⟩ : XRung), (⟨3000, 8⟩ : XRung)], [(⟨5, 10⟩ : XSpan), (⟨10, 30⟩ : XSpan)]⟩ : XSpecies) (⟨(⟨0, 30, 0, 0⟩ : XStand), (⟨0, 30, 0, 0⟩ : XStand)⟩ : XBox) (⟨(⟨100, 100⟩ : XSpan), (⟨0, 50⟩ : XSpan), (⟨100, 150⟩ : XSpan), false⟩ : XSeason) 2 2 2 2 x2 h2, law02_known_p14, law02_known_p13, selfB_self 9 _ rfl _, growth_Woods_fc x2.1, growth_Ask_fc fu (⟨(⟨4, 10, 3000, 150⟩ : XStand), (⟨4, 20, 5000, 250⟩ : XStand)⟩ : XBox) (⟨2, 500, 20⟩ : XTolerance) x3 h3, h4, h5, h6, h7, h8, h9, trivial⟩ (by kernel_rfl)
                  · skip
                    rcases Bool.eq_false_or_eq_true (x3.1 != 3) with h10 | h10
                    · skip
                      have e : law02_known fu = some false := by unfold law02_known; rw [h1, Option.bind_some, h2, Option.bind_some, h3, Option.bind_some, h4, cond_false, h5, cond_false, h6, cond_false, h7, cond_false, h8, cond_false, h9, cond_false, h10, cond_true]; first | done | rfl
                      rw [e] at hh
                      have hr := Option.some.inj hh
                      rw [← hr]
                      exact FSat.done pfT (fuel := 28) (hs := (hR 10 ((law02_known_i0 x1) :: (hR 17 ((law02_known_i1 x2) :: (hR 7 ((law02_known_i2 x2) :: (hR 11 ((hC (.tuple #[I (x3.1), I (x3.2.1), I (x3.2.2)])) :: (hR 8 (hF :: hE :: hE :: hF :: hE :: hE :: hE :: hF :: hE :: hE :: hE :: hF :: hE :: hE :: hE :: hF :: hE :: hE :: hE :: hF :: hE :: hE :: hE :: hT :: (hR 4 [])))))))))))) (ss := []) (R := [(law02_known_r3 x1), law02_known_r4, law02_known_r5, (law02_known_r6 x1), (law02_known_r7 x2), law02_known_r8, law02_known_r5, (law02_known_r9 x2), (law02_known_r10 x2), (law02_known_r11 x3), (x1.2 != 0) = false, (x2.2 != 0) = false, (((growth_Woods x2.1).2.2) != 0) = false, (x3.2.2 != 0) = false, (((growth_Woods x2.1).1) != 0) = false, (((growth_Woods x2.1).2.1) != 8) = false, (x3.1 != 3) = true]) (by kernel_rfl) ⟨growth_Grow_fc fu (⟨[1000, 500], [60, 40], 8000, 400, 20, 1500, [(⟨1000, 20⟩ : XRung), (⟨3000, 8⟩ : XRung)], [(⟨5, 10⟩ : XSpan), (⟨10, 30⟩ : XSpan)]⟩ : XSpecies) (⟨0, 30, 0, 0⟩ : XStand) (⟨100, 0, 100⟩ : XWeather) 2 2 2 2 x1 h1, law02_known_p12, law02_known_p13, selfB_self 9 _ rfl _, growth_Step_fc fu (⟨[1000, 500], [60, 40], 8000, 400, 20, 1500, [(⟨1000, 20⟩ : XRung), (⟨3000, 8⟩ : XRung)], [(⟨5, 10⟩ : XSpan), (⟨10, 30⟩ : XSpan)]⟩ : XSpecies) (⟨(⟨0, 30, 0, 0⟩ : XStand), (⟨0, 30, 0, 0⟩ : XStand)⟩ : XBox) (⟨(⟨100, 100⟩ : XSpan), (⟨0, 50⟩ : XSpan), (⟨100, 150⟩ : XSpan), false⟩ : XSeason) 2 2 2 2 x2 h2, law02_known_p14, law02_known_p13, selfB_self 9 _ rfl _, growth_Woods_fc x2.1, growth_Ask_fc fu (⟨(⟨4, 10, 3000, 150⟩ : XStand), (⟨4, 20, 5000, 250⟩ : XStand)⟩ : XBox) (⟨2, 500, 20⟩ : XTolerance) x3 h3, h4, h5, h6, h7, h8, h9, h10, trivial⟩ (by kernel_rfl)
                    · skip
                      rcases Bool.eq_false_or_eq_true (x3.2.1 != 198) with h11 | h11
                      · skip
                        have e : law02_known fu = some false := by unfold law02_known; rw [h1, Option.bind_some, h2, Option.bind_some, h3, Option.bind_some, h4, cond_false, h5, cond_false, h6, cond_false, h7, cond_false, h8, cond_false, h9, cond_false, h10, cond_false, h11, cond_true]; first | done | rfl
                        rw [e] at hh
                        have hr := Option.some.inj hh
                        rw [← hr]
                        exact FSat.done pfT (fuel := 28) (hs := (hR 10 ((law02_known_i0 x1) :: (hR 17 ((law02_known_i1 x2) :: (hR 7 ((law02_known_i2 x2) :: (hR 11 ((hC (.tuple #[I (x3.1), I (x3.2.1), I (x3.2.2)])) :: (hR 8 [hF, hE, hE, hF, hE, hE, hE, hF, hE, hE, hE, hF, hE, hE, hE, hF, hE, hE, hE, hF, hE, hE, hE, hF, hE, hE, hE, hT, hE, hE])))))))))) (ss := []) (R := [(law02_known_r3 x1), law02_known_r4, law02_known_r5, (law02_known_r6 x1), (law02_known_r7 x2), law02_known_r8, law02_known_r5, (law02_known_r9 x2), (law02_known_r10 x2), (law02_known_r11 x3), (x1.2 != 0) = false, (x2.2 != 0) = false, (((growth_Woods x2.1).2.2) != 0) = false, (x3.2.2 != 0) = false, (((growth_Woods x2.1).1) != 0) = false, (((growth_Woods x2.1).2.1) != 8) = false, (x3.1 != 3) = false, (x3.2.1 != 198) = true]) (by kernel_rfl) ⟨growth_Grow_fc fu (⟨[1000, 500], [60, 40], 8000, 400, 20, 1500, [(⟨1000, 20⟩ : XRung), (⟨3000, 8⟩ : XRung)], [(⟨5, 10⟩ : XSpan), (⟨10, 30⟩ : XSpan)]⟩ : XSpecies) (⟨0, 30, 0, 0⟩ : XStand) (⟨100, 0, 100⟩ : XWeather) 2 2 2 2 x1 h1, law02_known_p12, law02_known_p13, selfB_self 9 _ rfl _, growth_Step_fc fu (⟨[1000, 500], [60, 40], 8000, 400, 20, 1500, [(⟨1000, 20⟩ : XRung), (⟨3000, 8⟩ : XRung)], [(⟨5, 10⟩ : XSpan), (⟨10, 30⟩ : XSpan)]⟩ : XSpecies) (⟨(⟨0, 30, 0, 0⟩ : XStand), (⟨0, 30, 0, 0⟩ : XStand)⟩ : XBox) (⟨(⟨100, 100⟩ : XSpan), (⟨0, 50⟩ : XSpan), (⟨100, 150⟩ : XSpan), false⟩ : XSeason) 2 2 2 2 x2 h2, law02_known_p14, law02_known_p13, selfB_self 9 _ rfl _, growth_Woods_fc x2.1, growth_Ask_fc fu (⟨(⟨4, 10, 3000, 150⟩ : XStand), (⟨4, 20, 5000, 250⟩ : XStand)⟩ : XBox) (⟨2, 500, 20⟩ : XTolerance) x3 h3, h4, h5, h6, h7, h8, h9, h10, h11, trivial⟩ (by kernel_rfl)
                      · skip
                        rcases Bool.eq_false_or_eq_true (((x1.1.Age == 1) && ((x1.1.Shoots == 20) && ((x1.1.Height == 1000) && ((x1.1.Girth == 46) && true))))) with h12 | h12
                        · skip
                          have e : law02_known fu = some (((x2.1.Low.Age == 1) && ((x2.1.Low.Shoots == 20) && ((x2.1.Low.Height == 500) && ((x2.1.Low.Girth == 46) && true)))) && (((x2.1.High.Age == 1) && ((x2.1.High.Shoots == 30) && ((x2.1.High.Height == 1500) && ((x2.1.High.Girth == 69) && true)))) && true)) := by unfold law02_known; rw [h1, Option.bind_some, h2, Option.bind_some, h3, Option.bind_some, h4, cond_false, h5, cond_false, h6, cond_false, h7, cond_false, h8, cond_false, h9, cond_false, h10, cond_false, h11, cond_false, h12, cond_true]; first | done | rfl
                          rw [e] at hh
                          have hr := Option.some.inj hh
                          rw [← hr]
                          exact FSat.done pfT (fuel := 29) (hs := (hR 10 ((law02_known_i0 x1) :: (hR 17 ((law02_known_i1 x2) :: (hR 7 ((law02_known_i2 x2) :: (hR 11 ((hC (.tuple #[I (x3.1), I (x3.2.1), I (x3.2.2)])) :: (hR 8 (hF :: hE :: hE :: hF :: hE :: hE :: hE :: hF :: hE :: hE :: hE :: hF :: hE :: hE :: hE :: hF :: hE :: hE :: hE :: hF :: hE :: hE :: hE :: hF :: hE :: hE :: hE :: hF :: hE :: hE :: hE :: (hB hQ true) :: (hR 5 [hQ, hE, hE])))))))))))) (ss := []) (R := [(law02_known_r3 x1), law02_known_r4, law02_known_r5, (law02_known_r6 x1), (law02_known_r7 x2), law02_known_r8, law02_known_r5, (law02_known_r9 x2), (law02_known_r10 x2), (law02_known_r11 x3), (x1.2 != 0) = false, (x2.2 != 0) = false, (((growth_Woods x2.1).2.2) != 0) = false, (x3.2.2 != 0) = false, (((growth_Woods x2.1).1) != 0) = false, (((growth_Woods x2.1).2.1) != 8) = false, (x3.1 != 3) = false, (x3.2.1 != 198) = false, (law02_known_r15 x1)]) (by kernel_rfl) ⟨growth_Grow_fc fu (⟨[1000, 500], [60, 40], 8000, 400, 20, 1500, [(⟨1000, 20⟩ : XRung), (⟨3000, 8⟩ : XRung)], [(⟨5, 10⟩ : XSpan), (⟨10, 30⟩ : XSpan)]⟩ : XSpecies) (⟨0, 30, 0, 0⟩ : XStand) (⟨100, 0, 100⟩ : XWeather) 2 2 2 2 x1 h1, law02_known_p12, law02_known_p13, selfB_self 9 _ rfl _, growth_Step_fc fu (⟨[1000, 500], [60, 40], 8000, 400, 20, 1500, [(⟨1000, 20⟩ : XRung), (⟨3000, 8⟩ : XRung)], [(⟨5, 10⟩ : XSpan), (⟨10, 30⟩ : XSpan)]⟩ : XSpecies) (⟨(⟨0, 30, 0, 0⟩ : XStand), (⟨0, 30, 0, 0⟩ : XStand)⟩ : XBox) (⟨(⟨100, 100⟩ : XSpan), (⟨0, 50⟩ : XSpan), (⟨100, 150⟩ : XSpan), false⟩ : XSeason) 2 2 2 2 x2 h2, law02_known_p14, law02_known_p13, selfB_self 9 _ rfl _, growth_Woods_fc x2.1, growth_Ask_fc fu (⟨(⟨4, 10, 3000, 150⟩ : XStand), (⟨4, 20, 5000, 250⟩ : XStand)⟩ : XBox) (⟨2, 500, 20⟩ : XTolerance) x3 h3, h4, h5, h6, h7, h8, h9, h10, h11, h12, trivial⟩ (by kernel_rfl)
                        · skip
                          have e : law02_known fu = some false := by unfold law02_known; rw [h1, Option.bind_some, h2, Option.bind_some, h3, Option.bind_some, h4, cond_false, h5, cond_false, h6, cond_false, h7, cond_false, h8, cond_false, h9, cond_false, h10, cond_false, h11, cond_false, h12, cond_false]; first | done | rfl
                          rw [e] at hh
                          have hr := Option.some.inj hh
                          rw [← hr]
                          exact FSat.done pfT (fuel := 29) (hs := (hR 10 ((law02_known_i0 x1) :: (hR 17 ((law02_known_i1 x2) :: (hR 7 ((law02_known_i2 x2) :: (hR 11 ((hC (.tuple #[I (x3.1), I (x3.2.1), I (x3.2.2)])) :: (hR 8 [hF, hE, hE, hF, hE, hE, hE, hF, hE, hE, hE, hF, hE, hE, hE, hF, hE, hE, hE, hF, hE, hE, hE, hF, hE, hE, hE, hF, hE, hE, hE, (hB hQ false), hE, hE, hE])))))))))) (ss := []) (R := [(law02_known_r3 x1), law02_known_r4, law02_known_r5, (law02_known_r6 x1), (law02_known_r7 x2), law02_known_r8, law02_known_r5, (law02_known_r9 x2), (law02_known_r10 x2), (law02_known_r11 x3), (x1.2 != 0) = false, (x2.2 != 0) = false, (((growth_Woods x2.1).2.2) != 0) = false, (x3.2.2 != 0) = false, (((growth_Woods x2.1).1) != 0) = false, (((growth_Woods x2.1).2.1) != 8) = false, (x3.1 != 3) = false, (x3.2.1 != 198) = false, (law02_known_r16 x1)]) (by kernel_rfl) ⟨growth_Grow_fc fu (⟨[1000, 500], [60, 40], 8000, 400, 20, 1500, [(⟨1000, 20⟩ : XRung), (⟨3000, 8⟩ : XRung)], [(⟨5, 10⟩ : XSpan), (⟨10, 30⟩ : XSpan)]⟩ : XSpecies) (⟨0, 30, 0, 0⟩ : XStand) (⟨100, 0, 100⟩ : XWeather) 2 2 2 2 x1 h1, law02_known_p12, law02_known_p13, selfB_self 9 _ rfl _, growth_Step_fc fu (⟨[1000, 500], [60, 40], 8000, 400, 20, 1500, [(⟨1000, 20⟩ : XRung), (⟨3000, 8⟩ : XRung)], [(⟨5, 10⟩ : XSpan), (⟨10, 30⟩ : XSpan)]⟩ : XSpecies) (⟨(⟨0, 30, 0, 0⟩ : XStand), (⟨0, 30, 0, 0⟩ : XStand)⟩ : XBox) (⟨(⟨100, 100⟩ : XSpan), (⟨0, 50⟩ : XSpan), (⟨100, 150⟩ : XSpan), false⟩ : XSeason) 2 2 2 2 x2 h2, law02_known_p14, law02_known_p13, selfB_self 9 _ rfl _, growth_Woods_fc x2.1, growth_Ask_fc fu (⟨(⟨4, 10, 3000, 150⟩ : XStand), (⟨4, 20, 5000, 250⟩ : XStand)⟩ : XBox) (⟨2, 500, 20⟩ : XTolerance) x3 h3, h4, h5, h6, h7, h8, h9, h10, h11, h12, trivial⟩ (by kernel_rfl)

end Go.Proofs.G2
