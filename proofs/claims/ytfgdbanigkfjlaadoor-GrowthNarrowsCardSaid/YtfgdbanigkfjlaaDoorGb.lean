/- Contracts of the functions that the law runs, part 2: made by a program, checked by the kernel. No conditions. -/
import Derived.Test.YtfgdbanigkfjlaaDoorGa
namespace Go.Proofs.G2
open Go.Sim Go.Proofs
set_option maxRecDepth 20000
set_option maxHeartbeats 1000000
/- greenhew/growth.Step -/
noncomputable abbrev z45i0 (s : XSpecies) (q10 q11 q12 q13 : Nat) (x1 : Bool) : Hint := (hB (hM (.bool (x1)) (.bool (x1)) (A_growth_speciesIsDefined s q10 q11 q12 q13) (K_growth_speciesIsDefined s) [(10, 10, 0), (11, 11, 0), (12, 12, 0), (13, 13, 0)]) true)
noncomputable abbrev z45i1 (s : XSpecies) (b : XBox) (q : XSeason) (q10 q11 q12 q13 : Nat) (x2 : XBox) : Hint := (hM (.agg #[I (x2.Low.Age), I (x2.Low.Shoots), I (x2.Low.Height), I (x2.Low.Girth), I (x2.High.Age), I (x2.High.Shoots), I (x2.High.Height), I (x2.High.Girth)]) (.agg #[I (x2.Low.Age), I (x2.Low.Shoots), I (x2.Low.Height), I (x2.Low.Girth), I (x2.High.Age), I (x2.High.Shoots), I (x2.High.Height), I (x2.High.Girth)]) (A_growth_grower_step b q) (K_growth_grower_step (⟨s⟩ : Xgrower) q10 q11 q12 q13) [(11, 10, 0), (12, 11, 0), (13, 12, 0), (14, 13, 0), (10, 104, 0)])
theorem z45p2 (s : XSpecies) (q10 q11 q12 q13 : Nat) : VRs (Ren.emb [(10, 10, 0), (11, 11, 0), (12, 12, 0), (13, 13, 0)]) (A_growth_speciesIsDefined s q10 q11 q12 q13) [.agg #[.slice (some ⟨10, 0, none⟩) (s.Rise.length) (q10), .slice (some ⟨11, 0, none⟩) (s.Thick.length) (q11), I (s.Top), I (s.Stout), I (s.Shade), I (s.Reach), .slice (some ⟨12, 0, none⟩) (s.Ladder.length) (q12), .slice (some ⟨13, 0, none⟩) (s.Sprouts.length) (q13)]] := (.cons _ _ _ _ (.agg _ _ (.cons _ _ _ _ (.slc 10 0 _ _ _ ⟨10, 0, 0, 0⟩ rfl (.inl rfl)) (.cons _ _ _ _ (.slc 11 0 _ _ _ ⟨11, 0, 0, 0⟩ rfl (.inl rfl)) (.cons _ _ _ _ (VR.of_pf rfl) (.cons _ _ _ _ (VR.of_pf rfl) (.cons _ _ _ _ (VR.of_pf rfl) (.cons _ _ _ _ (VR.of_pf rfl) (.cons _ _ _ _ (.slc 12 0 _ _ _ ⟨12, 0, 0, 0⟩ rfl (.inl rfl)) (.cons _ _ _ _ (.slc 13 0 _ _ _ ⟨13, 0, 0, 0⟩ rfl (.inl rfl)) .nil))))))))) .nil)
theorem z45p3 (s : XSpecies) : MemAt (Ren.emb [(10, 10, 0), (11, 11, 0), (12, 12, 0), (13, 13, 0)]) (encL cInt s.Rise) 0 (encL cInt s.Rise) ∧ MemAt (Ren.emb [(10, 10, 0), (11, 11, 0), (12, 12, 0), (13, 13, 0)]) (encL cInt s.Thick) 0 (encL cInt s.Thick) ∧ MemAt (Ren.emb [(10, 10, 0), (11, 11, 0), (12, 12, 0), (13, 13, 0)]) (encL cXRung s.Ladder) 0 (encL cXRung s.Ladder) ∧ MemAt (Ren.emb [(10, 10, 0), (11, 11, 0), (12, 12, 0), (13, 13, 0)]) (encL cXSpan s.Sprouts) 0 (encL cXSpan s.Sprouts) ∧ True := ⟨MemAt.same _ (encL_pf cInt_pf _), MemAt.same _ (encL_pf cInt_pf _), MemAt.same _ (encL_pf cXRung_pf _), MemAt.same _ (encL_pf cXSpan_pf _), trivial⟩
theorem z45p4 (b : XBox) (q : XSeason) : VRs (Ren.emb [(11, 10, 0), (12, 11, 0), (13, 12, 0), (14, 13, 0), (10, 104, 0)]) (A_growth_grower_step b q) [.pointer (some ⟨104, 0, none⟩), .agg #[I (b.Low.Age), I (b.Low.Shoots), I (b.Low.Height), I (b.Low.Girth), I (b.High.Age), I (b.High.Shoots), I (b.High.Height), I (b.High.Girth)], .agg #[I (q.Light.Low), I (q.Light.High), I (q.Browse.Low), I (q.Browse.High), I (q.Mild.Low), I (q.Mild.High), .bool (q.Cut)]] := (.cons _ _ _ _ (.ptr 10 0 ⟨104, 0, 0, 0⟩ rfl) (.cons _ _ _ _ (VR.of_pf rfl) (.cons _ _ _ _ (VR.of_pf rfl) .nil)))
theorem z45p5 (s : XSpecies) (q10 q11 q12 q13 : Nat) : MemAt (Ren.emb [(11, 10, 0), (12, 11, 0), (13, 12, 0), (14, 13, 0), (10, 104, 0)]) (encL cInt (((⟨s⟩ : Xgrower).Species).Rise)) 0 (encL cInt s.Rise) ∧ MemAt (Ren.emb [(11, 10, 0), (12, 11, 0), (13, 12, 0), (14, 13, 0), (10, 104, 0)]) (encL cInt (((⟨s⟩ : Xgrower).Species).Thick)) 0 (encL cInt s.Thick) ∧ MemAt (Ren.emb [(11, 10, 0), (12, 11, 0), (13, 12, 0), (14, 13, 0), (10, 104, 0)]) (encL cXRung (((⟨s⟩ : Xgrower).Species).Ladder)) 0 (encL cXRung s.Ladder) ∧ MemAt (Ren.emb [(11, 10, 0), (12, 11, 0), (13, 12, 0), (14, 13, 0), (10, 104, 0)]) (encL cXSpan (((⟨s⟩ : Xgrower).Species).Sprouts)) 0 (encL cXSpan s.Sprouts) ∧ MemAt (Ren.emb [(11, 10, 0), (12, 11, 0), (13, 12, 0), (14, 13, 0), (10, 104, 0)]) [.slice (some ⟨11, 0, none⟩) ((((⟨s⟩ : Xgrower).Species).Rise).length) (q10), .slice (some ⟨12, 0, none⟩) ((((⟨s⟩ : Xgrower).Species).Thick).length) (q11), I (((⟨s⟩ : Xgrower).Species).Top), I (((⟨s⟩ : Xgrower).Species).Stout), I (((⟨s⟩ : Xgrower).Species).Shade), I (((⟨s⟩ : Xgrower).Species).Reach), .slice (some ⟨13, 0, none⟩) ((((⟨s⟩ : Xgrower).Species).Ladder).length) (q12), .slice (some ⟨14, 0, none⟩) ((((⟨s⟩ : Xgrower).Species).Sprouts).length) (q13)] 0 [.slice (some ⟨10, 0, none⟩) (s.Rise.length) (q10), .slice (some ⟨11, 0, none⟩) (s.Thick.length) (q11), I (s.Top), I (s.Stout), I (s.Shade), I (s.Reach), .slice (some ⟨12, 0, none⟩) (s.Ladder.length) (q12), .slice (some ⟨13, 0, none⟩) (s.Sprouts.length) (q13)] ∧ True := ⟨MemAt.same _ (encL_pf cInt_pf _), MemAt.same _ (encL_pf cInt_pf _), MemAt.same _ (encL_pf cXRung_pf _), MemAt.same _ (encL_pf cXSpan_pf _), MemAt.of (.cons _ _ _ _ (.slc 11 0 _ _ _ ⟨10, 0, 0, 0⟩ rfl (.inl rfl)) (.cons _ _ _ _ (.slc 12 0 _ _ _ ⟨11, 0, 0, 0⟩ rfl (.inl rfl)) (.cons _ _ _ _ (VR.of_pf rfl) (.cons _ _ _ _ (VR.of_pf rfl) (.cons _ _ _ _ (VR.of_pf rfl) (.cons _ _ _ _ (VR.of_pf rfl) (.cons _ _ _ _ (.slc 13 0 _ _ _ ⟨12, 0, 0, 0⟩ rfl (.inl rfl)) (.cons _ _ _ _ (.slc 14 0 _ _ _ ⟨13, 0, 0, 0⟩ rfl (.inl rfl)) .nil)))))))), trivial⟩
abbrev z45r6 (x1 : Bool) : Prop := VR (Ren.emb [(10, 10, 0), (11, 11, 0), (12, 12, 0), (13, 13, 0)]) (.bool (x1)) (.bool (x1))
abbrev z45r7 (x2 : XBox) : Prop := VR (Ren.emb [(11, 10, 0), (12, 11, 0), (13, 12, 0), (14, 13, 0), (10, 104, 0)]) (.agg #[I (x2.Low.Age), I (x2.Low.Shoots), I (x2.Low.Height), I (x2.Low.Girth), I (x2.High.Age), I (x2.High.Shoots), I (x2.High.Height), I (x2.High.Girth)]) (.agg #[I (x2.Low.Age), I (x2.Low.Shoots), I (x2.Low.Height), I (x2.Low.Girth), I (x2.High.Age), I (x2.High.Shoots), I (x2.High.Height), I (x2.High.Girth)])
noncomputable abbrev z45i8 (s : XSpecies) (q10 q11 q12 q13 : Nat) (x1 : Bool) : Hint := (hB (hM (.bool (x1)) (.bool (x1)) (A_growth_speciesIsDefined s q10 q11 q12 q13) (K_growth_speciesIsDefined s) [(10, 10, 0), (11, 11, 0), (12, 12, 0), (13, 13, 0)]) false)
abbrev A_growth_Step (s : XSpecies) (b : XBox) (q : XSeason) (q10 q11 q12 q13 : Nat) : List Value := [.agg #[.slice (some ⟨10, 0, none⟩) (s.Rise.length) (q10), .slice (some ⟨11, 0, none⟩) (s.Thick.length) (q11), I (s.Top), I (s.Stout), I (s.Shade), I (s.Reach), .slice (some ⟨12, 0, none⟩) (s.Ladder.length) (q12), .slice (some ⟨13, 0, none⟩) (s.Sprouts.length) (q13)], .agg #[I (b.Low.Age), I (b.Low.Shoots), I (b.Low.Height), I (b.Low.Girth), I (b.High.Age), I (b.High.Shoots), I (b.High.Height), I (b.High.Girth)], .agg #[I (q.Light.Low), I (q.Light.High), I (q.Browse.Low), I (q.Browse.High), I (q.Mild.Low), I (q.Mild.High), .bool (q.Cut)]]
abbrev K_growth_Step (s : XSpecies) : List (Nat × List Value) := [(10, encL cInt s.Rise), (11, encL cInt s.Thick), (12, encL cXRung s.Ladder), (13, encL cXSpan s.Sprouts)]
noncomputable def growth_Step (fu : Nat) (s : XSpecies) (b : XBox) (q : XSeason) : Option (XBox × Int) :=
  Option.bind (growth_speciesIsDefined fu s) fun x1 =>
  bif x1 then (bif growth_boxIsDefined b then (bif growth_seasonIsDefined q then (Option.bind (growth_grower_step fu (⟨s⟩ : Xgrower) b q) fun x2 =>
        some (x2, 0))
      else some ((⟨(⟨0, 0, 0, 0⟩ : XStand), (⟨0, 0, 0, 0⟩ : XStand)⟩ : XBox), 2))
    else some ((⟨(⟨0, 0, 0, 0⟩ : XStand), (⟨0, 0, 0, 0⟩ : XStand)⟩ : XBox), 2))
  else some ((⟨(⟨0, 0, 0, 0⟩ : XStand), (⟨0, 0, 0, 0⟩ : XStand)⟩ : XBox), 2)
theorem growth_Step_fc (fu : Nat) (s : XSpecies) (b : XBox) (q : XSeason) (q10 q11 q12 q13 : Nat) (r : XBox × Int) (hh : growth_Step fu s b q = some r) : FC P GG 31 (A_growth_Step s b q q10 q11 q12 q13) (K_growth_Step s) (.tuple #[.agg #[I (r.1.Low.Age), I (r.1.Low.Shoots), I (r.1.Low.Height), I (r.1.Low.Girth), I (r.1.High.Age), I (r.1.High.Shoots), I (r.1.High.Height), I (r.1.High.Girth)], I (r.2)]) := by
  refine FC.of_fsat 28 100 Tryd.func31 (by kernel_rfl) (by kernel_rfl) (by kernel_rfl) ⟨PinL.pf (encL_pf cInt_pf _), PinL.pf (encL_pf cInt_pf _), PinL.pf (encL_pf cXRung_pf _), PinL.pf (encL_pf cXSpan_pf _), trivial⟩ ?_
  unfold growth_Step at hh
  cases h1 : growth_speciesIsDefined fu s with
  | none => rw [h1, oN] at hh; cases hh
  | some x1 =>
   rw [h1, oS] at hh
   rcases bb (x1) with h2 | h2
   ·rw [h2, cT] at hh
    rcases bb (growth_boxIsDefined b) with h3 | h3
    ·rw [h3, cT] at hh
     rcases bb (growth_seasonIsDefined q) with h4 | h4
     ·rw [h4, cT] at hh
      cases h5 : growth_grower_step fu (⟨s⟩ : Xgrower) b q with
      | none => rw [h5, oN] at hh; cases hh
      | some x2 =>
       rw [h5, oS] at hh
       rw [← sI hh]
       exact FSat.d pfT 17 (hR 6 ((z45i0 s q10 q11 q12 q13 x1) :: hE :: hE :: hE :: (hB (hC (.bool (growth_boxIsDefined b))) true) :: (hR 4 ((hB (hC (.bool (growth_seasonIsDefined q))) true) :: (hR 8 [(z45i1 s b q q10 q11 q12 q13 x2), hE, hE]))))) [] (pc (growth_speciesIsDefined_fc fu s q10 q11 q12 q13 x1 h1) <| pc (z45p2 s q10 q11 q12 q13) <| pc (z45p3 s) <| pt (z45r6 x1) (selfB_self 9 _ rfl _) <| pc h2 <| pc (growth_boxIsDefined_fc b) <| pc h3 <| pc (growth_seasonIsDefined_fc q) <| pc h4 <| pc (growth_grower_step_fc fu (⟨s⟩ : Xgrower) b q q10 q11 q12 q13 x2 h5) <| pc (z45p4 b q) <| pc (z45p5 s q10 q11 q12 q13) <| pt (z45r7 x2) (selfB_self 9 _ rfl _) <| pn) (by kernel_rfl) (by kernel_rfl)
     ·rw [h4, cF] at hh
      rw [← sI hh]
      exact FSat.d pfT 14 (hR 6 ((z45i0 s q10 q11 q12 q13 x1) :: hE :: hE :: hE :: (hB (hC (.bool (growth_boxIsDefined b))) true) :: (hR 4 ((hB (hC (.bool (growth_seasonIsDefined q))) false) :: (hR 5 []))))) [] (pc (growth_speciesIsDefined_fc fu s q10 q11 q12 q13 x1 h1) <| pc (z45p2 s q10 q11 q12 q13) <| pc (z45p3 s) <| pt (z45r6 x1) (selfB_self 9 _ rfl _) <| pc h2 <| pc (growth_boxIsDefined_fc b) <| pc h3 <| pc (growth_seasonIsDefined_fc q) <| pc h4 <| pn) (by kernel_rfl) (by kernel_rfl)
    ·rw [h3, cF] at hh
     rw [← sI hh]
     exact FSat.d pfT 14 (hR 6 ((z45i0 s q10 q11 q12 q13 x1) :: hE :: hE :: hE :: (hB (hC (.bool (growth_boxIsDefined b))) false) :: (hR 7 []))) [] (pc (growth_speciesIsDefined_fc fu s q10 q11 q12 q13 x1 h1) <| pc (z45p2 s q10 q11 q12 q13) <| pc (z45p3 s) <| pt (z45r6 x1) (selfB_self 9 _ rfl _) <| pc h2 <| pc (growth_boxIsDefined_fc b) <| pc h3 <| pn) (by kernel_rfl) (by kernel_rfl)
   ·rw [h2, cF] at hh
    rw [← sI hh]
    exact FSat.d pfT 14 (hR 6 ((z45i8 s q10 q11 q12 q13 x1) :: (hR 8 []))) [] (pc (growth_speciesIsDefined_fc fu s q10 q11 q12 q13 x1 h1) <| pc (z45p2 s q10 q11 q12 q13) <| pc (z45p3 s) <| pt (z45r6 x1) (selfB_self 9 _ rfl _) <| pc h2 <| pn) (by kernel_rfl) (by kernel_rfl)

/- greenhew/growth.wood -/
abbrev A_growth_wood (x_0 : XStand) : List Value := [.agg #[I (x_0.Age), I (x_0.Shoots), I (x_0.Height), I (x_0.Girth)]]
noncomputable def growth_wood (x_0 : XStand) : Int :=
  W ((W ((W ((W (x_0.Shoots * x_0.Height)) * x_0.Girth)) * x_0.Girth)).tdiv 25000000)
theorem growth_wood_fc (x_0 : XStand) : FC P GG 61 (A_growth_wood x_0) [] (I (growth_wood x_0)) := by
  refine FC.of_fsat 15 100 Tryd.func61 (by kernel_rfl) (by kernel_rfl) (by kernel_rfl) trivial ?_
  have e : growth_wood x_0 = W ((W ((W ((W (x_0.Shoots * x_0.Height)) * x_0.Girth)) * x_0.Girth)).tdiv 25000000) := by unfold growth_wood; rfl
  rw [e]
  exact FSat.d pfT 10 (hR 15 []) [] (pn) (by kernel_rfl) (by kernel_rfl)

/- greenhew/growth.Woods -/
abbrev A_growth_Woods (b : XBox) : List Value := [.agg #[I (b.Low.Age), I (b.Low.Shoots), I (b.Low.Height), I (b.Low.Girth), I (b.High.Age), I (b.High.Shoots), I (b.High.Height), I (b.High.Girth)]]
noncomputable def growth_Woods (b : XBox) : Int × Int × Int :=
  bif growth_boxIsDefined b then (growth_wood b.Low, growth_wood b.High, 0)
  else (0, 0, 2)
theorem growth_Woods_fc (b : XBox) : FC P GG 41 (A_growth_Woods b) [] (.tuple #[I ((growth_Woods b).1), I ((growth_Woods b).2.1), I ((growth_Woods b).2.2)]) := by
  refine FC.of_fsat 14 100 Tryd.func41 (by kernel_rfl) (by kernel_rfl) (by kernel_rfl) trivial ?_
  rcases bb (growth_boxIsDefined b) with h1 | h1
  ·have e : growth_Woods b = (growth_wood b.Low, growth_wood b.High, 0) := by unfold growth_Woods; rw [h1, cT]; first | done | rfl
   rw [e]
   exact FSat.d pfT 15 (hR 5 [(hB (hC (.bool (growth_boxIsDefined b))) true), hE, hE, hE, (hC (I (growth_wood b.Low))), hE, hE, (hC (I (growth_wood b.High))), hE, hE, hE]) [] (pc (growth_boxIsDefined_fc b) <| pc h1 <| pc (growth_wood_fc b.Low) <| pc (growth_wood_fc b.High) <| pn) (by kernel_rfl) (by kernel_rfl)
  ·have e : growth_Woods b = (0, 0, 2) := by unfold growth_Woods; rw [h1, cF]; first | done | rfl
   rw [e]
   exact FSat.d pfT 14 (hR 5 ((hB (hC (.bool (growth_boxIsDefined b))) false) :: (hR 4 []))) [] (pc (growth_boxIsDefined_fc b) <| pc h1 <| pn) (by kernel_rfl) (by kernel_rfl)

structure XTolerance where
  Shoots : Int
  Height : Int
  Girth : Int

def zXTolerance : XTolerance := ⟨0, 0, 0⟩

/- greenhew/growth.toleranceIsDefined -/
abbrev A_growth_toleranceIsDefined (t_0 : XTolerance) : List Value := [.agg #[I (t_0.Shoots), I (t_0.Height), I (t_0.Girth)]]
noncomputable def growth_toleranceIsDefined (t_0 : XTolerance) : Bool :=
  bif growth_within t_0.Shoots 0 100000 then (bif growth_within t_0.Height 0 100000 then growth_within t_0.Girth 0 100000
    else false)
  else false
theorem growth_toleranceIsDefined_fc (t_0 : XTolerance) : FC P GG 90 (A_growth_toleranceIsDefined t_0) [] (.bool (growth_toleranceIsDefined t_0)) := by
  refine FC.of_fsat 16 100 Tryd.func90 (by kernel_rfl) (by kernel_rfl) (by kernel_rfl) trivial ?_
  rcases bb (growth_within t_0.Shoots 0 100000) with h1 | h1
  ·rcases bb (growth_within t_0.Height 0 100000) with h2 | h2
   ·have e : growth_toleranceIsDefined t_0 = growth_within t_0.Girth 0 100000 := by unfold growth_toleranceIsDefined; rw [h1, cT, h2, cT]; first | done | rfl
    rw [e]
    exact FSat.d pfT 10 (hR 4 ((hB (hC (.bool (growth_within t_0.Shoots 0 100000))) true) :: hE :: hE :: hE :: (hB (hC (.bool (growth_within t_0.Height 0 100000))) true) :: (hR 4 [(hC (.bool (growth_within t_0.Girth 0 100000))), hE, hE]))) [] (pc (growth_within_fc t_0.Shoots 0 100000) <| pc h1 <| pc (growth_within_fc t_0.Height 0 100000) <| pc h2 <| pc (growth_within_fc t_0.Girth 0 100000) <| pn) (by kernel_rfl) (by kernel_rfl)
   ·have e : growth_toleranceIsDefined t_0 = false := by unfold growth_toleranceIsDefined; rw [h1, cT, h2, cF]; first | done | rfl
    rw [e]
    exact FSat.d pfT 10 (hR 4 ((hB (hC (.bool (growth_within t_0.Shoots 0 100000))) true) :: hE :: hE :: hE :: (hB (hC (.bool (growth_within t_0.Height 0 100000))) false) :: (hR 4 []))) [] (pc (growth_within_fc t_0.Shoots 0 100000) <| pc h1 <| pc (growth_within_fc t_0.Height 0 100000) <| pc h2 <| pn) (by kernel_rfl) (by kernel_rfl)
  ·have e : growth_toleranceIsDefined t_0 = false := by unfold growth_toleranceIsDefined; rw [h1, cF]; first | done | rfl
   rw [e]
   exact FSat.d pfT 10 (hR 4 ((hB (hC (.bool (growth_within t_0.Shoots 0 100000))) false) :: (hR 5 []))) [] (pc (growth_within_fc t_0.Shoots 0 100000) <| pc h1 <| pn) (by kernel_rfl) (by kernel_rfl)

/- greenhew/growth.spanOf -/
noncomputable abbrev z56i0 (b : XBox) (k : Int) : Hint := (hM (.pointer (some ⟨10, 1, none⟩)) (.pointer (some ⟨100, 1, none⟩)) (A_growth_number k) (K_growth_number b.Low) [(10, 100, 0)])
noncomputable abbrev z56i1 (b : XBox) (k : Int) : Hint := (hM (.pointer (some ⟨10, 1, none⟩)) (.pointer (some ⟨100, 5, none⟩)) (A_growth_number k) (K_growth_number b.High) [(10, 100, 4)])
theorem z56p2 (k : Int) : VRs (Ren.emb [(10, 100, 0)]) (A_growth_number k) [.pointer (some ⟨100, 0, none⟩), I (k)] := (.cons _ _ _ _ (.ptr 10 0 ⟨100, 0, 0, 0⟩ rfl) (.cons _ _ _ _ (VR.of_pf rfl) .nil))
theorem z56p3 (b : XBox) : MemAt (Ren.emb [(10, 100, 0)]) [I (b.Low.Age), I (b.Low.Shoots), I (b.Low.Height), I (b.Low.Girth)] 0 [I (b.Low.Age), I (b.Low.Shoots), I (b.Low.Height), I (b.Low.Girth), I (b.High.Age), I (b.High.Shoots), I (b.High.Height), I (b.High.Girth)] ∧ True := ⟨MemAt.of (.cons _ _ _ _ (VR.of_pf rfl) (.cons _ _ _ _ (VR.of_pf rfl) (.cons _ _ _ _ (VR.of_pf rfl) (.cons _ _ _ _ (VR.of_pf rfl) .nil)))), trivial⟩
theorem z56p4 (k : Int) : VRs (Ren.emb [(10, 100, 4)]) (A_growth_number k) [.pointer (some ⟨100, 4, none⟩), I (k)] := (.cons _ _ _ _ (.ptr 10 0 ⟨100, 4, 0, 0⟩ rfl) (.cons _ _ _ _ (VR.of_pf rfl) .nil))
theorem z56p5 (b : XBox) : MemAt (Ren.emb [(10, 100, 4)]) [I (b.High.Age), I (b.High.Shoots), I (b.High.Height), I (b.High.Girth)] 4 [I (b.Low.Age), I (b.Low.Shoots), I (b.Low.Height), I (b.Low.Girth), I (b.High.Age), I (b.High.Shoots), I (b.High.Height), I (b.High.Girth)] ∧ True := ⟨MemAt.of (.cons _ _ _ _ (VR.of_pf rfl) (.cons _ _ _ _ (VR.of_pf rfl) (.cons _ _ _ _ (VR.of_pf rfl) (.cons _ _ _ _ (VR.of_pf rfl) .nil)))), trivial⟩
abbrev z56r6 (b : XBox) (k : Int) : Prop := FC P GG 100 (A_growth_number k) (K_growth_number b.Low) (.pointer (some ⟨10, 1, none⟩))
abbrev z56r7 : Prop := VR (Ren.emb [(10, 100, 0)]) (.pointer (some ⟨10, 1, none⟩)) (.pointer (some ⟨100, 1, none⟩))
abbrev z56r8 (b : XBox) (k : Int) : Prop := FC P GG 100 (A_growth_number k) (K_growth_number b.High) (.pointer (some ⟨10, 1, none⟩))
abbrev z56r9 : Prop := VR (Ren.emb [(10, 100, 4)]) (.pointer (some ⟨10, 1, none⟩)) (.pointer (some ⟨100, 5, none⟩))
noncomputable abbrev z56i10 (b : XBox) (k : Int) : Hint := (hM (.pointer (some ⟨10, 2, none⟩)) (.pointer (some ⟨100, 2, none⟩)) (A_growth_number k) (K_growth_number b.Low) [(10, 100, 0)])
noncomputable abbrev z56i11 (b : XBox) (k : Int) : Hint := (hM (.pointer (some ⟨10, 2, none⟩)) (.pointer (some ⟨100, 6, none⟩)) (A_growth_number k) (K_growth_number b.High) [(10, 100, 4)])
abbrev z56r12 (b : XBox) (k : Int) : Prop := FC P GG 100 (A_growth_number k) (K_growth_number b.Low) (.pointer (some ⟨10, 2, none⟩))
abbrev z56r13 : Prop := VR (Ren.emb [(10, 100, 0)]) (.pointer (some ⟨10, 2, none⟩)) (.pointer (some ⟨100, 2, none⟩))
abbrev z56r14 (b : XBox) (k : Int) : Prop := FC P GG 100 (A_growth_number k) (K_growth_number b.High) (.pointer (some ⟨10, 2, none⟩))
abbrev z56r15 : Prop := VR (Ren.emb [(10, 100, 4)]) (.pointer (some ⟨10, 2, none⟩)) (.pointer (some ⟨100, 6, none⟩))
noncomputable abbrev z56i16 (b : XBox) (k : Int) : Hint := (hM (.pointer (some ⟨10, 3, none⟩)) (.pointer (some ⟨100, 3, none⟩)) (A_growth_number k) (K_growth_number b.Low) [(10, 100, 0)])
noncomputable abbrev z56i17 (b : XBox) (k : Int) : Hint := (hM (.pointer (some ⟨10, 3, none⟩)) (.pointer (some ⟨100, 7, none⟩)) (A_growth_number k) (K_growth_number b.High) [(10, 100, 4)])
abbrev z56r18 (b : XBox) (k : Int) : Prop := FC P GG 100 (A_growth_number k) (K_growth_number b.Low) (.pointer (some ⟨10, 3, none⟩))
abbrev z56r19 : Prop := VR (Ren.emb [(10, 100, 0)]) (.pointer (some ⟨10, 3, none⟩)) (.pointer (some ⟨100, 3, none⟩))
abbrev z56r20 (b : XBox) (k : Int) : Prop := FC P GG 100 (A_growth_number k) (K_growth_number b.High) (.pointer (some ⟨10, 3, none⟩))
abbrev z56r21 : Prop := VR (Ren.emb [(10, 100, 4)]) (.pointer (some ⟨10, 3, none⟩)) (.pointer (some ⟨100, 7, none⟩))
abbrev A_growth_spanOf (b : XBox) (k : Int) : List Value := [.agg #[I (b.Low.Age), I (b.Low.Shoots), I (b.Low.Height), I (b.Low.Girth), I (b.High.Age), I (b.High.Shoots), I (b.High.Height), I (b.High.Girth)], I (k)]
noncomputable def growth_spanOf (b : XBox) (k : Int) : XSpan :=
  bif k == 1 then (⟨b.Low.Shoots, b.High.Shoots⟩ : XSpan)
  else (bif k == 2 then (⟨b.Low.Height, b.High.Height⟩ : XSpan)
    else (⟨b.Low.Girth, b.High.Girth⟩ : XSpan))
theorem growth_spanOf_fc (b : XBox) (k : Int) : FC P GG 104 (A_growth_spanOf b k) [] (.agg #[I ((growth_spanOf b k).Low), I ((growth_spanOf b k).High)]) := by
  refine FC.of_fsat 16 100 Tryd.func104 (by kernel_rfl) (by kernel_rfl) (by kernel_rfl) trivial ?_
  rcases bb (k == 1) with h1 | h1
  ·have e : growth_spanOf b k = (⟨b.Low.Shoots, b.High.Shoots⟩ : XSpan) := by unfold growth_spanOf; rw [h1, cT]; first | done | rfl
   rw [e]
   exact FSat.d pfT 10 (hR 4 ((z56i0 b k) :: (hR 4 ((z56i1 b k) :: (hR 4 []))))) [] (pt (z56r6 b k) (growth_number_fc_1 b.Low k h1) <| pc (z56p2 k) <| pc (z56p3 b) <| pt z56r7 (.ptr 10 1 ⟨100, 0, 0, 0⟩ rfl) <| pt (z56r8 b k) (growth_number_fc_1 b.High k h1) <| pc (z56p4 k) <| pc (z56p5 b) <| pt z56r9 (.ptr 10 1 ⟨100, 4, 0, 0⟩ rfl) <| pn) (by kernel_rfl) (by kernel_rfl)
  ·rcases bb (k == 2) with h2 | h2
   ·have e : growth_spanOf b k = (⟨b.Low.Height, b.High.Height⟩ : XSpan) := by unfold growth_spanOf; rw [h1, cF, h2, cT]; first | done | rfl
    rw [e]
    exact FSat.d pfT 10 (hR 4 ((z56i10 b k) :: (hR 4 ((z56i11 b k) :: (hR 4 []))))) [] (pt (z56r12 b k) (growth_number_fc_2 b.Low k h1 h2) <| pc (z56p2 k) <| pc (z56p3 b) <| pt z56r13 (.ptr 10 2 ⟨100, 0, 0, 0⟩ rfl) <| pt (z56r14 b k) (growth_number_fc_2 b.High k h1 h2) <| pc (z56p4 k) <| pc (z56p5 b) <| pt z56r15 (.ptr 10 2 ⟨100, 4, 0, 0⟩ rfl) <| pn) (by kernel_rfl) (by kernel_rfl)
   ·have e : growth_spanOf b k = (⟨b.Low.Girth, b.High.Girth⟩ : XSpan) := by unfold growth_spanOf; rw [h1, cF, h2, cF]; first | done | rfl
    rw [e]
    exact FSat.d pfT 10 (hR 4 ((z56i16 b k) :: (hR 4 ((z56i17 b k) :: (hR 4 []))))) [] (pt (z56r18 b k) (growth_number_fc_3 b.Low k h1 h2) <| pc (z56p2 k) <| pc (z56p3 b) <| pt z56r19 (.ptr 10 3 ⟨100, 0, 0, 0⟩ rfl) <| pt (z56r20 b k) (growth_number_fc_3 b.High k h1 h2) <| pc (z56p4 k) <| pc (z56p5 b) <| pt z56r21 (.ptr 10 3 ⟨100, 4, 0, 0⟩ rfl) <| pn) (by kernel_rfl) (by kernel_rfl)

/- greenhew/growth.promise -/
noncomputable abbrev z55i0 (b : XBox) (k wrong v9 : Int) : Hint := (hC (.tuple #[.agg #[I ((((growth_keep b k (⟨W (v9 - wrong), W (v9 + wrong)⟩ : XSpan)).1).Low).Age), I ((((growth_keep b k (⟨W (v9 - wrong), W (v9 + wrong)⟩ : XSpan)).1).Low).Shoots), I ((((growth_keep b k (⟨W (v9 - wrong), W (v9 + wrong)⟩ : XSpan)).1).Low).Height), I ((((growth_keep b k (⟨W (v9 - wrong), W (v9 + wrong)⟩ : XSpan)).1).Low).Girth), I ((((growth_keep b k (⟨W (v9 - wrong), W (v9 + wrong)⟩ : XSpan)).1).High).Age), I ((((growth_keep b k (⟨W (v9 - wrong), W (v9 + wrong)⟩ : XSpan)).1).High).Shoots), I ((((growth_keep b k (⟨W (v9 - wrong), W (v9 + wrong)⟩ : XSpan)).1).High).Height), I ((((growth_keep b k (⟨W (v9 - wrong), W (v9 + wrong)⟩ : XSpan)).1).High).Girth)], .bool ((growth_keep b k (⟨W (v9 - wrong), W (v9 + wrong)⟩ : XSpan)).2)]))
noncomputable abbrev z55i1 (b : XBox) (k wrong v9 : Int) : Hint := (hC (I (growth_wood (((growth_keep b k (⟨W (v9 - wrong), W (v9 + wrong)⟩ : XSpan)).1).High))))
noncomputable abbrev z55i2 (b : XBox) (k wrong v9 : Int) : Hint := (hC (I (growth_wood (((growth_keep b k (⟨W (v9 - wrong), W (v9 + wrong)⟩ : XSpan)).1).Low))))
theorem z55p3 (b : XBox) (k wrong v9 : Int) : FC P GG 103 (A_growth_keep b k (⟨W (v9 - wrong), W (v9 + wrong)⟩ : XSpan)) [] (.tuple #[.agg #[I ((((growth_keep b k (⟨W (v9 - wrong), W (v9 + wrong)⟩ : XSpan)).1).Low).Age), I ((((growth_keep b k (⟨W (v9 - wrong), W (v9 + wrong)⟩ : XSpan)).1).Low).Shoots), I ((((growth_keep b k (⟨W (v9 - wrong), W (v9 + wrong)⟩ : XSpan)).1).Low).Height), I ((((growth_keep b k (⟨W (v9 - wrong), W (v9 + wrong)⟩ : XSpan)).1).Low).Girth), I ((((growth_keep b k (⟨W (v9 - wrong), W (v9 + wrong)⟩ : XSpan)).1).High).Age), I ((((growth_keep b k (⟨W (v9 - wrong), W (v9 + wrong)⟩ : XSpan)).1).High).Shoots), I ((((growth_keep b k (⟨W (v9 - wrong), W (v9 + wrong)⟩ : XSpan)).1).High).Height), I ((((growth_keep b k (⟨W (v9 - wrong), W (v9 + wrong)⟩ : XSpan)).1).High).Girth)], .bool ((growth_keep b k (⟨W (v9 - wrong), W (v9 + wrong)⟩ : XSpan)).2)]) := growth_keep_fc b k (⟨W (v9 - wrong), W (v9 + wrong)⟩ : XSpan)
theorem z55p4 (b : XBox) (k wrong v9 : Int) : FC P GG 61 (A_growth_wood (((growth_keep b k (⟨W (v9 - wrong), W (v9 + wrong)⟩ : XSpan)).1).High)) [] (I (growth_wood (((growth_keep b k (⟨W (v9 - wrong), W (v9 + wrong)⟩ : XSpan)).1).High))) := growth_wood_fc (((growth_keep b k (⟨W (v9 - wrong), W (v9 + wrong)⟩ : XSpan)).1).High)
theorem z55p5 (b : XBox) (k wrong v9 : Int) : FC P GG 61 (A_growth_wood (((growth_keep b k (⟨W (v9 - wrong), W (v9 + wrong)⟩ : XSpan)).1).Low)) [] (I (growth_wood (((growth_keep b k (⟨W (v9 - wrong), W (v9 + wrong)⟩ : XSpan)).1).Low))) := growth_wood_fc (((growth_keep b k (⟨W (v9 - wrong), W (v9 + wrong)⟩ : XSpan)).1).Low)
noncomputable abbrev z55i6 (b : XBox) (k : Int) : Hint := (hC (.agg #[I ((growth_spanOf b k).Low), I ((growth_spanOf b k).High)]))
abbrev A_growth_promise (b : XBox) (k wrong : Int) : List Value := [.agg #[I (b.Low.Age), I (b.Low.Shoots), I (b.Low.Height), I (b.Low.Girth), I (b.High.Age), I (b.High.Shoots), I (b.High.Height), I (b.High.Girth)], I (k), I (wrong)]
noncomputable def growth_promise_L (fu : Nat) (b : XBox) (k wrong : Int) : Nat → (Int → Int → Option Int)
  | 0 => (fun _ _ => none)
  | fk + 1 => (fun v7 v9 => bif decide (v9 ≤ ((growth_spanOf b k).High)) then growth_promise_L fu b k wrong fk (imax v7 (W ((growth_wood (((growth_keep b k (⟨W (v9 - wrong), W (v9 + wrong)⟩ : XSpan)).1).High)) - (growth_wood (((growth_keep b k (⟨W (v9 - wrong), W (v9 + wrong)⟩ : XSpan)).1).Low))))) (W (v9 + 1))
      else some v7)
theorem growth_promise_L_s0 (fu : Nat) (b : XBox) (k wrong : Int) (fk : Nat) (v7 v9 : Int) : growth_promise_L fu b k wrong (fk + 1) v7 v9 = (bif decide (v9 ≤ ((growth_spanOf b k).High)) then growth_promise_L fu b k wrong fk (imax v7 (W ((growth_wood (((growth_keep b k (⟨W (v9 - wrong), W (v9 + wrong)⟩ : XSpan)).1).High)) - (growth_wood (((growth_keep b k (⟨W (v9 - wrong), W (v9 + wrong)⟩ : XSpan)).1).Low))))) (W (v9 + 1))
      else some v7) := rfl
noncomputable def growth_promise (fu : Nat) (b : XBox) (k wrong : Int) : Option Int :=
  growth_promise_L fu b k wrong fu 0 ((growth_spanOf b k).Low)
theorem growth_promise_L_fs (fu : Nat) (b : XBox) (k wrong : Int) : ∀ fk, (∀ (v7 v9 r : Int), growth_promise_L fu b k wrong fk v7 v9 = some r → FSat P GG Tryd.f91 (I (r)) (ids (looses [])) 46 [.lp (cA (bodyOf Tryd.f91) [1, 1, 1, 0, 1, 0, 0]), .blk 0, .code (cA (bodyOf Tryd.f91) [1, 1, 1, 1])] (tOf 46 [(1, I (k)), (2, I (wrong)), (3, .pointer (some ⟨100, 0, none⟩)), (6, I (0)), (7, I (v7)), (8, .pointer (some ⟨101, 0, none⟩)), (9, I (v9))]) (mOf 102 [(0, .rom [I (1), I (2), I (3)] .glob), (100, .row [I (b.Low.Age), I (b.Low.Shoots), I (b.Low.Height), I (b.Low.Girth), I (b.High.Age), I (b.High.Shoots), I (b.High.Height), I (b.High.Girth)] 0), (101, .row [I ((growth_spanOf b k).Low), I ((growth_spanOf b k).High)] 0)])) := by
  intro fk
  induction fk with
  | zero => exact fun _ _ r hh => by cases hh
  | succ fk ih =>
    · intro v7 v9 r hh
      rw [growth_promise_L_s0] at hh
      rcases bb (decide (v9 ≤ ((growth_spanOf b k).High))) with h1 | h1
      ·rw [h1, cT] at hh
       have nx := ih (imax v7 (W ((growth_wood (((growth_keep b k (⟨W (v9 - wrong), W (v9 + wrong)⟩ : XSpan)).1).High)) - (growth_wood (((growth_keep b k (⟨W (v9 - wrong), W (v9 + wrong)⟩ : XSpan)).1).Low))))) (W (v9 + 1)) r hh
       refine FSat.s pfT 19 (hE :: hE :: hE :: hT :: (hR 9 ((z55i0 b k wrong v9) :: (hR 9 ((z55i1 b k wrong v9) :: hE :: hE :: (z55i2 b k wrong v9) :: (hR 6 [])))))) [.go, .st [1, 2, 3, 6, 7, 8, 9] [0, 100, 101]] (pc h1 <| pc (z55p3 b k wrong v9) <| pc (z55p4 b k wrong v9) <| pc (z55p5 b k wrong v9) <| pn) (by kernel_rfl) 102 (by kernel_rfl) ?_ nx
       exact ⟨PinL.lit (by kernel_rfl), PinL.lit (by kernel_rfl), PinL.lit (by kernel_rfl), trivial⟩
      ·rw [h1, cF] at hh
       rw [← sI hh]
       exact FSat.d pfT 14 [hE, hE, hE, hF, hE, hE] [.go] (pc h1 <| pn) (by kernel_rfl) (by kernel_rfl)
theorem growth_promise_fc (fu : Nat) (b : XBox) (k wrong r : Int) (hh : growth_promise fu b k wrong = some r) : FC P GG 91 (A_growth_promise b k wrong) [] (I (r)) := by
  refine FC.of_fsat 46 100 Tryd.func91 (by kernel_rfl) (by kernel_rfl) (by kernel_rfl) trivial ?_
  unfold growth_promise at hh
  have nx := growth_promise_L_fs fu b k wrong fu 0 ((growth_spanOf b k).Low) r hh
  refine FSat.s pfT 17 (hR 5 ((z55i6 b k) :: (hR 5 []))) [.st [1, 2, 3, 6, 7, 8, 9] [0, 100, 101]] (pc (growth_spanOf_fc b k) <| pn) (by kernel_rfl) 102 (by kernel_rfl) ?_ nx
  exact ⟨PinL.lit (by kernel_rfl), PinL.lit (by kernel_rfl), PinL.lit (by kernel_rfl), trivial⟩

/- greenhew/growth.Ask -/
abbrev A_growth_Ask (b : XBox) (t_1 : XTolerance) : List Value := [.agg #[I (b.Low.Age), I (b.Low.Shoots), I (b.Low.Height), I (b.Low.Girth), I (b.High.Age), I (b.High.Shoots), I (b.High.Height), I (b.High.Girth)], .agg #[I (t_1.Shoots), I (t_1.Height), I (t_1.Girth)]]
noncomputable def growth_Ask (fu : Nat) (b : XBox) (t_1 : XTolerance) : Option (Int × Int × Int) :=
  bif growth_boxIsDefined b then (bif growth_toleranceIsDefined t_1 then (Option.bind (growth_promise fu b 1 t_1.Shoots) fun x1 =>
      Option.bind (growth_promise fu b 2 t_1.Height) fun x2 =>
      bif decide (x2 < x1) then (Option.bind (growth_promise fu b 3 t_1.Girth) fun x3 =>
        bif decide (x3 < x2) then some (3, x3, 0)
        else some (2, x2, 0))
      else (Option.bind (growth_promise fu b 3 t_1.Girth) fun x3 =>
        bif decide (x3 < x1) then some (3, x3, 0)
        else some (1, x1, 0)))
    else some (0, 0, 2))
  else some (0, 0, 2)
theorem growth_Ask_fc (fu : Nat) (b : XBox) (t_1 : XTolerance) (r : Int × Int × Int) (hh : growth_Ask fu b t_1 = some r) : FC P GG 52 (A_growth_Ask b t_1) [] (.tuple #[I (r.1), I (r.2.1), I (r.2.2)]) := by
  refine FC.of_fsat 50 100 Tryd.func52 (by kernel_rfl) (by kernel_rfl) (by kernel_rfl) trivial ?_
  unfold growth_Ask at hh
  rcases bb (growth_boxIsDefined b) with h1 | h1
  ·rw [h1, cT] at hh
   rcases bb (growth_toleranceIsDefined t_1) with h2 | h2
   ·rw [h2, cT] at hh
    cases h3 : growth_promise fu b 1 t_1.Shoots with
    | none => rw [h3, oN] at hh; cases hh
    | some x1 =>
     rw [h3, oS] at hh
     cases h4 : growth_promise fu b 2 t_1.Height with
     | none => rw [h4, oN] at hh; cases hh
     | some x2 =>
      rw [h4, oS] at hh
      rcases bb (decide (x2 < x1)) with h5 | h5
      ·rw [h5, cT] at hh
       cases h6 : growth_promise fu b 3 t_1.Girth with
       | none => rw [h6, oN] at hh; cases hh
       | some x3 =>
        rw [h6, oS] at hh
        rcases bb (decide (x3 < x2)) with h7 | h7
        ·rw [h7, cT] at hh
         rw [← sI hh]
         exact FSat.d pfT 84 (hR 6 ((hB (hC (.bool (growth_boxIsDefined b))) true) :: hE :: hE :: hE :: (hB (hC (.bool (growth_toleranceIsDefined t_1))) true) :: (hR 23 ((hC (I (x1))) :: (hR 19 ((hC (I (x2))) :: (hR 6 (hT :: (hR 15 ((hC (I (x3))) :: (hR 6 (hT :: (hR 13 []))))))))))))) [.go, .go, .go, .go] (pc (growth_boxIsDefined_fc b) <| pc h1 <| pc (growth_toleranceIsDefined_fc t_1) <| pc h2 <| pc (growth_promise_fc fu b 1 t_1.Shoots x1 h3) <| pc (growth_promise_fc fu b 2 t_1.Height x2 h4) <| pc h5 <| pc (growth_promise_fc fu b 3 t_1.Girth x3 h6) <| pc h7 <| pn) (by kernel_rfl) (by kernel_rfl)
        ·rw [h7, cF] at hh
         rw [← sI hh]
         exact FSat.d pfT 84 (hR 6 ((hB (hC (.bool (growth_boxIsDefined b))) true) :: hE :: hE :: hE :: (hB (hC (.bool (growth_toleranceIsDefined t_1))) true) :: (hR 23 ((hC (I (x1))) :: (hR 19 ((hC (I (x2))) :: (hR 6 (hT :: (hR 15 ((hC (I (x3))) :: (hR 6 (hF :: (hR 9 []))))))))))))) [.go, .go, .go, .go] (pc (growth_boxIsDefined_fc b) <| pc h1 <| pc (growth_toleranceIsDefined_fc t_1) <| pc h2 <| pc (growth_promise_fc fu b 1 t_1.Shoots x1 h3) <| pc (growth_promise_fc fu b 2 t_1.Height x2 h4) <| pc h5 <| pc (growth_promise_fc fu b 3 t_1.Girth x3 h6) <| pc h7 <| pn) (by kernel_rfl) (by kernel_rfl)
      ·rw [h5, cF] at hh
       cases h6 : growth_promise fu b 3 t_1.Girth with
       | none => rw [h6, oN] at hh; cases hh
       | some x3 =>
        rw [h6, oS] at hh
        rcases bb (decide (x3 < x1)) with h7 | h7
        ·rw [h7, cT] at hh
         rw [← sI hh]
         exact FSat.d pfT 84 (hR 6 ((hB (hC (.bool (growth_boxIsDefined b))) true) :: hE :: hE :: hE :: (hB (hC (.bool (growth_toleranceIsDefined t_1))) true) :: (hR 23 ((hC (I (x1))) :: (hR 19 ((hC (I (x2))) :: (hR 6 (hF :: (hR 11 ((hC (I (x3))) :: (hR 6 (hT :: (hR 13 []))))))))))))) [.go, .go, .go, .go] (pc (growth_boxIsDefined_fc b) <| pc h1 <| pc (growth_toleranceIsDefined_fc t_1) <| pc h2 <| pc (growth_promise_fc fu b 1 t_1.Shoots x1 h3) <| pc (growth_promise_fc fu b 2 t_1.Height x2 h4) <| pc h5 <| pc (growth_promise_fc fu b 3 t_1.Girth x3 h6) <| pc h7 <| pn) (by kernel_rfl) (by kernel_rfl)
        ·rw [h7, cF] at hh
         rw [← sI hh]
         exact FSat.d pfT 84 (hR 6 ((hB (hC (.bool (growth_boxIsDefined b))) true) :: hE :: hE :: hE :: (hB (hC (.bool (growth_toleranceIsDefined t_1))) true) :: (hR 23 ((hC (I (x1))) :: (hR 19 ((hC (I (x2))) :: (hR 6 (hF :: (hR 11 ((hC (I (x3))) :: (hR 6 (hF :: (hR 9 []))))))))))))) [.go, .go, .go, .go] (pc (growth_boxIsDefined_fc b) <| pc h1 <| pc (growth_toleranceIsDefined_fc t_1) <| pc h2 <| pc (growth_promise_fc fu b 1 t_1.Shoots x1 h3) <| pc (growth_promise_fc fu b 2 t_1.Height x2 h4) <| pc h5 <| pc (growth_promise_fc fu b 3 t_1.Girth x3 h6) <| pc h7 <| pn) (by kernel_rfl) (by kernel_rfl)
   ·rw [h2, cF] at hh
    rw [← sI hh]
    exact FSat.d pfT 14 (hR 6 ((hB (hC (.bool (growth_boxIsDefined b))) true) :: hE :: hE :: hE :: (hB (hC (.bool (growth_toleranceIsDefined t_1))) false) :: (hR 5 []))) [] (pc (growth_boxIsDefined_fc b) <| pc h1 <| pc (growth_toleranceIsDefined_fc t_1) <| pc h2 <| pn) (by kernel_rfl) (by kernel_rfl)
  ·rw [h1, cF] at hh
   rw [← sI hh]
   exact FSat.d pfT 14 (hR 6 ((hB (hC (.bool (growth_boxIsDefined b))) false) :: (hR 6 []))) [] (pc (growth_boxIsDefined_fc b) <| pc h1 <| pn) (by kernel_rfl) (by kernel_rfl)

/- greenhew/greenhewlaw02.known -/
noncomputable abbrev z27i0 (x1 : XStand × Int) : Hint := (hM (.tuple #[.agg #[I (x1.1.Age), I (x1.1.Shoots), I (x1.1.Height), I (x1.1.Girth)], I (x1.2)]) (.tuple #[.agg #[I (x1.1.Age), I (x1.1.Shoots), I (x1.1.Height), I (x1.1.Girth)], I (x1.2)]) (A_growth_Grow (⟨[1000, 500], [60, 40], 8000, 400, 20, 1500, [(⟨1000, 20⟩ : XRung), (⟨3000, 8⟩ : XRung)], [(⟨5, 10⟩ : XSpan), (⟨10, 30⟩ : XSpan)]⟩ : XSpecies) (⟨0, 30, 0, 0⟩ : XStand) (⟨100, 0, 100⟩ : XWeather) 2 2 2 2) (K_growth_Grow (⟨[1000, 500], [60, 40], 8000, 400, 20, 1500, [(⟨1000, 20⟩ : XRung), (⟨3000, 8⟩ : XRung)], [(⟨5, 10⟩ : XSpan), (⟨10, 30⟩ : XSpan)]⟩ : XSpecies)) [(10, 101, 0), (11, 102, 0), (12, 103, 0), (13, 104, 0)])
noncomputable abbrev z27i1 (x2 : XBox × Int) : Hint := (hM (.tuple #[.agg #[I (x2.1.Low.Age), I (x2.1.Low.Shoots), I (x2.1.Low.Height), I (x2.1.Low.Girth), I (x2.1.High.Age), I (x2.1.High.Shoots), I (x2.1.High.Height), I (x2.1.High.Girth)], I (x2.2)]) (.tuple #[.agg #[I (x2.1.Low.Age), I (x2.1.Low.Shoots), I (x2.1.Low.Height), I (x2.1.Low.Girth), I (x2.1.High.Age), I (x2.1.High.Shoots), I (x2.1.High.Height), I (x2.1.High.Girth)], I (x2.2)]) (A_growth_Step (⟨[1000, 500], [60, 40], 8000, 400, 20, 1500, [(⟨1000, 20⟩ : XRung), (⟨3000, 8⟩ : XRung)], [(⟨5, 10⟩ : XSpan), (⟨10, 30⟩ : XSpan)]⟩ : XSpecies) (⟨(⟨0, 30, 0, 0⟩ : XStand), (⟨0, 30, 0, 0⟩ : XStand)⟩ : XBox) (⟨(⟨100, 100⟩ : XSpan), (⟨0, 50⟩ : XSpan), (⟨100, 150⟩ : XSpan), false⟩ : XSeason) 2 2 2 2) (K_growth_Step (⟨[1000, 500], [60, 40], 8000, 400, 20, 1500, [(⟨1000, 20⟩ : XRung), (⟨3000, 8⟩ : XRung)], [(⟨5, 10⟩ : XSpan), (⟨10, 30⟩ : XSpan)]⟩ : XSpecies)) [(10, 101, 0), (11, 102, 0), (12, 103, 0), (13, 104, 0)])
noncomputable abbrev z27i2 (x2 : XBox × Int) : Hint := (hC (.tuple #[I ((growth_Woods x2.1).1), I ((growth_Woods x2.1).2.1), I ((growth_Woods x2.1).2.2)]))
theorem z27p3 : VRs (Ren.emb [(10, 101, 0), (11, 102, 0), (12, 103, 0), (13, 104, 0)]) (A_growth_Grow (⟨[1000, 500], [60, 40], 8000, 400, 20, 1500, [(⟨1000, 20⟩ : XRung), (⟨3000, 8⟩ : XRung)], [(⟨5, 10⟩ : XSpan), (⟨10, 30⟩ : XSpan)]⟩ : XSpecies) (⟨0, 30, 0, 0⟩ : XStand) (⟨100, 0, 100⟩ : XWeather) 2 2 2 2) [.agg #[.slice (some ⟨101, 0, none⟩) (2) (2), .slice (some ⟨102, 0, none⟩) (2) (2), I (8000), I (400), I (20), I (1500), .slice (some ⟨103, 0, none⟩) (2) (2), .slice (some ⟨104, 0, none⟩) (2) (2)], .agg #[I (0), I (30), I (0), I (0)], .agg #[I (100), I (0), I (100)]] := (.cons _ _ _ _ (.agg _ _ (.cons _ _ _ _ (.slc 10 0 _ _ _ ⟨101, 0, 0, 0⟩ rfl (.inl rfl)) (.cons _ _ _ _ (.slc 11 0 _ _ _ ⟨102, 0, 0, 0⟩ rfl (.inl rfl)) (.cons _ _ _ _ (VR.of_pf rfl) (.cons _ _ _ _ (VR.of_pf rfl) (.cons _ _ _ _ (VR.of_pf rfl) (.cons _ _ _ _ (VR.of_pf rfl) (.cons _ _ _ _ (.slc 12 0 _ _ _ ⟨103, 0, 0, 0⟩ rfl (.inl rfl)) (.cons _ _ _ _ (.slc 13 0 _ _ _ ⟨104, 0, 0, 0⟩ rfl (.inl rfl)) .nil))))))))) (.cons _ _ _ _ (VR.of_pf rfl) (.cons _ _ _ _ (VR.of_pf rfl) .nil)))
theorem z27p4 : MemAt (Ren.emb [(10, 101, 0), (11, 102, 0), (12, 103, 0), (13, 104, 0)]) (encL cInt ((⟨[1000, 500], [60, 40], 8000, 400, 20, 1500, [(⟨1000, 20⟩ : XRung), (⟨3000, 8⟩ : XRung)], [(⟨5, 10⟩ : XSpan), (⟨10, 30⟩ : XSpan)]⟩ : XSpecies).Rise)) 0 ([I (1000), I (500)]) ∧ MemAt (Ren.emb [(10, 101, 0), (11, 102, 0), (12, 103, 0), (13, 104, 0)]) (encL cInt ((⟨[1000, 500], [60, 40], 8000, 400, 20, 1500, [(⟨1000, 20⟩ : XRung), (⟨3000, 8⟩ : XRung)], [(⟨5, 10⟩ : XSpan), (⟨10, 30⟩ : XSpan)]⟩ : XSpecies).Thick)) 0 ([I (60), I (40)]) ∧ MemAt (Ren.emb [(10, 101, 0), (11, 102, 0), (12, 103, 0), (13, 104, 0)]) (encL cXRung ((⟨[1000, 500], [60, 40], 8000, 400, 20, 1500, [(⟨1000, 20⟩ : XRung), (⟨3000, 8⟩ : XRung)], [(⟨5, 10⟩ : XSpan), (⟨10, 30⟩ : XSpan)]⟩ : XSpecies).Ladder)) 0 ([I (1000), I (20), I (3000), I (8)]) ∧ MemAt (Ren.emb [(10, 101, 0), (11, 102, 0), (12, 103, 0), (13, 104, 0)]) (encL cXSpan ((⟨[1000, 500], [60, 40], 8000, 400, 20, 1500, [(⟨1000, 20⟩ : XRung), (⟨3000, 8⟩ : XRung)], [(⟨5, 10⟩ : XSpan), (⟨10, 30⟩ : XSpan)]⟩ : XSpecies).Sprouts)) 0 ([I (5), I (10), I (10), I (30)]) ∧ True := ⟨MemAt.same _ (encL_pf cInt_pf _), MemAt.same _ (encL_pf cInt_pf _), MemAt.same _ (encL_pf cXRung_pf _), MemAt.same _ (encL_pf cXSpan_pf _), trivial⟩
theorem z27p5 : VRs (Ren.emb [(10, 101, 0), (11, 102, 0), (12, 103, 0), (13, 104, 0)]) (A_growth_Step (⟨[1000, 500], [60, 40], 8000, 400, 20, 1500, [(⟨1000, 20⟩ : XRung), (⟨3000, 8⟩ : XRung)], [(⟨5, 10⟩ : XSpan), (⟨10, 30⟩ : XSpan)]⟩ : XSpecies) (⟨(⟨0, 30, 0, 0⟩ : XStand), (⟨0, 30, 0, 0⟩ : XStand)⟩ : XBox) (⟨(⟨100, 100⟩ : XSpan), (⟨0, 50⟩ : XSpan), (⟨100, 150⟩ : XSpan), false⟩ : XSeason) 2 2 2 2) [.agg #[.slice (some ⟨101, 0, none⟩) (2) (2), .slice (some ⟨102, 0, none⟩) (2) (2), I (8000), I (400), I (20), I (1500), .slice (some ⟨103, 0, none⟩) (2) (2), .slice (some ⟨104, 0, none⟩) (2) (2)], .agg #[I (0), I (30), I (0), I (0), I (0), I (30), I (0), I (0)], .agg #[I (100), I (100), I (0), I (50), I (100), I (150), .bool (false)]] := (.cons _ _ _ _ (.agg _ _ (.cons _ _ _ _ (.slc 10 0 _ _ _ ⟨101, 0, 0, 0⟩ rfl (.inl rfl)) (.cons _ _ _ _ (.slc 11 0 _ _ _ ⟨102, 0, 0, 0⟩ rfl (.inl rfl)) (.cons _ _ _ _ (VR.of_pf rfl) (.cons _ _ _ _ (VR.of_pf rfl) (.cons _ _ _ _ (VR.of_pf rfl) (.cons _ _ _ _ (VR.of_pf rfl) (.cons _ _ _ _ (.slc 12 0 _ _ _ ⟨103, 0, 0, 0⟩ rfl (.inl rfl)) (.cons _ _ _ _ (.slc 13 0 _ _ _ ⟨104, 0, 0, 0⟩ rfl (.inl rfl)) .nil))))))))) (.cons _ _ _ _ (VR.of_pf rfl) (.cons _ _ _ _ (VR.of_pf rfl) .nil)))
abbrev z27r6 (x1 : XStand × Int) : Prop := VR (Ren.emb [(10, 101, 0), (11, 102, 0), (12, 103, 0), (13, 104, 0)]) (.tuple #[.agg #[I (x1.1.Age), I (x1.1.Shoots), I (x1.1.Height), I (x1.1.Girth)], I (x1.2)]) (.tuple #[.agg #[I (x1.1.Age), I (x1.1.Shoots), I (x1.1.Height), I (x1.1.Girth)], I (x1.2)])
abbrev z27r7 (x2 : XBox × Int) : Prop := VR (Ren.emb [(10, 101, 0), (11, 102, 0), (12, 103, 0), (13, 104, 0)]) (.tuple #[.agg #[I (x2.1.Low.Age), I (x2.1.Low.Shoots), I (x2.1.Low.Height), I (x2.1.Low.Girth), I (x2.1.High.Age), I (x2.1.High.Shoots), I (x2.1.High.Height), I (x2.1.High.Girth)], I (x2.2)]) (.tuple #[.agg #[I (x2.1.Low.Age), I (x2.1.Low.Shoots), I (x2.1.Low.Height), I (x2.1.Low.Girth), I (x2.1.High.Age), I (x2.1.High.Shoots), I (x2.1.High.Height), I (x2.1.High.Girth)], I (x2.2)])
abbrev A_law02_known : List Value := []
noncomputable def law02_known (fu : Nat)  : Option Bool :=
  Option.bind (growth_Grow fu (⟨[1000, 500], [60, 40], 8000, 400, 20, 1500, [(⟨1000, 20⟩ : XRung), (⟨3000, 8⟩ : XRung)], [(⟨5, 10⟩ : XSpan), (⟨10, 30⟩ : XSpan)]⟩ : XSpecies) (⟨0, 30, 0, 0⟩ : XStand) (⟨100, 0, 100⟩ : XWeather)) fun x1 =>
  Option.bind (growth_Step fu (⟨[1000, 500], [60, 40], 8000, 400, 20, 1500, [(⟨1000, 20⟩ : XRung), (⟨3000, 8⟩ : XRung)], [(⟨5, 10⟩ : XSpan), (⟨10, 30⟩ : XSpan)]⟩ : XSpecies) (⟨(⟨0, 30, 0, 0⟩ : XStand), (⟨0, 30, 0, 0⟩ : XStand)⟩ : XBox) (⟨(⟨100, 100⟩ : XSpan), (⟨0, 50⟩ : XSpan), (⟨100, 150⟩ : XSpan), false⟩ : XSeason)) fun x2 =>
  Option.bind (growth_Ask fu (⟨(⟨4, 10, 3000, 150⟩ : XStand), (⟨4, 20, 5000, 250⟩ : XStand)⟩ : XBox) (⟨2, 500, 20⟩ : XTolerance)) fun x3 =>
  bif x1.2 != 0 then some false
  else (bif x2.2 != 0 then some false
    else (bif ((growth_Woods x2.1).2.2) != 0 then some false
      else (bif x3.2.2 != 0 then some false
        else (bif ((growth_Woods x2.1).1) != 0 then some false
          else (bif ((growth_Woods x2.1).2.1) != 8 then some false
            else (bif x3.1 != 3 then some false
              else (bif x3.2.1 != 198 then some false
                else (bif ((x1.1.Age == 1) && ((x1.1.Shoots == 20) && ((x1.1.Height == 1000) && ((x1.1.Girth == 46) && true)))) then some (((x2.1.Low.Age == 1) && ((x2.1.Low.Shoots == 20) && ((x2.1.Low.Height == 500) && ((x2.1.Low.Girth == 46) && true)))) && (((x2.1.High.Age == 1) && ((x2.1.High.Shoots == 30) && ((x2.1.High.Height == 1500) && ((x2.1.High.Girth == 69) && true)))) && true))
                  else some false))))))))
theorem law02_known_fc (fu : Nat)  (r : Bool) (hh : law02_known fu = some r) : FC P GG 18 (A_law02_known) [] (.bool (r)) := by
  refine FC.of_fsat 91 100 Tryd.func18 (by kernel_rfl) (by kernel_rfl) (by kernel_rfl) trivial ?_
  unfold law02_known at hh
  cases h1 : growth_Grow fu (⟨[1000, 500], [60, 40], 8000, 400, 20, 1500, [(⟨1000, 20⟩ : XRung), (⟨3000, 8⟩ : XRung)], [(⟨5, 10⟩ : XSpan), (⟨10, 30⟩ : XSpan)]⟩ : XSpecies) (⟨0, 30, 0, 0⟩ : XStand) (⟨100, 0, 100⟩ : XWeather) with
  | none => rw [h1, oN] at hh; cases hh
  | some x1 =>
   rw [h1, oS] at hh
   cases h2 : growth_Step fu (⟨[1000, 500], [60, 40], 8000, 400, 20, 1500, [(⟨1000, 20⟩ : XRung), (⟨3000, 8⟩ : XRung)], [(⟨5, 10⟩ : XSpan), (⟨10, 30⟩ : XSpan)]⟩ : XSpecies) (⟨(⟨0, 30, 0, 0⟩ : XStand), (⟨0, 30, 0, 0⟩ : XStand)⟩ : XBox) (⟨(⟨100, 100⟩ : XSpan), (⟨0, 50⟩ : XSpan), (⟨100, 150⟩ : XSpan), false⟩ : XSeason) with
   | none => rw [h2, oN] at hh; cases hh
   | some x2 =>
    rw [h2, oS] at hh
    cases h3 : growth_Ask fu (⟨(⟨4, 10, 3000, 150⟩ : XStand), (⟨4, 20, 5000, 250⟩ : XStand)⟩ : XBox) (⟨2, 500, 20⟩ : XTolerance) with
    | none => rw [h3, oN] at hh; cases hh
    | some x3 =>
     rw [h3, oS] at hh
     rcases bb (x1.2 != 0) with h4 | h4
     ·rw [h4, cT] at hh
      rw [← sI hh]
      exact FSat.d pfT 28 (hR 10 ((z27i0 x1) :: (hR 17 ((z27i1 x2) :: (hR 7 ((z27i2 x2) :: (hR 11 ((hC (.tuple #[I (x3.1), I (x3.2.1), I (x3.2.2)])) :: (hR 8 (hT :: (hR 15 []))))))))))) [] (pc (growth_Grow_fc fu (⟨[1000, 500], [60, 40], 8000, 400, 20, 1500, [(⟨1000, 20⟩ : XRung), (⟨3000, 8⟩ : XRung)], [(⟨5, 10⟩ : XSpan), (⟨10, 30⟩ : XSpan)]⟩ : XSpecies) (⟨0, 30, 0, 0⟩ : XStand) (⟨100, 0, 100⟩ : XWeather) 2 2 2 2 x1 h1) <| pc z27p3 <| pc z27p4 <| pt (z27r6 x1) (selfB_self 9 _ rfl _) <| pc (growth_Step_fc fu (⟨[1000, 500], [60, 40], 8000, 400, 20, 1500, [(⟨1000, 20⟩ : XRung), (⟨3000, 8⟩ : XRung)], [(⟨5, 10⟩ : XSpan), (⟨10, 30⟩ : XSpan)]⟩ : XSpecies) (⟨(⟨0, 30, 0, 0⟩ : XStand), (⟨0, 30, 0, 0⟩ : XStand)⟩ : XBox) (⟨(⟨100, 100⟩ : XSpan), (⟨0, 50⟩ : XSpan), (⟨100, 150⟩ : XSpan), false⟩ : XSeason) 2 2 2 2 x2 h2) <| pc z27p5 <| pc z27p4 <| pt (z27r7 x2) (selfB_self 9 _ rfl _) <| pc (growth_Woods_fc x2.1) <| pc (growth_Ask_fc fu (⟨(⟨4, 10, 3000, 150⟩ : XStand), (⟨4, 20, 5000, 250⟩ : XStand)⟩ : XBox) (⟨2, 500, 20⟩ : XTolerance) x3 h3) <| pc h4 <| pn) (by kernel_rfl) (by kernel_rfl)
     ·rw [h4, cF] at hh
      rcases bb (x2.2 != 0) with h5 | h5
      ·rw [h5, cT] at hh
       rw [← sI hh]
       exact FSat.d pfT 28 (hR 10 ((z27i0 x1) :: (hR 17 ((z27i1 x2) :: (hR 7 ((z27i2 x2) :: (hR 11 ((hC (.tuple #[I (x3.1), I (x3.2.1), I (x3.2.2)])) :: (hR 8 (hF :: hE :: hE :: hT :: (hR 14 []))))))))))) [] (pc (growth_Grow_fc fu (⟨[1000, 500], [60, 40], 8000, 400, 20, 1500, [(⟨1000, 20⟩ : XRung), (⟨3000, 8⟩ : XRung)], [(⟨5, 10⟩ : XSpan), (⟨10, 30⟩ : XSpan)]⟩ : XSpecies) (⟨0, 30, 0, 0⟩ : XStand) (⟨100, 0, 100⟩ : XWeather) 2 2 2 2 x1 h1) <| pc z27p3 <| pc z27p4 <| pt (z27r6 x1) (selfB_self 9 _ rfl _) <| pc (growth_Step_fc fu (⟨[1000, 500], [60, 40], 8000, 400, 20, 1500, [(⟨1000, 20⟩ : XRung), (⟨3000, 8⟩ : XRung)], [(⟨5, 10⟩ : XSpan), (⟨10, 30⟩ : XSpan)]⟩ : XSpecies) (⟨(⟨0, 30, 0, 0⟩ : XStand), (⟨0, 30, 0, 0⟩ : XStand)⟩ : XBox) (⟨(⟨100, 100⟩ : XSpan), (⟨0, 50⟩ : XSpan), (⟨100, 150⟩ : XSpan), false⟩ : XSeason) 2 2 2 2 x2 h2) <| pc z27p5 <| pc z27p4 <| pt (z27r7 x2) (selfB_self 9 _ rfl _) <| pc (growth_Woods_fc x2.1) <| pc (growth_Ask_fc fu (⟨(⟨4, 10, 3000, 150⟩ : XStand), (⟨4, 20, 5000, 250⟩ : XStand)⟩ : XBox) (⟨2, 500, 20⟩ : XTolerance) x3 h3) <| pc h4 <| pc h5 <| pn) (by kernel_rfl) (by kernel_rfl)
      ·rw [h5, cF] at hh
       rcases bb (((growth_Woods x2.1).2.2) != 0) with h6 | h6
       ·rw [h6, cT] at hh
        rw [← sI hh]
        exact FSat.d pfT 28 (hR 10 ((z27i0 x1) :: (hR 17 ((z27i1 x2) :: (hR 7 ((z27i2 x2) :: (hR 11 ((hC (.tuple #[I (x3.1), I (x3.2.1), I (x3.2.2)])) :: (hR 8 (hF :: hE :: hE :: hF :: hE :: hE :: hE :: hT :: (hR 12 []))))))))))) [] (pc (growth_Grow_fc fu (⟨[1000, 500], [60, 40], 8000, 400, 20, 1500, [(⟨1000, 20⟩ : XRung), (⟨3000, 8⟩ : XRung)], [(⟨5, 10⟩ : XSpan), (⟨10, 30⟩ : XSpan)]⟩ : XSpecies) (⟨0, 30, 0, 0⟩ : XStand) (⟨100, 0, 100⟩ : XWeather) 2 2 2 2 x1 h1) <| pc z27p3 <| pc z27p4 <| pt (z27r6 x1) (selfB_self 9 _ rfl _) <| pc (growth_Step_fc fu (⟨[1000, 500], [60, 40], 8000, 400, 20, 1500, [(⟨1000, 20⟩ : XRung), (⟨3000, 8⟩ : XRung)], [(⟨5, 10⟩ : XSpan), (⟨10, 30⟩ : XSpan)]⟩ : XSpecies) (⟨(⟨0, 30, 0, 0⟩ : XStand), (⟨0, 30, 0, 0⟩ : XStand)⟩ : XBox) (⟨(⟨100, 100⟩ : XSpan), (⟨0, 50⟩ : XSpan), (⟨100, 150⟩ : XSpan), false⟩ : XSeason) 2 2 2 2 x2 h2) <| pc z27p5 <| pc z27p4 <| pt (z27r7 x2) (selfB_self 9 _ rfl _) <| pc (growth_Woods_fc x2.1) <| pc (growth_Ask_fc fu (⟨(⟨4, 10, 3000, 150⟩ : XStand), (⟨4, 20, 5000, 250⟩ : XStand)⟩ : XBox) (⟨2, 500, 20⟩ : XTolerance) x3 h3) <| pc h4 <| pc h5 <| pc h6 <| pn) (by kernel_rfl) (by kernel_rfl)
       ·rw [h6, cF] at hh
        rcases bb (x3.2.2 != 0) with h7 | h7
        ·rw [h7, cT] at hh
         rw [← sI hh]
         exact FSat.d pfT 28 (hR 10 ((z27i0 x1) :: (hR 17 ((z27i1 x2) :: (hR 7 ((z27i2 x2) :: (hR 11 ((hC (.tuple #[I (x3.1), I (x3.2.1), I (x3.2.2)])) :: (hR 8 (hF :: hE :: hE :: hF :: hE :: hE :: hE :: hF :: hE :: hE :: hE :: hT :: (hR 10 []))))))))))) [] (pc (growth_Grow_fc fu (⟨[1000, 500], [60, 40], 8000, 400, 20, 1500, [(⟨1000, 20⟩ : XRung), (⟨3000, 8⟩ : XRung)], [(⟨5, 10⟩ : XSpan), (⟨10, 30⟩ : XSpan)]⟩ : XSpecies) (⟨0, 30, 0, 0⟩ : XStand) (⟨100, 0, 100⟩ : XWeather) 2 2 2 2 x1 h1) <| pc z27p3 <| pc z27p4 <| pt (z27r6 x1) (selfB_self 9 _ rfl _) <| pc (growth_Step_fc fu (⟨[1000, 500], [60, 40], 8000, 400, 20, 1500, [(⟨1000, 20⟩ : XRung), (⟨3000, 8⟩ : XRung)], [(⟨5, 10⟩ : XSpan), (⟨10, 30⟩ : XSpan)]⟩ : XSpecies) (⟨(⟨0, 30, 0, 0⟩ : XStand), (⟨0, 30, 0, 0⟩ : XStand)⟩ : XBox) (⟨(⟨100, 100⟩ : XSpan), (⟨0, 50⟩ : XSpan), (⟨100, 150⟩ : XSpan), false⟩ : XSeason) 2 2 2 2 x2 h2) <| pc z27p5 <| pc z27p4 <| pt (z27r7 x2) (selfB_self 9 _ rfl _) <| pc (growth_Woods_fc x2.1) <| pc (growth_Ask_fc fu (⟨(⟨4, 10, 3000, 150⟩ : XStand), (⟨4, 20, 5000, 250⟩ : XStand)⟩ : XBox) (⟨2, 500, 20⟩ : XTolerance) x3 h3) <| pc h4 <| pc h5 <| pc h6 <| pc h7 <| pn) (by kernel_rfl) (by kernel_rfl)
        ·rw [h7, cF] at hh
         rcases bb (((growth_Woods x2.1).1) != 0) with h8 | h8
         ·rw [h8, cT] at hh
          rw [← sI hh]
          exact FSat.d pfT 28 (hR 10 ((z27i0 x1) :: (hR 17 ((z27i1 x2) :: (hR 7 ((z27i2 x2) :: (hR 11 ((hC (.tuple #[I (x3.1), I (x3.2.1), I (x3.2.2)])) :: (hR 8 (hF :: hE :: hE :: hF :: hE :: hE :: hE :: hF :: hE :: hE :: hE :: hF :: hE :: hE :: hE :: hT :: (hR 8 []))))))))))) [] (pc (growth_Grow_fc fu (⟨[1000, 500], [60, 40], 8000, 400, 20, 1500, [(⟨1000, 20⟩ : XRung), (⟨3000, 8⟩ : XRung)], [(⟨5, 10⟩ : XSpan), (⟨10, 30⟩ : XSpan)]⟩ : XSpecies) (⟨0, 30, 0, 0⟩ : XStand) (⟨100, 0, 100⟩ : XWeather) 2 2 2 2 x1 h1) <| pc z27p3 <| pc z27p4 <| pt (z27r6 x1) (selfB_self 9 _ rfl _) <| pc (growth_Step_fc fu (⟨[1000, 500], [60, 40], 8000, 400, 20, 1500, [(⟨1000, 20⟩ : XRung), (⟨3000, 8⟩ : XRung)], [(⟨5, 10⟩ : XSpan), (⟨10, 30⟩ : XSpan)]⟩ : XSpecies) (⟨(⟨0, 30, 0, 0⟩ : XStand), (⟨0, 30, 0, 0⟩ : XStand)⟩ : XBox) (⟨(⟨100, 100⟩ : XSpan), (⟨0, 50⟩ : XSpan), (⟨100, 150⟩ : XSpan), false⟩ : XSeason) 2 2 2 2 x2 h2) <| pc z27p5 <| pc z27p4 <| pt (z27r7 x2) (selfB_self 9 _ rfl _) <| pc (growth_Woods_fc x2.1) <| pc (growth_Ask_fc fu (⟨(⟨4, 10, 3000, 150⟩ : XStand), (⟨4, 20, 5000, 250⟩ : XStand)⟩ : XBox) (⟨2, 500, 20⟩ : XTolerance) x3 h3) <| pc h4 <| pc h5 <| pc h6 <| pc h7 <| pc h8 <| pn) (by kernel_rfl) (by kernel_rfl)
         ·rw [h8, cF] at hh
          rcases bb (((growth_Woods x2.1).2.1) != 8) with h9 | h9
          ·rw [h9, cT] at hh
           rw [← sI hh]
           exact FSat.d pfT 28 (hR 10 ((z27i0 x1) :: (hR 17 ((z27i1 x2) :: (hR 7 ((z27i2 x2) :: (hR 11 ((hC (.tuple #[I (x3.1), I (x3.2.1), I (x3.2.2)])) :: (hR 8 (hF :: hE :: hE :: hF :: hE :: hE :: hE :: hF :: hE :: hE :: hE :: hF :: hE :: hE :: hE :: hF :: hE :: hE :: hE :: hT :: (hR 6 []))))))))))) [] (pc (growth_Grow_fc fu (⟨[1000, 500], [60, 40], 8000, 400, 20, 1500, [(⟨1000, 20⟩ : XRung), (⟨3000, 8⟩ : XRung)], [(⟨5, 10⟩ : XSpan), (⟨10, 30⟩ : XSpan)]⟩ : XSpecies) (⟨0, 30, 0, 0⟩ : XStand) (⟨100, 0, 100⟩ : XWeather) 2 2 2 2 x1 h1) <| pc z27p3 <| pc z27p4 <| pt (z27r6 x1) (selfB_self 9 _ rfl _) <| pc (growth_Step_fc fu (⟨[1000, 500], [60, 40], 8000, 400, 20, 1500, [(⟨1000, 20⟩ : XRung), (⟨3000, 8⟩ : XRung)], [(⟨5, 10⟩ : XSpan), (⟨10, 30⟩ : XSpan)]⟩ : XSpecies) (⟨(⟨0, 30, 0, 0⟩ : XStand), (⟨0, 30, 0, 0⟩ : XStand)⟩ : XBox) (⟨(⟨100, 100⟩ : XSpan), (⟨0, 50⟩ : XSpan), (⟨100, 150⟩ : XSpan), false⟩ : XSeason) 2 2 2 2 x2 h2) <| pc z27p5 <| pc z27p4 <| pt (z27r7 x2) (selfB_self 9 _ rfl _) <| pc (growth_Woods_fc x2.1) <| pc (growth_Ask_fc fu (⟨(⟨4, 10, 3000, 150⟩ : XStand), (⟨4, 20, 5000, 250⟩ : XStand)⟩ : XBox) (⟨2, 500, 20⟩ : XTolerance) x3 h3) <| pc h4 <| pc h5 <| pc h6 <| pc h7 <| pc h8 <| pc h9 <| pn) (by kernel_rfl) (by kernel_rfl)
          ·rw [h9, cF] at hh
           rcases bb (x3.1 != 3) with h10 | h10
           ·rw [h10, cT] at hh
            rw [← sI hh]
            exact FSat.d pfT 28 (hR 10 ((z27i0 x1) :: (hR 17 ((z27i1 x2) :: (hR 7 ((z27i2 x2) :: (hR 11 ((hC (.tuple #[I (x3.1), I (x3.2.1), I (x3.2.2)])) :: (hR 8 (hF :: hE :: hE :: hF :: hE :: hE :: hE :: hF :: hE :: hE :: hE :: hF :: hE :: hE :: hE :: hF :: hE :: hE :: hE :: hF :: hE :: hE :: hE :: hT :: (hR 4 []))))))))))) [] (pc (growth_Grow_fc fu (⟨[1000, 500], [60, 40], 8000, 400, 20, 1500, [(⟨1000, 20⟩ : XRung), (⟨3000, 8⟩ : XRung)], [(⟨5, 10⟩ : XSpan), (⟨10, 30⟩ : XSpan)]⟩ : XSpecies) (⟨0, 30, 0, 0⟩ : XStand) (⟨100, 0, 100⟩ : XWeather) 2 2 2 2 x1 h1) <| pc z27p3 <| pc z27p4 <| pt (z27r6 x1) (selfB_self 9 _ rfl _) <| pc (growth_Step_fc fu (⟨[1000, 500], [60, 40], 8000, 400, 20, 1500, [(⟨1000, 20⟩ : XRung), (⟨3000, 8⟩ : XRung)], [(⟨5, 10⟩ : XSpan), (⟨10, 30⟩ : XSpan)]⟩ : XSpecies) (⟨(⟨0, 30, 0, 0⟩ : XStand), (⟨0, 30, 0, 0⟩ : XStand)⟩ : XBox) (⟨(⟨100, 100⟩ : XSpan), (⟨0, 50⟩ : XSpan), (⟨100, 150⟩ : XSpan), false⟩ : XSeason) 2 2 2 2 x2 h2) <| pc z27p5 <| pc z27p4 <| pt (z27r7 x2) (selfB_self 9 _ rfl _) <| pc (growth_Woods_fc x2.1) <| pc (growth_Ask_fc fu (⟨(⟨4, 10, 3000, 150⟩ : XStand), (⟨4, 20, 5000, 250⟩ : XStand)⟩ : XBox) (⟨2, 500, 20⟩ : XTolerance) x3 h3) <| pc h4 <| pc h5 <| pc h6 <| pc h7 <| pc h8 <| pc h9 <| pc h10 <| pn) (by kernel_rfl) (by kernel_rfl)
           ·rw [h10, cF] at hh
            rcases bb (x3.2.1 != 198) with h11 | h11
            ·rw [h11, cT] at hh
             rw [← sI hh]
             exact FSat.d pfT 28 (hR 10 ((z27i0 x1) :: (hR 17 ((z27i1 x2) :: (hR 7 ((z27i2 x2) :: (hR 11 ((hC (.tuple #[I (x3.1), I (x3.2.1), I (x3.2.2)])) :: (hR 8 [hF, hE, hE, hF, hE, hE, hE, hF, hE, hE, hE, hF, hE, hE, hE, hF, hE, hE, hE, hF, hE, hE, hE, hF, hE, hE, hE, hT, hE, hE]))))))))) [] (pc (growth_Grow_fc fu (⟨[1000, 500], [60, 40], 8000, 400, 20, 1500, [(⟨1000, 20⟩ : XRung), (⟨3000, 8⟩ : XRung)], [(⟨5, 10⟩ : XSpan), (⟨10, 30⟩ : XSpan)]⟩ : XSpecies) (⟨0, 30, 0, 0⟩ : XStand) (⟨100, 0, 100⟩ : XWeather) 2 2 2 2 x1 h1) <| pc z27p3 <| pc z27p4 <| pt (z27r6 x1) (selfB_self 9 _ rfl _) <| pc (growth_Step_fc fu (⟨[1000, 500], [60, 40], 8000, 400, 20, 1500, [(⟨1000, 20⟩ : XRung), (⟨3000, 8⟩ : XRung)], [(⟨5, 10⟩ : XSpan), (⟨10, 30⟩ : XSpan)]⟩ : XSpecies) (⟨(⟨0, 30, 0, 0⟩ : XStand), (⟨0, 30, 0, 0⟩ : XStand)⟩ : XBox) (⟨(⟨100, 100⟩ : XSpan), (⟨0, 50⟩ : XSpan), (⟨100, 150⟩ : XSpan), false⟩ : XSeason) 2 2 2 2 x2 h2) <| pc z27p5 <| pc z27p4 <| pt (z27r7 x2) (selfB_self 9 _ rfl _) <| pc (growth_Woods_fc x2.1) <| pc (growth_Ask_fc fu (⟨(⟨4, 10, 3000, 150⟩ : XStand), (⟨4, 20, 5000, 250⟩ : XStand)⟩ : XBox) (⟨2, 500, 20⟩ : XTolerance) x3 h3) <| pc h4 <| pc h5 <| pc h6 <| pc h7 <| pc h8 <| pc h9 <| pc h10 <| pc h11 <| pn) (by kernel_rfl) (by kernel_rfl)
            ·rw [h11, cF] at hh
             rcases bb (((x1.1.Age == 1) && ((x1.1.Shoots == 20) && ((x1.1.Height == 1000) && ((x1.1.Girth == 46) && true))))) with h12 | h12
             ·rw [h12, cT] at hh
              rw [← sI hh]
              exact FSat.d pfT 29 (hR 10 ((z27i0 x1) :: (hR 17 ((z27i1 x2) :: (hR 7 ((z27i2 x2) :: (hR 11 ((hC (.tuple #[I (x3.1), I (x3.2.1), I (x3.2.2)])) :: (hR 8 (hF :: hE :: hE :: hF :: hE :: hE :: hE :: hF :: hE :: hE :: hE :: hF :: hE :: hE :: hE :: hF :: hE :: hE :: hE :: hF :: hE :: hE :: hE :: hF :: hE :: hE :: hE :: hF :: hE :: hE :: hE :: (hB hQ true) :: (hR 5 [hQ, hE, hE]))))))))))) [] (pc (growth_Grow_fc fu (⟨[1000, 500], [60, 40], 8000, 400, 20, 1500, [(⟨1000, 20⟩ : XRung), (⟨3000, 8⟩ : XRung)], [(⟨5, 10⟩ : XSpan), (⟨10, 30⟩ : XSpan)]⟩ : XSpecies) (⟨0, 30, 0, 0⟩ : XStand) (⟨100, 0, 100⟩ : XWeather) 2 2 2 2 x1 h1) <| pc z27p3 <| pc z27p4 <| pt (z27r6 x1) (selfB_self 9 _ rfl _) <| pc (growth_Step_fc fu (⟨[1000, 500], [60, 40], 8000, 400, 20, 1500, [(⟨1000, 20⟩ : XRung), (⟨3000, 8⟩ : XRung)], [(⟨5, 10⟩ : XSpan), (⟨10, 30⟩ : XSpan)]⟩ : XSpecies) (⟨(⟨0, 30, 0, 0⟩ : XStand), (⟨0, 30, 0, 0⟩ : XStand)⟩ : XBox) (⟨(⟨100, 100⟩ : XSpan), (⟨0, 50⟩ : XSpan), (⟨100, 150⟩ : XSpan), false⟩ : XSeason) 2 2 2 2 x2 h2) <| pc z27p5 <| pc z27p4 <| pt (z27r7 x2) (selfB_self 9 _ rfl _) <| pc (growth_Woods_fc x2.1) <| pc (growth_Ask_fc fu (⟨(⟨4, 10, 3000, 150⟩ : XStand), (⟨4, 20, 5000, 250⟩ : XStand)⟩ : XBox) (⟨2, 500, 20⟩ : XTolerance) x3 h3) <| pc h4 <| pc h5 <| pc h6 <| pc h7 <| pc h8 <| pc h9 <| pc h10 <| pc h11 <| pc h12 <| pn) (by kernel_rfl) (by kernel_rfl)
             ·rw [h12, cF] at hh
              rw [← sI hh]
              exact FSat.d pfT 29 (hR 10 ((z27i0 x1) :: (hR 17 ((z27i1 x2) :: (hR 7 ((z27i2 x2) :: (hR 11 ((hC (.tuple #[I (x3.1), I (x3.2.1), I (x3.2.2)])) :: (hR 8 [hF, hE, hE, hF, hE, hE, hE, hF, hE, hE, hE, hF, hE, hE, hE, hF, hE, hE, hE, hF, hE, hE, hE, hF, hE, hE, hE, hF, hE, hE, hE, (hB hQ false), hE, hE, hE]))))))))) [] (pc (growth_Grow_fc fu (⟨[1000, 500], [60, 40], 8000, 400, 20, 1500, [(⟨1000, 20⟩ : XRung), (⟨3000, 8⟩ : XRung)], [(⟨5, 10⟩ : XSpan), (⟨10, 30⟩ : XSpan)]⟩ : XSpecies) (⟨0, 30, 0, 0⟩ : XStand) (⟨100, 0, 100⟩ : XWeather) 2 2 2 2 x1 h1) <| pc z27p3 <| pc z27p4 <| pt (z27r6 x1) (selfB_self 9 _ rfl _) <| pc (growth_Step_fc fu (⟨[1000, 500], [60, 40], 8000, 400, 20, 1500, [(⟨1000, 20⟩ : XRung), (⟨3000, 8⟩ : XRung)], [(⟨5, 10⟩ : XSpan), (⟨10, 30⟩ : XSpan)]⟩ : XSpecies) (⟨(⟨0, 30, 0, 0⟩ : XStand), (⟨0, 30, 0, 0⟩ : XStand)⟩ : XBox) (⟨(⟨100, 100⟩ : XSpan), (⟨0, 50⟩ : XSpan), (⟨100, 150⟩ : XSpan), false⟩ : XSeason) 2 2 2 2 x2 h2) <| pc z27p5 <| pc z27p4 <| pt (z27r7 x2) (selfB_self 9 _ rfl _) <| pc (growth_Woods_fc x2.1) <| pc (growth_Ask_fc fu (⟨(⟨4, 10, 3000, 150⟩ : XStand), (⟨4, 20, 5000, 250⟩ : XStand)⟩ : XBox) (⟨2, 500, 20⟩ : XTolerance) x3 h3) <| pc h4 <| pc h5 <| pc h6 <| pc h7 <| pc h8 <| pc h9 <| pc h10 <| pc h11 <| pc h12 <| pn) (by kernel_rfl) (by kernel_rfl)

/- greenhew/greenhewlaw02.GrowthNarrows -/
noncomputable abbrev z1i0 (b : XBox) (q10 : Nat) (x1 : XBox × Int) : Hint := (hM (.tuple #[.agg #[I (x1.1.Low.Age), I (x1.1.Low.Shoots), I (x1.1.Low.Height), I (x1.1.Low.Girth), I (x1.1.High.Age), I (x1.1.High.Shoots), I (x1.1.High.Height), I (x1.1.High.Girth)], I (x1.2)]) (.tuple #[.agg #[I (x1.1.Low.Age), I (x1.1.Low.Shoots), I (x1.1.Low.Height), I (x1.1.Low.Girth), I (x1.1.High.Age), I (x1.1.High.Shoots), I (x1.1.High.Height), I (x1.1.High.Girth)], I (x1.2)]) (A_growth_Narrow b ([]) q10) (K_growth_Narrow ([])) [(10, 10, 0)])
noncomputable abbrev z1i1 (q10 : Nat) (x2 : Bool) : Hint := (hB (hM (.bool (x2)) (.bool (x2)) (A_ref02_Samples ([]) q10) (K_ref02_Samples ([])) [(10, 10, 0)]) true)
noncomputable abbrev z1i2 (x3 : XBox × Int) : Hint := (hC (.tuple #[.agg #[I (x3.1.Low.Age), I (x3.1.Low.Shoots), I (x3.1.Low.Height), I (x3.1.Low.Girth), I (x3.1.High.Age), I (x3.1.High.Shoots), I (x3.1.High.Height), I (x3.1.High.Girth)], I (x3.2)]))
noncomputable abbrev z1i3 (b : XBox) (q10 : Nat) (x4 : XBox × Bool) : Hint := (hM (.tuple #[.agg #[I (x4.1.Low.Age), I (x4.1.Low.Shoots), I (x4.1.Low.Height), I (x4.1.Low.Girth), I (x4.1.High.Age), I (x4.1.High.Shoots), I (x4.1.High.Height), I (x4.1.High.Girth)], .bool (x4.2)]) (.tuple #[.agg #[I (x4.1.Low.Age), I (x4.1.Low.Shoots), I (x4.1.Low.Height), I (x4.1.Low.Girth), I (x4.1.High.Age), I (x4.1.High.Shoots), I (x4.1.High.Height), I (x4.1.High.Girth)], .bool (x4.2)]) (A_ref02_Narrow b ([]) q10) (K_ref02_Narrow ([])) [(10, 10, 0)])
theorem z1p4 (b : XBox) (q10 : Nat) : VRs (Ren.emb [(10, 10, 0)]) (A_growth_Narrow b ([]) q10) [.agg #[I (b.Low.Age), I (b.Low.Shoots), I (b.Low.Height), I (b.Low.Girth), I (b.High.Age), I (b.High.Shoots), I (b.High.Height), I (b.High.Girth)], .slice (some ⟨10, 0, none⟩) (0) (q10)] := (.cons _ _ _ _ (VR.of_pf rfl) (.cons _ _ _ _ (.slc 10 0 _ _ _ ⟨10, 0, 0, 0⟩ rfl (.inl rfl)) .nil))
theorem z1p5 (q10 : Nat) : VRs (Ren.emb [(10, 10, 0)]) (A_ref02_Samples ([]) q10) [.slice (some ⟨10, 0, none⟩) (0) (q10)] := (.cons _ _ _ _ (.slc 10 0 _ _ _ ⟨10, 0, 0, 0⟩ rfl (.inl rfl)) .nil)
theorem z1p6 (b : XBox) (q10 : Nat) : VRs (Ren.emb [(10, 10, 0)]) (A_ref02_Narrow b ([]) q10) [.agg #[I (b.Low.Age), I (b.Low.Shoots), I (b.Low.Height), I (b.Low.Girth), I (b.High.Age), I (b.High.Shoots), I (b.High.Height), I (b.High.Girth)], .slice (some ⟨10, 0, none⟩) (0) (q10)] := (.cons _ _ _ _ (VR.of_pf rfl) (.cons _ _ _ _ (.slc 10 0 _ _ _ ⟨10, 0, 0, 0⟩ rfl (.inl rfl)) .nil))
abbrev z1r7 : Prop := MemAt (Ren.emb [(10, 10, 0)]) (encL cXSample ([])) 0 ([]) ∧ True
abbrev z1r8 (x1 : XBox × Int) : Prop := VR (Ren.emb [(10, 10, 0)]) (.tuple #[.agg #[I (x1.1.Low.Age), I (x1.1.Low.Shoots), I (x1.1.Low.Height), I (x1.1.Low.Girth), I (x1.1.High.Age), I (x1.1.High.Shoots), I (x1.1.High.Height), I (x1.1.High.Girth)], I (x1.2)]) (.tuple #[.agg #[I (x1.1.Low.Age), I (x1.1.Low.Shoots), I (x1.1.Low.Height), I (x1.1.Low.Girth), I (x1.1.High.Age), I (x1.1.High.Shoots), I (x1.1.High.Height), I (x1.1.High.Girth)], I (x1.2)])
abbrev z1r9 (b : XBox) : Prop := (.agg #[I (b.Low.Age), I (b.Low.Shoots), I (b.Low.Height), I (b.Low.Girth), I (b.High.Age), I (b.High.Shoots), I (b.High.Height), I (b.High.Girth)] : Value) = .agg #[I (b.Low.Age), I (b.Low.Shoots), I (b.Low.Height), I (b.Low.Girth), I (b.High.Age), I (b.High.Shoots), I (b.High.Height), I (b.High.Girth)]
abbrev z1r10 (x3 : XBox × Int) : Prop := (.tuple #[.agg #[I (x3.1.Low.Age), I (x3.1.Low.Shoots), I (x3.1.Low.Height), I (x3.1.Low.Girth), I (x3.1.High.Age), I (x3.1.High.Shoots), I (x3.1.High.Height), I (x3.1.High.Girth)], I (x3.2)] : Value) = .tuple #[.agg #[I (x3.1.Low.Age), I (x3.1.Low.Shoots), I (x3.1.Low.Height), I (x3.1.Low.Girth), I (x3.1.High.Age), I (x3.1.High.Shoots), I (x3.1.High.Height), I (x3.1.High.Girth)], I (x3.2)]
abbrev z1r11 (x3 : XBox × Int) : Prop := (.agg #[I (x3.1.Low.Age), I (x3.1.Low.Shoots), I (x3.1.Low.Height), I (x3.1.Low.Girth), I (x3.1.High.Age), I (x3.1.High.Shoots), I (x3.1.High.Height), I (x3.1.High.Girth)] : Value) = .agg #[I (x3.1.Low.Age), I (x3.1.Low.Shoots), I (x3.1.Low.Height), I (x3.1.Low.Girth), I (x3.1.High.Age), I (x3.1.High.Shoots), I (x3.1.High.Height), I (x3.1.High.Girth)]
abbrev z1r12 (x4 : XBox × Bool) : Prop := VR (Ren.emb [(10, 10, 0)]) (.tuple #[.agg #[I (x4.1.Low.Age), I (x4.1.Low.Shoots), I (x4.1.Low.Height), I (x4.1.Low.Girth), I (x4.1.High.Age), I (x4.1.High.Shoots), I (x4.1.High.Height), I (x4.1.High.Girth)], .bool (x4.2)]) (.tuple #[.agg #[I (x4.1.Low.Age), I (x4.1.Low.Shoots), I (x4.1.Low.Height), I (x4.1.Low.Girth), I (x4.1.High.Age), I (x4.1.High.Shoots), I (x4.1.High.Height), I (x4.1.High.Girth)], .bool (x4.2)])
noncomputable abbrev z1i13 (q10 : Nat) (x2 : Bool) : Hint := (hB (hM (.bool (x2)) (.bool (x2)) (A_ref02_Samples ([]) q10) (K_ref02_Samples ([])) [(10, 10, 0)]) false)
noncomputable def z1b0 (b : XBox) (q10 : Nat) (x1 : XBox × Int) : List Hint := (hR 14 ((z1i0 b q10 x1) :: (hR 10 [])))
def z1q0 (fu : Nat) (b : XBox) (q10 : Nat) (x1 : XBox × Int) (h1 : (growth_Narrow fu b ([])) = some x1) := PA.mk <| pc (growth_Narrow_fc fu b ([]) q10 x1 h1) <| pc (z1p4 b q10) <| pt z1r7 (⟨MemAt.same _ (encL_pf cXSample_pf _), trivial⟩) <| pt (z1r8 x1) (selfB_self 9 _ rfl _) <| pc (ref02_Box_fc b) <| pn
noncomputable def z1b1 (b : XBox) (q10 : Nat) (x2 : Bool) (x3 : XBox × Int) (x4 : XBox × Bool) : List Hint := ((hB (hC (.bool (ref02_Box b))) true) :: hE :: hE :: hE :: (z1i1 q10 x2) :: (hR 9 ((hED 8 [3]) :: (hR 4 ((z1i2 x3) :: (hR 8 [(z1i3 b q10 x4), hE, hE]))))))
def z1q1 (fu : Nat) (b : XBox) (q10 : Nat) (x2 : Bool) (x3 : XBox × Int) (x4 : XBox × Bool) (h2 : (ref02_Box b) = true) (h3 : (ref02_Samples fu ([])) = some x2) (h4 : (x2) = true) (h5 : (growth_Narrow_1 fu b) = some x3) (h6 : (ref02_Narrow fu b ([])) = some x4) := PA.mk <| pc h2 <| pc (ref02_Samples_fc fu ([]) q10 x2 h3) <| pc (z1p5 q10) <| pt z1r7 (⟨MemAt.same _ (encL_pf cXSample_pf _), trivial⟩) <| pt (VR (Ren.emb [(10, 10, 0)]) (.bool (x2)) (.bool (x2))) (selfB_self 9 _ rfl _) <| pc h4 <| pc (growth_Narrow_1_fc fu b x3 h5) <| pt (z1r9 b) rfl <| pt (z1r9 b) rfl <| pc (growth_Narrow_1_fc fu b x3 h5) <| pt (z1r10 x3) rfl <| pt (z1r10 x3) rfl <| pt (z1r11 x3) rfl <| pt ((I (x3.2) : Value) = I (x3.2)) rfl <| pt ((I (x3.2) : Value) = I (x3.2)) rfl <| pc (ref02_Narrow_fc fu b ([]) q10 x4 h6) <| pc (z1p6 b q10) <| pt z1r7 (⟨MemAt.same _ (encL_pf cXSample_pf _), trivial⟩) <| pt (z1r12 x4) (selfB_self 9 _ rfl _) <| pn
noncomputable def z1b2 (b : XBox) (q10 : Nat) (x2 : Bool) : List Hint := [(hB (hC (.bool (ref02_Box b))) true), hE, hE, hE, (z1i13 q10 x2), hE, hE, hE]
def z1q2 (fu : Nat) (b : XBox) (q10 : Nat) (x2 : Bool) (h2 : (ref02_Box b) = true) (h3 : (ref02_Samples fu ([])) = some x2) (h4 : (x2) = false) := PA.mk <| pc h2 <| pc (ref02_Samples_fc fu ([]) q10 x2 h3) <| pc (z1p5 q10) <| pt z1r7 (⟨MemAt.same _ (encL_pf cXSample_pf _), trivial⟩) <| pt (VR (Ren.emb [(10, 10, 0)]) (.bool (x2)) (.bool (x2))) (selfB_self 9 _ rfl _) <| pc h4 <| pn
abbrev A_law02_GrowthNarrows_n0 (b : XBox) (q10 : Nat) : List Value := [.agg #[I (b.Low.Age), I (b.Low.Shoots), I (b.Low.Height), I (b.Low.Girth), I (b.High.Age), I (b.High.Shoots), I (b.High.Height), I (b.High.Girth)], .slice (some ⟨10, 0, none⟩) (0) (q10)]
abbrev K_law02_GrowthNarrows_n0 : List (Nat × List Value) := [(10, encL cXSample [])]
noncomputable def law02_GrowthNarrows_n0 (fu : Nat) (b : XBox) : Option Bool :=
  Option.bind (growth_Narrow fu b ([])) fun x1 =>
  bif ref02_Box b then (Option.bind (ref02_Samples fu ([])) fun x2 =>
    bif x2 then (Option.bind (growth_Narrow_1 fu b) fun x3 =>
      Option.bind (ref02_Narrow fu b ([])) fun x4 =>
      bif x4.2 then (bif x1.2 == 0 then (bif x3.2 == 0 then (bif (((x1.1.Low.Age == x4.1.Low.Age) && ((x1.1.Low.Shoots == x4.1.Low.Shoots) && ((x1.1.Low.Height == x4.1.Low.Height) && ((x1.1.Low.Girth == x4.1.Low.Girth) && true)))) && (((x1.1.High.Age == x4.1.High.Age) && ((x1.1.High.Shoots == x4.1.High.Shoots) && ((x1.1.High.Height == x4.1.High.Height) && ((x1.1.High.Girth == x4.1.High.Girth) && true)))) && true)) then (bif (((x3.1.Low.Age == x4.1.Low.Age) && ((x3.1.Low.Shoots == x4.1.Low.Shoots) && ((x3.1.Low.Height == x4.1.Low.Height) && ((x3.1.Low.Girth == x4.1.Low.Girth) && true)))) && (((x3.1.High.Age == x4.1.High.Age) && ((x3.1.High.Shoots == x4.1.High.Shoots) && ((x3.1.High.Height == x4.1.High.Height) && ((x3.1.High.Girth == x4.1.High.Girth) && true)))) && true)) then (Option.bind (law02_known fu) fun x5 =>
                some x5)
              else some false)
            else some false)
          else some false)
        else some false)
      else (bif x1.2 == 5 then (bif x3.2 == 5 then (bif (((x1.1.Low.Age == 0) && ((x1.1.Low.Shoots == 0) && ((x1.1.Low.Height == 0) && ((x1.1.Low.Girth == 0) && true)))) && (((x1.1.High.Age == 0) && ((x1.1.High.Shoots == 0) && ((x1.1.High.Height == 0) && ((x1.1.High.Girth == 0) && true)))) && true)) then (bif (((x3.1.Low.Age == 0) && ((x3.1.Low.Shoots == 0) && ((x3.1.Low.Height == 0) && ((x3.1.Low.Girth == 0) && true)))) && (((x3.1.High.Age == 0) && ((x3.1.High.Shoots == 0) && ((x3.1.High.Height == 0) && ((x3.1.High.Girth == 0) && true)))) && true)) then (Option.bind (law02_known fu) fun x5 =>
                some x5)
              else some false)
            else some false)
          else some false)
        else some false))
    else (bif x1.2 == 2 then (bif (((x1.1.Low.Age == 0) && ((x1.1.Low.Shoots == 0) && ((x1.1.Low.Height == 0) && ((x1.1.Low.Girth == 0) && true)))) && (((x1.1.High.Age == 0) && ((x1.1.High.Shoots == 0) && ((x1.1.High.Height == 0) && ((x1.1.High.Girth == 0) && true)))) && true)) then (Option.bind (law02_known fu) fun x5 =>
          some x5)
        else some false)
      else some false))
  else (bif x1.2 == 2 then (bif (((x1.1.Low.Age == 0) && ((x1.1.Low.Shoots == 0) && ((x1.1.Low.Height == 0) && ((x1.1.Low.Girth == 0) && true)))) && (((x1.1.High.Age == 0) && ((x1.1.High.Shoots == 0) && ((x1.1.High.Height == 0) && ((x1.1.High.Girth == 0) && true)))) && true)) then (Option.bind (law02_known fu) fun x5 =>
        some x5)
      else some false)
    else some false)
theorem law02_GrowthNarrows_n0_fc (fu : Nat) (b : XBox) (q10 : Nat) (r : Bool) (hh : law02_GrowthNarrows_n0 fu b = some r) : FC P GG 10 (A_law02_GrowthNarrows_n0 b q10) (K_law02_GrowthNarrows_n0) (.bool (r)) := by
  unfold law02_GrowthNarrows_n0 at hh
  cases h1 : growth_Narrow fu b ([]) with
  | none => rw [h1, oN] at hh; cases hh
  | some x1 =>
   rw [h1, oS] at hh
   rcases bb (ref02_Box b) with h2 | h2
   ·rw [h2, cT] at hh
    cases h3 : ref02_Samples fu ([]) with
    | none => rw [h3, oN] at hh; cases hh
    | some x2 =>
     rw [h3, oS] at hh
     rcases bb (x2) with h4 | h4
     ·rw [h4, cT] at hh
      cases h5 : growth_Narrow_1 fu b with
      | none => rw [h5, oN] at hh; cases hh
      | some x3 =>
       rw [h5, oS] at hh
       cases h6 : ref02_Narrow fu b ([]) with
       | none => rw [h6, oN] at hh; cases hh
       | some x4 =>
        rw [h6, oS] at hh
        rcases bb (x4.2) with h7 | h7
        ·rw [h7, cT] at hh
         rcases bb (x1.2 == 0) with h8 | h8
         ·rw [h8, cT] at hh
          rcases bb (x3.2 == 0) with h9 | h9
          ·rw [h9, cT] at hh
           rcases bb ((((x1.1.Low.Age == x4.1.Low.Age) && ((x1.1.Low.Shoots == x4.1.Low.Shoots) && ((x1.1.Low.Height == x4.1.Low.Height) && ((x1.1.Low.Girth == x4.1.Low.Girth) && true)))) && (((x1.1.High.Age == x4.1.High.Age) && ((x1.1.High.Shoots == x4.1.High.Shoots) && ((x1.1.High.Height == x4.1.High.Height) && ((x1.1.High.Girth == x4.1.High.Girth) && true)))) && true))) with h10 | h10
           ·rw [h10, cT] at hh
            rcases bb ((((x3.1.Low.Age == x4.1.Low.Age) && ((x3.1.Low.Shoots == x4.1.Low.Shoots) && ((x3.1.Low.Height == x4.1.Low.Height) && ((x3.1.Low.Girth == x4.1.Low.Girth) && true)))) && (((x3.1.High.Age == x4.1.High.Age) && ((x3.1.High.Shoots == x4.1.High.Shoots) && ((x3.1.High.Height == x4.1.High.Height) && ((x3.1.High.Girth == x4.1.High.Girth) && true)))) && true))) with h11 | h11
            ·rw [h11, cT] at hh
             cases h12 : law02_known fu with
             | none => rw [h12, oN] at hh; cases hh
             | some x5 =>
              rw [h12, oS] at hh
              rw [← sI hh]
              refine FC.x pfT 100 60 (z1b0 b q10 x1 ++ (z1b1 b q10 x2 x3 x4 ++ ((hT :: (hR 6 (hT :: hE :: hE :: hT :: (hR 4 ((hB hQ true) :: (hR 4 [(hB hQ true), hE, hE, (hC (.bool (x5))), hE, hE]))))))))) (aa (z1q0 fu b q10 x1 h1) <| aa (z1q1 fu b q10 x2 x3 x4 h2 h3 h4 h5 h6) <| pc h7 <| pc h8 <| pc h9 <| pc h10 <| pc h11 <| pc (law02_known_fc fu  x5 h12) <| pn) (by kernel_rfl) (by kernel_rfl) ?_ (by kernel_rfl)
              exact ⟨PinL.pf (encL_pf cXSample_pf _), trivial⟩
            ·rw [h11, cF] at hh
             rw [← sI hh]
             refine FC.x pfT 100 60 (z1b0 b q10 x1 ++ (z1b1 b q10 x2 x3 x4 ++ ((hT :: (hR 6 (hT :: hE :: hE :: hT :: (hR 4 ((hB hQ true) :: (hR 4 ((hB hQ false) :: (hR 4 []))))))))))) (aa (z1q0 fu b q10 x1 h1) <| aa (z1q1 fu b q10 x2 x3 x4 h2 h3 h4 h5 h6) <| pc h7 <| pc h8 <| pc h9 <| pc h10 <| pc h11 <| pn) (by kernel_rfl) (by kernel_rfl) ?_ (by kernel_rfl)
             exact ⟨PinL.pf (encL_pf cXSample_pf _), trivial⟩
           ·rw [h10, cF] at hh
            rw [← sI hh]
            refine FC.x pfT 100 60 (z1b0 b q10 x1 ++ (z1b1 b q10 x2 x3 x4 ++ ((hT :: (hR 6 (hT :: hE :: hE :: hT :: (hR 4 ((hB hQ false) :: (hR 6 []))))))))) (aa (z1q0 fu b q10 x1 h1) <| aa (z1q1 fu b q10 x2 x3 x4 h2 h3 h4 h5 h6) <| pc h7 <| pc h8 <| pc h9 <| pc h10 <| pn) (by kernel_rfl) (by kernel_rfl) ?_ (by kernel_rfl)
            exact ⟨PinL.pf (encL_pf cXSample_pf _), trivial⟩
          ·rw [h9, cF] at hh
           rw [← sI hh]
           refine FC.x pfT 100 60 (z1b0 b q10 x1 ++ (z1b1 b q10 x2 x3 x4 ++ ((hT :: (hR 6 (hT :: hE :: hE :: hF :: (hR 8 []))))))) (aa (z1q0 fu b q10 x1 h1) <| aa (z1q1 fu b q10 x2 x3 x4 h2 h3 h4 h5 h6) <| pc h7 <| pc h8 <| pc h9 <| pn) (by kernel_rfl) (by kernel_rfl) ?_ (by kernel_rfl)
           exact ⟨PinL.pf (encL_pf cXSample_pf _), trivial⟩
         ·rw [h8, cF] at hh
          rw [← sI hh]
          refine FC.x pfT 100 60 (z1b0 b q10 x1 ++ (z1b1 b q10 x2 x3 x4 ++ ((hT :: (hR 6 (hF :: (hR 9 []))))))) (aa (z1q0 fu b q10 x1 h1) <| aa (z1q1 fu b q10 x2 x3 x4 h2 h3 h4 h5 h6) <| pc h7 <| pc h8 <| pn) (by kernel_rfl) (by kernel_rfl) ?_ (by kernel_rfl)
          exact ⟨PinL.pf (encL_pf cXSample_pf _), trivial⟩
        ·rw [h7, cF] at hh
         rcases bb (x1.2 == 5) with h8 | h8
         ·rw [h8, cT] at hh
          rcases bb (x3.2 == 5) with h9 | h9
          ·rw [h9, cT] at hh
           rcases bb ((((x1.1.Low.Age == 0) && ((x1.1.Low.Shoots == 0) && ((x1.1.Low.Height == 0) && ((x1.1.Low.Girth == 0) && true)))) && (((x1.1.High.Age == 0) && ((x1.1.High.Shoots == 0) && ((x1.1.High.Height == 0) && ((x1.1.High.Girth == 0) && true)))) && true))) with h10 | h10
           ·rw [h10, cT] at hh
            rcases bb ((((x3.1.Low.Age == 0) && ((x3.1.Low.Shoots == 0) && ((x3.1.Low.Height == 0) && ((x3.1.Low.Girth == 0) && true)))) && (((x3.1.High.Age == 0) && ((x3.1.High.Shoots == 0) && ((x3.1.High.Height == 0) && ((x3.1.High.Girth == 0) && true)))) && true))) with h11 | h11
            ·rw [h11, cT] at hh
             cases h12 : law02_known fu with
             | none => rw [h12, oN] at hh; cases hh
             | some x5 =>
              rw [h12, oS] at hh
              rw [← sI hh]
              refine FC.x pfT 100 60 (z1b0 b q10 x1 ++ (z1b1 b q10 x2 x3 x4 ++ ((hF :: (hR 6 (hT :: hE :: hE :: hT :: (hR 4 ((hB hQ true) :: (hR 4 [(hB hQ true), hE, hE, (hC (.bool (x5))), hE, hE]))))))))) (aa (z1q0 fu b q10 x1 h1) <| aa (z1q1 fu b q10 x2 x3 x4 h2 h3 h4 h5 h6) <| pc h7 <| pc h8 <| pc h9 <| pc h10 <| pc h11 <| pc (law02_known_fc fu  x5 h12) <| pn) (by kernel_rfl) (by kernel_rfl) ?_ (by kernel_rfl)
              exact ⟨PinL.pf (encL_pf cXSample_pf _), trivial⟩
            ·rw [h11, cF] at hh
             rw [← sI hh]
             refine FC.x pfT 100 60 (z1b0 b q10 x1 ++ (z1b1 b q10 x2 x3 x4 ++ ((hF :: (hR 6 (hT :: hE :: hE :: hT :: (hR 4 ((hB hQ true) :: (hR 4 ((hB hQ false) :: (hR 4 []))))))))))) (aa (z1q0 fu b q10 x1 h1) <| aa (z1q1 fu b q10 x2 x3 x4 h2 h3 h4 h5 h6) <| pc h7 <| pc h8 <| pc h9 <| pc h10 <| pc h11 <| pn) (by kernel_rfl) (by kernel_rfl) ?_ (by kernel_rfl)
             exact ⟨PinL.pf (encL_pf cXSample_pf _), trivial⟩
           ·rw [h10, cF] at hh
            rw [← sI hh]
            refine FC.x pfT 100 60 (z1b0 b q10 x1 ++ (z1b1 b q10 x2 x3 x4 ++ ((hF :: (hR 6 (hT :: hE :: hE :: hT :: (hR 4 ((hB hQ false) :: (hR 6 []))))))))) (aa (z1q0 fu b q10 x1 h1) <| aa (z1q1 fu b q10 x2 x3 x4 h2 h3 h4 h5 h6) <| pc h7 <| pc h8 <| pc h9 <| pc h10 <| pn) (by kernel_rfl) (by kernel_rfl) ?_ (by kernel_rfl)
            exact ⟨PinL.pf (encL_pf cXSample_pf _), trivial⟩
          ·rw [h9, cF] at hh
           rw [← sI hh]
           refine FC.x pfT 100 60 (z1b0 b q10 x1 ++ (z1b1 b q10 x2 x3 x4 ++ ((hF :: (hR 6 (hT :: hE :: hE :: hF :: (hR 8 []))))))) (aa (z1q0 fu b q10 x1 h1) <| aa (z1q1 fu b q10 x2 x3 x4 h2 h3 h4 h5 h6) <| pc h7 <| pc h8 <| pc h9 <| pn) (by kernel_rfl) (by kernel_rfl) ?_ (by kernel_rfl)
           exact ⟨PinL.pf (encL_pf cXSample_pf _), trivial⟩
         ·rw [h8, cF] at hh
          rw [← sI hh]
          refine FC.x pfT 100 60 (z1b0 b q10 x1 ++ (z1b1 b q10 x2 x3 x4 ++ ((hF :: (hR 6 (hF :: (hR 9 []))))))) (aa (z1q0 fu b q10 x1 h1) <| aa (z1q1 fu b q10 x2 x3 x4 h2 h3 h4 h5 h6) <| pc h7 <| pc h8 <| pn) (by kernel_rfl) (by kernel_rfl) ?_ (by kernel_rfl)
          exact ⟨PinL.pf (encL_pf cXSample_pf _), trivial⟩
     ·rw [h4, cF] at hh
      rcases bb (x1.2 == 2) with h5 | h5
      ·rw [h5, cT] at hh
       rcases bb ((((x1.1.Low.Age == 0) && ((x1.1.Low.Shoots == 0) && ((x1.1.Low.Height == 0) && ((x1.1.Low.Girth == 0) && true)))) && (((x1.1.High.Age == 0) && ((x1.1.High.Shoots == 0) && ((x1.1.High.Height == 0) && ((x1.1.High.Girth == 0) && true)))) && true))) with h6 | h6
       ·rw [h6, cT] at hh
        cases h7 : law02_known fu with
        | none => rw [h7, oN] at hh; cases hh
        | some x5 =>
         rw [h7, oS] at hh
         rw [← sI hh]
         refine FC.x pfT 100 60 (z1b0 b q10 x1 ++ (z1b2 b q10 x2 ++ ([hT, hE, hE, hE, (hB hQ true), hE, hE, (hC (.bool (x5))), hE, hE]))) (aa (z1q0 fu b q10 x1 h1) <| aa (z1q2 fu b q10 x2 h2 h3 h4) <| pc h5 <| pc h6 <| pc (law02_known_fc fu  x5 h7) <| pn) (by kernel_rfl) (by kernel_rfl) ?_ (by kernel_rfl)
         exact ⟨PinL.pf (encL_pf cXSample_pf _), trivial⟩
       ·rw [h6, cF] at hh
        rw [← sI hh]
        refine FC.x pfT 100 60 (z1b0 b q10 x1 ++ (z1b2 b q10 x2 ++ ((hT :: hE :: hE :: hE :: (hB hQ false) :: (hR 4 []))))) (aa (z1q0 fu b q10 x1 h1) <| aa (z1q2 fu b q10 x2 h2 h3 h4) <| pc h5 <| pc h6 <| pn) (by kernel_rfl) (by kernel_rfl) ?_ (by kernel_rfl)
        exact ⟨PinL.pf (encL_pf cXSample_pf _), trivial⟩
      ·rw [h5, cF] at hh
       rw [← sI hh]
       refine FC.x pfT 100 60 (z1b0 b q10 x1 ++ (z1b2 b q10 x2 ++ ((hF :: (hR 5 []))))) (aa (z1q0 fu b q10 x1 h1) <| aa (z1q2 fu b q10 x2 h2 h3 h4) <| pc h5 <| pn) (by kernel_rfl) (by kernel_rfl) ?_ (by kernel_rfl)
       exact ⟨PinL.pf (encL_pf cXSample_pf _), trivial⟩
   ·rw [h2, cF] at hh
    rcases bb (x1.2 == 2) with h3 | h3
    ·rw [h3, cT] at hh
     rcases bb ((((x1.1.Low.Age == 0) && ((x1.1.Low.Shoots == 0) && ((x1.1.Low.Height == 0) && ((x1.1.Low.Girth == 0) && true)))) && (((x1.1.High.Age == 0) && ((x1.1.High.Shoots == 0) && ((x1.1.High.Height == 0) && ((x1.1.High.Girth == 0) && true)))) && true))) with h4 | h4
     ·rw [h4, cT] at hh
      cases h5 : law02_known fu with
      | none => rw [h5, oN] at hh; cases hh
      | some x5 =>
       rw [h5, oS] at hh
       rw [← sI hh]
       refine FC.x pfT 100 60 (z1b0 b q10 x1 ++ (((hB (hC (.bool (ref02_Box b))) false) :: (hR 4 [hT, hE, hE, hE, (hB hQ true), hE, hE, (hC (.bool (x5))), hE, hE])))) (aa (z1q0 fu b q10 x1 h1) <| pc h2 <| pc h3 <| pc h4 <| pc (law02_known_fc fu  x5 h5) <| pn) (by kernel_rfl) (by kernel_rfl) ?_ (by kernel_rfl)
       exact ⟨PinL.pf (encL_pf cXSample_pf _), trivial⟩
     ·rw [h4, cF] at hh
      rw [← sI hh]
      refine FC.x pfT 100 60 (z1b0 b q10 x1 ++ (((hB (hC (.bool (ref02_Box b))) false) :: (hR 4 (hT :: hE :: hE :: hE :: (hB hQ false) :: (hR 4 [])))))) (aa (z1q0 fu b q10 x1 h1) <| pc h2 <| pc h3 <| pc h4 <| pn) (by kernel_rfl) (by kernel_rfl) ?_ (by kernel_rfl)
      exact ⟨PinL.pf (encL_pf cXSample_pf _), trivial⟩
    ·rw [h3, cF] at hh
     rw [← sI hh]
     refine FC.x pfT 100 60 (z1b0 b q10 x1 ++ (((hB (hC (.bool (ref02_Box b))) false) :: (hR 4 (hF :: (hR 5 [])))))) (aa (z1q0 fu b q10 x1 h1) <| pc h2 <| pc h3 <| pn) (by kernel_rfl) (by kernel_rfl) ?_ (by kernel_rfl)
     exact ⟨PinL.pf (encL_pf cXSample_pf _), trivial⟩

/- greenhew/greenhewlaw02.GrowthNarrows -/
noncomputable abbrev z57i0 (b : XBox) (l_0 : XSample) (q10 : Nat) (x1 : XBox × Int) : Hint := (hM (.tuple #[.agg #[I (x1.1.Low.Age), I (x1.1.Low.Shoots), I (x1.1.Low.Height), I (x1.1.Low.Girth), I (x1.1.High.Age), I (x1.1.High.Shoots), I (x1.1.High.Height), I (x1.1.High.Girth)], I (x1.2)]) (.tuple #[.agg #[I (x1.1.Low.Age), I (x1.1.Low.Shoots), I (x1.1.Low.Height), I (x1.1.Low.Girth), I (x1.1.High.Age), I (x1.1.High.Shoots), I (x1.1.High.Height), I (x1.1.High.Girth)], I (x1.2)]) (A_growth_Narrow b ([l_0]) q10) (K_growth_Narrow ([l_0])) [(10, 10, 0)])
noncomputable abbrev z57i1 (l_0 : XSample) (q10 : Nat) (x2 : Bool) : Hint := (hB (hM (.bool (x2)) (.bool (x2)) (A_ref02_Samples ([l_0]) q10) (K_ref02_Samples ([l_0])) [(10, 10, 0)]) true)
noncomputable abbrev z57i2 (b : XBox) (l_0 : XSample) (x3 : XBox × Int) : Hint := (hM (.tuple #[.agg #[I (x3.1.Low.Age), I (x3.1.Low.Shoots), I (x3.1.Low.Height), I (x3.1.Low.Girth), I (x3.1.High.Age), I (x3.1.High.Shoots), I (x3.1.High.Height), I (x3.1.High.Girth)], I (x3.2)]) (.tuple #[.agg #[I (x3.1.Low.Age), I (x3.1.Low.Shoots), I (x3.1.Low.Height), I (x3.1.Low.Girth), I (x3.1.High.Age), I (x3.1.High.Shoots), I (x3.1.High.Height), I (x3.1.High.Girth)], I (x3.2)]) (A_growth_Narrow b ([l_0, l_0]) 2) (K_growth_Narrow ([l_0, l_0])) [(10, 104, 0)])
noncomputable abbrev z57i3 (b : XBox) (l_0 : XSample) (q10 : Nat) (x4 : XBox × Bool) : Hint := (hM (.tuple #[.agg #[I (x4.1.Low.Age), I (x4.1.Low.Shoots), I (x4.1.Low.Height), I (x4.1.Low.Girth), I (x4.1.High.Age), I (x4.1.High.Shoots), I (x4.1.High.Height), I (x4.1.High.Girth)], .bool (x4.2)]) (.tuple #[.agg #[I (x4.1.Low.Age), I (x4.1.Low.Shoots), I (x4.1.Low.Height), I (x4.1.Low.Girth), I (x4.1.High.Age), I (x4.1.High.Shoots), I (x4.1.High.Height), I (x4.1.High.Girth)], .bool (x4.2)]) (A_ref02_Narrow b ([l_0]) q10) (K_ref02_Narrow ([l_0])) [(10, 10, 0)])
theorem z57p4 (b : XBox) (l_0 : XSample) (q10 : Nat) : VRs (Ren.emb [(10, 10, 0)]) (A_growth_Narrow b ([l_0]) q10) [.agg #[I (b.Low.Age), I (b.Low.Shoots), I (b.Low.Height), I (b.Low.Girth), I (b.High.Age), I (b.High.Shoots), I (b.High.Height), I (b.High.Girth)], .slice (some ⟨10, 0, none⟩) (1) (q10)] := (.cons _ _ _ _ (VR.of_pf rfl) (.cons _ _ _ _ (.slc 10 0 _ _ _ ⟨10, 0, 0, 0⟩ rfl (.inl rfl)) .nil))
theorem z57p5 (l_0 : XSample) (q10 : Nat) : VRs (Ren.emb [(10, 10, 0)]) (A_ref02_Samples ([l_0]) q10) [.slice (some ⟨10, 0, none⟩) (1) (q10)] := (.cons _ _ _ _ (.slc 10 0 _ _ _ ⟨10, 0, 0, 0⟩ rfl (.inl rfl)) .nil)
theorem z57p6 (b : XBox) (l_0 : XSample) : VRs (Ren.emb [(10, 104, 0)]) (A_growth_Narrow b ([l_0, l_0]) 2) [.agg #[I (b.Low.Age), I (b.Low.Shoots), I (b.Low.Height), I (b.Low.Girth), I (b.High.Age), I (b.High.Shoots), I (b.High.Height), I (b.High.Girth)], .slice (some ⟨104, 0, none⟩) (2) (2)] := (.cons _ _ _ _ (VR.of_pf rfl) (.cons _ _ _ _ (.slc 10 0 _ _ _ ⟨104, 0, 0, 0⟩ rfl (.inl rfl)) .nil))
theorem z57p7 (b : XBox) (l_0 : XSample) (q10 : Nat) : VRs (Ren.emb [(10, 10, 0)]) (A_ref02_Narrow b ([l_0]) q10) [.agg #[I (b.Low.Age), I (b.Low.Shoots), I (b.Low.Height), I (b.Low.Girth), I (b.High.Age), I (b.High.Shoots), I (b.High.Height), I (b.High.Girth)], .slice (some ⟨10, 0, none⟩) (1) (q10)] := (.cons _ _ _ _ (VR.of_pf rfl) (.cons _ _ _ _ (.slc 10 0 _ _ _ ⟨10, 0, 0, 0⟩ rfl (.inl rfl)) .nil))
abbrev z57r8 (l_0 : XSample) : Prop := MemAt (Ren.emb [(10, 10, 0)]) (encL cXSample ([l_0])) 0 ([I (l_0.Kind), I (l_0.Span.Low), I (l_0.Span.High)]) ∧ True
abbrev z57r9 (x1 : XBox × Int) : Prop := VR (Ren.emb [(10, 10, 0)]) (.tuple #[.agg #[I (x1.1.Low.Age), I (x1.1.Low.Shoots), I (x1.1.Low.Height), I (x1.1.Low.Girth), I (x1.1.High.Age), I (x1.1.High.Shoots), I (x1.1.High.Height), I (x1.1.High.Girth)], I (x1.2)]) (.tuple #[.agg #[I (x1.1.Low.Age), I (x1.1.Low.Shoots), I (x1.1.Low.Height), I (x1.1.Low.Girth), I (x1.1.High.Age), I (x1.1.High.Shoots), I (x1.1.High.Height), I (x1.1.High.Girth)], I (x1.2)])
abbrev z57r10 (l_0 : XSample) : Prop := MemAt (Ren.emb [(10, 104, 0)]) (encL cXSample ([l_0, l_0])) 0 ([I (l_0.Kind), I (l_0.Span.Low), I (l_0.Span.High), I (l_0.Kind), I (l_0.Span.Low), I (l_0.Span.High)]) ∧ True
abbrev z57r11 (x3 : XBox × Int) : Prop := VR (Ren.emb [(10, 104, 0)]) (.tuple #[.agg #[I (x3.1.Low.Age), I (x3.1.Low.Shoots), I (x3.1.Low.Height), I (x3.1.Low.Girth), I (x3.1.High.Age), I (x3.1.High.Shoots), I (x3.1.High.Height), I (x3.1.High.Girth)], I (x3.2)]) (.tuple #[.agg #[I (x3.1.Low.Age), I (x3.1.Low.Shoots), I (x3.1.Low.Height), I (x3.1.Low.Girth), I (x3.1.High.Age), I (x3.1.High.Shoots), I (x3.1.High.Height), I (x3.1.High.Girth)], I (x3.2)])
abbrev z57r12 (b : XBox) : Prop := (.agg #[I (b.Low.Age), I (b.Low.Shoots), I (b.Low.Height), I (b.Low.Girth), I (b.High.Age), I (b.High.Shoots), I (b.High.Height), I (b.High.Girth)] : Value) = .agg #[I (b.Low.Age), I (b.Low.Shoots), I (b.Low.Height), I (b.Low.Girth), I (b.High.Age), I (b.High.Shoots), I (b.High.Height), I (b.High.Girth)]
abbrev z57r13 (x3 : XBox × Int) : Prop := (.tuple #[.agg #[I (x3.1.Low.Age), I (x3.1.Low.Shoots), I (x3.1.Low.Height), I (x3.1.Low.Girth), I (x3.1.High.Age), I (x3.1.High.Shoots), I (x3.1.High.Height), I (x3.1.High.Girth)], I (x3.2)] : Value) = .tuple #[.agg #[I (x3.1.Low.Age), I (x3.1.Low.Shoots), I (x3.1.Low.Height), I (x3.1.Low.Girth), I (x3.1.High.Age), I (x3.1.High.Shoots), I (x3.1.High.Height), I (x3.1.High.Girth)], I (x3.2)]
abbrev z57r14 (x3 : XBox × Int) : Prop := (.agg #[I (x3.1.Low.Age), I (x3.1.Low.Shoots), I (x3.1.Low.Height), I (x3.1.Low.Girth), I (x3.1.High.Age), I (x3.1.High.Shoots), I (x3.1.High.Height), I (x3.1.High.Girth)] : Value) = .agg #[I (x3.1.Low.Age), I (x3.1.Low.Shoots), I (x3.1.Low.Height), I (x3.1.Low.Girth), I (x3.1.High.Age), I (x3.1.High.Shoots), I (x3.1.High.Height), I (x3.1.High.Girth)]
abbrev z57r15 (x4 : XBox × Bool) : Prop := VR (Ren.emb [(10, 10, 0)]) (.tuple #[.agg #[I (x4.1.Low.Age), I (x4.1.Low.Shoots), I (x4.1.Low.Height), I (x4.1.Low.Girth), I (x4.1.High.Age), I (x4.1.High.Shoots), I (x4.1.High.Height), I (x4.1.High.Girth)], .bool (x4.2)]) (.tuple #[.agg #[I (x4.1.Low.Age), I (x4.1.Low.Shoots), I (x4.1.Low.Height), I (x4.1.Low.Girth), I (x4.1.High.Age), I (x4.1.High.Shoots), I (x4.1.High.Height), I (x4.1.High.Girth)], .bool (x4.2)])
noncomputable abbrev z57i16 (l_0 : XSample) (q10 : Nat) (x2 : Bool) : Hint := (hB (hM (.bool (x2)) (.bool (x2)) (A_ref02_Samples ([l_0]) q10) (K_ref02_Samples ([l_0])) [(10, 10, 0)]) false)
noncomputable def z57b0 (b : XBox) (l_0 : XSample) (q10 : Nat) (x1 : XBox × Int) : List Hint := (hR 14 ((z57i0 b l_0 q10 x1) :: (hR 10 [])))
def z57q0 (fu : Nat) (b : XBox) (l_0 : XSample) (q10 : Nat) (x1 : XBox × Int) (h1 : (growth_Narrow fu b ([l_0])) = some x1) := PA.mk <| pc (growth_Narrow_fc fu b ([l_0]) q10 x1 h1) <| pc (z57p4 b l_0 q10) <| pt (z57r8 l_0) (⟨MemAt.same _ (encL_pf cXSample_pf _), trivial⟩) <| pt (z57r9 x1) (selfB_self 9 _ rfl _) <| pc (ref02_Box_fc b) <| pn
noncomputable def z57b1 (b : XBox) : List Hint := [(hB (hC (.bool (ref02_Box b))) true), hE, hE, hE]
def z57q1 (fu : Nat) (b : XBox) (l_0 : XSample) (q10 : Nat) (x2 : Bool) (h2 : (ref02_Box b) = true) (h3 : (ref02_Samples fu ([l_0])) = some x2) := PA.mk <| pc h2 <| pc (ref02_Samples_fc fu ([l_0]) q10 x2 h3) <| pc (z57p5 l_0 q10) <| pt (z57r8 l_0) (⟨MemAt.same _ (encL_pf cXSample_pf _), trivial⟩) <| pt (VR (Ren.emb [(10, 10, 0)]) (.bool (x2)) (.bool (x2))) (selfB_self 9 _ rfl _) <| pn
noncomputable def z57b2 (b : XBox) (l_0 : XSample) (q10 : Nat) (x2 : Bool) (x3 : XBox × Int) (x4 : XBox × Bool) : List Hint := ((z57i1 l_0 q10 x2) :: (hR 22 ((hED 8 [3]) :: (hR 4 ((z57i2 b l_0 x3) :: (hR 8 [(z57i3 b l_0 q10 x4), hE, hE]))))))
def z57q2 (fu : Nat) (b : XBox) (l_0 : XSample) (q10 : Nat) (x2 : Bool) (x3 : XBox × Int) (x4 : XBox × Bool) (h4 : (x2) = true) (h5 : (growth_Narrow fu b ([l_0, l_0])) = some x3) (h6 : (ref02_Narrow fu b ([l_0])) = some x4) := PA.mk <| pc h4 <| pc (growth_Narrow_fc fu b ([l_0, l_0]) 2 x3 h5) <| pc (z57p6 b l_0) <| pt (z57r10 l_0) (⟨MemAt.same _ (encL_pf cXSample_pf _), trivial⟩) <| pt (z57r11 x3) (selfB_self 9 _ rfl _) <| pt (z57r12 b) rfl <| pt (z57r12 b) rfl <| pc (growth_Narrow_fc fu b ([l_0, l_0]) 2 x3 h5) <| pc (z57p6 b l_0) <| pt (z57r10 l_0) (⟨MemAt.same _ (encL_pf cXSample_pf _), trivial⟩) <| pt (z57r11 x3) (selfB_self 9 _ rfl _) <| pt (z57r13 x3) rfl <| pt (z57r13 x3) rfl <| pt (z57r14 x3) rfl <| pt ((I (x3.2) : Value) = I (x3.2)) rfl <| pt ((I (x3.2) : Value) = I (x3.2)) rfl <| pc (ref02_Narrow_fc fu b ([l_0]) q10 x4 h6) <| pc (z57p7 b l_0 q10) <| pt (z57r8 l_0) (⟨MemAt.same _ (encL_pf cXSample_pf _), trivial⟩) <| pt (z57r15 x4) (selfB_self 9 _ rfl _) <| pn
abbrev A_law02_GrowthNarrows_n1 (b : XBox) (q10 : Nat) : List Value := [.agg #[I (b.Low.Age), I (b.Low.Shoots), I (b.Low.Height), I (b.Low.Girth), I (b.High.Age), I (b.High.Shoots), I (b.High.Height), I (b.High.Girth)], .slice (some ⟨10, 0, none⟩) (1) (q10)]
abbrev K_law02_GrowthNarrows_n1 (l_0 : XSample) : List (Nat × List Value) := [(10, encL cXSample [l_0])]
noncomputable def law02_GrowthNarrows_n1 (fu : Nat) (b : XBox) (l_0 : XSample) : Option Bool :=
  Option.bind (growth_Narrow fu b ([l_0])) fun x1 =>
  bif ref02_Box b then (Option.bind (ref02_Samples fu ([l_0])) fun x2 =>
    bif x2 then (Option.bind (growth_Narrow fu b ([l_0, l_0])) fun x3 =>
      Option.bind (ref02_Narrow fu b ([l_0])) fun x4 =>
      bif x4.2 then (bif x1.2 == 0 then (bif x3.2 == 0 then (bif (((x1.1.Low.Age == x4.1.Low.Age) && ((x1.1.Low.Shoots == x4.1.Low.Shoots) && ((x1.1.Low.Height == x4.1.Low.Height) && ((x1.1.Low.Girth == x4.1.Low.Girth) && true)))) && (((x1.1.High.Age == x4.1.High.Age) && ((x1.1.High.Shoots == x4.1.High.Shoots) && ((x1.1.High.Height == x4.1.High.Height) && ((x1.1.High.Girth == x4.1.High.Girth) && true)))) && true)) then (bif (((x3.1.Low.Age == x4.1.Low.Age) && ((x3.1.Low.Shoots == x4.1.Low.Shoots) && ((x3.1.Low.Height == x4.1.Low.Height) && ((x3.1.Low.Girth == x4.1.Low.Girth) && true)))) && (((x3.1.High.Age == x4.1.High.Age) && ((x3.1.High.Shoots == x4.1.High.Shoots) && ((x3.1.High.Height == x4.1.High.Height) && ((x3.1.High.Girth == x4.1.High.Girth) && true)))) && true)) then (Option.bind (law02_known fu) fun x5 =>
                some x5)
              else some false)
            else some false)
          else some false)
        else some false)
      else (bif x1.2 == 5 then (bif x3.2 == 5 then (bif (((x1.1.Low.Age == 0) && ((x1.1.Low.Shoots == 0) && ((x1.1.Low.Height == 0) && ((x1.1.Low.Girth == 0) && true)))) && (((x1.1.High.Age == 0) && ((x1.1.High.Shoots == 0) && ((x1.1.High.Height == 0) && ((x1.1.High.Girth == 0) && true)))) && true)) then (bif (((x3.1.Low.Age == 0) && ((x3.1.Low.Shoots == 0) && ((x3.1.Low.Height == 0) && ((x3.1.Low.Girth == 0) && true)))) && (((x3.1.High.Age == 0) && ((x3.1.High.Shoots == 0) && ((x3.1.High.Height == 0) && ((x3.1.High.Girth == 0) && true)))) && true)) then (Option.bind (law02_known fu) fun x5 =>
                some x5)
              else some false)
            else some false)
          else some false)
        else some false))
    else (bif x1.2 == 2 then (bif (((x1.1.Low.Age == 0) && ((x1.1.Low.Shoots == 0) && ((x1.1.Low.Height == 0) && ((x1.1.Low.Girth == 0) && true)))) && (((x1.1.High.Age == 0) && ((x1.1.High.Shoots == 0) && ((x1.1.High.Height == 0) && ((x1.1.High.Girth == 0) && true)))) && true)) then (Option.bind (law02_known fu) fun x5 =>
          some x5)
        else some false)
      else some false))
  else (bif x1.2 == 2 then (bif (((x1.1.Low.Age == 0) && ((x1.1.Low.Shoots == 0) && ((x1.1.Low.Height == 0) && ((x1.1.Low.Girth == 0) && true)))) && (((x1.1.High.Age == 0) && ((x1.1.High.Shoots == 0) && ((x1.1.High.Height == 0) && ((x1.1.High.Girth == 0) && true)))) && true)) then (Option.bind (law02_known fu) fun x5 =>
        some x5)
      else some false)
    else some false)
theorem law02_GrowthNarrows_n1_fc (fu : Nat) (b : XBox) (l_0 : XSample) (q10 : Nat) (r : Bool) (hh : law02_GrowthNarrows_n1 fu b l_0 = some r) : FC P GG 10 (A_law02_GrowthNarrows_n1 b q10) (K_law02_GrowthNarrows_n1 l_0) (.bool (r)) := by
  unfold law02_GrowthNarrows_n1 at hh
  cases h1 : growth_Narrow fu b ([l_0]) with
  | none => rw [h1, oN] at hh; cases hh
  | some x1 =>
   rw [h1, oS] at hh
   rcases bb (ref02_Box b) with h2 | h2
   ·rw [h2, cT] at hh
    cases h3 : ref02_Samples fu ([l_0]) with
    | none => rw [h3, oN] at hh; cases hh
    | some x2 =>
     rw [h3, oS] at hh
     rcases bb (x2) with h4 | h4
     ·rw [h4, cT] at hh
      cases h5 : growth_Narrow fu b ([l_0, l_0]) with
      | none => rw [h5, oN] at hh; cases hh
      | some x3 =>
       rw [h5, oS] at hh
       cases h6 : ref02_Narrow fu b ([l_0]) with
       | none => rw [h6, oN] at hh; cases hh
       | some x4 =>
        rw [h6, oS] at hh
        rcases bb (x4.2) with h7 | h7
        ·rw [h7, cT] at hh
         rcases bb (x1.2 == 0) with h8 | h8
         ·rw [h8, cT] at hh
          rcases bb (x3.2 == 0) with h9 | h9
          ·rw [h9, cT] at hh
           rcases bb ((((x1.1.Low.Age == x4.1.Low.Age) && ((x1.1.Low.Shoots == x4.1.Low.Shoots) && ((x1.1.Low.Height == x4.1.Low.Height) && ((x1.1.Low.Girth == x4.1.Low.Girth) && true)))) && (((x1.1.High.Age == x4.1.High.Age) && ((x1.1.High.Shoots == x4.1.High.Shoots) && ((x1.1.High.Height == x4.1.High.Height) && ((x1.1.High.Girth == x4.1.High.Girth) && true)))) && true))) with h10 | h10
           ·rw [h10, cT] at hh
            rcases bb ((((x3.1.Low.Age == x4.1.Low.Age) && ((x3.1.Low.Shoots == x4.1.Low.Shoots) && ((x3.1.Low.Height == x4.1.Low.Height) && ((x3.1.Low.Girth == x4.1.Low.Girth) && true)))) && (((x3.1.High.Age == x4.1.High.Age) && ((x3.1.High.Shoots == x4.1.High.Shoots) && ((x3.1.High.Height == x4.1.High.Height) && ((x3.1.High.Girth == x4.1.High.Girth) && true)))) && true))) with h11 | h11
            ·rw [h11, cT] at hh
             cases h12 : law02_known fu with
             | none => rw [h12, oN] at hh; cases hh
             | some x5 =>
              rw [h12, oS] at hh
              rw [← sI hh]
              refine FC.x pfT 100 60 (z57b0 b l_0 q10 x1 ++ (z57b1 b ++ (z57b2 b l_0 q10 x2 x3 x4 ++ ((hT :: (hR 6 (hT :: hE :: hE :: hT :: (hR 4 ((hB hQ true) :: (hR 4 [(hB hQ true), hE, hE, (hC (.bool (x5))), hE, hE])))))))))) (aa (z57q0 fu b l_0 q10 x1 h1) <| aa (z57q1 fu b l_0 q10 x2 h2 h3) <| aa (z57q2 fu b l_0 q10 x2 x3 x4 h4 h5 h6) <| pc h7 <| pc h8 <| pc h9 <| pc h10 <| pc h11 <| pc (law02_known_fc fu  x5 h12) <| pn) (by kernel_rfl) (by kernel_rfl) ?_ (by kernel_rfl)
              exact ⟨PinL.pf (encL_pf cXSample_pf _), trivial⟩
            ·rw [h11, cF] at hh
             rw [← sI hh]
             refine FC.x pfT 100 60 (z57b0 b l_0 q10 x1 ++ (z57b1 b ++ (z57b2 b l_0 q10 x2 x3 x4 ++ ((hT :: (hR 6 (hT :: hE :: hE :: hT :: (hR 4 ((hB hQ true) :: (hR 4 ((hB hQ false) :: (hR 4 [])))))))))))) (aa (z57q0 fu b l_0 q10 x1 h1) <| aa (z57q1 fu b l_0 q10 x2 h2 h3) <| aa (z57q2 fu b l_0 q10 x2 x3 x4 h4 h5 h6) <| pc h7 <| pc h8 <| pc h9 <| pc h10 <| pc h11 <| pn) (by kernel_rfl) (by kernel_rfl) ?_ (by kernel_rfl)
             exact ⟨PinL.pf (encL_pf cXSample_pf _), trivial⟩
           ·rw [h10, cF] at hh
            rw [← sI hh]
            refine FC.x pfT 100 60 (z57b0 b l_0 q10 x1 ++ (z57b1 b ++ (z57b2 b l_0 q10 x2 x3 x4 ++ ((hT :: (hR 6 (hT :: hE :: hE :: hT :: (hR 4 ((hB hQ false) :: (hR 6 [])))))))))) (aa (z57q0 fu b l_0 q10 x1 h1) <| aa (z57q1 fu b l_0 q10 x2 h2 h3) <| aa (z57q2 fu b l_0 q10 x2 x3 x4 h4 h5 h6) <| pc h7 <| pc h8 <| pc h9 <| pc h10 <| pn) (by kernel_rfl) (by kernel_rfl) ?_ (by kernel_rfl)
            exact ⟨PinL.pf (encL_pf cXSample_pf _), trivial⟩
          ·rw [h9, cF] at hh
           rw [← sI hh]
           refine FC.x pfT 100 60 (z57b0 b l_0 q10 x1 ++ (z57b1 b ++ (z57b2 b l_0 q10 x2 x3 x4 ++ ((hT :: (hR 6 (hT :: hE :: hE :: hF :: (hR 8 [])))))))) (aa (z57q0 fu b l_0 q10 x1 h1) <| aa (z57q1 fu b l_0 q10 x2 h2 h3) <| aa (z57q2 fu b l_0 q10 x2 x3 x4 h4 h5 h6) <| pc h7 <| pc h8 <| pc h9 <| pn) (by kernel_rfl) (by kernel_rfl) ?_ (by kernel_rfl)
           exact ⟨PinL.pf (encL_pf cXSample_pf _), trivial⟩
         ·rw [h8, cF] at hh
          rw [← sI hh]
          refine FC.x pfT 100 60 (z57b0 b l_0 q10 x1 ++ (z57b1 b ++ (z57b2 b l_0 q10 x2 x3 x4 ++ ((hT :: (hR 6 (hF :: (hR 9 [])))))))) (aa (z57q0 fu b l_0 q10 x1 h1) <| aa (z57q1 fu b l_0 q10 x2 h2 h3) <| aa (z57q2 fu b l_0 q10 x2 x3 x4 h4 h5 h6) <| pc h7 <| pc h8 <| pn) (by kernel_rfl) (by kernel_rfl) ?_ (by kernel_rfl)
          exact ⟨PinL.pf (encL_pf cXSample_pf _), trivial⟩
        ·rw [h7, cF] at hh
         rcases bb (x1.2 == 5) with h8 | h8
         ·rw [h8, cT] at hh
          rcases bb (x3.2 == 5) with h9 | h9
          ·rw [h9, cT] at hh
           rcases bb ((((x1.1.Low.Age == 0) && ((x1.1.Low.Shoots == 0) && ((x1.1.Low.Height == 0) && ((x1.1.Low.Girth == 0) && true)))) && (((x1.1.High.Age == 0) && ((x1.1.High.Shoots == 0) && ((x1.1.High.Height == 0) && ((x1.1.High.Girth == 0) && true)))) && true))) with h10 | h10
           ·rw [h10, cT] at hh
            rcases bb ((((x3.1.Low.Age == 0) && ((x3.1.Low.Shoots == 0) && ((x3.1.Low.Height == 0) && ((x3.1.Low.Girth == 0) && true)))) && (((x3.1.High.Age == 0) && ((x3.1.High.Shoots == 0) && ((x3.1.High.Height == 0) && ((x3.1.High.Girth == 0) && true)))) && true))) with h11 | h11
            ·rw [h11, cT] at hh
             cases h12 : law02_known fu with
             | none => rw [h12, oN] at hh; cases hh
             | some x5 =>
              rw [h12, oS] at hh
              rw [← sI hh]
              refine FC.x pfT 100 60 (z57b0 b l_0 q10 x1 ++ (z57b1 b ++ (z57b2 b l_0 q10 x2 x3 x4 ++ ((hF :: (hR 6 (hT :: hE :: hE :: hT :: (hR 4 ((hB hQ true) :: (hR 4 [(hB hQ true), hE, hE, (hC (.bool (x5))), hE, hE])))))))))) (aa (z57q0 fu b l_0 q10 x1 h1) <| aa (z57q1 fu b l_0 q10 x2 h2 h3) <| aa (z57q2 fu b l_0 q10 x2 x3 x4 h4 h5 h6) <| pc h7 <| pc h8 <| pc h9 <| pc h10 <| pc h11 <| pc (law02_known_fc fu  x5 h12) <| pn) (by kernel_rfl) (by kernel_rfl) ?_ (by kernel_rfl)
              exact ⟨PinL.pf (encL_pf cXSample_pf _), trivial⟩
            ·rw [h11, cF] at hh
             rw [← sI hh]
             refine FC.x pfT 100 60 (z57b0 b l_0 q10 x1 ++ (z57b1 b ++ (z57b2 b l_0 q10 x2 x3 x4 ++ ((hF :: (hR 6 (hT :: hE :: hE :: hT :: (hR 4 ((hB hQ true) :: (hR 4 ((hB hQ false) :: (hR 4 [])))))))))))) (aa (z57q0 fu b l_0 q10 x1 h1) <| aa (z57q1 fu b l_0 q10 x2 h2 h3) <| aa (z57q2 fu b l_0 q10 x2 x3 x4 h4 h5 h6) <| pc h7 <| pc h8 <| pc h9 <| pc h10 <| pc h11 <| pn) (by kernel_rfl) (by kernel_rfl) ?_ (by kernel_rfl)
             exact ⟨PinL.pf (encL_pf cXSample_pf _), trivial⟩
           ·rw [h10, cF] at hh
            rw [← sI hh]
            refine FC.x pfT 100 60 (z57b0 b l_0 q10 x1 ++ (z57b1 b ++ (z57b2 b l_0 q10 x2 x3 x4 ++ ((hF :: (hR 6 (hT :: hE :: hE :: hT :: (hR 4 ((hB hQ false) :: (hR 6 [])))))))))) (aa (z57q0 fu b l_0 q10 x1 h1) <| aa (z57q1 fu b l_0 q10 x2 h2 h3) <| aa (z57q2 fu b l_0 q10 x2 x3 x4 h4 h5 h6) <| pc h7 <| pc h8 <| pc h9 <| pc h10 <| pn) (by kernel_rfl) (by kernel_rfl) ?_ (by kernel_rfl)
            exact ⟨PinL.pf (encL_pf cXSample_pf _), trivial⟩
          ·rw [h9, cF] at hh
           rw [← sI hh]
           refine FC.x pfT 100 60 (z57b0 b l_0 q10 x1 ++ (z57b1 b ++ (z57b2 b l_0 q10 x2 x3 x4 ++ ((hF :: (hR 6 (hT :: hE :: hE :: hF :: (hR 8 [])))))))) (aa (z57q0 fu b l_0 q10 x1 h1) <| aa (z57q1 fu b l_0 q10 x2 h2 h3) <| aa (z57q2 fu b l_0 q10 x2 x3 x4 h4 h5 h6) <| pc h7 <| pc h8 <| pc h9 <| pn) (by kernel_rfl) (by kernel_rfl) ?_ (by kernel_rfl)
           exact ⟨PinL.pf (encL_pf cXSample_pf _), trivial⟩
         ·rw [h8, cF] at hh
          rw [← sI hh]
          refine FC.x pfT 100 60 (z57b0 b l_0 q10 x1 ++ (z57b1 b ++ (z57b2 b l_0 q10 x2 x3 x4 ++ ((hF :: (hR 6 (hF :: (hR 9 [])))))))) (aa (z57q0 fu b l_0 q10 x1 h1) <| aa (z57q1 fu b l_0 q10 x2 h2 h3) <| aa (z57q2 fu b l_0 q10 x2 x3 x4 h4 h5 h6) <| pc h7 <| pc h8 <| pn) (by kernel_rfl) (by kernel_rfl) ?_ (by kernel_rfl)
          exact ⟨PinL.pf (encL_pf cXSample_pf _), trivial⟩
     ·rw [h4, cF] at hh
      rcases bb (x1.2 == 2) with h5 | h5
      ·rw [h5, cT] at hh
       rcases bb ((((x1.1.Low.Age == 0) && ((x1.1.Low.Shoots == 0) && ((x1.1.Low.Height == 0) && ((x1.1.Low.Girth == 0) && true)))) && (((x1.1.High.Age == 0) && ((x1.1.High.Shoots == 0) && ((x1.1.High.Height == 0) && ((x1.1.High.Girth == 0) && true)))) && true))) with h6 | h6
       ·rw [h6, cT] at hh
        cases h7 : law02_known fu with
        | none => rw [h7, oN] at hh; cases hh
        | some x5 =>
         rw [h7, oS] at hh
         rw [← sI hh]
         refine FC.x pfT 100 60 (z57b0 b l_0 q10 x1 ++ (z57b1 b ++ ([(z57i16 l_0 q10 x2), hE, hE, hE, hT, hE, hE, hE, (hB hQ true), hE, hE, (hC (.bool (x5))), hE, hE]))) (aa (z57q0 fu b l_0 q10 x1 h1) <| aa (z57q1 fu b l_0 q10 x2 h2 h3) <| pc h4 <| pc h5 <| pc h6 <| pc (law02_known_fc fu  x5 h7) <| pn) (by kernel_rfl) (by kernel_rfl) ?_ (by kernel_rfl)
         exact ⟨PinL.pf (encL_pf cXSample_pf _), trivial⟩
       ·rw [h6, cF] at hh
        rw [← sI hh]
        refine FC.x pfT 100 60 (z57b0 b l_0 q10 x1 ++ (z57b1 b ++ (((z57i16 l_0 q10 x2) :: hE :: hE :: hE :: hT :: hE :: hE :: hE :: (hB hQ false) :: (hR 4 []))))) (aa (z57q0 fu b l_0 q10 x1 h1) <| aa (z57q1 fu b l_0 q10 x2 h2 h3) <| pc h4 <| pc h5 <| pc h6 <| pn) (by kernel_rfl) (by kernel_rfl) ?_ (by kernel_rfl)
        exact ⟨PinL.pf (encL_pf cXSample_pf _), trivial⟩
      ·rw [h5, cF] at hh
       rw [← sI hh]
       refine FC.x pfT 100 60 (z57b0 b l_0 q10 x1 ++ (z57b1 b ++ (((z57i16 l_0 q10 x2) :: hE :: hE :: hE :: hF :: (hR 5 []))))) (aa (z57q0 fu b l_0 q10 x1 h1) <| aa (z57q1 fu b l_0 q10 x2 h2 h3) <| pc h4 <| pc h5 <| pn) (by kernel_rfl) (by kernel_rfl) ?_ (by kernel_rfl)
       exact ⟨PinL.pf (encL_pf cXSample_pf _), trivial⟩
   ·rw [h2, cF] at hh
    rcases bb (x1.2 == 2) with h3 | h3
    ·rw [h3, cT] at hh
     rcases bb ((((x1.1.Low.Age == 0) && ((x1.1.Low.Shoots == 0) && ((x1.1.Low.Height == 0) && ((x1.1.Low.Girth == 0) && true)))) && (((x1.1.High.Age == 0) && ((x1.1.High.Shoots == 0) && ((x1.1.High.Height == 0) && ((x1.1.High.Girth == 0) && true)))) && true))) with h4 | h4
     ·rw [h4, cT] at hh
      cases h5 : law02_known fu with
      | none => rw [h5, oN] at hh; cases hh
      | some x5 =>
       rw [h5, oS] at hh
       rw [← sI hh]
       refine FC.x pfT 100 60 (z57b0 b l_0 q10 x1 ++ (((hB (hC (.bool (ref02_Box b))) false) :: (hR 4 [hT, hE, hE, hE, (hB hQ true), hE, hE, (hC (.bool (x5))), hE, hE])))) (aa (z57q0 fu b l_0 q10 x1 h1) <| pc h2 <| pc h3 <| pc h4 <| pc (law02_known_fc fu  x5 h5) <| pn) (by kernel_rfl) (by kernel_rfl) ?_ (by kernel_rfl)
       exact ⟨PinL.pf (encL_pf cXSample_pf _), trivial⟩
     ·rw [h4, cF] at hh
      rw [← sI hh]
      refine FC.x pfT 100 60 (z57b0 b l_0 q10 x1 ++ (((hB (hC (.bool (ref02_Box b))) false) :: (hR 4 (hT :: hE :: hE :: hE :: (hB hQ false) :: (hR 4 [])))))) (aa (z57q0 fu b l_0 q10 x1 h1) <| pc h2 <| pc h3 <| pc h4 <| pn) (by kernel_rfl) (by kernel_rfl) ?_ (by kernel_rfl)
      exact ⟨PinL.pf (encL_pf cXSample_pf _), trivial⟩
    ·rw [h3, cF] at hh
     rw [← sI hh]
     refine FC.x pfT 100 60 (z57b0 b l_0 q10 x1 ++ (((hB (hC (.bool (ref02_Box b))) false) :: (hR 4 (hF :: (hR 5 [])))))) (aa (z57q0 fu b l_0 q10 x1 h1) <| pc h2 <| pc h3 <| pn) (by kernel_rfl) (by kernel_rfl) ?_ (by kernel_rfl)
     exact ⟨PinL.pf (encL_pf cXSample_pf _), trivial⟩

/- greenhew/greenhewlaw02.GrowthNarrows -/
noncomputable abbrev z58i0 (b : XBox) (l_0 l_1 : XSample) (q10 : Nat) (x1 : XBox × Int) : Hint := (hM (.tuple #[.agg #[I (x1.1.Low.Age), I (x1.1.Low.Shoots), I (x1.1.Low.Height), I (x1.1.Low.Girth), I (x1.1.High.Age), I (x1.1.High.Shoots), I (x1.1.High.Height), I (x1.1.High.Girth)], I (x1.2)]) (.tuple #[.agg #[I (x1.1.Low.Age), I (x1.1.Low.Shoots), I (x1.1.Low.Height), I (x1.1.Low.Girth), I (x1.1.High.Age), I (x1.1.High.Shoots), I (x1.1.High.Height), I (x1.1.High.Girth)], I (x1.2)]) (A_growth_Narrow b ([l_0, l_1]) q10) (K_growth_Narrow ([l_0, l_1])) [(10, 10, 0)])
noncomputable abbrev z58i1 (l_0 l_1 : XSample) (q10 : Nat) (x2 : Bool) : Hint := (hB (hM (.bool (x2)) (.bool (x2)) (A_ref02_Samples ([l_0, l_1]) q10) (K_ref02_Samples ([l_0, l_1])) [(10, 10, 0)]) true)
noncomputable abbrev z58i2 (b : XBox) (l_0 l_1 : XSample) (x3 : XBox × Int) : Hint := (hM (.tuple #[.agg #[I (x3.1.Low.Age), I (x3.1.Low.Shoots), I (x3.1.Low.Height), I (x3.1.Low.Girth), I (x3.1.High.Age), I (x3.1.High.Shoots), I (x3.1.High.Height), I (x3.1.High.Girth)], I (x3.2)]) (.tuple #[.agg #[I (x3.1.Low.Age), I (x3.1.Low.Shoots), I (x3.1.Low.Height), I (x3.1.Low.Girth), I (x3.1.High.Age), I (x3.1.High.Shoots), I (x3.1.High.Height), I (x3.1.High.Girth)], I (x3.2)]) (A_growth_Narrow b ([l_1, l_0, l_0, l_1]) 4) (K_growth_Narrow ([l_1, l_0, l_0, l_1])) [(10, 106, 0)])
noncomputable abbrev z58i3 (b : XBox) (l_0 l_1 : XSample) (q10 : Nat) (x4 : XBox × Bool) : Hint := (hM (.tuple #[.agg #[I (x4.1.Low.Age), I (x4.1.Low.Shoots), I (x4.1.Low.Height), I (x4.1.Low.Girth), I (x4.1.High.Age), I (x4.1.High.Shoots), I (x4.1.High.Height), I (x4.1.High.Girth)], .bool (x4.2)]) (.tuple #[.agg #[I (x4.1.Low.Age), I (x4.1.Low.Shoots), I (x4.1.Low.Height), I (x4.1.Low.Girth), I (x4.1.High.Age), I (x4.1.High.Shoots), I (x4.1.High.Height), I (x4.1.High.Girth)], .bool (x4.2)]) (A_ref02_Narrow b ([l_0, l_1]) q10) (K_ref02_Narrow ([l_0, l_1])) [(10, 10, 0)])
theorem z58p4 (b : XBox) (l_0 l_1 : XSample) (q10 : Nat) : VRs (Ren.emb [(10, 10, 0)]) (A_growth_Narrow b ([l_0, l_1]) q10) [.agg #[I (b.Low.Age), I (b.Low.Shoots), I (b.Low.Height), I (b.Low.Girth), I (b.High.Age), I (b.High.Shoots), I (b.High.Height), I (b.High.Girth)], .slice (some ⟨10, 0, none⟩) (2) (q10)] := (.cons _ _ _ _ (VR.of_pf rfl) (.cons _ _ _ _ (.slc 10 0 _ _ _ ⟨10, 0, 0, 0⟩ rfl (.inl rfl)) .nil))
theorem z58p5 (l_0 l_1 : XSample) (q10 : Nat) : VRs (Ren.emb [(10, 10, 0)]) (A_ref02_Samples ([l_0, l_1]) q10) [.slice (some ⟨10, 0, none⟩) (2) (q10)] := (.cons _ _ _ _ (.slc 10 0 _ _ _ ⟨10, 0, 0, 0⟩ rfl (.inl rfl)) .nil)
theorem z58p6 (b : XBox) (l_0 l_1 : XSample) : VRs (Ren.emb [(10, 106, 0)]) (A_growth_Narrow b ([l_1, l_0, l_0, l_1]) 4) [.agg #[I (b.Low.Age), I (b.Low.Shoots), I (b.Low.Height), I (b.Low.Girth), I (b.High.Age), I (b.High.Shoots), I (b.High.Height), I (b.High.Girth)], .slice (some ⟨106, 0, none⟩) (4) (4)] := (.cons _ _ _ _ (VR.of_pf rfl) (.cons _ _ _ _ (.slc 10 0 _ _ _ ⟨106, 0, 0, 0⟩ rfl (.inl rfl)) .nil))
theorem z58p7 (b : XBox) (l_0 l_1 : XSample) (q10 : Nat) : VRs (Ren.emb [(10, 10, 0)]) (A_ref02_Narrow b ([l_0, l_1]) q10) [.agg #[I (b.Low.Age), I (b.Low.Shoots), I (b.Low.Height), I (b.Low.Girth), I (b.High.Age), I (b.High.Shoots), I (b.High.Height), I (b.High.Girth)], .slice (some ⟨10, 0, none⟩) (2) (q10)] := (.cons _ _ _ _ (VR.of_pf rfl) (.cons _ _ _ _ (.slc 10 0 _ _ _ ⟨10, 0, 0, 0⟩ rfl (.inl rfl)) .nil))
abbrev z58r8 (l_0 l_1 : XSample) : Prop := MemAt (Ren.emb [(10, 10, 0)]) (encL cXSample ([l_0, l_1])) 0 ([I (l_0.Kind), I (l_0.Span.Low), I (l_0.Span.High), I (l_1.Kind), I (l_1.Span.Low), I (l_1.Span.High)]) ∧ True
abbrev z58r9 (x1 : XBox × Int) : Prop := VR (Ren.emb [(10, 10, 0)]) (.tuple #[.agg #[I (x1.1.Low.Age), I (x1.1.Low.Shoots), I (x1.1.Low.Height), I (x1.1.Low.Girth), I (x1.1.High.Age), I (x1.1.High.Shoots), I (x1.1.High.Height), I (x1.1.High.Girth)], I (x1.2)]) (.tuple #[.agg #[I (x1.1.Low.Age), I (x1.1.Low.Shoots), I (x1.1.Low.Height), I (x1.1.Low.Girth), I (x1.1.High.Age), I (x1.1.High.Shoots), I (x1.1.High.Height), I (x1.1.High.Girth)], I (x1.2)])
abbrev z58r10 (l_0 l_1 : XSample) : Prop := MemAt (Ren.emb [(10, 106, 0)]) (encL cXSample ([l_1, l_0, l_0, l_1])) 0 ([I (l_1.Kind), I (l_1.Span.Low), I (l_1.Span.High), I (l_0.Kind), I (l_0.Span.Low), I (l_0.Span.High), I (l_0.Kind), I (l_0.Span.Low), I (l_0.Span.High), I (l_1.Kind), I (l_1.Span.Low), I (l_1.Span.High)]) ∧ True
abbrev z58r11 (x3 : XBox × Int) : Prop := VR (Ren.emb [(10, 106, 0)]) (.tuple #[.agg #[I (x3.1.Low.Age), I (x3.1.Low.Shoots), I (x3.1.Low.Height), I (x3.1.Low.Girth), I (x3.1.High.Age), I (x3.1.High.Shoots), I (x3.1.High.Height), I (x3.1.High.Girth)], I (x3.2)]) (.tuple #[.agg #[I (x3.1.Low.Age), I (x3.1.Low.Shoots), I (x3.1.Low.Height), I (x3.1.Low.Girth), I (x3.1.High.Age), I (x3.1.High.Shoots), I (x3.1.High.Height), I (x3.1.High.Girth)], I (x3.2)])
abbrev z58r12 (b : XBox) : Prop := (.agg #[I (b.Low.Age), I (b.Low.Shoots), I (b.Low.Height), I (b.Low.Girth), I (b.High.Age), I (b.High.Shoots), I (b.High.Height), I (b.High.Girth)] : Value) = .agg #[I (b.Low.Age), I (b.Low.Shoots), I (b.Low.Height), I (b.Low.Girth), I (b.High.Age), I (b.High.Shoots), I (b.High.Height), I (b.High.Girth)]
abbrev z58r13 (x3 : XBox × Int) : Prop := (.tuple #[.agg #[I (x3.1.Low.Age), I (x3.1.Low.Shoots), I (x3.1.Low.Height), I (x3.1.Low.Girth), I (x3.1.High.Age), I (x3.1.High.Shoots), I (x3.1.High.Height), I (x3.1.High.Girth)], I (x3.2)] : Value) = .tuple #[.agg #[I (x3.1.Low.Age), I (x3.1.Low.Shoots), I (x3.1.Low.Height), I (x3.1.Low.Girth), I (x3.1.High.Age), I (x3.1.High.Shoots), I (x3.1.High.Height), I (x3.1.High.Girth)], I (x3.2)]
abbrev z58r14 (x3 : XBox × Int) : Prop := (.agg #[I (x3.1.Low.Age), I (x3.1.Low.Shoots), I (x3.1.Low.Height), I (x3.1.Low.Girth), I (x3.1.High.Age), I (x3.1.High.Shoots), I (x3.1.High.Height), I (x3.1.High.Girth)] : Value) = .agg #[I (x3.1.Low.Age), I (x3.1.Low.Shoots), I (x3.1.Low.Height), I (x3.1.Low.Girth), I (x3.1.High.Age), I (x3.1.High.Shoots), I (x3.1.High.Height), I (x3.1.High.Girth)]
abbrev z58r15 (x4 : XBox × Bool) : Prop := VR (Ren.emb [(10, 10, 0)]) (.tuple #[.agg #[I (x4.1.Low.Age), I (x4.1.Low.Shoots), I (x4.1.Low.Height), I (x4.1.Low.Girth), I (x4.1.High.Age), I (x4.1.High.Shoots), I (x4.1.High.Height), I (x4.1.High.Girth)], .bool (x4.2)]) (.tuple #[.agg #[I (x4.1.Low.Age), I (x4.1.Low.Shoots), I (x4.1.Low.Height), I (x4.1.Low.Girth), I (x4.1.High.Age), I (x4.1.High.Shoots), I (x4.1.High.Height), I (x4.1.High.Girth)], .bool (x4.2)])
noncomputable abbrev z58i16 (l_0 l_1 : XSample) (q10 : Nat) (x2 : Bool) : Hint := (hB (hM (.bool (x2)) (.bool (x2)) (A_ref02_Samples ([l_0, l_1]) q10) (K_ref02_Samples ([l_0, l_1])) [(10, 10, 0)]) false)
noncomputable def z58b0 (b : XBox) (l_0 l_1 : XSample) (q10 : Nat) (x1 : XBox × Int) : List Hint := (hR 14 ((z58i0 b l_0 l_1 q10 x1) :: (hR 10 [])))
def z58q0 (fu : Nat) (b : XBox) (l_0 l_1 : XSample) (q10 : Nat) (x1 : XBox × Int) (h1 : (growth_Narrow fu b ([l_0, l_1])) = some x1) := PA.mk <| pc (growth_Narrow_fc fu b ([l_0, l_1]) q10 x1 h1) <| pc (z58p4 b l_0 l_1 q10) <| pt (z58r8 l_0 l_1) (⟨MemAt.same _ (encL_pf cXSample_pf _), trivial⟩) <| pt (z58r9 x1) (selfB_self 9 _ rfl _) <| pc (ref02_Box_fc b) <| pn
noncomputable def z58b1 (b : XBox) : List Hint := [(hB (hC (.bool (ref02_Box b))) true), hE, hE, hE]
def z58q1 (fu : Nat) (b : XBox) (l_0 l_1 : XSample) (q10 : Nat) (x2 : Bool) (h2 : (ref02_Box b) = true) (h3 : (ref02_Samples fu ([l_0, l_1])) = some x2) := PA.mk <| pc h2 <| pc (ref02_Samples_fc fu ([l_0, l_1]) q10 x2 h3) <| pc (z58p5 l_0 l_1 q10) <| pt (z58r8 l_0 l_1) (⟨MemAt.same _ (encL_pf cXSample_pf _), trivial⟩) <| pt (VR (Ren.emb [(10, 10, 0)]) (.bool (x2)) (.bool (x2))) (selfB_self 9 _ rfl _) <| pn
noncomputable def z58b2 (b : XBox) (l_0 l_1 : XSample) (q10 : Nat) (x2 : Bool) (x3 : XBox × Int) (x4 : XBox × Bool) : List Hint := ((z58i1 l_0 l_1 q10 x2) :: (hR 35 ((hED 8 [3]) :: (hR 4 ((z58i2 b l_0 l_1 x3) :: (hR 8 [(z58i3 b l_0 l_1 q10 x4), hE, hE]))))))
def z58q2 (fu : Nat) (b : XBox) (l_0 l_1 : XSample) (q10 : Nat) (x2 : Bool) (x3 : XBox × Int) (x4 : XBox × Bool) (h4 : (x2) = true) (h5 : (growth_Narrow fu b ([l_1, l_0, l_0, l_1])) = some x3) (h6 : (ref02_Narrow fu b ([l_0, l_1])) = some x4) := PA.mk <| pc h4 <| pc (growth_Narrow_fc fu b ([l_1, l_0, l_0, l_1]) 4 x3 h5) <| pc (z58p6 b l_0 l_1) <| pt (z58r10 l_0 l_1) (⟨MemAt.same _ (encL_pf cXSample_pf _), trivial⟩) <| pt (z58r11 x3) (selfB_self 9 _ rfl _) <| pt (z58r12 b) rfl <| pt (z58r12 b) rfl <| pc (growth_Narrow_fc fu b ([l_1, l_0, l_0, l_1]) 4 x3 h5) <| pc (z58p6 b l_0 l_1) <| pt (z58r10 l_0 l_1) (⟨MemAt.same _ (encL_pf cXSample_pf _), trivial⟩) <| pt (z58r11 x3) (selfB_self 9 _ rfl _) <| pt (z58r13 x3) rfl <| pt (z58r13 x3) rfl <| pt (z58r14 x3) rfl <| pt ((I (x3.2) : Value) = I (x3.2)) rfl <| pt ((I (x3.2) : Value) = I (x3.2)) rfl <| pc (ref02_Narrow_fc fu b ([l_0, l_1]) q10 x4 h6) <| pc (z58p7 b l_0 l_1 q10) <| pt (z58r8 l_0 l_1) (⟨MemAt.same _ (encL_pf cXSample_pf _), trivial⟩) <| pt (z58r15 x4) (selfB_self 9 _ rfl _) <| pn
abbrev A_law02_GrowthNarrows_n2 (b : XBox) (q10 : Nat) : List Value := [.agg #[I (b.Low.Age), I (b.Low.Shoots), I (b.Low.Height), I (b.Low.Girth), I (b.High.Age), I (b.High.Shoots), I (b.High.Height), I (b.High.Girth)], .slice (some ⟨10, 0, none⟩) (2) (q10)]
abbrev K_law02_GrowthNarrows_n2 (l_0 l_1 : XSample) : List (Nat × List Value) := [(10, encL cXSample [l_0, l_1])]
noncomputable def law02_GrowthNarrows_n2 (fu : Nat) (b : XBox) (l_0 l_1 : XSample) : Option Bool :=
  Option.bind (growth_Narrow fu b ([l_0, l_1])) fun x1 =>
  bif ref02_Box b then (Option.bind (ref02_Samples fu ([l_0, l_1])) fun x2 =>
    bif x2 then (Option.bind (growth_Narrow fu b ([l_1, l_0, l_0, l_1])) fun x3 =>
      Option.bind (ref02_Narrow fu b ([l_0, l_1])) fun x4 =>
      bif x4.2 then (bif x1.2 == 0 then (bif x3.2 == 0 then (bif (((x1.1.Low.Age == x4.1.Low.Age) && ((x1.1.Low.Shoots == x4.1.Low.Shoots) && ((x1.1.Low.Height == x4.1.Low.Height) && ((x1.1.Low.Girth == x4.1.Low.Girth) && true)))) && (((x1.1.High.Age == x4.1.High.Age) && ((x1.1.High.Shoots == x4.1.High.Shoots) && ((x1.1.High.Height == x4.1.High.Height) && ((x1.1.High.Girth == x4.1.High.Girth) && true)))) && true)) then (bif (((x3.1.Low.Age == x4.1.Low.Age) && ((x3.1.Low.Shoots == x4.1.Low.Shoots) && ((x3.1.Low.Height == x4.1.Low.Height) && ((x3.1.Low.Girth == x4.1.Low.Girth) && true)))) && (((x3.1.High.Age == x4.1.High.Age) && ((x3.1.High.Shoots == x4.1.High.Shoots) && ((x3.1.High.Height == x4.1.High.Height) && ((x3.1.High.Girth == x4.1.High.Girth) && true)))) && true)) then (Option.bind (law02_known fu) fun x5 =>
                some x5)
              else some false)
            else some false)
          else some false)
        else some false)
      else (bif x1.2 == 5 then (bif x3.2 == 5 then (bif (((x1.1.Low.Age == 0) && ((x1.1.Low.Shoots == 0) && ((x1.1.Low.Height == 0) && ((x1.1.Low.Girth == 0) && true)))) && (((x1.1.High.Age == 0) && ((x1.1.High.Shoots == 0) && ((x1.1.High.Height == 0) && ((x1.1.High.Girth == 0) && true)))) && true)) then (bif (((x3.1.Low.Age == 0) && ((x3.1.Low.Shoots == 0) && ((x3.1.Low.Height == 0) && ((x3.1.Low.Girth == 0) && true)))) && (((x3.1.High.Age == 0) && ((x3.1.High.Shoots == 0) && ((x3.1.High.Height == 0) && ((x3.1.High.Girth == 0) && true)))) && true)) then (Option.bind (law02_known fu) fun x5 =>
                some x5)
              else some false)
            else some false)
          else some false)
        else some false))
    else (bif x1.2 == 2 then (bif (((x1.1.Low.Age == 0) && ((x1.1.Low.Shoots == 0) && ((x1.1.Low.Height == 0) && ((x1.1.Low.Girth == 0) && true)))) && (((x1.1.High.Age == 0) && ((x1.1.High.Shoots == 0) && ((x1.1.High.Height == 0) && ((x1.1.High.Girth == 0) && true)))) && true)) then (Option.bind (law02_known fu) fun x5 =>
          some x5)
        else some false)
      else some false))
  else (bif x1.2 == 2 then (bif (((x1.1.Low.Age == 0) && ((x1.1.Low.Shoots == 0) && ((x1.1.Low.Height == 0) && ((x1.1.Low.Girth == 0) && true)))) && (((x1.1.High.Age == 0) && ((x1.1.High.Shoots == 0) && ((x1.1.High.Height == 0) && ((x1.1.High.Girth == 0) && true)))) && true)) then (Option.bind (law02_known fu) fun x5 =>
        some x5)
      else some false)
    else some false)
theorem law02_GrowthNarrows_n2_fc (fu : Nat) (b : XBox) (l_0 l_1 : XSample) (q10 : Nat) (r : Bool) (hh : law02_GrowthNarrows_n2 fu b l_0 l_1 = some r) : FC P GG 10 (A_law02_GrowthNarrows_n2 b q10) (K_law02_GrowthNarrows_n2 l_0 l_1) (.bool (r)) := by
  unfold law02_GrowthNarrows_n2 at hh
  cases h1 : growth_Narrow fu b ([l_0, l_1]) with
  | none => rw [h1, oN] at hh; cases hh
  | some x1 =>
   rw [h1, oS] at hh
   rcases bb (ref02_Box b) with h2 | h2
   ·rw [h2, cT] at hh
    cases h3 : ref02_Samples fu ([l_0, l_1]) with
    | none => rw [h3, oN] at hh; cases hh
    | some x2 =>
     rw [h3, oS] at hh
     rcases bb (x2) with h4 | h4
     ·rw [h4, cT] at hh
      cases h5 : growth_Narrow fu b ([l_1, l_0, l_0, l_1]) with
      | none => rw [h5, oN] at hh; cases hh
      | some x3 =>
       rw [h5, oS] at hh
       cases h6 : ref02_Narrow fu b ([l_0, l_1]) with
       | none => rw [h6, oN] at hh; cases hh
       | some x4 =>
        rw [h6, oS] at hh
        rcases bb (x4.2) with h7 | h7
        ·rw [h7, cT] at hh
         rcases bb (x1.2 == 0) with h8 | h8
         ·rw [h8, cT] at hh
          rcases bb (x3.2 == 0) with h9 | h9
          ·rw [h9, cT] at hh
           rcases bb ((((x1.1.Low.Age == x4.1.Low.Age) && ((x1.1.Low.Shoots == x4.1.Low.Shoots) && ((x1.1.Low.Height == x4.1.Low.Height) && ((x1.1.Low.Girth == x4.1.Low.Girth) && true)))) && (((x1.1.High.Age == x4.1.High.Age) && ((x1.1.High.Shoots == x4.1.High.Shoots) && ((x1.1.High.Height == x4.1.High.Height) && ((x1.1.High.Girth == x4.1.High.Girth) && true)))) && true))) with h10 | h10
           ·rw [h10, cT] at hh
            rcases bb ((((x3.1.Low.Age == x4.1.Low.Age) && ((x3.1.Low.Shoots == x4.1.Low.Shoots) && ((x3.1.Low.Height == x4.1.Low.Height) && ((x3.1.Low.Girth == x4.1.Low.Girth) && true)))) && (((x3.1.High.Age == x4.1.High.Age) && ((x3.1.High.Shoots == x4.1.High.Shoots) && ((x3.1.High.Height == x4.1.High.Height) && ((x3.1.High.Girth == x4.1.High.Girth) && true)))) && true))) with h11 | h11
            ·rw [h11, cT] at hh
             cases h12 : law02_known fu with
             | none => rw [h12, oN] at hh; cases hh
             | some x5 =>
              rw [h12, oS] at hh
              rw [← sI hh]
              refine FC.x pfT 100 60 (z58b0 b l_0 l_1 q10 x1 ++ (z58b1 b ++ (z58b2 b l_0 l_1 q10 x2 x3 x4 ++ ((hT :: (hR 6 (hT :: hE :: hE :: hT :: (hR 4 ((hB hQ true) :: (hR 4 [(hB hQ true), hE, hE, (hC (.bool (x5))), hE, hE])))))))))) (aa (z58q0 fu b l_0 l_1 q10 x1 h1) <| aa (z58q1 fu b l_0 l_1 q10 x2 h2 h3) <| aa (z58q2 fu b l_0 l_1 q10 x2 x3 x4 h4 h5 h6) <| pc h7 <| pc h8 <| pc h9 <| pc h10 <| pc h11 <| pc (law02_known_fc fu  x5 h12) <| pn) (by kernel_rfl) (by kernel_rfl) ?_ (by kernel_rfl)
              exact ⟨PinL.pf (encL_pf cXSample_pf _), trivial⟩
            ·rw [h11, cF] at hh
             rw [← sI hh]
             refine FC.x pfT 100 60 (z58b0 b l_0 l_1 q10 x1 ++ (z58b1 b ++ (z58b2 b l_0 l_1 q10 x2 x3 x4 ++ ((hT :: (hR 6 (hT :: hE :: hE :: hT :: (hR 4 ((hB hQ true) :: (hR 4 ((hB hQ false) :: (hR 4 [])))))))))))) (aa (z58q0 fu b l_0 l_1 q10 x1 h1) <| aa (z58q1 fu b l_0 l_1 q10 x2 h2 h3) <| aa (z58q2 fu b l_0 l_1 q10 x2 x3 x4 h4 h5 h6) <| pc h7 <| pc h8 <| pc h9 <| pc h10 <| pc h11 <| pn) (by kernel_rfl) (by kernel_rfl) ?_ (by kernel_rfl)
             exact ⟨PinL.pf (encL_pf cXSample_pf _), trivial⟩
           ·rw [h10, cF] at hh
            rw [← sI hh]
            refine FC.x pfT 100 60 (z58b0 b l_0 l_1 q10 x1 ++ (z58b1 b ++ (z58b2 b l_0 l_1 q10 x2 x3 x4 ++ ((hT :: (hR 6 (hT :: hE :: hE :: hT :: (hR 4 ((hB hQ false) :: (hR 6 [])))))))))) (aa (z58q0 fu b l_0 l_1 q10 x1 h1) <| aa (z58q1 fu b l_0 l_1 q10 x2 h2 h3) <| aa (z58q2 fu b l_0 l_1 q10 x2 x3 x4 h4 h5 h6) <| pc h7 <| pc h8 <| pc h9 <| pc h10 <| pn) (by kernel_rfl) (by kernel_rfl) ?_ (by kernel_rfl)
            exact ⟨PinL.pf (encL_pf cXSample_pf _), trivial⟩
          ·rw [h9, cF] at hh
           rw [← sI hh]
           refine FC.x pfT 100 60 (z58b0 b l_0 l_1 q10 x1 ++ (z58b1 b ++ (z58b2 b l_0 l_1 q10 x2 x3 x4 ++ ((hT :: (hR 6 (hT :: hE :: hE :: hF :: (hR 8 [])))))))) (aa (z58q0 fu b l_0 l_1 q10 x1 h1) <| aa (z58q1 fu b l_0 l_1 q10 x2 h2 h3) <| aa (z58q2 fu b l_0 l_1 q10 x2 x3 x4 h4 h5 h6) <| pc h7 <| pc h8 <| pc h9 <| pn) (by kernel_rfl) (by kernel_rfl) ?_ (by kernel_rfl)
           exact ⟨PinL.pf (encL_pf cXSample_pf _), trivial⟩
         ·rw [h8, cF] at hh
          rw [← sI hh]
          refine FC.x pfT 100 60 (z58b0 b l_0 l_1 q10 x1 ++ (z58b1 b ++ (z58b2 b l_0 l_1 q10 x2 x3 x4 ++ ((hT :: (hR 6 (hF :: (hR 9 [])))))))) (aa (z58q0 fu b l_0 l_1 q10 x1 h1) <| aa (z58q1 fu b l_0 l_1 q10 x2 h2 h3) <| aa (z58q2 fu b l_0 l_1 q10 x2 x3 x4 h4 h5 h6) <| pc h7 <| pc h8 <| pn) (by kernel_rfl) (by kernel_rfl) ?_ (by kernel_rfl)
          exact ⟨PinL.pf (encL_pf cXSample_pf _), trivial⟩
        ·rw [h7, cF] at hh
         rcases bb (x1.2 == 5) with h8 | h8
         ·rw [h8, cT] at hh
          rcases bb (x3.2 == 5) with h9 | h9
          ·rw [h9, cT] at hh
           rcases bb ((((x1.1.Low.Age == 0) && ((x1.1.Low.Shoots == 0) && ((x1.1.Low.Height == 0) && ((x1.1.Low.Girth == 0) && true)))) && (((x1.1.High.Age == 0) && ((x1.1.High.Shoots == 0) && ((x1.1.High.Height == 0) && ((x1.1.High.Girth == 0) && true)))) && true))) with h10 | h10
           ·rw [h10, cT] at hh
            rcases bb ((((x3.1.Low.Age == 0) && ((x3.1.Low.Shoots == 0) && ((x3.1.Low.Height == 0) && ((x3.1.Low.Girth == 0) && true)))) && (((x3.1.High.Age == 0) && ((x3.1.High.Shoots == 0) && ((x3.1.High.Height == 0) && ((x3.1.High.Girth == 0) && true)))) && true))) with h11 | h11
            ·rw [h11, cT] at hh
             cases h12 : law02_known fu with
             | none => rw [h12, oN] at hh; cases hh
             | some x5 =>
              rw [h12, oS] at hh
              rw [← sI hh]
              refine FC.x pfT 100 60 (z58b0 b l_0 l_1 q10 x1 ++ (z58b1 b ++ (z58b2 b l_0 l_1 q10 x2 x3 x4 ++ ((hF :: (hR 6 (hT :: hE :: hE :: hT :: (hR 4 ((hB hQ true) :: (hR 4 [(hB hQ true), hE, hE, (hC (.bool (x5))), hE, hE])))))))))) (aa (z58q0 fu b l_0 l_1 q10 x1 h1) <| aa (z58q1 fu b l_0 l_1 q10 x2 h2 h3) <| aa (z58q2 fu b l_0 l_1 q10 x2 x3 x4 h4 h5 h6) <| pc h7 <| pc h8 <| pc h9 <| pc h10 <| pc h11 <| pc (law02_known_fc fu  x5 h12) <| pn) (by kernel_rfl) (by kernel_rfl) ?_ (by kernel_rfl)
              exact ⟨PinL.pf (encL_pf cXSample_pf _), trivial⟩
            ·rw [h11, cF] at hh
             rw [← sI hh]
             refine FC.x pfT 100 60 (z58b0 b l_0 l_1 q10 x1 ++ (z58b1 b ++ (z58b2 b l_0 l_1 q10 x2 x3 x4 ++ ((hF :: (hR 6 (hT :: hE :: hE :: hT :: (hR 4 ((hB hQ true) :: (hR 4 ((hB hQ false) :: (hR 4 [])))))))))))) (aa (z58q0 fu b l_0 l_1 q10 x1 h1) <| aa (z58q1 fu b l_0 l_1 q10 x2 h2 h3) <| aa (z58q2 fu b l_0 l_1 q10 x2 x3 x4 h4 h5 h6) <| pc h7 <| pc h8 <| pc h9 <| pc h10 <| pc h11 <| pn) (by kernel_rfl) (by kernel_rfl) ?_ (by kernel_rfl)
             exact ⟨PinL.pf (encL_pf cXSample_pf _), trivial⟩
           ·rw [h10, cF] at hh
            rw [← sI hh]
            refine FC.x pfT 100 60 (z58b0 b l_0 l_1 q10 x1 ++ (z58b1 b ++ (z58b2 b l_0 l_1 q10 x2 x3 x4 ++ ((hF :: (hR 6 (hT :: hE :: hE :: hT :: (hR 4 ((hB hQ false) :: (hR 6 [])))))))))) (aa (z58q0 fu b l_0 l_1 q10 x1 h1) <| aa (z58q1 fu b l_0 l_1 q10 x2 h2 h3) <| aa (z58q2 fu b l_0 l_1 q10 x2 x3 x4 h4 h5 h6) <| pc h7 <| pc h8 <| pc h9 <| pc h10 <| pn) (by kernel_rfl) (by kernel_rfl) ?_ (by kernel_rfl)
            exact ⟨PinL.pf (encL_pf cXSample_pf _), trivial⟩
          ·rw [h9, cF] at hh
           rw [← sI hh]
           refine FC.x pfT 100 60 (z58b0 b l_0 l_1 q10 x1 ++ (z58b1 b ++ (z58b2 b l_0 l_1 q10 x2 x3 x4 ++ ((hF :: (hR 6 (hT :: hE :: hE :: hF :: (hR 8 [])))))))) (aa (z58q0 fu b l_0 l_1 q10 x1 h1) <| aa (z58q1 fu b l_0 l_1 q10 x2 h2 h3) <| aa (z58q2 fu b l_0 l_1 q10 x2 x3 x4 h4 h5 h6) <| pc h7 <| pc h8 <| pc h9 <| pn) (by kernel_rfl) (by kernel_rfl) ?_ (by kernel_rfl)
           exact ⟨PinL.pf (encL_pf cXSample_pf _), trivial⟩
         ·rw [h8, cF] at hh
          rw [← sI hh]
          refine FC.x pfT 100 60 (z58b0 b l_0 l_1 q10 x1 ++ (z58b1 b ++ (z58b2 b l_0 l_1 q10 x2 x3 x4 ++ ((hF :: (hR 6 (hF :: (hR 9 [])))))))) (aa (z58q0 fu b l_0 l_1 q10 x1 h1) <| aa (z58q1 fu b l_0 l_1 q10 x2 h2 h3) <| aa (z58q2 fu b l_0 l_1 q10 x2 x3 x4 h4 h5 h6) <| pc h7 <| pc h8 <| pn) (by kernel_rfl) (by kernel_rfl) ?_ (by kernel_rfl)
          exact ⟨PinL.pf (encL_pf cXSample_pf _), trivial⟩
     ·rw [h4, cF] at hh
      rcases bb (x1.2 == 2) with h5 | h5
      ·rw [h5, cT] at hh
       rcases bb ((((x1.1.Low.Age == 0) && ((x1.1.Low.Shoots == 0) && ((x1.1.Low.Height == 0) && ((x1.1.Low.Girth == 0) && true)))) && (((x1.1.High.Age == 0) && ((x1.1.High.Shoots == 0) && ((x1.1.High.Height == 0) && ((x1.1.High.Girth == 0) && true)))) && true))) with h6 | h6
       ·rw [h6, cT] at hh
        cases h7 : law02_known fu with
        | none => rw [h7, oN] at hh; cases hh
        | some x5 =>
         rw [h7, oS] at hh
         rw [← sI hh]
         refine FC.x pfT 100 60 (z58b0 b l_0 l_1 q10 x1 ++ (z58b1 b ++ ([(z58i16 l_0 l_1 q10 x2), hE, hE, hE, hT, hE, hE, hE, (hB hQ true), hE, hE, (hC (.bool (x5))), hE, hE]))) (aa (z58q0 fu b l_0 l_1 q10 x1 h1) <| aa (z58q1 fu b l_0 l_1 q10 x2 h2 h3) <| pc h4 <| pc h5 <| pc h6 <| pc (law02_known_fc fu  x5 h7) <| pn) (by kernel_rfl) (by kernel_rfl) ?_ (by kernel_rfl)
         exact ⟨PinL.pf (encL_pf cXSample_pf _), trivial⟩
       ·rw [h6, cF] at hh
        rw [← sI hh]
        refine FC.x pfT 100 60 (z58b0 b l_0 l_1 q10 x1 ++ (z58b1 b ++ (((z58i16 l_0 l_1 q10 x2) :: hE :: hE :: hE :: hT :: hE :: hE :: hE :: (hB hQ false) :: (hR 4 []))))) (aa (z58q0 fu b l_0 l_1 q10 x1 h1) <| aa (z58q1 fu b l_0 l_1 q10 x2 h2 h3) <| pc h4 <| pc h5 <| pc h6 <| pn) (by kernel_rfl) (by kernel_rfl) ?_ (by kernel_rfl)
        exact ⟨PinL.pf (encL_pf cXSample_pf _), trivial⟩
      ·rw [h5, cF] at hh
       rw [← sI hh]
       refine FC.x pfT 100 60 (z58b0 b l_0 l_1 q10 x1 ++ (z58b1 b ++ (((z58i16 l_0 l_1 q10 x2) :: hE :: hE :: hE :: hF :: (hR 5 []))))) (aa (z58q0 fu b l_0 l_1 q10 x1 h1) <| aa (z58q1 fu b l_0 l_1 q10 x2 h2 h3) <| pc h4 <| pc h5 <| pn) (by kernel_rfl) (by kernel_rfl) ?_ (by kernel_rfl)
       exact ⟨PinL.pf (encL_pf cXSample_pf _), trivial⟩
   ·rw [h2, cF] at hh
    rcases bb (x1.2 == 2) with h3 | h3
    ·rw [h3, cT] at hh
     rcases bb ((((x1.1.Low.Age == 0) && ((x1.1.Low.Shoots == 0) && ((x1.1.Low.Height == 0) && ((x1.1.Low.Girth == 0) && true)))) && (((x1.1.High.Age == 0) && ((x1.1.High.Shoots == 0) && ((x1.1.High.Height == 0) && ((x1.1.High.Girth == 0) && true)))) && true))) with h4 | h4
     ·rw [h4, cT] at hh
      cases h5 : law02_known fu with
      | none => rw [h5, oN] at hh; cases hh
      | some x5 =>
       rw [h5, oS] at hh
       rw [← sI hh]
       refine FC.x pfT 100 60 (z58b0 b l_0 l_1 q10 x1 ++ (((hB (hC (.bool (ref02_Box b))) false) :: (hR 4 [hT, hE, hE, hE, (hB hQ true), hE, hE, (hC (.bool (x5))), hE, hE])))) (aa (z58q0 fu b l_0 l_1 q10 x1 h1) <| pc h2 <| pc h3 <| pc h4 <| pc (law02_known_fc fu  x5 h5) <| pn) (by kernel_rfl) (by kernel_rfl) ?_ (by kernel_rfl)
       exact ⟨PinL.pf (encL_pf cXSample_pf _), trivial⟩
     ·rw [h4, cF] at hh
      rw [← sI hh]
      refine FC.x pfT 100 60 (z58b0 b l_0 l_1 q10 x1 ++ (((hB (hC (.bool (ref02_Box b))) false) :: (hR 4 (hT :: hE :: hE :: hE :: (hB hQ false) :: (hR 4 [])))))) (aa (z58q0 fu b l_0 l_1 q10 x1 h1) <| pc h2 <| pc h3 <| pc h4 <| pn) (by kernel_rfl) (by kernel_rfl) ?_ (by kernel_rfl)
      exact ⟨PinL.pf (encL_pf cXSample_pf _), trivial⟩
    ·rw [h3, cF] at hh
     rw [← sI hh]
     refine FC.x pfT 100 60 (z58b0 b l_0 l_1 q10 x1 ++ (((hB (hC (.bool (ref02_Box b))) false) :: (hR 4 (hF :: (hR 5 [])))))) (aa (z58q0 fu b l_0 l_1 q10 x1 h1) <| pc h2 <| pc h3 <| pn) (by kernel_rfl) (by kernel_rfl) ?_ (by kernel_rfl)
     exact ⟨PinL.pf (encL_pf cXSample_pf _), trivial⟩

/- greenhew/greenhewlaw02.GrowthNarrows -/
noncomputable abbrev z59i0 (b : XBox) (l_0 l_1 l_2 : XSample) (q10 : Nat) (x1 : XBox × Int) : Hint := (hM (.tuple #[.agg #[I (x1.1.Low.Age), I (x1.1.Low.Shoots), I (x1.1.Low.Height), I (x1.1.Low.Girth), I (x1.1.High.Age), I (x1.1.High.Shoots), I (x1.1.High.Height), I (x1.1.High.Girth)], I (x1.2)]) (.tuple #[.agg #[I (x1.1.Low.Age), I (x1.1.Low.Shoots), I (x1.1.Low.Height), I (x1.1.Low.Girth), I (x1.1.High.Age), I (x1.1.High.Shoots), I (x1.1.High.Height), I (x1.1.High.Girth)], I (x1.2)]) (A_growth_Narrow b ([l_0, l_1, l_2]) q10) (K_growth_Narrow ([l_0, l_1, l_2])) [(10, 10, 0)])
noncomputable abbrev z59i1 (l_0 l_1 l_2 : XSample) (q10 : Nat) (x2 : Bool) : Hint := (hB (hM (.bool (x2)) (.bool (x2)) (A_ref02_Samples ([l_0, l_1, l_2]) q10) (K_ref02_Samples ([l_0, l_1, l_2])) [(10, 10, 0)]) true)
noncomputable abbrev z59i2 (b : XBox) (l_0 l_1 l_2 : XSample) (x3 : XBox × Int) : Hint := (hM (.tuple #[.agg #[I (x3.1.Low.Age), I (x3.1.Low.Shoots), I (x3.1.Low.Height), I (x3.1.Low.Girth), I (x3.1.High.Age), I (x3.1.High.Shoots), I (x3.1.High.Height), I (x3.1.High.Girth)], I (x3.2)]) (.tuple #[.agg #[I (x3.1.Low.Age), I (x3.1.Low.Shoots), I (x3.1.Low.Height), I (x3.1.Low.Girth), I (x3.1.High.Age), I (x3.1.High.Shoots), I (x3.1.High.Height), I (x3.1.High.Girth)], I (x3.2)]) (A_growth_Narrow b ([l_2, l_1, l_0, l_0, l_1, l_2]) 6) (K_growth_Narrow ([l_2, l_1, l_0, l_0, l_1, l_2])) [(10, 108, 0)])
noncomputable abbrev z59i3 (b : XBox) (l_0 l_1 l_2 : XSample) (q10 : Nat) (x4 : XBox × Bool) : Hint := (hM (.tuple #[.agg #[I (x4.1.Low.Age), I (x4.1.Low.Shoots), I (x4.1.Low.Height), I (x4.1.Low.Girth), I (x4.1.High.Age), I (x4.1.High.Shoots), I (x4.1.High.Height), I (x4.1.High.Girth)], .bool (x4.2)]) (.tuple #[.agg #[I (x4.1.Low.Age), I (x4.1.Low.Shoots), I (x4.1.Low.Height), I (x4.1.Low.Girth), I (x4.1.High.Age), I (x4.1.High.Shoots), I (x4.1.High.Height), I (x4.1.High.Girth)], .bool (x4.2)]) (A_ref02_Narrow b ([l_0, l_1, l_2]) q10) (K_ref02_Narrow ([l_0, l_1, l_2])) [(10, 10, 0)])
theorem z59p4 (b : XBox) (l_0 l_1 l_2 : XSample) (q10 : Nat) : VRs (Ren.emb [(10, 10, 0)]) (A_growth_Narrow b ([l_0, l_1, l_2]) q10) [.agg #[I (b.Low.Age), I (b.Low.Shoots), I (b.Low.Height), I (b.Low.Girth), I (b.High.Age), I (b.High.Shoots), I (b.High.Height), I (b.High.Girth)], .slice (some ⟨10, 0, none⟩) (3) (q10)] := (.cons _ _ _ _ (VR.of_pf rfl) (.cons _ _ _ _ (.slc 10 0 _ _ _ ⟨10, 0, 0, 0⟩ rfl (.inl rfl)) .nil))
theorem z59p5 (l_0 l_1 l_2 : XSample) (q10 : Nat) : VRs (Ren.emb [(10, 10, 0)]) (A_ref02_Samples ([l_0, l_1, l_2]) q10) [.slice (some ⟨10, 0, none⟩) (3) (q10)] := (.cons _ _ _ _ (.slc 10 0 _ _ _ ⟨10, 0, 0, 0⟩ rfl (.inl rfl)) .nil)
theorem z59p6 (b : XBox) (l_0 l_1 l_2 : XSample) : VRs (Ren.emb [(10, 108, 0)]) (A_growth_Narrow b ([l_2, l_1, l_0, l_0, l_1, l_2]) 6) [.agg #[I (b.Low.Age), I (b.Low.Shoots), I (b.Low.Height), I (b.Low.Girth), I (b.High.Age), I (b.High.Shoots), I (b.High.Height), I (b.High.Girth)], .slice (some ⟨108, 0, none⟩) (6) (6)] := (.cons _ _ _ _ (VR.of_pf rfl) (.cons _ _ _ _ (.slc 10 0 _ _ _ ⟨108, 0, 0, 0⟩ rfl (.inl rfl)) .nil))
theorem z59p7 (b : XBox) (l_0 l_1 l_2 : XSample) (q10 : Nat) : VRs (Ren.emb [(10, 10, 0)]) (A_ref02_Narrow b ([l_0, l_1, l_2]) q10) [.agg #[I (b.Low.Age), I (b.Low.Shoots), I (b.Low.Height), I (b.Low.Girth), I (b.High.Age), I (b.High.Shoots), I (b.High.Height), I (b.High.Girth)], .slice (some ⟨10, 0, none⟩) (3) (q10)] := (.cons _ _ _ _ (VR.of_pf rfl) (.cons _ _ _ _ (.slc 10 0 _ _ _ ⟨10, 0, 0, 0⟩ rfl (.inl rfl)) .nil))
abbrev z59r8 (l_0 l_1 l_2 : XSample) : Prop := MemAt (Ren.emb [(10, 10, 0)]) (encL cXSample ([l_0, l_1, l_2])) 0 ([I (l_0.Kind), I (l_0.Span.Low), I (l_0.Span.High), I (l_1.Kind), I (l_1.Span.Low), I (l_1.Span.High), I (l_2.Kind), I (l_2.Span.Low), I (l_2.Span.High)]) ∧ True
abbrev z59r9 (x1 : XBox × Int) : Prop := VR (Ren.emb [(10, 10, 0)]) (.tuple #[.agg #[I (x1.1.Low.Age), I (x1.1.Low.Shoots), I (x1.1.Low.Height), I (x1.1.Low.Girth), I (x1.1.High.Age), I (x1.1.High.Shoots), I (x1.1.High.Height), I (x1.1.High.Girth)], I (x1.2)]) (.tuple #[.agg #[I (x1.1.Low.Age), I (x1.1.Low.Shoots), I (x1.1.Low.Height), I (x1.1.Low.Girth), I (x1.1.High.Age), I (x1.1.High.Shoots), I (x1.1.High.Height), I (x1.1.High.Girth)], I (x1.2)])
abbrev z59r10 (l_0 l_1 l_2 : XSample) : Prop := MemAt (Ren.emb [(10, 108, 0)]) (encL cXSample ([l_2, l_1, l_0, l_0, l_1, l_2])) 0 ([I (l_2.Kind), I (l_2.Span.Low), I (l_2.Span.High), I (l_1.Kind), I (l_1.Span.Low), I (l_1.Span.High), I (l_0.Kind), I (l_0.Span.Low), I (l_0.Span.High), I (l_0.Kind), I (l_0.Span.Low), I (l_0.Span.High), I (l_1.Kind), I (l_1.Span.Low), I (l_1.Span.High), I (l_2.Kind), I (l_2.Span.Low), I (l_2.Span.High)]) ∧ True
abbrev z59r11 (x3 : XBox × Int) : Prop := VR (Ren.emb [(10, 108, 0)]) (.tuple #[.agg #[I (x3.1.Low.Age), I (x3.1.Low.Shoots), I (x3.1.Low.Height), I (x3.1.Low.Girth), I (x3.1.High.Age), I (x3.1.High.Shoots), I (x3.1.High.Height), I (x3.1.High.Girth)], I (x3.2)]) (.tuple #[.agg #[I (x3.1.Low.Age), I (x3.1.Low.Shoots), I (x3.1.Low.Height), I (x3.1.Low.Girth), I (x3.1.High.Age), I (x3.1.High.Shoots), I (x3.1.High.Height), I (x3.1.High.Girth)], I (x3.2)])
abbrev z59r12 (b : XBox) : Prop := (.agg #[I (b.Low.Age), I (b.Low.Shoots), I (b.Low.Height), I (b.Low.Girth), I (b.High.Age), I (b.High.Shoots), I (b.High.Height), I (b.High.Girth)] : Value) = .agg #[I (b.Low.Age), I (b.Low.Shoots), I (b.Low.Height), I (b.Low.Girth), I (b.High.Age), I (b.High.Shoots), I (b.High.Height), I (b.High.Girth)]
abbrev z59r13 (x3 : XBox × Int) : Prop := (.tuple #[.agg #[I (x3.1.Low.Age), I (x3.1.Low.Shoots), I (x3.1.Low.Height), I (x3.1.Low.Girth), I (x3.1.High.Age), I (x3.1.High.Shoots), I (x3.1.High.Height), I (x3.1.High.Girth)], I (x3.2)] : Value) = .tuple #[.agg #[I (x3.1.Low.Age), I (x3.1.Low.Shoots), I (x3.1.Low.Height), I (x3.1.Low.Girth), I (x3.1.High.Age), I (x3.1.High.Shoots), I (x3.1.High.Height), I (x3.1.High.Girth)], I (x3.2)]
abbrev z59r14 (x3 : XBox × Int) : Prop := (.agg #[I (x3.1.Low.Age), I (x3.1.Low.Shoots), I (x3.1.Low.Height), I (x3.1.Low.Girth), I (x3.1.High.Age), I (x3.1.High.Shoots), I (x3.1.High.Height), I (x3.1.High.Girth)] : Value) = .agg #[I (x3.1.Low.Age), I (x3.1.Low.Shoots), I (x3.1.Low.Height), I (x3.1.Low.Girth), I (x3.1.High.Age), I (x3.1.High.Shoots), I (x3.1.High.Height), I (x3.1.High.Girth)]
abbrev z59r15 (x4 : XBox × Bool) : Prop := VR (Ren.emb [(10, 10, 0)]) (.tuple #[.agg #[I (x4.1.Low.Age), I (x4.1.Low.Shoots), I (x4.1.Low.Height), I (x4.1.Low.Girth), I (x4.1.High.Age), I (x4.1.High.Shoots), I (x4.1.High.Height), I (x4.1.High.Girth)], .bool (x4.2)]) (.tuple #[.agg #[I (x4.1.Low.Age), I (x4.1.Low.Shoots), I (x4.1.Low.Height), I (x4.1.Low.Girth), I (x4.1.High.Age), I (x4.1.High.Shoots), I (x4.1.High.Height), I (x4.1.High.Girth)], .bool (x4.2)])
noncomputable abbrev z59i16 (l_0 l_1 l_2 : XSample) (q10 : Nat) (x2 : Bool) : Hint := (hB (hM (.bool (x2)) (.bool (x2)) (A_ref02_Samples ([l_0, l_1, l_2]) q10) (K_ref02_Samples ([l_0, l_1, l_2])) [(10, 10, 0)]) false)
noncomputable def z59b0 (b : XBox) (l_0 l_1 l_2 : XSample) (q10 : Nat) (x1 : XBox × Int) : List Hint := (hR 14 ((z59i0 b l_0 l_1 l_2 q10 x1) :: (hR 10 [])))
def z59q0 (fu : Nat) (b : XBox) (l_0 l_1 l_2 : XSample) (q10 : Nat) (x1 : XBox × Int) (h1 : (growth_Narrow fu b ([l_0, l_1, l_2])) = some x1) := PA.mk <| pc (growth_Narrow_fc fu b ([l_0, l_1, l_2]) q10 x1 h1) <| pc (z59p4 b l_0 l_1 l_2 q10) <| pt (z59r8 l_0 l_1 l_2) (⟨MemAt.same _ (encL_pf cXSample_pf _), trivial⟩) <| pt (z59r9 x1) (selfB_self 9 _ rfl _) <| pc (ref02_Box_fc b) <| pn
noncomputable def z59b1 (b : XBox) : List Hint := [(hB (hC (.bool (ref02_Box b))) true), hE, hE, hE]
def z59q1 (fu : Nat) (b : XBox) (l_0 l_1 l_2 : XSample) (q10 : Nat) (x2 : Bool) (h2 : (ref02_Box b) = true) (h3 : (ref02_Samples fu ([l_0, l_1, l_2])) = some x2) := PA.mk <| pc h2 <| pc (ref02_Samples_fc fu ([l_0, l_1, l_2]) q10 x2 h3) <| pc (z59p5 l_0 l_1 l_2 q10) <| pt (z59r8 l_0 l_1 l_2) (⟨MemAt.same _ (encL_pf cXSample_pf _), trivial⟩) <| pt (VR (Ren.emb [(10, 10, 0)]) (.bool (x2)) (.bool (x2))) (selfB_self 9 _ rfl _) <| pn
noncomputable def z59b2 (b : XBox) (l_0 l_1 l_2 : XSample) (q10 : Nat) (x2 : Bool) (x3 : XBox × Int) (x4 : XBox × Bool) : List Hint := ((z59i1 l_0 l_1 l_2 q10 x2) :: (hR 48 ((hED 8 [3]) :: (hR 4 ((z59i2 b l_0 l_1 l_2 x3) :: (hR 8 [(z59i3 b l_0 l_1 l_2 q10 x4), hE, hE]))))))
def z59q2 (fu : Nat) (b : XBox) (l_0 l_1 l_2 : XSample) (q10 : Nat) (x2 : Bool) (x3 : XBox × Int) (x4 : XBox × Bool) (h4 : (x2) = true) (h5 : (growth_Narrow fu b ([l_2, l_1, l_0, l_0, l_1, l_2])) = some x3) (h6 : (ref02_Narrow fu b ([l_0, l_1, l_2])) = some x4) := PA.mk <| pc h4 <| pc (growth_Narrow_fc fu b ([l_2, l_1, l_0, l_0, l_1, l_2]) 6 x3 h5) <| pc (z59p6 b l_0 l_1 l_2) <| pt (z59r10 l_0 l_1 l_2) (⟨MemAt.same _ (encL_pf cXSample_pf _), trivial⟩) <| pt (z59r11 x3) (selfB_self 9 _ rfl _) <| pt (z59r12 b) rfl <| pt (z59r12 b) rfl <| pc (growth_Narrow_fc fu b ([l_2, l_1, l_0, l_0, l_1, l_2]) 6 x3 h5) <| pc (z59p6 b l_0 l_1 l_2) <| pt (z59r10 l_0 l_1 l_2) (⟨MemAt.same _ (encL_pf cXSample_pf _), trivial⟩) <| pt (z59r11 x3) (selfB_self 9 _ rfl _) <| pt (z59r13 x3) rfl <| pt (z59r13 x3) rfl <| pt (z59r14 x3) rfl <| pt ((I (x3.2) : Value) = I (x3.2)) rfl <| pt ((I (x3.2) : Value) = I (x3.2)) rfl <| pc (ref02_Narrow_fc fu b ([l_0, l_1, l_2]) q10 x4 h6) <| pc (z59p7 b l_0 l_1 l_2 q10) <| pt (z59r8 l_0 l_1 l_2) (⟨MemAt.same _ (encL_pf cXSample_pf _), trivial⟩) <| pt (z59r15 x4) (selfB_self 9 _ rfl _) <| pn
abbrev A_law02_GrowthNarrows_n3 (b : XBox) (q10 : Nat) : List Value := [.agg #[I (b.Low.Age), I (b.Low.Shoots), I (b.Low.Height), I (b.Low.Girth), I (b.High.Age), I (b.High.Shoots), I (b.High.Height), I (b.High.Girth)], .slice (some ⟨10, 0, none⟩) (3) (q10)]
abbrev K_law02_GrowthNarrows_n3 (l_0 l_1 l_2 : XSample) : List (Nat × List Value) := [(10, encL cXSample [l_0, l_1, l_2])]
noncomputable def law02_GrowthNarrows_n3 (fu : Nat) (b : XBox) (l_0 l_1 l_2 : XSample) : Option Bool :=
  Option.bind (growth_Narrow fu b ([l_0, l_1, l_2])) fun x1 =>
  bif ref02_Box b then (Option.bind (ref02_Samples fu ([l_0, l_1, l_2])) fun x2 =>
    bif x2 then (Option.bind (growth_Narrow fu b ([l_2, l_1, l_0, l_0, l_1, l_2])) fun x3 =>
      Option.bind (ref02_Narrow fu b ([l_0, l_1, l_2])) fun x4 =>
      bif x4.2 then (bif x1.2 == 0 then (bif x3.2 == 0 then (bif (((x1.1.Low.Age == x4.1.Low.Age) && ((x1.1.Low.Shoots == x4.1.Low.Shoots) && ((x1.1.Low.Height == x4.1.Low.Height) && ((x1.1.Low.Girth == x4.1.Low.Girth) && true)))) && (((x1.1.High.Age == x4.1.High.Age) && ((x1.1.High.Shoots == x4.1.High.Shoots) && ((x1.1.High.Height == x4.1.High.Height) && ((x1.1.High.Girth == x4.1.High.Girth) && true)))) && true)) then (bif (((x3.1.Low.Age == x4.1.Low.Age) && ((x3.1.Low.Shoots == x4.1.Low.Shoots) && ((x3.1.Low.Height == x4.1.Low.Height) && ((x3.1.Low.Girth == x4.1.Low.Girth) && true)))) && (((x3.1.High.Age == x4.1.High.Age) && ((x3.1.High.Shoots == x4.1.High.Shoots) && ((x3.1.High.Height == x4.1.High.Height) && ((x3.1.High.Girth == x4.1.High.Girth) && true)))) && true)) then (Option.bind (law02_known fu) fun x5 =>
                some x5)
              else some false)
            else some false)
          else some false)
        else some false)
      else (bif x1.2 == 5 then (bif x3.2 == 5 then (bif (((x1.1.Low.Age == 0) && ((x1.1.Low.Shoots == 0) && ((x1.1.Low.Height == 0) && ((x1.1.Low.Girth == 0) && true)))) && (((x1.1.High.Age == 0) && ((x1.1.High.Shoots == 0) && ((x1.1.High.Height == 0) && ((x1.1.High.Girth == 0) && true)))) && true)) then (bif (((x3.1.Low.Age == 0) && ((x3.1.Low.Shoots == 0) && ((x3.1.Low.Height == 0) && ((x3.1.Low.Girth == 0) && true)))) && (((x3.1.High.Age == 0) && ((x3.1.High.Shoots == 0) && ((x3.1.High.Height == 0) && ((x3.1.High.Girth == 0) && true)))) && true)) then (Option.bind (law02_known fu) fun x5 =>
                some x5)
              else some false)
            else some false)
          else some false)
        else some false))
    else (bif x1.2 == 2 then (bif (((x1.1.Low.Age == 0) && ((x1.1.Low.Shoots == 0) && ((x1.1.Low.Height == 0) && ((x1.1.Low.Girth == 0) && true)))) && (((x1.1.High.Age == 0) && ((x1.1.High.Shoots == 0) && ((x1.1.High.Height == 0) && ((x1.1.High.Girth == 0) && true)))) && true)) then (Option.bind (law02_known fu) fun x5 =>
          some x5)
        else some false)
      else some false))
  else (bif x1.2 == 2 then (bif (((x1.1.Low.Age == 0) && ((x1.1.Low.Shoots == 0) && ((x1.1.Low.Height == 0) && ((x1.1.Low.Girth == 0) && true)))) && (((x1.1.High.Age == 0) && ((x1.1.High.Shoots == 0) && ((x1.1.High.Height == 0) && ((x1.1.High.Girth == 0) && true)))) && true)) then (Option.bind (law02_known fu) fun x5 =>
        some x5)
      else some false)
    else some false)
theorem law02_GrowthNarrows_n3_fc (fu : Nat) (b : XBox) (l_0 l_1 l_2 : XSample) (q10 : Nat) (r : Bool) (hh : law02_GrowthNarrows_n3 fu b l_0 l_1 l_2 = some r) : FC P GG 10 (A_law02_GrowthNarrows_n3 b q10) (K_law02_GrowthNarrows_n3 l_0 l_1 l_2) (.bool (r)) := by
  unfold law02_GrowthNarrows_n3 at hh
  cases h1 : growth_Narrow fu b ([l_0, l_1, l_2]) with
  | none => rw [h1, oN] at hh; cases hh
  | some x1 =>
   rw [h1, oS] at hh
   rcases bb (ref02_Box b) with h2 | h2
   ·rw [h2, cT] at hh
    cases h3 : ref02_Samples fu ([l_0, l_1, l_2]) with
    | none => rw [h3, oN] at hh; cases hh
    | some x2 =>
     rw [h3, oS] at hh
     rcases bb (x2) with h4 | h4
     ·rw [h4, cT] at hh
      cases h5 : growth_Narrow fu b ([l_2, l_1, l_0, l_0, l_1, l_2]) with
      | none => rw [h5, oN] at hh; cases hh
      | some x3 =>
       rw [h5, oS] at hh
       cases h6 : ref02_Narrow fu b ([l_0, l_1, l_2]) with
       | none => rw [h6, oN] at hh; cases hh
       | some x4 =>
        rw [h6, oS] at hh
        rcases bb (x4.2) with h7 | h7
        ·rw [h7, cT] at hh
         rcases bb (x1.2 == 0) with h8 | h8
         ·rw [h8, cT] at hh
          rcases bb (x3.2 == 0) with h9 | h9
          ·rw [h9, cT] at hh
           rcases bb ((((x1.1.Low.Age == x4.1.Low.Age) && ((x1.1.Low.Shoots == x4.1.Low.Shoots) && ((x1.1.Low.Height == x4.1.Low.Height) && ((x1.1.Low.Girth == x4.1.Low.Girth) && true)))) && (((x1.1.High.Age == x4.1.High.Age) && ((x1.1.High.Shoots == x4.1.High.Shoots) && ((x1.1.High.Height == x4.1.High.Height) && ((x1.1.High.Girth == x4.1.High.Girth) && true)))) && true))) with h10 | h10
           ·rw [h10, cT] at hh
            rcases bb ((((x3.1.Low.Age == x4.1.Low.Age) && ((x3.1.Low.Shoots == x4.1.Low.Shoots) && ((x3.1.Low.Height == x4.1.Low.Height) && ((x3.1.Low.Girth == x4.1.Low.Girth) && true)))) && (((x3.1.High.Age == x4.1.High.Age) && ((x3.1.High.Shoots == x4.1.High.Shoots) && ((x3.1.High.Height == x4.1.High.Height) && ((x3.1.High.Girth == x4.1.High.Girth) && true)))) && true))) with h11 | h11
            ·rw [h11, cT] at hh
             cases h12 : law02_known fu with
             | none => rw [h12, oN] at hh; cases hh
             | some x5 =>
              rw [h12, oS] at hh
              rw [← sI hh]
              refine FC.x pfT 100 60 (z59b0 b l_0 l_1 l_2 q10 x1 ++ (z59b1 b ++ (z59b2 b l_0 l_1 l_2 q10 x2 x3 x4 ++ ((hT :: (hR 6 (hT :: hE :: hE :: hT :: (hR 4 ((hB hQ true) :: (hR 4 [(hB hQ true), hE, hE, (hC (.bool (x5))), hE, hE])))))))))) (aa (z59q0 fu b l_0 l_1 l_2 q10 x1 h1) <| aa (z59q1 fu b l_0 l_1 l_2 q10 x2 h2 h3) <| aa (z59q2 fu b l_0 l_1 l_2 q10 x2 x3 x4 h4 h5 h6) <| pc h7 <| pc h8 <| pc h9 <| pc h10 <| pc h11 <| pc (law02_known_fc fu  x5 h12) <| pn) (by kernel_rfl) (by kernel_rfl) ?_ (by kernel_rfl)
              exact ⟨PinL.pf (encL_pf cXSample_pf _), trivial⟩
            ·rw [h11, cF] at hh
             rw [← sI hh]
             refine FC.x pfT 100 60 (z59b0 b l_0 l_1 l_2 q10 x1 ++ (z59b1 b ++ (z59b2 b l_0 l_1 l_2 q10 x2 x3 x4 ++ ((hT :: (hR 6 (hT :: hE :: hE :: hT :: (hR 4 ((hB hQ true) :: (hR 4 ((hB hQ false) :: (hR 4 [])))))))))))) (aa (z59q0 fu b l_0 l_1 l_2 q10 x1 h1) <| aa (z59q1 fu b l_0 l_1 l_2 q10 x2 h2 h3) <| aa (z59q2 fu b l_0 l_1 l_2 q10 x2 x3 x4 h4 h5 h6) <| pc h7 <| pc h8 <| pc h9 <| pc h10 <| pc h11 <| pn) (by kernel_rfl) (by kernel_rfl) ?_ (by kernel_rfl)
             exact ⟨PinL.pf (encL_pf cXSample_pf _), trivial⟩
           ·rw [h10, cF] at hh
            rw [← sI hh]
            refine FC.x pfT 100 60 (z59b0 b l_0 l_1 l_2 q10 x1 ++ (z59b1 b ++ (z59b2 b l_0 l_1 l_2 q10 x2 x3 x4 ++ ((hT :: (hR 6 (hT :: hE :: hE :: hT :: (hR 4 ((hB hQ false) :: (hR 6 [])))))))))) (aa (z59q0 fu b l_0 l_1 l_2 q10 x1 h1) <| aa (z59q1 fu b l_0 l_1 l_2 q10 x2 h2 h3) <| aa (z59q2 fu b l_0 l_1 l_2 q10 x2 x3 x4 h4 h5 h6) <| pc h7 <| pc h8 <| pc h9 <| pc h10 <| pn) (by kernel_rfl) (by kernel_rfl) ?_ (by kernel_rfl)
            exact ⟨PinL.pf (encL_pf cXSample_pf _), trivial⟩
          ·rw [h9, cF] at hh
           rw [← sI hh]
           refine FC.x pfT 100 60 (z59b0 b l_0 l_1 l_2 q10 x1 ++ (z59b1 b ++ (z59b2 b l_0 l_1 l_2 q10 x2 x3 x4 ++ ((hT :: (hR 6 (hT :: hE :: hE :: hF :: (hR 8 [])))))))) (aa (z59q0 fu b l_0 l_1 l_2 q10 x1 h1) <| aa (z59q1 fu b l_0 l_1 l_2 q10 x2 h2 h3) <| aa (z59q2 fu b l_0 l_1 l_2 q10 x2 x3 x4 h4 h5 h6) <| pc h7 <| pc h8 <| pc h9 <| pn) (by kernel_rfl) (by kernel_rfl) ?_ (by kernel_rfl)
           exact ⟨PinL.pf (encL_pf cXSample_pf _), trivial⟩
         ·rw [h8, cF] at hh
          rw [← sI hh]
          refine FC.x pfT 100 60 (z59b0 b l_0 l_1 l_2 q10 x1 ++ (z59b1 b ++ (z59b2 b l_0 l_1 l_2 q10 x2 x3 x4 ++ ((hT :: (hR 6 (hF :: (hR 9 [])))))))) (aa (z59q0 fu b l_0 l_1 l_2 q10 x1 h1) <| aa (z59q1 fu b l_0 l_1 l_2 q10 x2 h2 h3) <| aa (z59q2 fu b l_0 l_1 l_2 q10 x2 x3 x4 h4 h5 h6) <| pc h7 <| pc h8 <| pn) (by kernel_rfl) (by kernel_rfl) ?_ (by kernel_rfl)
          exact ⟨PinL.pf (encL_pf cXSample_pf _), trivial⟩
        ·rw [h7, cF] at hh
         rcases bb (x1.2 == 5) with h8 | h8
         ·rw [h8, cT] at hh
          rcases bb (x3.2 == 5) with h9 | h9
          ·rw [h9, cT] at hh
           rcases bb ((((x1.1.Low.Age == 0) && ((x1.1.Low.Shoots == 0) && ((x1.1.Low.Height == 0) && ((x1.1.Low.Girth == 0) && true)))) && (((x1.1.High.Age == 0) && ((x1.1.High.Shoots == 0) && ((x1.1.High.Height == 0) && ((x1.1.High.Girth == 0) && true)))) && true))) with h10 | h10
           ·rw [h10, cT] at hh
            rcases bb ((((x3.1.Low.Age == 0) && ((x3.1.Low.Shoots == 0) && ((x3.1.Low.Height == 0) && ((x3.1.Low.Girth == 0) && true)))) && (((x3.1.High.Age == 0) && ((x3.1.High.Shoots == 0) && ((x3.1.High.Height == 0) && ((x3.1.High.Girth == 0) && true)))) && true))) with h11 | h11
            ·rw [h11, cT] at hh
             cases h12 : law02_known fu with
             | none => rw [h12, oN] at hh; cases hh
             | some x5 =>
              rw [h12, oS] at hh
              rw [← sI hh]
              refine FC.x pfT 100 60 (z59b0 b l_0 l_1 l_2 q10 x1 ++ (z59b1 b ++ (z59b2 b l_0 l_1 l_2 q10 x2 x3 x4 ++ ((hF :: (hR 6 (hT :: hE :: hE :: hT :: (hR 4 ((hB hQ true) :: (hR 4 [(hB hQ true), hE, hE, (hC (.bool (x5))), hE, hE])))))))))) (aa (z59q0 fu b l_0 l_1 l_2 q10 x1 h1) <| aa (z59q1 fu b l_0 l_1 l_2 q10 x2 h2 h3) <| aa (z59q2 fu b l_0 l_1 l_2 q10 x2 x3 x4 h4 h5 h6) <| pc h7 <| pc h8 <| pc h9 <| pc h10 <| pc h11 <| pc (law02_known_fc fu  x5 h12) <| pn) (by kernel_rfl) (by kernel_rfl) ?_ (by kernel_rfl)
              exact ⟨PinL.pf (encL_pf cXSample_pf _), trivial⟩
            ·rw [h11, cF] at hh
             rw [← sI hh]
             refine FC.x pfT 100 60 (z59b0 b l_0 l_1 l_2 q10 x1 ++ (z59b1 b ++ (z59b2 b l_0 l_1 l_2 q10 x2 x3 x4 ++ ((hF :: (hR 6 (hT :: hE :: hE :: hT :: (hR 4 ((hB hQ true) :: (hR 4 ((hB hQ false) :: (hR 4 [])))))))))))) (aa (z59q0 fu b l_0 l_1 l_2 q10 x1 h1) <| aa (z59q1 fu b l_0 l_1 l_2 q10 x2 h2 h3) <| aa (z59q2 fu b l_0 l_1 l_2 q10 x2 x3 x4 h4 h5 h6) <| pc h7 <| pc h8 <| pc h9 <| pc h10 <| pc h11 <| pn) (by kernel_rfl) (by kernel_rfl) ?_ (by kernel_rfl)
             exact ⟨PinL.pf (encL_pf cXSample_pf _), trivial⟩
           ·rw [h10, cF] at hh
            rw [← sI hh]
            refine FC.x pfT 100 60 (z59b0 b l_0 l_1 l_2 q10 x1 ++ (z59b1 b ++ (z59b2 b l_0 l_1 l_2 q10 x2 x3 x4 ++ ((hF :: (hR 6 (hT :: hE :: hE :: hT :: (hR 4 ((hB hQ false) :: (hR 6 [])))))))))) (aa (z59q0 fu b l_0 l_1 l_2 q10 x1 h1) <| aa (z59q1 fu b l_0 l_1 l_2 q10 x2 h2 h3) <| aa (z59q2 fu b l_0 l_1 l_2 q10 x2 x3 x4 h4 h5 h6) <| pc h7 <| pc h8 <| pc h9 <| pc h10 <| pn) (by kernel_rfl) (by kernel_rfl) ?_ (by kernel_rfl)
            exact ⟨PinL.pf (encL_pf cXSample_pf _), trivial⟩
          ·rw [h9, cF] at hh
           rw [← sI hh]
           refine FC.x pfT 100 60 (z59b0 b l_0 l_1 l_2 q10 x1 ++ (z59b1 b ++ (z59b2 b l_0 l_1 l_2 q10 x2 x3 x4 ++ ((hF :: (hR 6 (hT :: hE :: hE :: hF :: (hR 8 [])))))))) (aa (z59q0 fu b l_0 l_1 l_2 q10 x1 h1) <| aa (z59q1 fu b l_0 l_1 l_2 q10 x2 h2 h3) <| aa (z59q2 fu b l_0 l_1 l_2 q10 x2 x3 x4 h4 h5 h6) <| pc h7 <| pc h8 <| pc h9 <| pn) (by kernel_rfl) (by kernel_rfl) ?_ (by kernel_rfl)
           exact ⟨PinL.pf (encL_pf cXSample_pf _), trivial⟩
         ·rw [h8, cF] at hh
          rw [← sI hh]
          refine FC.x pfT 100 60 (z59b0 b l_0 l_1 l_2 q10 x1 ++ (z59b1 b ++ (z59b2 b l_0 l_1 l_2 q10 x2 x3 x4 ++ ((hF :: (hR 6 (hF :: (hR 9 [])))))))) (aa (z59q0 fu b l_0 l_1 l_2 q10 x1 h1) <| aa (z59q1 fu b l_0 l_1 l_2 q10 x2 h2 h3) <| aa (z59q2 fu b l_0 l_1 l_2 q10 x2 x3 x4 h4 h5 h6) <| pc h7 <| pc h8 <| pn) (by kernel_rfl) (by kernel_rfl) ?_ (by kernel_rfl)
          exact ⟨PinL.pf (encL_pf cXSample_pf _), trivial⟩
     ·rw [h4, cF] at hh
      rcases bb (x1.2 == 2) with h5 | h5
      ·rw [h5, cT] at hh
       rcases bb ((((x1.1.Low.Age == 0) && ((x1.1.Low.Shoots == 0) && ((x1.1.Low.Height == 0) && ((x1.1.Low.Girth == 0) && true)))) && (((x1.1.High.Age == 0) && ((x1.1.High.Shoots == 0) && ((x1.1.High.Height == 0) && ((x1.1.High.Girth == 0) && true)))) && true))) with h6 | h6
       ·rw [h6, cT] at hh
        cases h7 : law02_known fu with
        | none => rw [h7, oN] at hh; cases hh
        | some x5 =>
         rw [h7, oS] at hh
         rw [← sI hh]
         refine FC.x pfT 100 60 (z59b0 b l_0 l_1 l_2 q10 x1 ++ (z59b1 b ++ ([(z59i16 l_0 l_1 l_2 q10 x2), hE, hE, hE, hT, hE, hE, hE, (hB hQ true), hE, hE, (hC (.bool (x5))), hE, hE]))) (aa (z59q0 fu b l_0 l_1 l_2 q10 x1 h1) <| aa (z59q1 fu b l_0 l_1 l_2 q10 x2 h2 h3) <| pc h4 <| pc h5 <| pc h6 <| pc (law02_known_fc fu  x5 h7) <| pn) (by kernel_rfl) (by kernel_rfl) ?_ (by kernel_rfl)
         exact ⟨PinL.pf (encL_pf cXSample_pf _), trivial⟩
       ·rw [h6, cF] at hh
        rw [← sI hh]
        refine FC.x pfT 100 60 (z59b0 b l_0 l_1 l_2 q10 x1 ++ (z59b1 b ++ (((z59i16 l_0 l_1 l_2 q10 x2) :: hE :: hE :: hE :: hT :: hE :: hE :: hE :: (hB hQ false) :: (hR 4 []))))) (aa (z59q0 fu b l_0 l_1 l_2 q10 x1 h1) <| aa (z59q1 fu b l_0 l_1 l_2 q10 x2 h2 h3) <| pc h4 <| pc h5 <| pc h6 <| pn) (by kernel_rfl) (by kernel_rfl) ?_ (by kernel_rfl)
        exact ⟨PinL.pf (encL_pf cXSample_pf _), trivial⟩
      ·rw [h5, cF] at hh
       rw [← sI hh]
       refine FC.x pfT 100 60 (z59b0 b l_0 l_1 l_2 q10 x1 ++ (z59b1 b ++ (((z59i16 l_0 l_1 l_2 q10 x2) :: hE :: hE :: hE :: hF :: (hR 5 []))))) (aa (z59q0 fu b l_0 l_1 l_2 q10 x1 h1) <| aa (z59q1 fu b l_0 l_1 l_2 q10 x2 h2 h3) <| pc h4 <| pc h5 <| pn) (by kernel_rfl) (by kernel_rfl) ?_ (by kernel_rfl)
       exact ⟨PinL.pf (encL_pf cXSample_pf _), trivial⟩
   ·rw [h2, cF] at hh
    rcases bb (x1.2 == 2) with h3 | h3
    ·rw [h3, cT] at hh
     rcases bb ((((x1.1.Low.Age == 0) && ((x1.1.Low.Shoots == 0) && ((x1.1.Low.Height == 0) && ((x1.1.Low.Girth == 0) && true)))) && (((x1.1.High.Age == 0) && ((x1.1.High.Shoots == 0) && ((x1.1.High.Height == 0) && ((x1.1.High.Girth == 0) && true)))) && true))) with h4 | h4
     ·rw [h4, cT] at hh
      cases h5 : law02_known fu with
      | none => rw [h5, oN] at hh; cases hh
      | some x5 =>
       rw [h5, oS] at hh
       rw [← sI hh]
       refine FC.x pfT 100 60 (z59b0 b l_0 l_1 l_2 q10 x1 ++ (((hB (hC (.bool (ref02_Box b))) false) :: (hR 4 [hT, hE, hE, hE, (hB hQ true), hE, hE, (hC (.bool (x5))), hE, hE])))) (aa (z59q0 fu b l_0 l_1 l_2 q10 x1 h1) <| pc h2 <| pc h3 <| pc h4 <| pc (law02_known_fc fu  x5 h5) <| pn) (by kernel_rfl) (by kernel_rfl) ?_ (by kernel_rfl)
       exact ⟨PinL.pf (encL_pf cXSample_pf _), trivial⟩
     ·rw [h4, cF] at hh
      rw [← sI hh]
      refine FC.x pfT 100 60 (z59b0 b l_0 l_1 l_2 q10 x1 ++ (((hB (hC (.bool (ref02_Box b))) false) :: (hR 4 (hT :: hE :: hE :: hE :: (hB hQ false) :: (hR 4 [])))))) (aa (z59q0 fu b l_0 l_1 l_2 q10 x1 h1) <| pc h2 <| pc h3 <| pc h4 <| pn) (by kernel_rfl) (by kernel_rfl) ?_ (by kernel_rfl)
      exact ⟨PinL.pf (encL_pf cXSample_pf _), trivial⟩
    ·rw [h3, cF] at hh
     rw [← sI hh]
     refine FC.x pfT 100 60 (z59b0 b l_0 l_1 l_2 q10 x1 ++ (((hB (hC (.bool (ref02_Box b))) false) :: (hR 4 (hF :: (hR 5 [])))))) (aa (z59q0 fu b l_0 l_1 l_2 q10 x1 h1) <| pc h2 <| pc h3 <| pn) (by kernel_rfl) (by kernel_rfl) ?_ (by kernel_rfl)
     exact ⟨PinL.pf (encL_pf cXSample_pf _), trivial⟩

/- greenhew/greenhewlaw02.GrowthNarrows -/
noncomputable abbrev z60i0 (b : XBox) (l_0 l_1 l_2 l_3 : XSample) (q10 : Nat) (x1 : XBox × Int) : Hint := (hM (.tuple #[.agg #[I (x1.1.Low.Age), I (x1.1.Low.Shoots), I (x1.1.Low.Height), I (x1.1.Low.Girth), I (x1.1.High.Age), I (x1.1.High.Shoots), I (x1.1.High.Height), I (x1.1.High.Girth)], I (x1.2)]) (.tuple #[.agg #[I (x1.1.Low.Age), I (x1.1.Low.Shoots), I (x1.1.Low.Height), I (x1.1.Low.Girth), I (x1.1.High.Age), I (x1.1.High.Shoots), I (x1.1.High.Height), I (x1.1.High.Girth)], I (x1.2)]) (A_growth_Narrow b ([l_0, l_1, l_2, l_3]) q10) (K_growth_Narrow ([l_0, l_1, l_2, l_3])) [(10, 10, 0)])
noncomputable abbrev z60i1 (l_0 l_1 l_2 l_3 : XSample) (q10 : Nat) (x2 : Bool) : Hint := (hB (hM (.bool (x2)) (.bool (x2)) (A_ref02_Samples ([l_0, l_1, l_2, l_3]) q10) (K_ref02_Samples ([l_0, l_1, l_2, l_3])) [(10, 10, 0)]) true)
noncomputable abbrev z60i2 (b : XBox) (l_0 l_1 l_2 l_3 : XSample) (x3 : XBox × Int) : Hint := (hM (.tuple #[.agg #[I (x3.1.Low.Age), I (x3.1.Low.Shoots), I (x3.1.Low.Height), I (x3.1.Low.Girth), I (x3.1.High.Age), I (x3.1.High.Shoots), I (x3.1.High.Height), I (x3.1.High.Girth)], I (x3.2)]) (.tuple #[.agg #[I (x3.1.Low.Age), I (x3.1.Low.Shoots), I (x3.1.Low.Height), I (x3.1.Low.Girth), I (x3.1.High.Age), I (x3.1.High.Shoots), I (x3.1.High.Height), I (x3.1.High.Girth)], I (x3.2)]) (A_growth_Narrow b ([l_3, l_2, l_1, l_0, l_0, l_1, l_2, l_3]) 8) (K_growth_Narrow ([l_3, l_2, l_1, l_0, l_0, l_1, l_2, l_3])) [(10, 110, 0)])
noncomputable abbrev z60i3 (b : XBox) (l_0 l_1 l_2 l_3 : XSample) (q10 : Nat) (x4 : XBox × Bool) : Hint := (hM (.tuple #[.agg #[I (x4.1.Low.Age), I (x4.1.Low.Shoots), I (x4.1.Low.Height), I (x4.1.Low.Girth), I (x4.1.High.Age), I (x4.1.High.Shoots), I (x4.1.High.Height), I (x4.1.High.Girth)], .bool (x4.2)]) (.tuple #[.agg #[I (x4.1.Low.Age), I (x4.1.Low.Shoots), I (x4.1.Low.Height), I (x4.1.Low.Girth), I (x4.1.High.Age), I (x4.1.High.Shoots), I (x4.1.High.Height), I (x4.1.High.Girth)], .bool (x4.2)]) (A_ref02_Narrow b ([l_0, l_1, l_2, l_3]) q10) (K_ref02_Narrow ([l_0, l_1, l_2, l_3])) [(10, 10, 0)])
theorem z60p4 (b : XBox) (l_0 l_1 l_2 l_3 : XSample) (q10 : Nat) : VRs (Ren.emb [(10, 10, 0)]) (A_growth_Narrow b ([l_0, l_1, l_2, l_3]) q10) [.agg #[I (b.Low.Age), I (b.Low.Shoots), I (b.Low.Height), I (b.Low.Girth), I (b.High.Age), I (b.High.Shoots), I (b.High.Height), I (b.High.Girth)], .slice (some ⟨10, 0, none⟩) (4) (q10)] := (.cons _ _ _ _ (VR.of_pf rfl) (.cons _ _ _ _ (.slc 10 0 _ _ _ ⟨10, 0, 0, 0⟩ rfl (.inl rfl)) .nil))
theorem z60p5 (l_0 l_1 l_2 l_3 : XSample) (q10 : Nat) : VRs (Ren.emb [(10, 10, 0)]) (A_ref02_Samples ([l_0, l_1, l_2, l_3]) q10) [.slice (some ⟨10, 0, none⟩) (4) (q10)] := (.cons _ _ _ _ (.slc 10 0 _ _ _ ⟨10, 0, 0, 0⟩ rfl (.inl rfl)) .nil)
theorem z60p6 (b : XBox) (l_0 l_1 l_2 l_3 : XSample) : VRs (Ren.emb [(10, 110, 0)]) (A_growth_Narrow b ([l_3, l_2, l_1, l_0, l_0, l_1, l_2, l_3]) 8) [.agg #[I (b.Low.Age), I (b.Low.Shoots), I (b.Low.Height), I (b.Low.Girth), I (b.High.Age), I (b.High.Shoots), I (b.High.Height), I (b.High.Girth)], .slice (some ⟨110, 0, none⟩) (8) (8)] := (.cons _ _ _ _ (VR.of_pf rfl) (.cons _ _ _ _ (.slc 10 0 _ _ _ ⟨110, 0, 0, 0⟩ rfl (.inl rfl)) .nil))
theorem z60p7 (b : XBox) (l_0 l_1 l_2 l_3 : XSample) (q10 : Nat) : VRs (Ren.emb [(10, 10, 0)]) (A_ref02_Narrow b ([l_0, l_1, l_2, l_3]) q10) [.agg #[I (b.Low.Age), I (b.Low.Shoots), I (b.Low.Height), I (b.Low.Girth), I (b.High.Age), I (b.High.Shoots), I (b.High.Height), I (b.High.Girth)], .slice (some ⟨10, 0, none⟩) (4) (q10)] := (.cons _ _ _ _ (VR.of_pf rfl) (.cons _ _ _ _ (.slc 10 0 _ _ _ ⟨10, 0, 0, 0⟩ rfl (.inl rfl)) .nil))
abbrev z60r8 (l_0 l_1 l_2 l_3 : XSample) : Prop := MemAt (Ren.emb [(10, 10, 0)]) (encL cXSample ([l_0, l_1, l_2, l_3])) 0 ([I (l_0.Kind), I (l_0.Span.Low), I (l_0.Span.High), I (l_1.Kind), I (l_1.Span.Low), I (l_1.Span.High), I (l_2.Kind), I (l_2.Span.Low), I (l_2.Span.High), I (l_3.Kind), I (l_3.Span.Low), I (l_3.Span.High)]) ∧ True
abbrev z60r9 (x1 : XBox × Int) : Prop := VR (Ren.emb [(10, 10, 0)]) (.tuple #[.agg #[I (x1.1.Low.Age), I (x1.1.Low.Shoots), I (x1.1.Low.Height), I (x1.1.Low.Girth), I (x1.1.High.Age), I (x1.1.High.Shoots), I (x1.1.High.Height), I (x1.1.High.Girth)], I (x1.2)]) (.tuple #[.agg #[I (x1.1.Low.Age), I (x1.1.Low.Shoots), I (x1.1.Low.Height), I (x1.1.Low.Girth), I (x1.1.High.Age), I (x1.1.High.Shoots), I (x1.1.High.Height), I (x1.1.High.Girth)], I (x1.2)])
abbrev z60r10 (l_0 l_1 l_2 l_3 : XSample) : Prop := MemAt (Ren.emb [(10, 110, 0)]) (encL cXSample ([l_3, l_2, l_1, l_0, l_0, l_1, l_2, l_3])) 0 ([I (l_3.Kind), I (l_3.Span.Low), I (l_3.Span.High), I (l_2.Kind), I (l_2.Span.Low), I (l_2.Span.High), I (l_1.Kind), I (l_1.Span.Low), I (l_1.Span.High), I (l_0.Kind), I (l_0.Span.Low), I (l_0.Span.High), I (l_0.Kind), I (l_0.Span.Low), I (l_0.Span.High), I (l_1.Kind), I (l_1.Span.Low), I (l_1.Span.High), I (l_2.Kind), I (l_2.Span.Low), I (l_2.Span.High), I (l_3.Kind), I (l_3.Span.Low), I (l_3.Span.High)]) ∧ True
abbrev z60r11 (x3 : XBox × Int) : Prop := VR (Ren.emb [(10, 110, 0)]) (.tuple #[.agg #[I (x3.1.Low.Age), I (x3.1.Low.Shoots), I (x3.1.Low.Height), I (x3.1.Low.Girth), I (x3.1.High.Age), I (x3.1.High.Shoots), I (x3.1.High.Height), I (x3.1.High.Girth)], I (x3.2)]) (.tuple #[.agg #[I (x3.1.Low.Age), I (x3.1.Low.Shoots), I (x3.1.Low.Height), I (x3.1.Low.Girth), I (x3.1.High.Age), I (x3.1.High.Shoots), I (x3.1.High.Height), I (x3.1.High.Girth)], I (x3.2)])
abbrev z60r12 (b : XBox) : Prop := (.agg #[I (b.Low.Age), I (b.Low.Shoots), I (b.Low.Height), I (b.Low.Girth), I (b.High.Age), I (b.High.Shoots), I (b.High.Height), I (b.High.Girth)] : Value) = .agg #[I (b.Low.Age), I (b.Low.Shoots), I (b.Low.Height), I (b.Low.Girth), I (b.High.Age), I (b.High.Shoots), I (b.High.Height), I (b.High.Girth)]
abbrev z60r13 (x3 : XBox × Int) : Prop := (.tuple #[.agg #[I (x3.1.Low.Age), I (x3.1.Low.Shoots), I (x3.1.Low.Height), I (x3.1.Low.Girth), I (x3.1.High.Age), I (x3.1.High.Shoots), I (x3.1.High.Height), I (x3.1.High.Girth)], I (x3.2)] : Value) = .tuple #[.agg #[I (x3.1.Low.Age), I (x3.1.Low.Shoots), I (x3.1.Low.Height), I (x3.1.Low.Girth), I (x3.1.High.Age), I (x3.1.High.Shoots), I (x3.1.High.Height), I (x3.1.High.Girth)], I (x3.2)]
abbrev z60r14 (x3 : XBox × Int) : Prop := (.agg #[I (x3.1.Low.Age), I (x3.1.Low.Shoots), I (x3.1.Low.Height), I (x3.1.Low.Girth), I (x3.1.High.Age), I (x3.1.High.Shoots), I (x3.1.High.Height), I (x3.1.High.Girth)] : Value) = .agg #[I (x3.1.Low.Age), I (x3.1.Low.Shoots), I (x3.1.Low.Height), I (x3.1.Low.Girth), I (x3.1.High.Age), I (x3.1.High.Shoots), I (x3.1.High.Height), I (x3.1.High.Girth)]
abbrev z60r15 (x4 : XBox × Bool) : Prop := VR (Ren.emb [(10, 10, 0)]) (.tuple #[.agg #[I (x4.1.Low.Age), I (x4.1.Low.Shoots), I (x4.1.Low.Height), I (x4.1.Low.Girth), I (x4.1.High.Age), I (x4.1.High.Shoots), I (x4.1.High.Height), I (x4.1.High.Girth)], .bool (x4.2)]) (.tuple #[.agg #[I (x4.1.Low.Age), I (x4.1.Low.Shoots), I (x4.1.Low.Height), I (x4.1.Low.Girth), I (x4.1.High.Age), I (x4.1.High.Shoots), I (x4.1.High.Height), I (x4.1.High.Girth)], .bool (x4.2)])
noncomputable abbrev z60i16 (l_0 l_1 l_2 l_3 : XSample) (q10 : Nat) (x2 : Bool) : Hint := (hB (hM (.bool (x2)) (.bool (x2)) (A_ref02_Samples ([l_0, l_1, l_2, l_3]) q10) (K_ref02_Samples ([l_0, l_1, l_2, l_3])) [(10, 10, 0)]) false)
noncomputable def z60b0 (b : XBox) (l_0 l_1 l_2 l_3 : XSample) (q10 : Nat) (x1 : XBox × Int) : List Hint := (hR 14 ((z60i0 b l_0 l_1 l_2 l_3 q10 x1) :: (hR 10 [])))
def z60q0 (fu : Nat) (b : XBox) (l_0 l_1 l_2 l_3 : XSample) (q10 : Nat) (x1 : XBox × Int) (h1 : (growth_Narrow fu b ([l_0, l_1, l_2, l_3])) = some x1) := PA.mk <| pc (growth_Narrow_fc fu b ([l_0, l_1, l_2, l_3]) q10 x1 h1) <| pc (z60p4 b l_0 l_1 l_2 l_3 q10) <| pt (z60r8 l_0 l_1 l_2 l_3) (⟨MemAt.same _ (encL_pf cXSample_pf _), trivial⟩) <| pt (z60r9 x1) (selfB_self 9 _ rfl _) <| pc (ref02_Box_fc b) <| pn
noncomputable def z60b1 (b : XBox) : List Hint := [(hB (hC (.bool (ref02_Box b))) true), hE, hE, hE]
def z60q1 (fu : Nat) (b : XBox) (l_0 l_1 l_2 l_3 : XSample) (q10 : Nat) (x2 : Bool) (h2 : (ref02_Box b) = true) (h3 : (ref02_Samples fu ([l_0, l_1, l_2, l_3])) = some x2) := PA.mk <| pc h2 <| pc (ref02_Samples_fc fu ([l_0, l_1, l_2, l_3]) q10 x2 h3) <| pc (z60p5 l_0 l_1 l_2 l_3 q10) <| pt (z60r8 l_0 l_1 l_2 l_3) (⟨MemAt.same _ (encL_pf cXSample_pf _), trivial⟩) <| pt (VR (Ren.emb [(10, 10, 0)]) (.bool (x2)) (.bool (x2))) (selfB_self 9 _ rfl _) <| pn
noncomputable def z60b2 (b : XBox) (l_0 l_1 l_2 l_3 : XSample) (q10 : Nat) (x2 : Bool) (x3 : XBox × Int) (x4 : XBox × Bool) : List Hint := ((z60i1 l_0 l_1 l_2 l_3 q10 x2) :: (hR 61 ((hED 8 [3]) :: (hR 4 ((z60i2 b l_0 l_1 l_2 l_3 x3) :: (hR 8 [(z60i3 b l_0 l_1 l_2 l_3 q10 x4), hE, hE]))))))
def z60q2 (fu : Nat) (b : XBox) (l_0 l_1 l_2 l_3 : XSample) (q10 : Nat) (x2 : Bool) (x3 : XBox × Int) (x4 : XBox × Bool) (h4 : (x2) = true) (h5 : (growth_Narrow fu b ([l_3, l_2, l_1, l_0, l_0, l_1, l_2, l_3])) = some x3) (h6 : (ref02_Narrow fu b ([l_0, l_1, l_2, l_3])) = some x4) := PA.mk <| pc h4 <| pc (growth_Narrow_fc fu b ([l_3, l_2, l_1, l_0, l_0, l_1, l_2, l_3]) 8 x3 h5) <| pc (z60p6 b l_0 l_1 l_2 l_3) <| pt (z60r10 l_0 l_1 l_2 l_3) (⟨MemAt.same _ (encL_pf cXSample_pf _), trivial⟩) <| pt (z60r11 x3) (selfB_self 9 _ rfl _) <| pt (z60r12 b) rfl <| pt (z60r12 b) rfl <| pc (growth_Narrow_fc fu b ([l_3, l_2, l_1, l_0, l_0, l_1, l_2, l_3]) 8 x3 h5) <| pc (z60p6 b l_0 l_1 l_2 l_3) <| pt (z60r10 l_0 l_1 l_2 l_3) (⟨MemAt.same _ (encL_pf cXSample_pf _), trivial⟩) <| pt (z60r11 x3) (selfB_self 9 _ rfl _) <| pt (z60r13 x3) rfl <| pt (z60r13 x3) rfl <| pt (z60r14 x3) rfl <| pt ((I (x3.2) : Value) = I (x3.2)) rfl <| pt ((I (x3.2) : Value) = I (x3.2)) rfl <| pc (ref02_Narrow_fc fu b ([l_0, l_1, l_2, l_3]) q10 x4 h6) <| pc (z60p7 b l_0 l_1 l_2 l_3 q10) <| pt (z60r8 l_0 l_1 l_2 l_3) (⟨MemAt.same _ (encL_pf cXSample_pf _), trivial⟩) <| pt (z60r15 x4) (selfB_self 9 _ rfl _) <| pn
abbrev A_law02_GrowthNarrows_n4 (b : XBox) (q10 : Nat) : List Value := [.agg #[I (b.Low.Age), I (b.Low.Shoots), I (b.Low.Height), I (b.Low.Girth), I (b.High.Age), I (b.High.Shoots), I (b.High.Height), I (b.High.Girth)], .slice (some ⟨10, 0, none⟩) (4) (q10)]
abbrev K_law02_GrowthNarrows_n4 (l_0 l_1 l_2 l_3 : XSample) : List (Nat × List Value) := [(10, encL cXSample [l_0, l_1, l_2, l_3])]
noncomputable def law02_GrowthNarrows_n4 (fu : Nat) (b : XBox) (l_0 l_1 l_2 l_3 : XSample) : Option Bool :=
  Option.bind (growth_Narrow fu b ([l_0, l_1, l_2, l_3])) fun x1 =>
  bif ref02_Box b then (Option.bind (ref02_Samples fu ([l_0, l_1, l_2, l_3])) fun x2 =>
    bif x2 then (Option.bind (growth_Narrow fu b ([l_3, l_2, l_1, l_0, l_0, l_1, l_2, l_3])) fun x3 =>
      Option.bind (ref02_Narrow fu b ([l_0, l_1, l_2, l_3])) fun x4 =>
      bif x4.2 then (bif x1.2 == 0 then (bif x3.2 == 0 then (bif (((x1.1.Low.Age == x4.1.Low.Age) && ((x1.1.Low.Shoots == x4.1.Low.Shoots) && ((x1.1.Low.Height == x4.1.Low.Height) && ((x1.1.Low.Girth == x4.1.Low.Girth) && true)))) && (((x1.1.High.Age == x4.1.High.Age) && ((x1.1.High.Shoots == x4.1.High.Shoots) && ((x1.1.High.Height == x4.1.High.Height) && ((x1.1.High.Girth == x4.1.High.Girth) && true)))) && true)) then (bif (((x3.1.Low.Age == x4.1.Low.Age) && ((x3.1.Low.Shoots == x4.1.Low.Shoots) && ((x3.1.Low.Height == x4.1.Low.Height) && ((x3.1.Low.Girth == x4.1.Low.Girth) && true)))) && (((x3.1.High.Age == x4.1.High.Age) && ((x3.1.High.Shoots == x4.1.High.Shoots) && ((x3.1.High.Height == x4.1.High.Height) && ((x3.1.High.Girth == x4.1.High.Girth) && true)))) && true)) then (Option.bind (law02_known fu) fun x5 =>
                some x5)
              else some false)
            else some false)
          else some false)
        else some false)
      else (bif x1.2 == 5 then (bif x3.2 == 5 then (bif (((x1.1.Low.Age == 0) && ((x1.1.Low.Shoots == 0) && ((x1.1.Low.Height == 0) && ((x1.1.Low.Girth == 0) && true)))) && (((x1.1.High.Age == 0) && ((x1.1.High.Shoots == 0) && ((x1.1.High.Height == 0) && ((x1.1.High.Girth == 0) && true)))) && true)) then (bif (((x3.1.Low.Age == 0) && ((x3.1.Low.Shoots == 0) && ((x3.1.Low.Height == 0) && ((x3.1.Low.Girth == 0) && true)))) && (((x3.1.High.Age == 0) && ((x3.1.High.Shoots == 0) && ((x3.1.High.Height == 0) && ((x3.1.High.Girth == 0) && true)))) && true)) then (Option.bind (law02_known fu) fun x5 =>
                some x5)
              else some false)
            else some false)
          else some false)
        else some false))
    else (bif x1.2 == 2 then (bif (((x1.1.Low.Age == 0) && ((x1.1.Low.Shoots == 0) && ((x1.1.Low.Height == 0) && ((x1.1.Low.Girth == 0) && true)))) && (((x1.1.High.Age == 0) && ((x1.1.High.Shoots == 0) && ((x1.1.High.Height == 0) && ((x1.1.High.Girth == 0) && true)))) && true)) then (Option.bind (law02_known fu) fun x5 =>
          some x5)
        else some false)
      else some false))
  else (bif x1.2 == 2 then (bif (((x1.1.Low.Age == 0) && ((x1.1.Low.Shoots == 0) && ((x1.1.Low.Height == 0) && ((x1.1.Low.Girth == 0) && true)))) && (((x1.1.High.Age == 0) && ((x1.1.High.Shoots == 0) && ((x1.1.High.Height == 0) && ((x1.1.High.Girth == 0) && true)))) && true)) then (Option.bind (law02_known fu) fun x5 =>
        some x5)
      else some false)
    else some false)
theorem law02_GrowthNarrows_n4_fc (fu : Nat) (b : XBox) (l_0 l_1 l_2 l_3 : XSample) (q10 : Nat) (r : Bool) (hh : law02_GrowthNarrows_n4 fu b l_0 l_1 l_2 l_3 = some r) : FC P GG 10 (A_law02_GrowthNarrows_n4 b q10) (K_law02_GrowthNarrows_n4 l_0 l_1 l_2 l_3) (.bool (r)) := by
  unfold law02_GrowthNarrows_n4 at hh
  cases h1 : growth_Narrow fu b ([l_0, l_1, l_2, l_3]) with
  | none => rw [h1, oN] at hh; cases hh
  | some x1 =>
   rw [h1, oS] at hh
   rcases bb (ref02_Box b) with h2 | h2
   ·rw [h2, cT] at hh
    cases h3 : ref02_Samples fu ([l_0, l_1, l_2, l_3]) with
    | none => rw [h3, oN] at hh; cases hh
    | some x2 =>
     rw [h3, oS] at hh
     rcases bb (x2) with h4 | h4
     ·rw [h4, cT] at hh
      cases h5 : growth_Narrow fu b ([l_3, l_2, l_1, l_0, l_0, l_1, l_2, l_3]) with
      | none => rw [h5, oN] at hh; cases hh
      | some x3 =>
       rw [h5, oS] at hh
       cases h6 : ref02_Narrow fu b ([l_0, l_1, l_2, l_3]) with
       | none => rw [h6, oN] at hh; cases hh
       | some x4 =>
        rw [h6, oS] at hh
        rcases bb (x4.2) with h7 | h7
        ·rw [h7, cT] at hh
         rcases bb (x1.2 == 0) with h8 | h8
         ·rw [h8, cT] at hh
          rcases bb (x3.2 == 0) with h9 | h9
          ·rw [h9, cT] at hh
           rcases bb ((((x1.1.Low.Age == x4.1.Low.Age) && ((x1.1.Low.Shoots == x4.1.Low.Shoots) && ((x1.1.Low.Height == x4.1.Low.Height) && ((x1.1.Low.Girth == x4.1.Low.Girth) && true)))) && (((x1.1.High.Age == x4.1.High.Age) && ((x1.1.High.Shoots == x4.1.High.Shoots) && ((x1.1.High.Height == x4.1.High.Height) && ((x1.1.High.Girth == x4.1.High.Girth) && true)))) && true))) with h10 | h10
           ·rw [h10, cT] at hh
            rcases bb ((((x3.1.Low.Age == x4.1.Low.Age) && ((x3.1.Low.Shoots == x4.1.Low.Shoots) && ((x3.1.Low.Height == x4.1.Low.Height) && ((x3.1.Low.Girth == x4.1.Low.Girth) && true)))) && (((x3.1.High.Age == x4.1.High.Age) && ((x3.1.High.Shoots == x4.1.High.Shoots) && ((x3.1.High.Height == x4.1.High.Height) && ((x3.1.High.Girth == x4.1.High.Girth) && true)))) && true))) with h11 | h11
            ·rw [h11, cT] at hh
             cases h12 : law02_known fu with
             | none => rw [h12, oN] at hh; cases hh
             | some x5 =>
              rw [h12, oS] at hh
              rw [← sI hh]
              refine FC.x pfT 100 60 (z60b0 b l_0 l_1 l_2 l_3 q10 x1 ++ (z60b1 b ++ (z60b2 b l_0 l_1 l_2 l_3 q10 x2 x3 x4 ++ ((hT :: (hR 6 (hT :: hE :: hE :: hT :: (hR 4 ((hB hQ true) :: (hR 4 [(hB hQ true), hE, hE, (hC (.bool (x5))), hE, hE])))))))))) (aa (z60q0 fu b l_0 l_1 l_2 l_3 q10 x1 h1) <| aa (z60q1 fu b l_0 l_1 l_2 l_3 q10 x2 h2 h3) <| aa (z60q2 fu b l_0 l_1 l_2 l_3 q10 x2 x3 x4 h4 h5 h6) <| pc h7 <| pc h8 <| pc h9 <| pc h10 <| pc h11 <| pc (law02_known_fc fu  x5 h12) <| pn) (by kernel_rfl) (by kernel_rfl) ?_ (by kernel_rfl)
              exact ⟨PinL.pf (encL_pf cXSample_pf _), trivial⟩
            ·rw [h11, cF] at hh
             rw [← sI hh]
             refine FC.x pfT 100 60 (z60b0 b l_0 l_1 l_2 l_3 q10 x1 ++ (z60b1 b ++ (z60b2 b l_0 l_1 l_2 l_3 q10 x2 x3 x4 ++ ((hT :: (hR 6 (hT :: hE :: hE :: hT :: (hR 4 ((hB hQ true) :: (hR 4 ((hB hQ false) :: (hR 4 [])))))))))))) (aa (z60q0 fu b l_0 l_1 l_2 l_3 q10 x1 h1) <| aa (z60q1 fu b l_0 l_1 l_2 l_3 q10 x2 h2 h3) <| aa (z60q2 fu b l_0 l_1 l_2 l_3 q10 x2 x3 x4 h4 h5 h6) <| pc h7 <| pc h8 <| pc h9 <| pc h10 <| pc h11 <| pn) (by kernel_rfl) (by kernel_rfl) ?_ (by kernel_rfl)
             exact ⟨PinL.pf (encL_pf cXSample_pf _), trivial⟩
           ·rw [h10, cF] at hh
            rw [← sI hh]
            refine FC.x pfT 100 60 (z60b0 b l_0 l_1 l_2 l_3 q10 x1 ++ (z60b1 b ++ (z60b2 b l_0 l_1 l_2 l_3 q10 x2 x3 x4 ++ ((hT :: (hR 6 (hT :: hE :: hE :: hT :: (hR 4 ((hB hQ false) :: (hR 6 [])))))))))) (aa (z60q0 fu b l_0 l_1 l_2 l_3 q10 x1 h1) <| aa (z60q1 fu b l_0 l_1 l_2 l_3 q10 x2 h2 h3) <| aa (z60q2 fu b l_0 l_1 l_2 l_3 q10 x2 x3 x4 h4 h5 h6) <| pc h7 <| pc h8 <| pc h9 <| pc h10 <| pn) (by kernel_rfl) (by kernel_rfl) ?_ (by kernel_rfl)
            exact ⟨PinL.pf (encL_pf cXSample_pf _), trivial⟩
          ·rw [h9, cF] at hh
           rw [← sI hh]
           refine FC.x pfT 100 60 (z60b0 b l_0 l_1 l_2 l_3 q10 x1 ++ (z60b1 b ++ (z60b2 b l_0 l_1 l_2 l_3 q10 x2 x3 x4 ++ ((hT :: (hR 6 (hT :: hE :: hE :: hF :: (hR 8 [])))))))) (aa (z60q0 fu b l_0 l_1 l_2 l_3 q10 x1 h1) <| aa (z60q1 fu b l_0 l_1 l_2 l_3 q10 x2 h2 h3) <| aa (z60q2 fu b l_0 l_1 l_2 l_3 q10 x2 x3 x4 h4 h5 h6) <| pc h7 <| pc h8 <| pc h9 <| pn) (by kernel_rfl) (by kernel_rfl) ?_ (by kernel_rfl)
           exact ⟨PinL.pf (encL_pf cXSample_pf _), trivial⟩
         ·rw [h8, cF] at hh
          rw [← sI hh]
          refine FC.x pfT 100 60 (z60b0 b l_0 l_1 l_2 l_3 q10 x1 ++ (z60b1 b ++ (z60b2 b l_0 l_1 l_2 l_3 q10 x2 x3 x4 ++ ((hT :: (hR 6 (hF :: (hR 9 [])))))))) (aa (z60q0 fu b l_0 l_1 l_2 l_3 q10 x1 h1) <| aa (z60q1 fu b l_0 l_1 l_2 l_3 q10 x2 h2 h3) <| aa (z60q2 fu b l_0 l_1 l_2 l_3 q10 x2 x3 x4 h4 h5 h6) <| pc h7 <| pc h8 <| pn) (by kernel_rfl) (by kernel_rfl) ?_ (by kernel_rfl)
          exact ⟨PinL.pf (encL_pf cXSample_pf _), trivial⟩
        ·rw [h7, cF] at hh
         rcases bb (x1.2 == 5) with h8 | h8
         ·rw [h8, cT] at hh
          rcases bb (x3.2 == 5) with h9 | h9
          ·rw [h9, cT] at hh
           rcases bb ((((x1.1.Low.Age == 0) && ((x1.1.Low.Shoots == 0) && ((x1.1.Low.Height == 0) && ((x1.1.Low.Girth == 0) && true)))) && (((x1.1.High.Age == 0) && ((x1.1.High.Shoots == 0) && ((x1.1.High.Height == 0) && ((x1.1.High.Girth == 0) && true)))) && true))) with h10 | h10
           ·rw [h10, cT] at hh
            rcases bb ((((x3.1.Low.Age == 0) && ((x3.1.Low.Shoots == 0) && ((x3.1.Low.Height == 0) && ((x3.1.Low.Girth == 0) && true)))) && (((x3.1.High.Age == 0) && ((x3.1.High.Shoots == 0) && ((x3.1.High.Height == 0) && ((x3.1.High.Girth == 0) && true)))) && true))) with h11 | h11
            ·rw [h11, cT] at hh
             cases h12 : law02_known fu with
             | none => rw [h12, oN] at hh; cases hh
             | some x5 =>
              rw [h12, oS] at hh
              rw [← sI hh]
              refine FC.x pfT 100 60 (z60b0 b l_0 l_1 l_2 l_3 q10 x1 ++ (z60b1 b ++ (z60b2 b l_0 l_1 l_2 l_3 q10 x2 x3 x4 ++ ((hF :: (hR 6 (hT :: hE :: hE :: hT :: (hR 4 ((hB hQ true) :: (hR 4 [(hB hQ true), hE, hE, (hC (.bool (x5))), hE, hE])))))))))) (aa (z60q0 fu b l_0 l_1 l_2 l_3 q10 x1 h1) <| aa (z60q1 fu b l_0 l_1 l_2 l_3 q10 x2 h2 h3) <| aa (z60q2 fu b l_0 l_1 l_2 l_3 q10 x2 x3 x4 h4 h5 h6) <| pc h7 <| pc h8 <| pc h9 <| pc h10 <| pc h11 <| pc (law02_known_fc fu  x5 h12) <| pn) (by kernel_rfl) (by kernel_rfl) ?_ (by kernel_rfl)
              exact ⟨PinL.pf (encL_pf cXSample_pf _), trivial⟩
            ·rw [h11, cF] at hh
             rw [← sI hh]
             refine FC.x pfT 100 60 (z60b0 b l_0 l_1 l_2 l_3 q10 x1 ++ (z60b1 b ++ (z60b2 b l_0 l_1 l_2 l_3 q10 x2 x3 x4 ++ ((hF :: (hR 6 (hT :: hE :: hE :: hT :: (hR 4 ((hB hQ true) :: (hR 4 ((hB hQ false) :: (hR 4 [])))))))))))) (aa (z60q0 fu b l_0 l_1 l_2 l_3 q10 x1 h1) <| aa (z60q1 fu b l_0 l_1 l_2 l_3 q10 x2 h2 h3) <| aa (z60q2 fu b l_0 l_1 l_2 l_3 q10 x2 x3 x4 h4 h5 h6) <| pc h7 <| pc h8 <| pc h9 <| pc h10 <| pc h11 <| pn) (by kernel_rfl) (by kernel_rfl) ?_ (by kernel_rfl)
             exact ⟨PinL.pf (encL_pf cXSample_pf _), trivial⟩
           ·rw [h10, cF] at hh
            rw [← sI hh]
            refine FC.x pfT 100 60 (z60b0 b l_0 l_1 l_2 l_3 q10 x1 ++ (z60b1 b ++ (z60b2 b l_0 l_1 l_2 l_3 q10 x2 x3 x4 ++ ((hF :: (hR 6 (hT :: hE :: hE :: hT :: (hR 4 ((hB hQ false) :: (hR 6 [])))))))))) (aa (z60q0 fu b l_0 l_1 l_2 l_3 q10 x1 h1) <| aa (z60q1 fu b l_0 l_1 l_2 l_3 q10 x2 h2 h3) <| aa (z60q2 fu b l_0 l_1 l_2 l_3 q10 x2 x3 x4 h4 h5 h6) <| pc h7 <| pc h8 <| pc h9 <| pc h10 <| pn) (by kernel_rfl) (by kernel_rfl) ?_ (by kernel_rfl)
            exact ⟨PinL.pf (encL_pf cXSample_pf _), trivial⟩
          ·rw [h9, cF] at hh
           rw [← sI hh]
           refine FC.x pfT 100 60 (z60b0 b l_0 l_1 l_2 l_3 q10 x1 ++ (z60b1 b ++ (z60b2 b l_0 l_1 l_2 l_3 q10 x2 x3 x4 ++ ((hF :: (hR 6 (hT :: hE :: hE :: hF :: (hR 8 [])))))))) (aa (z60q0 fu b l_0 l_1 l_2 l_3 q10 x1 h1) <| aa (z60q1 fu b l_0 l_1 l_2 l_3 q10 x2 h2 h3) <| aa (z60q2 fu b l_0 l_1 l_2 l_3 q10 x2 x3 x4 h4 h5 h6) <| pc h7 <| pc h8 <| pc h9 <| pn) (by kernel_rfl) (by kernel_rfl) ?_ (by kernel_rfl)
           exact ⟨PinL.pf (encL_pf cXSample_pf _), trivial⟩
         ·rw [h8, cF] at hh
          rw [← sI hh]
          refine FC.x pfT 100 60 (z60b0 b l_0 l_1 l_2 l_3 q10 x1 ++ (z60b1 b ++ (z60b2 b l_0 l_1 l_2 l_3 q10 x2 x3 x4 ++ ((hF :: (hR 6 (hF :: (hR 9 [])))))))) (aa (z60q0 fu b l_0 l_1 l_2 l_3 q10 x1 h1) <| aa (z60q1 fu b l_0 l_1 l_2 l_3 q10 x2 h2 h3) <| aa (z60q2 fu b l_0 l_1 l_2 l_3 q10 x2 x3 x4 h4 h5 h6) <| pc h7 <| pc h8 <| pn) (by kernel_rfl) (by kernel_rfl) ?_ (by kernel_rfl)
          exact ⟨PinL.pf (encL_pf cXSample_pf _), trivial⟩
     ·rw [h4, cF] at hh
      rcases bb (x1.2 == 2) with h5 | h5
      ·rw [h5, cT] at hh
       rcases bb ((((x1.1.Low.Age == 0) && ((x1.1.Low.Shoots == 0) && ((x1.1.Low.Height == 0) && ((x1.1.Low.Girth == 0) && true)))) && (((x1.1.High.Age == 0) && ((x1.1.High.Shoots == 0) && ((x1.1.High.Height == 0) && ((x1.1.High.Girth == 0) && true)))) && true))) with h6 | h6
       ·rw [h6, cT] at hh
        cases h7 : law02_known fu with
        | none => rw [h7, oN] at hh; cases hh
        | some x5 =>
         rw [h7, oS] at hh
         rw [← sI hh]
         refine FC.x pfT 100 60 (z60b0 b l_0 l_1 l_2 l_3 q10 x1 ++ (z60b1 b ++ ([(z60i16 l_0 l_1 l_2 l_3 q10 x2), hE, hE, hE, hT, hE, hE, hE, (hB hQ true), hE, hE, (hC (.bool (x5))), hE, hE]))) (aa (z60q0 fu b l_0 l_1 l_2 l_3 q10 x1 h1) <| aa (z60q1 fu b l_0 l_1 l_2 l_3 q10 x2 h2 h3) <| pc h4 <| pc h5 <| pc h6 <| pc (law02_known_fc fu  x5 h7) <| pn) (by kernel_rfl) (by kernel_rfl) ?_ (by kernel_rfl)
         exact ⟨PinL.pf (encL_pf cXSample_pf _), trivial⟩
       ·rw [h6, cF] at hh
        rw [← sI hh]
        refine FC.x pfT 100 60 (z60b0 b l_0 l_1 l_2 l_3 q10 x1 ++ (z60b1 b ++ (((z60i16 l_0 l_1 l_2 l_3 q10 x2) :: hE :: hE :: hE :: hT :: hE :: hE :: hE :: (hB hQ false) :: (hR 4 []))))) (aa (z60q0 fu b l_0 l_1 l_2 l_3 q10 x1 h1) <| aa (z60q1 fu b l_0 l_1 l_2 l_3 q10 x2 h2 h3) <| pc h4 <| pc h5 <| pc h6 <| pn) (by kernel_rfl) (by kernel_rfl) ?_ (by kernel_rfl)
        exact ⟨PinL.pf (encL_pf cXSample_pf _), trivial⟩
      ·rw [h5, cF] at hh
       rw [← sI hh]
       refine FC.x pfT 100 60 (z60b0 b l_0 l_1 l_2 l_3 q10 x1 ++ (z60b1 b ++ (((z60i16 l_0 l_1 l_2 l_3 q10 x2) :: hE :: hE :: hE :: hF :: (hR 5 []))))) (aa (z60q0 fu b l_0 l_1 l_2 l_3 q10 x1 h1) <| aa (z60q1 fu b l_0 l_1 l_2 l_3 q10 x2 h2 h3) <| pc h4 <| pc h5 <| pn) (by kernel_rfl) (by kernel_rfl) ?_ (by kernel_rfl)
       exact ⟨PinL.pf (encL_pf cXSample_pf _), trivial⟩
   ·rw [h2, cF] at hh
    rcases bb (x1.2 == 2) with h3 | h3
    ·rw [h3, cT] at hh
     rcases bb ((((x1.1.Low.Age == 0) && ((x1.1.Low.Shoots == 0) && ((x1.1.Low.Height == 0) && ((x1.1.Low.Girth == 0) && true)))) && (((x1.1.High.Age == 0) && ((x1.1.High.Shoots == 0) && ((x1.1.High.Height == 0) && ((x1.1.High.Girth == 0) && true)))) && true))) with h4 | h4
     ·rw [h4, cT] at hh
      cases h5 : law02_known fu with
      | none => rw [h5, oN] at hh; cases hh
      | some x5 =>
       rw [h5, oS] at hh
       rw [← sI hh]
       refine FC.x pfT 100 60 (z60b0 b l_0 l_1 l_2 l_3 q10 x1 ++ (((hB (hC (.bool (ref02_Box b))) false) :: (hR 4 [hT, hE, hE, hE, (hB hQ true), hE, hE, (hC (.bool (x5))), hE, hE])))) (aa (z60q0 fu b l_0 l_1 l_2 l_3 q10 x1 h1) <| pc h2 <| pc h3 <| pc h4 <| pc (law02_known_fc fu  x5 h5) <| pn) (by kernel_rfl) (by kernel_rfl) ?_ (by kernel_rfl)
       exact ⟨PinL.pf (encL_pf cXSample_pf _), trivial⟩
     ·rw [h4, cF] at hh
      rw [← sI hh]
      refine FC.x pfT 100 60 (z60b0 b l_0 l_1 l_2 l_3 q10 x1 ++ (((hB (hC (.bool (ref02_Box b))) false) :: (hR 4 (hT :: hE :: hE :: hE :: (hB hQ false) :: (hR 4 [])))))) (aa (z60q0 fu b l_0 l_1 l_2 l_3 q10 x1 h1) <| pc h2 <| pc h3 <| pc h4 <| pn) (by kernel_rfl) (by kernel_rfl) ?_ (by kernel_rfl)
      exact ⟨PinL.pf (encL_pf cXSample_pf _), trivial⟩
    ·rw [h3, cF] at hh
     rw [← sI hh]
     refine FC.x pfT 100 60 (z60b0 b l_0 l_1 l_2 l_3 q10 x1 ++ (((hB (hC (.bool (ref02_Box b))) false) :: (hR 4 (hF :: (hR 5 [])))))) (aa (z60q0 fu b l_0 l_1 l_2 l_3 q10 x1 h1) <| pc h2 <| pc h3 <| pn) (by kernel_rfl) (by kernel_rfl) ?_ (by kernel_rfl)
     exact ⟨PinL.pf (encL_pf cXSample_pf _), trivial⟩

/- greenhew/greenhewlaw02.GrowthNarrows -/
noncomputable abbrev z61i0 (b : XBox) (l_0 l_1 l_2 l_3 l_4 : XSample) (q10 : Nat) (x1 : XBox × Int) : Hint := (hM (.tuple #[.agg #[I (x1.1.Low.Age), I (x1.1.Low.Shoots), I (x1.1.Low.Height), I (x1.1.Low.Girth), I (x1.1.High.Age), I (x1.1.High.Shoots), I (x1.1.High.Height), I (x1.1.High.Girth)], I (x1.2)]) (.tuple #[.agg #[I (x1.1.Low.Age), I (x1.1.Low.Shoots), I (x1.1.Low.Height), I (x1.1.Low.Girth), I (x1.1.High.Age), I (x1.1.High.Shoots), I (x1.1.High.Height), I (x1.1.High.Girth)], I (x1.2)]) (A_growth_Narrow b ([l_0, l_1, l_2, l_3, l_4]) q10) (K_growth_Narrow ([l_0, l_1, l_2, l_3, l_4])) [(10, 10, 0)])
noncomputable abbrev z61i1 (l_0 l_1 l_2 l_3 l_4 : XSample) (q10 : Nat) (x2 : Bool) : Hint := (hB (hM (.bool (x2)) (.bool (x2)) (A_ref02_Samples ([l_0, l_1, l_2, l_3, l_4]) q10) (K_ref02_Samples ([l_0, l_1, l_2, l_3, l_4])) [(10, 10, 0)]) true)
noncomputable abbrev z61i2 (b : XBox) (l_0 l_1 l_2 l_3 l_4 : XSample) (x3 : XBox × Int) : Hint := (hM (.tuple #[.agg #[I (x3.1.Low.Age), I (x3.1.Low.Shoots), I (x3.1.Low.Height), I (x3.1.Low.Girth), I (x3.1.High.Age), I (x3.1.High.Shoots), I (x3.1.High.Height), I (x3.1.High.Girth)], I (x3.2)]) (.tuple #[.agg #[I (x3.1.Low.Age), I (x3.1.Low.Shoots), I (x3.1.Low.Height), I (x3.1.Low.Girth), I (x3.1.High.Age), I (x3.1.High.Shoots), I (x3.1.High.Height), I (x3.1.High.Girth)], I (x3.2)]) (A_growth_Narrow b ([l_4, l_3, l_2, l_1, l_0, l_0, l_1, l_2, l_3, l_4]) 10) (K_growth_Narrow ([l_4, l_3, l_2, l_1, l_0, l_0, l_1, l_2, l_3, l_4])) [(10, 112, 0)])
noncomputable abbrev z61i3 (b : XBox) (l_0 l_1 l_2 l_3 l_4 : XSample) (q10 : Nat) (x4 : XBox × Bool) : Hint := (hM (.tuple #[.agg #[I (x4.1.Low.Age), I (x4.1.Low.Shoots), I (x4.1.Low.Height), I (x4.1.Low.Girth), I (x4.1.High.Age), I (x4.1.High.Shoots), I (x4.1.High.Height), I (x4.1.High.Girth)], .bool (x4.2)]) (.tuple #[.agg #[I (x4.1.Low.Age), I (x4.1.Low.Shoots), I (x4.1.Low.Height), I (x4.1.Low.Girth), I (x4.1.High.Age), I (x4.1.High.Shoots), I (x4.1.High.Height), I (x4.1.High.Girth)], .bool (x4.2)]) (A_ref02_Narrow b ([l_0, l_1, l_2, l_3, l_4]) q10) (K_ref02_Narrow ([l_0, l_1, l_2, l_3, l_4])) [(10, 10, 0)])
theorem z61p4 (b : XBox) (l_0 l_1 l_2 l_3 l_4 : XSample) (q10 : Nat) : VRs (Ren.emb [(10, 10, 0)]) (A_growth_Narrow b ([l_0, l_1, l_2, l_3, l_4]) q10) [.agg #[I (b.Low.Age), I (b.Low.Shoots), I (b.Low.Height), I (b.Low.Girth), I (b.High.Age), I (b.High.Shoots), I (b.High.Height), I (b.High.Girth)], .slice (some ⟨10, 0, none⟩) (5) (q10)] := (.cons _ _ _ _ (VR.of_pf rfl) (.cons _ _ _ _ (.slc 10 0 _ _ _ ⟨10, 0, 0, 0⟩ rfl (.inl rfl)) .nil))
theorem z61p5 (l_0 l_1 l_2 l_3 l_4 : XSample) (q10 : Nat) : VRs (Ren.emb [(10, 10, 0)]) (A_ref02_Samples ([l_0, l_1, l_2, l_3, l_4]) q10) [.slice (some ⟨10, 0, none⟩) (5) (q10)] := (.cons _ _ _ _ (.slc 10 0 _ _ _ ⟨10, 0, 0, 0⟩ rfl (.inl rfl)) .nil)
theorem z61p6 (b : XBox) (l_0 l_1 l_2 l_3 l_4 : XSample) : VRs (Ren.emb [(10, 112, 0)]) (A_growth_Narrow b ([l_4, l_3, l_2, l_1, l_0, l_0, l_1, l_2, l_3, l_4]) 10) [.agg #[I (b.Low.Age), I (b.Low.Shoots), I (b.Low.Height), I (b.Low.Girth), I (b.High.Age), I (b.High.Shoots), I (b.High.Height), I (b.High.Girth)], .slice (some ⟨112, 0, none⟩) (10) (10)] := (.cons _ _ _ _ (VR.of_pf rfl) (.cons _ _ _ _ (.slc 10 0 _ _ _ ⟨112, 0, 0, 0⟩ rfl (.inl rfl)) .nil))
theorem z61p7 (b : XBox) (l_0 l_1 l_2 l_3 l_4 : XSample) (q10 : Nat) : VRs (Ren.emb [(10, 10, 0)]) (A_ref02_Narrow b ([l_0, l_1, l_2, l_3, l_4]) q10) [.agg #[I (b.Low.Age), I (b.Low.Shoots), I (b.Low.Height), I (b.Low.Girth), I (b.High.Age), I (b.High.Shoots), I (b.High.Height), I (b.High.Girth)], .slice (some ⟨10, 0, none⟩) (5) (q10)] := (.cons _ _ _ _ (VR.of_pf rfl) (.cons _ _ _ _ (.slc 10 0 _ _ _ ⟨10, 0, 0, 0⟩ rfl (.inl rfl)) .nil))
abbrev z61r8 (l_0 l_1 l_2 l_3 l_4 : XSample) : Prop := MemAt (Ren.emb [(10, 10, 0)]) (encL cXSample ([l_0, l_1, l_2, l_3, l_4])) 0 ([I (l_0.Kind), I (l_0.Span.Low), I (l_0.Span.High), I (l_1.Kind), I (l_1.Span.Low), I (l_1.Span.High), I (l_2.Kind), I (l_2.Span.Low), I (l_2.Span.High), I (l_3.Kind), I (l_3.Span.Low), I (l_3.Span.High), I (l_4.Kind), I (l_4.Span.Low), I (l_4.Span.High)]) ∧ True
abbrev z61r9 (x1 : XBox × Int) : Prop := VR (Ren.emb [(10, 10, 0)]) (.tuple #[.agg #[I (x1.1.Low.Age), I (x1.1.Low.Shoots), I (x1.1.Low.Height), I (x1.1.Low.Girth), I (x1.1.High.Age), I (x1.1.High.Shoots), I (x1.1.High.Height), I (x1.1.High.Girth)], I (x1.2)]) (.tuple #[.agg #[I (x1.1.Low.Age), I (x1.1.Low.Shoots), I (x1.1.Low.Height), I (x1.1.Low.Girth), I (x1.1.High.Age), I (x1.1.High.Shoots), I (x1.1.High.Height), I (x1.1.High.Girth)], I (x1.2)])
abbrev z61r10 (l_0 l_1 l_2 l_3 l_4 : XSample) : Prop := MemAt (Ren.emb [(10, 112, 0)]) (encL cXSample ([l_4, l_3, l_2, l_1, l_0, l_0, l_1, l_2, l_3, l_4])) 0 ([I (l_4.Kind), I (l_4.Span.Low), I (l_4.Span.High), I (l_3.Kind), I (l_3.Span.Low), I (l_3.Span.High), I (l_2.Kind), I (l_2.Span.Low), I (l_2.Span.High), I (l_1.Kind), I (l_1.Span.Low), I (l_1.Span.High), I (l_0.Kind), I (l_0.Span.Low), I (l_0.Span.High), I (l_0.Kind), I (l_0.Span.Low), I (l_0.Span.High), I (l_1.Kind), I (l_1.Span.Low), I (l_1.Span.High), I (l_2.Kind), I (l_2.Span.Low), I (l_2.Span.High), I (l_3.Kind), I (l_3.Span.Low), I (l_3.Span.High), I (l_4.Kind), I (l_4.Span.Low), I (l_4.Span.High)]) ∧ True
abbrev z61r11 (x3 : XBox × Int) : Prop := VR (Ren.emb [(10, 112, 0)]) (.tuple #[.agg #[I (x3.1.Low.Age), I (x3.1.Low.Shoots), I (x3.1.Low.Height), I (x3.1.Low.Girth), I (x3.1.High.Age), I (x3.1.High.Shoots), I (x3.1.High.Height), I (x3.1.High.Girth)], I (x3.2)]) (.tuple #[.agg #[I (x3.1.Low.Age), I (x3.1.Low.Shoots), I (x3.1.Low.Height), I (x3.1.Low.Girth), I (x3.1.High.Age), I (x3.1.High.Shoots), I (x3.1.High.Height), I (x3.1.High.Girth)], I (x3.2)])
abbrev z61r12 (b : XBox) : Prop := (.agg #[I (b.Low.Age), I (b.Low.Shoots), I (b.Low.Height), I (b.Low.Girth), I (b.High.Age), I (b.High.Shoots), I (b.High.Height), I (b.High.Girth)] : Value) = .agg #[I (b.Low.Age), I (b.Low.Shoots), I (b.Low.Height), I (b.Low.Girth), I (b.High.Age), I (b.High.Shoots), I (b.High.Height), I (b.High.Girth)]
abbrev z61r13 (x3 : XBox × Int) : Prop := (.tuple #[.agg #[I (x3.1.Low.Age), I (x3.1.Low.Shoots), I (x3.1.Low.Height), I (x3.1.Low.Girth), I (x3.1.High.Age), I (x3.1.High.Shoots), I (x3.1.High.Height), I (x3.1.High.Girth)], I (x3.2)] : Value) = .tuple #[.agg #[I (x3.1.Low.Age), I (x3.1.Low.Shoots), I (x3.1.Low.Height), I (x3.1.Low.Girth), I (x3.1.High.Age), I (x3.1.High.Shoots), I (x3.1.High.Height), I (x3.1.High.Girth)], I (x3.2)]
abbrev z61r14 (x3 : XBox × Int) : Prop := (.agg #[I (x3.1.Low.Age), I (x3.1.Low.Shoots), I (x3.1.Low.Height), I (x3.1.Low.Girth), I (x3.1.High.Age), I (x3.1.High.Shoots), I (x3.1.High.Height), I (x3.1.High.Girth)] : Value) = .agg #[I (x3.1.Low.Age), I (x3.1.Low.Shoots), I (x3.1.Low.Height), I (x3.1.Low.Girth), I (x3.1.High.Age), I (x3.1.High.Shoots), I (x3.1.High.Height), I (x3.1.High.Girth)]
abbrev z61r15 (x4 : XBox × Bool) : Prop := VR (Ren.emb [(10, 10, 0)]) (.tuple #[.agg #[I (x4.1.Low.Age), I (x4.1.Low.Shoots), I (x4.1.Low.Height), I (x4.1.Low.Girth), I (x4.1.High.Age), I (x4.1.High.Shoots), I (x4.1.High.Height), I (x4.1.High.Girth)], .bool (x4.2)]) (.tuple #[.agg #[I (x4.1.Low.Age), I (x4.1.Low.Shoots), I (x4.1.Low.Height), I (x4.1.Low.Girth), I (x4.1.High.Age), I (x4.1.High.Shoots), I (x4.1.High.Height), I (x4.1.High.Girth)], .bool (x4.2)])
noncomputable abbrev z61i16 (l_0 l_1 l_2 l_3 l_4 : XSample) (q10 : Nat) (x2 : Bool) : Hint := (hB (hM (.bool (x2)) (.bool (x2)) (A_ref02_Samples ([l_0, l_1, l_2, l_3, l_4]) q10) (K_ref02_Samples ([l_0, l_1, l_2, l_3, l_4])) [(10, 10, 0)]) false)
noncomputable def z61b0 (b : XBox) (l_0 l_1 l_2 l_3 l_4 : XSample) (q10 : Nat) (x1 : XBox × Int) : List Hint := (hR 14 ((z61i0 b l_0 l_1 l_2 l_3 l_4 q10 x1) :: (hR 10 [])))
def z61q0 (fu : Nat) (b : XBox) (l_0 l_1 l_2 l_3 l_4 : XSample) (q10 : Nat) (x1 : XBox × Int) (h1 : (growth_Narrow fu b ([l_0, l_1, l_2, l_3, l_4])) = some x1) := PA.mk <| pc (growth_Narrow_fc fu b ([l_0, l_1, l_2, l_3, l_4]) q10 x1 h1) <| pc (z61p4 b l_0 l_1 l_2 l_3 l_4 q10) <| pt (z61r8 l_0 l_1 l_2 l_3 l_4) (⟨MemAt.same _ (encL_pf cXSample_pf _), trivial⟩) <| pt (z61r9 x1) (selfB_self 9 _ rfl _) <| pc (ref02_Box_fc b) <| pn
noncomputable def z61b1 (b : XBox) : List Hint := [(hB (hC (.bool (ref02_Box b))) true), hE, hE, hE]
def z61q1 (fu : Nat) (b : XBox) (l_0 l_1 l_2 l_3 l_4 : XSample) (q10 : Nat) (x2 : Bool) (h2 : (ref02_Box b) = true) (h3 : (ref02_Samples fu ([l_0, l_1, l_2, l_3, l_4])) = some x2) := PA.mk <| pc h2 <| pc (ref02_Samples_fc fu ([l_0, l_1, l_2, l_3, l_4]) q10 x2 h3) <| pc (z61p5 l_0 l_1 l_2 l_3 l_4 q10) <| pt (z61r8 l_0 l_1 l_2 l_3 l_4) (⟨MemAt.same _ (encL_pf cXSample_pf _), trivial⟩) <| pt (VR (Ren.emb [(10, 10, 0)]) (.bool (x2)) (.bool (x2))) (selfB_self 9 _ rfl _) <| pn
noncomputable def z61b2 (b : XBox) (l_0 l_1 l_2 l_3 l_4 : XSample) (q10 : Nat) (x2 : Bool) (x3 : XBox × Int) (x4 : XBox × Bool) : List Hint := ((z61i1 l_0 l_1 l_2 l_3 l_4 q10 x2) :: (hR 74 ((hED 8 [3]) :: (hR 4 ((z61i2 b l_0 l_1 l_2 l_3 l_4 x3) :: (hR 8 [(z61i3 b l_0 l_1 l_2 l_3 l_4 q10 x4), hE, hE]))))))
def z61q2 (fu : Nat) (b : XBox) (l_0 l_1 l_2 l_3 l_4 : XSample) (q10 : Nat) (x2 : Bool) (x3 : XBox × Int) (x4 : XBox × Bool) (h4 : (x2) = true) (h5 : (growth_Narrow fu b ([l_4, l_3, l_2, l_1, l_0, l_0, l_1, l_2, l_3, l_4])) = some x3) (h6 : (ref02_Narrow fu b ([l_0, l_1, l_2, l_3, l_4])) = some x4) := PA.mk <| pc h4 <| pc (growth_Narrow_fc fu b ([l_4, l_3, l_2, l_1, l_0, l_0, l_1, l_2, l_3, l_4]) 10 x3 h5) <| pc (z61p6 b l_0 l_1 l_2 l_3 l_4) <| pt (z61r10 l_0 l_1 l_2 l_3 l_4) (⟨MemAt.same _ (encL_pf cXSample_pf _), trivial⟩) <| pt (z61r11 x3) (selfB_self 9 _ rfl _) <| pt (z61r12 b) rfl <| pt (z61r12 b) rfl <| pc (growth_Narrow_fc fu b ([l_4, l_3, l_2, l_1, l_0, l_0, l_1, l_2, l_3, l_4]) 10 x3 h5) <| pc (z61p6 b l_0 l_1 l_2 l_3 l_4) <| pt (z61r10 l_0 l_1 l_2 l_3 l_4) (⟨MemAt.same _ (encL_pf cXSample_pf _), trivial⟩) <| pt (z61r11 x3) (selfB_self 9 _ rfl _) <| pt (z61r13 x3) rfl <| pt (z61r13 x3) rfl <| pt (z61r14 x3) rfl <| pt ((I (x3.2) : Value) = I (x3.2)) rfl <| pt ((I (x3.2) : Value) = I (x3.2)) rfl <| pc (ref02_Narrow_fc fu b ([l_0, l_1, l_2, l_3, l_4]) q10 x4 h6) <| pc (z61p7 b l_0 l_1 l_2 l_3 l_4 q10) <| pt (z61r8 l_0 l_1 l_2 l_3 l_4) (⟨MemAt.same _ (encL_pf cXSample_pf _), trivial⟩) <| pt (z61r15 x4) (selfB_self 9 _ rfl _) <| pn
abbrev A_law02_GrowthNarrows_n5 (b : XBox) (q10 : Nat) : List Value := [.agg #[I (b.Low.Age), I (b.Low.Shoots), I (b.Low.Height), I (b.Low.Girth), I (b.High.Age), I (b.High.Shoots), I (b.High.Height), I (b.High.Girth)], .slice (some ⟨10, 0, none⟩) (5) (q10)]
abbrev K_law02_GrowthNarrows_n5 (l_0 l_1 l_2 l_3 l_4 : XSample) : List (Nat × List Value) := [(10, encL cXSample [l_0, l_1, l_2, l_3, l_4])]
noncomputable def law02_GrowthNarrows_n5 (fu : Nat) (b : XBox) (l_0 l_1 l_2 l_3 l_4 : XSample) : Option Bool :=
  Option.bind (growth_Narrow fu b ([l_0, l_1, l_2, l_3, l_4])) fun x1 =>
  bif ref02_Box b then (Option.bind (ref02_Samples fu ([l_0, l_1, l_2, l_3, l_4])) fun x2 =>
    bif x2 then (Option.bind (growth_Narrow fu b ([l_4, l_3, l_2, l_1, l_0, l_0, l_1, l_2, l_3, l_4])) fun x3 =>
      Option.bind (ref02_Narrow fu b ([l_0, l_1, l_2, l_3, l_4])) fun x4 =>
      bif x4.2 then (bif x1.2 == 0 then (bif x3.2 == 0 then (bif (((x1.1.Low.Age == x4.1.Low.Age) && ((x1.1.Low.Shoots == x4.1.Low.Shoots) && ((x1.1.Low.Height == x4.1.Low.Height) && ((x1.1.Low.Girth == x4.1.Low.Girth) && true)))) && (((x1.1.High.Age == x4.1.High.Age) && ((x1.1.High.Shoots == x4.1.High.Shoots) && ((x1.1.High.Height == x4.1.High.Height) && ((x1.1.High.Girth == x4.1.High.Girth) && true)))) && true)) then (bif (((x3.1.Low.Age == x4.1.Low.Age) && ((x3.1.Low.Shoots == x4.1.Low.Shoots) && ((x3.1.Low.Height == x4.1.Low.Height) && ((x3.1.Low.Girth == x4.1.Low.Girth) && true)))) && (((x3.1.High.Age == x4.1.High.Age) && ((x3.1.High.Shoots == x4.1.High.Shoots) && ((x3.1.High.Height == x4.1.High.Height) && ((x3.1.High.Girth == x4.1.High.Girth) && true)))) && true)) then (Option.bind (law02_known fu) fun x5 =>
                some x5)
              else some false)
            else some false)
          else some false)
        else some false)
      else (bif x1.2 == 5 then (bif x3.2 == 5 then (bif (((x1.1.Low.Age == 0) && ((x1.1.Low.Shoots == 0) && ((x1.1.Low.Height == 0) && ((x1.1.Low.Girth == 0) && true)))) && (((x1.1.High.Age == 0) && ((x1.1.High.Shoots == 0) && ((x1.1.High.Height == 0) && ((x1.1.High.Girth == 0) && true)))) && true)) then (bif (((x3.1.Low.Age == 0) && ((x3.1.Low.Shoots == 0) && ((x3.1.Low.Height == 0) && ((x3.1.Low.Girth == 0) && true)))) && (((x3.1.High.Age == 0) && ((x3.1.High.Shoots == 0) && ((x3.1.High.Height == 0) && ((x3.1.High.Girth == 0) && true)))) && true)) then (Option.bind (law02_known fu) fun x5 =>
                some x5)
              else some false)
            else some false)
          else some false)
        else some false))
    else (bif x1.2 == 2 then (bif (((x1.1.Low.Age == 0) && ((x1.1.Low.Shoots == 0) && ((x1.1.Low.Height == 0) && ((x1.1.Low.Girth == 0) && true)))) && (((x1.1.High.Age == 0) && ((x1.1.High.Shoots == 0) && ((x1.1.High.Height == 0) && ((x1.1.High.Girth == 0) && true)))) && true)) then (Option.bind (law02_known fu) fun x5 =>
          some x5)
        else some false)
      else some false))
  else (bif x1.2 == 2 then (bif (((x1.1.Low.Age == 0) && ((x1.1.Low.Shoots == 0) && ((x1.1.Low.Height == 0) && ((x1.1.Low.Girth == 0) && true)))) && (((x1.1.High.Age == 0) && ((x1.1.High.Shoots == 0) && ((x1.1.High.Height == 0) && ((x1.1.High.Girth == 0) && true)))) && true)) then (Option.bind (law02_known fu) fun x5 =>
        some x5)
      else some false)
    else some false)
theorem law02_GrowthNarrows_n5_fc (fu : Nat) (b : XBox) (l_0 l_1 l_2 l_3 l_4 : XSample) (q10 : Nat) (r : Bool) (hh : law02_GrowthNarrows_n5 fu b l_0 l_1 l_2 l_3 l_4 = some r) : FC P GG 10 (A_law02_GrowthNarrows_n5 b q10) (K_law02_GrowthNarrows_n5 l_0 l_1 l_2 l_3 l_4) (.bool (r)) := by
  unfold law02_GrowthNarrows_n5 at hh
  cases h1 : growth_Narrow fu b ([l_0, l_1, l_2, l_3, l_4]) with
  | none => rw [h1, oN] at hh; cases hh
  | some x1 =>
   rw [h1, oS] at hh
   rcases bb (ref02_Box b) with h2 | h2
   ·rw [h2, cT] at hh
    cases h3 : ref02_Samples fu ([l_0, l_1, l_2, l_3, l_4]) with
    | none => rw [h3, oN] at hh; cases hh
    | some x2 =>
     rw [h3, oS] at hh
     rcases bb (x2) with h4 | h4
     ·rw [h4, cT] at hh
      cases h5 : growth_Narrow fu b ([l_4, l_3, l_2, l_1, l_0, l_0, l_1, l_2, l_3, l_4]) with
      | none => rw [h5, oN] at hh; cases hh
      | some x3 =>
       rw [h5, oS] at hh
       cases h6 : ref02_Narrow fu b ([l_0, l_1, l_2, l_3, l_4]) with
       | none => rw [h6, oN] at hh; cases hh
       | some x4 =>
        rw [h6, oS] at hh
        rcases bb (x4.2) with h7 | h7
        ·rw [h7, cT] at hh
         rcases bb (x1.2 == 0) with h8 | h8
         ·rw [h8, cT] at hh
          rcases bb (x3.2 == 0) with h9 | h9
          ·rw [h9, cT] at hh
           rcases bb ((((x1.1.Low.Age == x4.1.Low.Age) && ((x1.1.Low.Shoots == x4.1.Low.Shoots) && ((x1.1.Low.Height == x4.1.Low.Height) && ((x1.1.Low.Girth == x4.1.Low.Girth) && true)))) && (((x1.1.High.Age == x4.1.High.Age) && ((x1.1.High.Shoots == x4.1.High.Shoots) && ((x1.1.High.Height == x4.1.High.Height) && ((x1.1.High.Girth == x4.1.High.Girth) && true)))) && true))) with h10 | h10
           ·rw [h10, cT] at hh
            rcases bb ((((x3.1.Low.Age == x4.1.Low.Age) && ((x3.1.Low.Shoots == x4.1.Low.Shoots) && ((x3.1.Low.Height == x4.1.Low.Height) && ((x3.1.Low.Girth == x4.1.Low.Girth) && true)))) && (((x3.1.High.Age == x4.1.High.Age) && ((x3.1.High.Shoots == x4.1.High.Shoots) && ((x3.1.High.Height == x4.1.High.Height) && ((x3.1.High.Girth == x4.1.High.Girth) && true)))) && true))) with h11 | h11
            ·rw [h11, cT] at hh
             cases h12 : law02_known fu with
             | none => rw [h12, oN] at hh; cases hh
             | some x5 =>
              rw [h12, oS] at hh
              rw [← sI hh]
              refine FC.x pfT 100 60 (z61b0 b l_0 l_1 l_2 l_3 l_4 q10 x1 ++ (z61b1 b ++ (z61b2 b l_0 l_1 l_2 l_3 l_4 q10 x2 x3 x4 ++ ((hT :: (hR 6 (hT :: hE :: hE :: hT :: (hR 4 ((hB hQ true) :: (hR 4 [(hB hQ true), hE, hE, (hC (.bool (x5))), hE, hE])))))))))) (aa (z61q0 fu b l_0 l_1 l_2 l_3 l_4 q10 x1 h1) <| aa (z61q1 fu b l_0 l_1 l_2 l_3 l_4 q10 x2 h2 h3) <| aa (z61q2 fu b l_0 l_1 l_2 l_3 l_4 q10 x2 x3 x4 h4 h5 h6) <| pc h7 <| pc h8 <| pc h9 <| pc h10 <| pc h11 <| pc (law02_known_fc fu  x5 h12) <| pn) (by kernel_rfl) (by kernel_rfl) ?_ (by kernel_rfl)
              exact ⟨PinL.pf (encL_pf cXSample_pf _), trivial⟩
            ·rw [h11, cF] at hh
             rw [← sI hh]
             refine FC.x pfT 100 60 (z61b0 b l_0 l_1 l_2 l_3 l_4 q10 x1 ++ (z61b1 b ++ (z61b2 b l_0 l_1 l_2 l_3 l_4 q10 x2 x3 x4 ++ ((hT :: (hR 6 (hT :: hE :: hE :: hT :: (hR 4 ((hB hQ true) :: (hR 4 ((hB hQ false) :: (hR 4 [])))))))))))) (aa (z61q0 fu b l_0 l_1 l_2 l_3 l_4 q10 x1 h1) <| aa (z61q1 fu b l_0 l_1 l_2 l_3 l_4 q10 x2 h2 h3) <| aa (z61q2 fu b l_0 l_1 l_2 l_3 l_4 q10 x2 x3 x4 h4 h5 h6) <| pc h7 <| pc h8 <| pc h9 <| pc h10 <| pc h11 <| pn) (by kernel_rfl) (by kernel_rfl) ?_ (by kernel_rfl)
             exact ⟨PinL.pf (encL_pf cXSample_pf _), trivial⟩
           ·rw [h10, cF] at hh
            rw [← sI hh]
            refine FC.x pfT 100 60 (z61b0 b l_0 l_1 l_2 l_3 l_4 q10 x1 ++ (z61b1 b ++ (z61b2 b l_0 l_1 l_2 l_3 l_4 q10 x2 x3 x4 ++ ((hT :: (hR 6 (hT :: hE :: hE :: hT :: (hR 4 ((hB hQ false) :: (hR 6 [])))))))))) (aa (z61q0 fu b l_0 l_1 l_2 l_3 l_4 q10 x1 h1) <| aa (z61q1 fu b l_0 l_1 l_2 l_3 l_4 q10 x2 h2 h3) <| aa (z61q2 fu b l_0 l_1 l_2 l_3 l_4 q10 x2 x3 x4 h4 h5 h6) <| pc h7 <| pc h8 <| pc h9 <| pc h10 <| pn) (by kernel_rfl) (by kernel_rfl) ?_ (by kernel_rfl)
            exact ⟨PinL.pf (encL_pf cXSample_pf _), trivial⟩
          ·rw [h9, cF] at hh
           rw [← sI hh]
           refine FC.x pfT 100 60 (z61b0 b l_0 l_1 l_2 l_3 l_4 q10 x1 ++ (z61b1 b ++ (z61b2 b l_0 l_1 l_2 l_3 l_4 q10 x2 x3 x4 ++ ((hT :: (hR 6 (hT :: hE :: hE :: hF :: (hR 8 [])))))))) (aa (z61q0 fu b l_0 l_1 l_2 l_3 l_4 q10 x1 h1) <| aa (z61q1 fu b l_0 l_1 l_2 l_3 l_4 q10 x2 h2 h3) <| aa (z61q2 fu b l_0 l_1 l_2 l_3 l_4 q10 x2 x3 x4 h4 h5 h6) <| pc h7 <| pc h8 <| pc h9 <| pn) (by kernel_rfl) (by kernel_rfl) ?_ (by kernel_rfl)
           exact ⟨PinL.pf (encL_pf cXSample_pf _), trivial⟩
         ·rw [h8, cF] at hh
          rw [← sI hh]
          refine FC.x pfT 100 60 (z61b0 b l_0 l_1 l_2 l_3 l_4 q10 x1 ++ (z61b1 b ++ (z61b2 b l_0 l_1 l_2 l_3 l_4 q10 x2 x3 x4 ++ ((hT :: (hR 6 (hF :: (hR 9 [])))))))) (aa (z61q0 fu b l_0 l_1 l_2 l_3 l_4 q10 x1 h1) <| aa (z61q1 fu b l_0 l_1 l_2 l_3 l_4 q10 x2 h2 h3) <| aa (z61q2 fu b l_0 l_1 l_2 l_3 l_4 q10 x2 x3 x4 h4 h5 h6) <| pc h7 <| pc h8 <| pn) (by kernel_rfl) (by kernel_rfl) ?_ (by kernel_rfl)
          exact ⟨PinL.pf (encL_pf cXSample_pf _), trivial⟩
        ·rw [h7, cF] at hh
         rcases bb (x1.2 == 5) with h8 | h8
         ·rw [h8, cT] at hh
          rcases bb (x3.2 == 5) with h9 | h9
          ·rw [h9, cT] at hh
           rcases bb ((((x1.1.Low.Age == 0) && ((x1.1.Low.Shoots == 0) && ((x1.1.Low.Height == 0) && ((x1.1.Low.Girth == 0) && true)))) && (((x1.1.High.Age == 0) && ((x1.1.High.Shoots == 0) && ((x1.1.High.Height == 0) && ((x1.1.High.Girth == 0) && true)))) && true))) with h10 | h10
           ·rw [h10, cT] at hh
            rcases bb ((((x3.1.Low.Age == 0) && ((x3.1.Low.Shoots == 0) && ((x3.1.Low.Height == 0) && ((x3.1.Low.Girth == 0) && true)))) && (((x3.1.High.Age == 0) && ((x3.1.High.Shoots == 0) && ((x3.1.High.Height == 0) && ((x3.1.High.Girth == 0) && true)))) && true))) with h11 | h11
            ·rw [h11, cT] at hh
             cases h12 : law02_known fu with
             | none => rw [h12, oN] at hh; cases hh
             | some x5 =>
              rw [h12, oS] at hh
              rw [← sI hh]
              refine FC.x pfT 100 60 (z61b0 b l_0 l_1 l_2 l_3 l_4 q10 x1 ++ (z61b1 b ++ (z61b2 b l_0 l_1 l_2 l_3 l_4 q10 x2 x3 x4 ++ ((hF :: (hR 6 (hT :: hE :: hE :: hT :: (hR 4 ((hB hQ true) :: (hR 4 [(hB hQ true), hE, hE, (hC (.bool (x5))), hE, hE])))))))))) (aa (z61q0 fu b l_0 l_1 l_2 l_3 l_4 q10 x1 h1) <| aa (z61q1 fu b l_0 l_1 l_2 l_3 l_4 q10 x2 h2 h3) <| aa (z61q2 fu b l_0 l_1 l_2 l_3 l_4 q10 x2 x3 x4 h4 h5 h6) <| pc h7 <| pc h8 <| pc h9 <| pc h10 <| pc h11 <| pc (law02_known_fc fu  x5 h12) <| pn) (by kernel_rfl) (by kernel_rfl) ?_ (by kernel_rfl)
              exact ⟨PinL.pf (encL_pf cXSample_pf _), trivial⟩
            ·rw [h11, cF] at hh
             rw [← sI hh]
             refine FC.x pfT 100 60 (z61b0 b l_0 l_1 l_2 l_3 l_4 q10 x1 ++ (z61b1 b ++ (z61b2 b l_0 l_1 l_2 l_3 l_4 q10 x2 x3 x4 ++ ((hF :: (hR 6 (hT :: hE :: hE :: hT :: (hR 4 ((hB hQ true) :: (hR 4 ((hB hQ false) :: (hR 4 [])))))))))))) (aa (z61q0 fu b l_0 l_1 l_2 l_3 l_4 q10 x1 h1) <| aa (z61q1 fu b l_0 l_1 l_2 l_3 l_4 q10 x2 h2 h3) <| aa (z61q2 fu b l_0 l_1 l_2 l_3 l_4 q10 x2 x3 x4 h4 h5 h6) <| pc h7 <| pc h8 <| pc h9 <| pc h10 <| pc h11 <| pn) (by kernel_rfl) (by kernel_rfl) ?_ (by kernel_rfl)
             exact ⟨PinL.pf (encL_pf cXSample_pf _), trivial⟩
           ·rw [h10, cF] at hh
            rw [← sI hh]
            refine FC.x pfT 100 60 (z61b0 b l_0 l_1 l_2 l_3 l_4 q10 x1 ++ (z61b1 b ++ (z61b2 b l_0 l_1 l_2 l_3 l_4 q10 x2 x3 x4 ++ ((hF :: (hR 6 (hT :: hE :: hE :: hT :: (hR 4 ((hB hQ false) :: (hR 6 [])))))))))) (aa (z61q0 fu b l_0 l_1 l_2 l_3 l_4 q10 x1 h1) <| aa (z61q1 fu b l_0 l_1 l_2 l_3 l_4 q10 x2 h2 h3) <| aa (z61q2 fu b l_0 l_1 l_2 l_3 l_4 q10 x2 x3 x4 h4 h5 h6) <| pc h7 <| pc h8 <| pc h9 <| pc h10 <| pn) (by kernel_rfl) (by kernel_rfl) ?_ (by kernel_rfl)
            exact ⟨PinL.pf (encL_pf cXSample_pf _), trivial⟩
          ·rw [h9, cF] at hh
           rw [← sI hh]
           refine FC.x pfT 100 60 (z61b0 b l_0 l_1 l_2 l_3 l_4 q10 x1 ++ (z61b1 b ++ (z61b2 b l_0 l_1 l_2 l_3 l_4 q10 x2 x3 x4 ++ ((hF :: (hR 6 (hT :: hE :: hE :: hF :: (hR 8 [])))))))) (aa (z61q0 fu b l_0 l_1 l_2 l_3 l_4 q10 x1 h1) <| aa (z61q1 fu b l_0 l_1 l_2 l_3 l_4 q10 x2 h2 h3) <| aa (z61q2 fu b l_0 l_1 l_2 l_3 l_4 q10 x2 x3 x4 h4 h5 h6) <| pc h7 <| pc h8 <| pc h9 <| pn) (by kernel_rfl) (by kernel_rfl) ?_ (by kernel_rfl)
           exact ⟨PinL.pf (encL_pf cXSample_pf _), trivial⟩
         ·rw [h8, cF] at hh
          rw [← sI hh]
          refine FC.x pfT 100 60 (z61b0 b l_0 l_1 l_2 l_3 l_4 q10 x1 ++ (z61b1 b ++ (z61b2 b l_0 l_1 l_2 l_3 l_4 q10 x2 x3 x4 ++ ((hF :: (hR 6 (hF :: (hR 9 [])))))))) (aa (z61q0 fu b l_0 l_1 l_2 l_3 l_4 q10 x1 h1) <| aa (z61q1 fu b l_0 l_1 l_2 l_3 l_4 q10 x2 h2 h3) <| aa (z61q2 fu b l_0 l_1 l_2 l_3 l_4 q10 x2 x3 x4 h4 h5 h6) <| pc h7 <| pc h8 <| pn) (by kernel_rfl) (by kernel_rfl) ?_ (by kernel_rfl)
          exact ⟨PinL.pf (encL_pf cXSample_pf _), trivial⟩
     ·rw [h4, cF] at hh
      rcases bb (x1.2 == 2) with h5 | h5
      ·rw [h5, cT] at hh
       rcases bb ((((x1.1.Low.Age == 0) && ((x1.1.Low.Shoots == 0) && ((x1.1.Low.Height == 0) && ((x1.1.Low.Girth == 0) && true)))) && (((x1.1.High.Age == 0) && ((x1.1.High.Shoots == 0) && ((x1.1.High.Height == 0) && ((x1.1.High.Girth == 0) && true)))) && true))) with h6 | h6
       ·rw [h6, cT] at hh
        cases h7 : law02_known fu with
        | none => rw [h7, oN] at hh; cases hh
        | some x5 =>
         rw [h7, oS] at hh
         rw [← sI hh]
         refine FC.x pfT 100 60 (z61b0 b l_0 l_1 l_2 l_3 l_4 q10 x1 ++ (z61b1 b ++ ([(z61i16 l_0 l_1 l_2 l_3 l_4 q10 x2), hE, hE, hE, hT, hE, hE, hE, (hB hQ true), hE, hE, (hC (.bool (x5))), hE, hE]))) (aa (z61q0 fu b l_0 l_1 l_2 l_3 l_4 q10 x1 h1) <| aa (z61q1 fu b l_0 l_1 l_2 l_3 l_4 q10 x2 h2 h3) <| pc h4 <| pc h5 <| pc h6 <| pc (law02_known_fc fu  x5 h7) <| pn) (by kernel_rfl) (by kernel_rfl) ?_ (by kernel_rfl)
         exact ⟨PinL.pf (encL_pf cXSample_pf _), trivial⟩
       ·rw [h6, cF] at hh
        rw [← sI hh]
        refine FC.x pfT 100 60 (z61b0 b l_0 l_1 l_2 l_3 l_4 q10 x1 ++ (z61b1 b ++ (((z61i16 l_0 l_1 l_2 l_3 l_4 q10 x2) :: hE :: hE :: hE :: hT :: hE :: hE :: hE :: (hB hQ false) :: (hR 4 []))))) (aa (z61q0 fu b l_0 l_1 l_2 l_3 l_4 q10 x1 h1) <| aa (z61q1 fu b l_0 l_1 l_2 l_3 l_4 q10 x2 h2 h3) <| pc h4 <| pc h5 <| pc h6 <| pn) (by kernel_rfl) (by kernel_rfl) ?_ (by kernel_rfl)
        exact ⟨PinL.pf (encL_pf cXSample_pf _), trivial⟩
      ·rw [h5, cF] at hh
       rw [← sI hh]
       refine FC.x pfT 100 60 (z61b0 b l_0 l_1 l_2 l_3 l_4 q10 x1 ++ (z61b1 b ++ (((z61i16 l_0 l_1 l_2 l_3 l_4 q10 x2) :: hE :: hE :: hE :: hF :: (hR 5 []))))) (aa (z61q0 fu b l_0 l_1 l_2 l_3 l_4 q10 x1 h1) <| aa (z61q1 fu b l_0 l_1 l_2 l_3 l_4 q10 x2 h2 h3) <| pc h4 <| pc h5 <| pn) (by kernel_rfl) (by kernel_rfl) ?_ (by kernel_rfl)
       exact ⟨PinL.pf (encL_pf cXSample_pf _), trivial⟩
   ·rw [h2, cF] at hh
    rcases bb (x1.2 == 2) with h3 | h3
    ·rw [h3, cT] at hh
     rcases bb ((((x1.1.Low.Age == 0) && ((x1.1.Low.Shoots == 0) && ((x1.1.Low.Height == 0) && ((x1.1.Low.Girth == 0) && true)))) && (((x1.1.High.Age == 0) && ((x1.1.High.Shoots == 0) && ((x1.1.High.Height == 0) && ((x1.1.High.Girth == 0) && true)))) && true))) with h4 | h4
     ·rw [h4, cT] at hh
      cases h5 : law02_known fu with
      | none => rw [h5, oN] at hh; cases hh
      | some x5 =>
       rw [h5, oS] at hh
       rw [← sI hh]
       refine FC.x pfT 100 60 (z61b0 b l_0 l_1 l_2 l_3 l_4 q10 x1 ++ (((hB (hC (.bool (ref02_Box b))) false) :: (hR 4 [hT, hE, hE, hE, (hB hQ true), hE, hE, (hC (.bool (x5))), hE, hE])))) (aa (z61q0 fu b l_0 l_1 l_2 l_3 l_4 q10 x1 h1) <| pc h2 <| pc h3 <| pc h4 <| pc (law02_known_fc fu  x5 h5) <| pn) (by kernel_rfl) (by kernel_rfl) ?_ (by kernel_rfl)
       exact ⟨PinL.pf (encL_pf cXSample_pf _), trivial⟩
     ·rw [h4, cF] at hh
      rw [← sI hh]
      refine FC.x pfT 100 60 (z61b0 b l_0 l_1 l_2 l_3 l_4 q10 x1 ++ (((hB (hC (.bool (ref02_Box b))) false) :: (hR 4 (hT :: hE :: hE :: hE :: (hB hQ false) :: (hR 4 [])))))) (aa (z61q0 fu b l_0 l_1 l_2 l_3 l_4 q10 x1 h1) <| pc h2 <| pc h3 <| pc h4 <| pn) (by kernel_rfl) (by kernel_rfl) ?_ (by kernel_rfl)
      exact ⟨PinL.pf (encL_pf cXSample_pf _), trivial⟩
    ·rw [h3, cF] at hh
     rw [← sI hh]
     refine FC.x pfT 100 60 (z61b0 b l_0 l_1 l_2 l_3 l_4 q10 x1 ++ (((hB (hC (.bool (ref02_Box b))) false) :: (hR 4 (hF :: (hR 5 [])))))) (aa (z61q0 fu b l_0 l_1 l_2 l_3 l_4 q10 x1 h1) <| pc h2 <| pc h3 <| pn) (by kernel_rfl) (by kernel_rfl) ?_ (by kernel_rfl)
     exact ⟨PinL.pf (encL_pf cXSample_pf _), trivial⟩

/- greenhew/greenhewlaw02.GrowthNarrows -/
noncomputable abbrev z62i0 (b : XBox) (l_0 l_1 l_2 l_3 l_4 l_5 : XSample) (q10 : Nat) (x1 : XBox × Int) : Hint := (hM (.tuple #[.agg #[I (x1.1.Low.Age), I (x1.1.Low.Shoots), I (x1.1.Low.Height), I (x1.1.Low.Girth), I (x1.1.High.Age), I (x1.1.High.Shoots), I (x1.1.High.Height), I (x1.1.High.Girth)], I (x1.2)]) (.tuple #[.agg #[I (x1.1.Low.Age), I (x1.1.Low.Shoots), I (x1.1.Low.Height), I (x1.1.Low.Girth), I (x1.1.High.Age), I (x1.1.High.Shoots), I (x1.1.High.Height), I (x1.1.High.Girth)], I (x1.2)]) (A_growth_Narrow b ([l_0, l_1, l_2, l_3, l_4, l_5]) q10) (K_growth_Narrow ([l_0, l_1, l_2, l_3, l_4, l_5])) [(10, 10, 0)])
noncomputable abbrev z62i1 (l_0 l_1 l_2 l_3 l_4 l_5 : XSample) (q10 : Nat) (x2 : Bool) : Hint := (hB (hM (.bool (x2)) (.bool (x2)) (A_ref02_Samples ([l_0, l_1, l_2, l_3, l_4, l_5]) q10) (K_ref02_Samples ([l_0, l_1, l_2, l_3, l_4, l_5])) [(10, 10, 0)]) true)
noncomputable abbrev z62i2 (b : XBox) (l_0 l_1 l_2 l_3 l_4 l_5 : XSample) (x3 : XBox × Int) : Hint := (hM (.tuple #[.agg #[I (x3.1.Low.Age), I (x3.1.Low.Shoots), I (x3.1.Low.Height), I (x3.1.Low.Girth), I (x3.1.High.Age), I (x3.1.High.Shoots), I (x3.1.High.Height), I (x3.1.High.Girth)], I (x3.2)]) (.tuple #[.agg #[I (x3.1.Low.Age), I (x3.1.Low.Shoots), I (x3.1.Low.Height), I (x3.1.Low.Girth), I (x3.1.High.Age), I (x3.1.High.Shoots), I (x3.1.High.Height), I (x3.1.High.Girth)], I (x3.2)]) (A_growth_Narrow b ([l_5, l_4, l_3, l_2, l_1, l_0, l_0, l_1, l_2, l_3, l_4, l_5]) 12) (K_growth_Narrow ([l_5, l_4, l_3, l_2, l_1, l_0, l_0, l_1, l_2, l_3, l_4, l_5])) [(10, 114, 0)])
noncomputable abbrev z62i3 (b : XBox) (l_0 l_1 l_2 l_3 l_4 l_5 : XSample) (q10 : Nat) (x4 : XBox × Bool) : Hint := (hM (.tuple #[.agg #[I (x4.1.Low.Age), I (x4.1.Low.Shoots), I (x4.1.Low.Height), I (x4.1.Low.Girth), I (x4.1.High.Age), I (x4.1.High.Shoots), I (x4.1.High.Height), I (x4.1.High.Girth)], .bool (x4.2)]) (.tuple #[.agg #[I (x4.1.Low.Age), I (x4.1.Low.Shoots), I (x4.1.Low.Height), I (x4.1.Low.Girth), I (x4.1.High.Age), I (x4.1.High.Shoots), I (x4.1.High.Height), I (x4.1.High.Girth)], .bool (x4.2)]) (A_ref02_Narrow b ([l_0, l_1, l_2, l_3, l_4, l_5]) q10) (K_ref02_Narrow ([l_0, l_1, l_2, l_3, l_4, l_5])) [(10, 10, 0)])
theorem z62p4 (b : XBox) (l_0 l_1 l_2 l_3 l_4 l_5 : XSample) (q10 : Nat) : VRs (Ren.emb [(10, 10, 0)]) (A_growth_Narrow b ([l_0, l_1, l_2, l_3, l_4, l_5]) q10) [.agg #[I (b.Low.Age), I (b.Low.Shoots), I (b.Low.Height), I (b.Low.Girth), I (b.High.Age), I (b.High.Shoots), I (b.High.Height), I (b.High.Girth)], .slice (some ⟨10, 0, none⟩) (6) (q10)] := (.cons _ _ _ _ (VR.of_pf rfl) (.cons _ _ _ _ (.slc 10 0 _ _ _ ⟨10, 0, 0, 0⟩ rfl (.inl rfl)) .nil))
theorem z62p5 (l_0 l_1 l_2 l_3 l_4 l_5 : XSample) (q10 : Nat) : VRs (Ren.emb [(10, 10, 0)]) (A_ref02_Samples ([l_0, l_1, l_2, l_3, l_4, l_5]) q10) [.slice (some ⟨10, 0, none⟩) (6) (q10)] := (.cons _ _ _ _ (.slc 10 0 _ _ _ ⟨10, 0, 0, 0⟩ rfl (.inl rfl)) .nil)
theorem z62p6 (b : XBox) (l_0 l_1 l_2 l_3 l_4 l_5 : XSample) : VRs (Ren.emb [(10, 114, 0)]) (A_growth_Narrow b ([l_5, l_4, l_3, l_2, l_1, l_0, l_0, l_1, l_2, l_3, l_4, l_5]) 12) [.agg #[I (b.Low.Age), I (b.Low.Shoots), I (b.Low.Height), I (b.Low.Girth), I (b.High.Age), I (b.High.Shoots), I (b.High.Height), I (b.High.Girth)], .slice (some ⟨114, 0, none⟩) (12) (12)] := (.cons _ _ _ _ (VR.of_pf rfl) (.cons _ _ _ _ (.slc 10 0 _ _ _ ⟨114, 0, 0, 0⟩ rfl (.inl rfl)) .nil))
theorem z62p7 (b : XBox) (l_0 l_1 l_2 l_3 l_4 l_5 : XSample) (q10 : Nat) : VRs (Ren.emb [(10, 10, 0)]) (A_ref02_Narrow b ([l_0, l_1, l_2, l_3, l_4, l_5]) q10) [.agg #[I (b.Low.Age), I (b.Low.Shoots), I (b.Low.Height), I (b.Low.Girth), I (b.High.Age), I (b.High.Shoots), I (b.High.Height), I (b.High.Girth)], .slice (some ⟨10, 0, none⟩) (6) (q10)] := (.cons _ _ _ _ (VR.of_pf rfl) (.cons _ _ _ _ (.slc 10 0 _ _ _ ⟨10, 0, 0, 0⟩ rfl (.inl rfl)) .nil))
abbrev z62r8 (l_0 l_1 l_2 l_3 l_4 l_5 : XSample) : Prop := MemAt (Ren.emb [(10, 10, 0)]) (encL cXSample ([l_0, l_1, l_2, l_3, l_4, l_5])) 0 ([I (l_0.Kind), I (l_0.Span.Low), I (l_0.Span.High), I (l_1.Kind), I (l_1.Span.Low), I (l_1.Span.High), I (l_2.Kind), I (l_2.Span.Low), I (l_2.Span.High), I (l_3.Kind), I (l_3.Span.Low), I (l_3.Span.High), I (l_4.Kind), I (l_4.Span.Low), I (l_4.Span.High), I (l_5.Kind), I (l_5.Span.Low), I (l_5.Span.High)]) ∧ True
abbrev z62r9 (x1 : XBox × Int) : Prop := VR (Ren.emb [(10, 10, 0)]) (.tuple #[.agg #[I (x1.1.Low.Age), I (x1.1.Low.Shoots), I (x1.1.Low.Height), I (x1.1.Low.Girth), I (x1.1.High.Age), I (x1.1.High.Shoots), I (x1.1.High.Height), I (x1.1.High.Girth)], I (x1.2)]) (.tuple #[.agg #[I (x1.1.Low.Age), I (x1.1.Low.Shoots), I (x1.1.Low.Height), I (x1.1.Low.Girth), I (x1.1.High.Age), I (x1.1.High.Shoots), I (x1.1.High.Height), I (x1.1.High.Girth)], I (x1.2)])
abbrev z62r10 (l_0 l_1 l_2 l_3 l_4 l_5 : XSample) : Prop := MemAt (Ren.emb [(10, 114, 0)]) (encL cXSample ([l_5, l_4, l_3, l_2, l_1, l_0, l_0, l_1, l_2, l_3, l_4, l_5])) 0 ([I (l_5.Kind), I (l_5.Span.Low), I (l_5.Span.High), I (l_4.Kind), I (l_4.Span.Low), I (l_4.Span.High), I (l_3.Kind), I (l_3.Span.Low), I (l_3.Span.High), I (l_2.Kind), I (l_2.Span.Low), I (l_2.Span.High), I (l_1.Kind), I (l_1.Span.Low), I (l_1.Span.High), I (l_0.Kind), I (l_0.Span.Low), I (l_0.Span.High), I (l_0.Kind), I (l_0.Span.Low), I (l_0.Span.High), I (l_1.Kind), I (l_1.Span.Low), I (l_1.Span.High), I (l_2.Kind), I (l_2.Span.Low), I (l_2.Span.High), I (l_3.Kind), I (l_3.Span.Low), I (l_3.Span.High), I (l_4.Kind), I (l_4.Span.Low), I (l_4.Span.High), I (l_5.Kind), I (l_5.Span.Low), I (l_5.Span.High)]) ∧ True
abbrev z62r11 (x3 : XBox × Int) : Prop := VR (Ren.emb [(10, 114, 0)]) (.tuple #[.agg #[I (x3.1.Low.Age), I (x3.1.Low.Shoots), I (x3.1.Low.Height), I (x3.1.Low.Girth), I (x3.1.High.Age), I (x3.1.High.Shoots), I (x3.1.High.Height), I (x3.1.High.Girth)], I (x3.2)]) (.tuple #[.agg #[I (x3.1.Low.Age), I (x3.1.Low.Shoots), I (x3.1.Low.Height), I (x3.1.Low.Girth), I (x3.1.High.Age), I (x3.1.High.Shoots), I (x3.1.High.Height), I (x3.1.High.Girth)], I (x3.2)])
abbrev z62r12 (b : XBox) : Prop := (.agg #[I (b.Low.Age), I (b.Low.Shoots), I (b.Low.Height), I (b.Low.Girth), I (b.High.Age), I (b.High.Shoots), I (b.High.Height), I (b.High.Girth)] : Value) = .agg #[I (b.Low.Age), I (b.Low.Shoots), I (b.Low.Height), I (b.Low.Girth), I (b.High.Age), I (b.High.Shoots), I (b.High.Height), I (b.High.Girth)]
abbrev z62r13 (x3 : XBox × Int) : Prop := (.tuple #[.agg #[I (x3.1.Low.Age), I (x3.1.Low.Shoots), I (x3.1.Low.Height), I (x3.1.Low.Girth), I (x3.1.High.Age), I (x3.1.High.Shoots), I (x3.1.High.Height), I (x3.1.High.Girth)], I (x3.2)] : Value) = .tuple #[.agg #[I (x3.1.Low.Age), I (x3.1.Low.Shoots), I (x3.1.Low.Height), I (x3.1.Low.Girth), I (x3.1.High.Age), I (x3.1.High.Shoots), I (x3.1.High.Height), I (x3.1.High.Girth)], I (x3.2)]
abbrev z62r14 (x3 : XBox × Int) : Prop := (.agg #[I (x3.1.Low.Age), I (x3.1.Low.Shoots), I (x3.1.Low.Height), I (x3.1.Low.Girth), I (x3.1.High.Age), I (x3.1.High.Shoots), I (x3.1.High.Height), I (x3.1.High.Girth)] : Value) = .agg #[I (x3.1.Low.Age), I (x3.1.Low.Shoots), I (x3.1.Low.Height), I (x3.1.Low.Girth), I (x3.1.High.Age), I (x3.1.High.Shoots), I (x3.1.High.Height), I (x3.1.High.Girth)]
abbrev z62r15 (x4 : XBox × Bool) : Prop := VR (Ren.emb [(10, 10, 0)]) (.tuple #[.agg #[I (x4.1.Low.Age), I (x4.1.Low.Shoots), I (x4.1.Low.Height), I (x4.1.Low.Girth), I (x4.1.High.Age), I (x4.1.High.Shoots), I (x4.1.High.Height), I (x4.1.High.Girth)], .bool (x4.2)]) (.tuple #[.agg #[I (x4.1.Low.Age), I (x4.1.Low.Shoots), I (x4.1.Low.Height), I (x4.1.Low.Girth), I (x4.1.High.Age), I (x4.1.High.Shoots), I (x4.1.High.Height), I (x4.1.High.Girth)], .bool (x4.2)])
noncomputable abbrev z62i16 (l_0 l_1 l_2 l_3 l_4 l_5 : XSample) (q10 : Nat) (x2 : Bool) : Hint := (hB (hM (.bool (x2)) (.bool (x2)) (A_ref02_Samples ([l_0, l_1, l_2, l_3, l_4, l_5]) q10) (K_ref02_Samples ([l_0, l_1, l_2, l_3, l_4, l_5])) [(10, 10, 0)]) false)
noncomputable def z62b0 (b : XBox) (l_0 l_1 l_2 l_3 l_4 l_5 : XSample) (q10 : Nat) (x1 : XBox × Int) : List Hint := (hR 14 ((z62i0 b l_0 l_1 l_2 l_3 l_4 l_5 q10 x1) :: (hR 10 [])))
def z62q0 (fu : Nat) (b : XBox) (l_0 l_1 l_2 l_3 l_4 l_5 : XSample) (q10 : Nat) (x1 : XBox × Int) (h1 : (growth_Narrow fu b ([l_0, l_1, l_2, l_3, l_4, l_5])) = some x1) := PA.mk <| pc (growth_Narrow_fc fu b ([l_0, l_1, l_2, l_3, l_4, l_5]) q10 x1 h1) <| pc (z62p4 b l_0 l_1 l_2 l_3 l_4 l_5 q10) <| pt (z62r8 l_0 l_1 l_2 l_3 l_4 l_5) (⟨MemAt.same _ (encL_pf cXSample_pf _), trivial⟩) <| pt (z62r9 x1) (selfB_self 9 _ rfl _) <| pc (ref02_Box_fc b) <| pn
noncomputable def z62b1 (b : XBox) : List Hint := [(hB (hC (.bool (ref02_Box b))) true), hE, hE, hE]
def z62q1 (fu : Nat) (b : XBox) (l_0 l_1 l_2 l_3 l_4 l_5 : XSample) (q10 : Nat) (x2 : Bool) (h2 : (ref02_Box b) = true) (h3 : (ref02_Samples fu ([l_0, l_1, l_2, l_3, l_4, l_5])) = some x2) := PA.mk <| pc h2 <| pc (ref02_Samples_fc fu ([l_0, l_1, l_2, l_3, l_4, l_5]) q10 x2 h3) <| pc (z62p5 l_0 l_1 l_2 l_3 l_4 l_5 q10) <| pt (z62r8 l_0 l_1 l_2 l_3 l_4 l_5) (⟨MemAt.same _ (encL_pf cXSample_pf _), trivial⟩) <| pt (VR (Ren.emb [(10, 10, 0)]) (.bool (x2)) (.bool (x2))) (selfB_self 9 _ rfl _) <| pn
noncomputable def z62b2 (b : XBox) (l_0 l_1 l_2 l_3 l_4 l_5 : XSample) (q10 : Nat) (x2 : Bool) (x3 : XBox × Int) (x4 : XBox × Bool) : List Hint := ((z62i1 l_0 l_1 l_2 l_3 l_4 l_5 q10 x2) :: (hR 87 ((hED 8 [3]) :: (hR 4 ((z62i2 b l_0 l_1 l_2 l_3 l_4 l_5 x3) :: (hR 8 [(z62i3 b l_0 l_1 l_2 l_3 l_4 l_5 q10 x4), hE, hE]))))))
def z62q2 (fu : Nat) (b : XBox) (l_0 l_1 l_2 l_3 l_4 l_5 : XSample) (q10 : Nat) (x2 : Bool) (x3 : XBox × Int) (x4 : XBox × Bool) (h4 : (x2) = true) (h5 : (growth_Narrow fu b ([l_5, l_4, l_3, l_2, l_1, l_0, l_0, l_1, l_2, l_3, l_4, l_5])) = some x3) (h6 : (ref02_Narrow fu b ([l_0, l_1, l_2, l_3, l_4, l_5])) = some x4) := PA.mk <| pc h4 <| pc (growth_Narrow_fc fu b ([l_5, l_4, l_3, l_2, l_1, l_0, l_0, l_1, l_2, l_3, l_4, l_5]) 12 x3 h5) <| pc (z62p6 b l_0 l_1 l_2 l_3 l_4 l_5) <| pt (z62r10 l_0 l_1 l_2 l_3 l_4 l_5) (⟨MemAt.same _ (encL_pf cXSample_pf _), trivial⟩) <| pt (z62r11 x3) (selfB_self 9 _ rfl _) <| pt (z62r12 b) rfl <| pt (z62r12 b) rfl <| pc (growth_Narrow_fc fu b ([l_5, l_4, l_3, l_2, l_1, l_0, l_0, l_1, l_2, l_3, l_4, l_5]) 12 x3 h5) <| pc (z62p6 b l_0 l_1 l_2 l_3 l_4 l_5) <| pt (z62r10 l_0 l_1 l_2 l_3 l_4 l_5) (⟨MemAt.same _ (encL_pf cXSample_pf _), trivial⟩) <| pt (z62r11 x3) (selfB_self 9 _ rfl _) <| pt (z62r13 x3) rfl <| pt (z62r13 x3) rfl <| pt (z62r14 x3) rfl <| pt ((I (x3.2) : Value) = I (x3.2)) rfl <| pt ((I (x3.2) : Value) = I (x3.2)) rfl <| pc (ref02_Narrow_fc fu b ([l_0, l_1, l_2, l_3, l_4, l_5]) q10 x4 h6) <| pc (z62p7 b l_0 l_1 l_2 l_3 l_4 l_5 q10) <| pt (z62r8 l_0 l_1 l_2 l_3 l_4 l_5) (⟨MemAt.same _ (encL_pf cXSample_pf _), trivial⟩) <| pt (z62r15 x4) (selfB_self 9 _ rfl _) <| pn
abbrev A_law02_GrowthNarrows_n6 (b : XBox) (q10 : Nat) : List Value := [.agg #[I (b.Low.Age), I (b.Low.Shoots), I (b.Low.Height), I (b.Low.Girth), I (b.High.Age), I (b.High.Shoots), I (b.High.Height), I (b.High.Girth)], .slice (some ⟨10, 0, none⟩) (6) (q10)]
abbrev K_law02_GrowthNarrows_n6 (l_0 l_1 l_2 l_3 l_4 l_5 : XSample) : List (Nat × List Value) := [(10, encL cXSample [l_0, l_1, l_2, l_3, l_4, l_5])]
noncomputable def law02_GrowthNarrows_n6 (fu : Nat) (b : XBox) (l_0 l_1 l_2 l_3 l_4 l_5 : XSample) : Option Bool :=
  Option.bind (growth_Narrow fu b ([l_0, l_1, l_2, l_3, l_4, l_5])) fun x1 =>
  bif ref02_Box b then (Option.bind (ref02_Samples fu ([l_0, l_1, l_2, l_3, l_4, l_5])) fun x2 =>
    bif x2 then (Option.bind (growth_Narrow fu b ([l_5, l_4, l_3, l_2, l_1, l_0, l_0, l_1, l_2, l_3, l_4, l_5])) fun x3 =>
      Option.bind (ref02_Narrow fu b ([l_0, l_1, l_2, l_3, l_4, l_5])) fun x4 =>
      bif x4.2 then (bif x1.2 == 0 then (bif x3.2 == 0 then (bif (((x1.1.Low.Age == x4.1.Low.Age) && ((x1.1.Low.Shoots == x4.1.Low.Shoots) && ((x1.1.Low.Height == x4.1.Low.Height) && ((x1.1.Low.Girth == x4.1.Low.Girth) && true)))) && (((x1.1.High.Age == x4.1.High.Age) && ((x1.1.High.Shoots == x4.1.High.Shoots) && ((x1.1.High.Height == x4.1.High.Height) && ((x1.1.High.Girth == x4.1.High.Girth) && true)))) && true)) then (bif (((x3.1.Low.Age == x4.1.Low.Age) && ((x3.1.Low.Shoots == x4.1.Low.Shoots) && ((x3.1.Low.Height == x4.1.Low.Height) && ((x3.1.Low.Girth == x4.1.Low.Girth) && true)))) && (((x3.1.High.Age == x4.1.High.Age) && ((x3.1.High.Shoots == x4.1.High.Shoots) && ((x3.1.High.Height == x4.1.High.Height) && ((x3.1.High.Girth == x4.1.High.Girth) && true)))) && true)) then (Option.bind (law02_known fu) fun x5 =>
                some x5)
              else some false)
            else some false)
          else some false)
        else some false)
      else (bif x1.2 == 5 then (bif x3.2 == 5 then (bif (((x1.1.Low.Age == 0) && ((x1.1.Low.Shoots == 0) && ((x1.1.Low.Height == 0) && ((x1.1.Low.Girth == 0) && true)))) && (((x1.1.High.Age == 0) && ((x1.1.High.Shoots == 0) && ((x1.1.High.Height == 0) && ((x1.1.High.Girth == 0) && true)))) && true)) then (bif (((x3.1.Low.Age == 0) && ((x3.1.Low.Shoots == 0) && ((x3.1.Low.Height == 0) && ((x3.1.Low.Girth == 0) && true)))) && (((x3.1.High.Age == 0) && ((x3.1.High.Shoots == 0) && ((x3.1.High.Height == 0) && ((x3.1.High.Girth == 0) && true)))) && true)) then (Option.bind (law02_known fu) fun x5 =>
                some x5)
              else some false)
            else some false)
          else some false)
        else some false))
    else (bif x1.2 == 2 then (bif (((x1.1.Low.Age == 0) && ((x1.1.Low.Shoots == 0) && ((x1.1.Low.Height == 0) && ((x1.1.Low.Girth == 0) && true)))) && (((x1.1.High.Age == 0) && ((x1.1.High.Shoots == 0) && ((x1.1.High.Height == 0) && ((x1.1.High.Girth == 0) && true)))) && true)) then (Option.bind (law02_known fu) fun x5 =>
          some x5)
        else some false)
      else some false))
  else (bif x1.2 == 2 then (bif (((x1.1.Low.Age == 0) && ((x1.1.Low.Shoots == 0) && ((x1.1.Low.Height == 0) && ((x1.1.Low.Girth == 0) && true)))) && (((x1.1.High.Age == 0) && ((x1.1.High.Shoots == 0) && ((x1.1.High.Height == 0) && ((x1.1.High.Girth == 0) && true)))) && true)) then (Option.bind (law02_known fu) fun x5 =>
        some x5)
      else some false)
    else some false)
theorem law02_GrowthNarrows_n6_fc (fu : Nat) (b : XBox) (l_0 l_1 l_2 l_3 l_4 l_5 : XSample) (q10 : Nat) (r : Bool) (hh : law02_GrowthNarrows_n6 fu b l_0 l_1 l_2 l_3 l_4 l_5 = some r) : FC P GG 10 (A_law02_GrowthNarrows_n6 b q10) (K_law02_GrowthNarrows_n6 l_0 l_1 l_2 l_3 l_4 l_5) (.bool (r)) := by
  unfold law02_GrowthNarrows_n6 at hh
  cases h1 : growth_Narrow fu b ([l_0, l_1, l_2, l_3, l_4, l_5]) with
  | none => rw [h1, oN] at hh; cases hh
  | some x1 =>
   rw [h1, oS] at hh
   rcases bb (ref02_Box b) with h2 | h2
   ·rw [h2, cT] at hh
    cases h3 : ref02_Samples fu ([l_0, l_1, l_2, l_3, l_4, l_5]) with
    | none => rw [h3, oN] at hh; cases hh
    | some x2 =>
     rw [h3, oS] at hh
     rcases bb (x2) with h4 | h4
     ·rw [h4, cT] at hh
      cases h5 : growth_Narrow fu b ([l_5, l_4, l_3, l_2, l_1, l_0, l_0, l_1, l_2, l_3, l_4, l_5]) with
      | none => rw [h5, oN] at hh; cases hh
      | some x3 =>
       rw [h5, oS] at hh
       cases h6 : ref02_Narrow fu b ([l_0, l_1, l_2, l_3, l_4, l_5]) with
       | none => rw [h6, oN] at hh; cases hh
       | some x4 =>
        rw [h6, oS] at hh
        rcases bb (x4.2) with h7 | h7
        ·rw [h7, cT] at hh
         rcases bb (x1.2 == 0) with h8 | h8
         ·rw [h8, cT] at hh
          rcases bb (x3.2 == 0) with h9 | h9
          ·rw [h9, cT] at hh
           rcases bb ((((x1.1.Low.Age == x4.1.Low.Age) && ((x1.1.Low.Shoots == x4.1.Low.Shoots) && ((x1.1.Low.Height == x4.1.Low.Height) && ((x1.1.Low.Girth == x4.1.Low.Girth) && true)))) && (((x1.1.High.Age == x4.1.High.Age) && ((x1.1.High.Shoots == x4.1.High.Shoots) && ((x1.1.High.Height == x4.1.High.Height) && ((x1.1.High.Girth == x4.1.High.Girth) && true)))) && true))) with h10 | h10
           ·rw [h10, cT] at hh
            rcases bb ((((x3.1.Low.Age == x4.1.Low.Age) && ((x3.1.Low.Shoots == x4.1.Low.Shoots) && ((x3.1.Low.Height == x4.1.Low.Height) && ((x3.1.Low.Girth == x4.1.Low.Girth) && true)))) && (((x3.1.High.Age == x4.1.High.Age) && ((x3.1.High.Shoots == x4.1.High.Shoots) && ((x3.1.High.Height == x4.1.High.Height) && ((x3.1.High.Girth == x4.1.High.Girth) && true)))) && true))) with h11 | h11
            ·rw [h11, cT] at hh
             cases h12 : law02_known fu with
             | none => rw [h12, oN] at hh; cases hh
             | some x5 =>
              rw [h12, oS] at hh
              rw [← sI hh]
              refine FC.x pfT 100 60 (z62b0 b l_0 l_1 l_2 l_3 l_4 l_5 q10 x1 ++ (z62b1 b ++ (z62b2 b l_0 l_1 l_2 l_3 l_4 l_5 q10 x2 x3 x4 ++ ((hT :: (hR 6 (hT :: hE :: hE :: hT :: (hR 4 ((hB hQ true) :: (hR 4 [(hB hQ true), hE, hE, (hC (.bool (x5))), hE, hE])))))))))) (aa (z62q0 fu b l_0 l_1 l_2 l_3 l_4 l_5 q10 x1 h1) <| aa (z62q1 fu b l_0 l_1 l_2 l_3 l_4 l_5 q10 x2 h2 h3) <| aa (z62q2 fu b l_0 l_1 l_2 l_3 l_4 l_5 q10 x2 x3 x4 h4 h5 h6) <| pc h7 <| pc h8 <| pc h9 <| pc h10 <| pc h11 <| pc (law02_known_fc fu  x5 h12) <| pn) (by kernel_rfl) (by kernel_rfl) ?_ (by kernel_rfl)
              exact ⟨PinL.pf (encL_pf cXSample_pf _), trivial⟩
            ·rw [h11, cF] at hh
             rw [← sI hh]
             refine FC.x pfT 100 60 (z62b0 b l_0 l_1 l_2 l_3 l_4 l_5 q10 x1 ++ (z62b1 b ++ (z62b2 b l_0 l_1 l_2 l_3 l_4 l_5 q10 x2 x3 x4 ++ ((hT :: (hR 6 (hT :: hE :: hE :: hT :: (hR 4 ((hB hQ true) :: (hR 4 ((hB hQ false) :: (hR 4 [])))))))))))) (aa (z62q0 fu b l_0 l_1 l_2 l_3 l_4 l_5 q10 x1 h1) <| aa (z62q1 fu b l_0 l_1 l_2 l_3 l_4 l_5 q10 x2 h2 h3) <| aa (z62q2 fu b l_0 l_1 l_2 l_3 l_4 l_5 q10 x2 x3 x4 h4 h5 h6) <| pc h7 <| pc h8 <| pc h9 <| pc h10 <| pc h11 <| pn) (by kernel_rfl) (by kernel_rfl) ?_ (by kernel_rfl)
             exact ⟨PinL.pf (encL_pf cXSample_pf _), trivial⟩
           ·rw [h10, cF] at hh
            rw [← sI hh]
            refine FC.x pfT 100 60 (z62b0 b l_0 l_1 l_2 l_3 l_4 l_5 q10 x1 ++ (z62b1 b ++ (z62b2 b l_0 l_1 l_2 l_3 l_4 l_5 q10 x2 x3 x4 ++ ((hT :: (hR 6 (hT :: hE :: hE :: hT :: (hR 4 ((hB hQ false) :: (hR 6 [])))))))))) (aa (z62q0 fu b l_0 l_1 l_2 l_3 l_4 l_5 q10 x1 h1) <| aa (z62q1 fu b l_0 l_1 l_2 l_3 l_4 l_5 q10 x2 h2 h3) <| aa (z62q2 fu b l_0 l_1 l_2 l_3 l_4 l_5 q10 x2 x3 x4 h4 h5 h6) <| pc h7 <| pc h8 <| pc h9 <| pc h10 <| pn) (by kernel_rfl) (by kernel_rfl) ?_ (by kernel_rfl)
            exact ⟨PinL.pf (encL_pf cXSample_pf _), trivial⟩
          ·rw [h9, cF] at hh
           rw [← sI hh]
           refine FC.x pfT 100 60 (z62b0 b l_0 l_1 l_2 l_3 l_4 l_5 q10 x1 ++ (z62b1 b ++ (z62b2 b l_0 l_1 l_2 l_3 l_4 l_5 q10 x2 x3 x4 ++ ((hT :: (hR 6 (hT :: hE :: hE :: hF :: (hR 8 [])))))))) (aa (z62q0 fu b l_0 l_1 l_2 l_3 l_4 l_5 q10 x1 h1) <| aa (z62q1 fu b l_0 l_1 l_2 l_3 l_4 l_5 q10 x2 h2 h3) <| aa (z62q2 fu b l_0 l_1 l_2 l_3 l_4 l_5 q10 x2 x3 x4 h4 h5 h6) <| pc h7 <| pc h8 <| pc h9 <| pn) (by kernel_rfl) (by kernel_rfl) ?_ (by kernel_rfl)
           exact ⟨PinL.pf (encL_pf cXSample_pf _), trivial⟩
         ·rw [h8, cF] at hh
          rw [← sI hh]
          refine FC.x pfT 100 60 (z62b0 b l_0 l_1 l_2 l_3 l_4 l_5 q10 x1 ++ (z62b1 b ++ (z62b2 b l_0 l_1 l_2 l_3 l_4 l_5 q10 x2 x3 x4 ++ ((hT :: (hR 6 (hF :: (hR 9 [])))))))) (aa (z62q0 fu b l_0 l_1 l_2 l_3 l_4 l_5 q10 x1 h1) <| aa (z62q1 fu b l_0 l_1 l_2 l_3 l_4 l_5 q10 x2 h2 h3) <| aa (z62q2 fu b l_0 l_1 l_2 l_3 l_4 l_5 q10 x2 x3 x4 h4 h5 h6) <| pc h7 <| pc h8 <| pn) (by kernel_rfl) (by kernel_rfl) ?_ (by kernel_rfl)
          exact ⟨PinL.pf (encL_pf cXSample_pf _), trivial⟩
        ·rw [h7, cF] at hh
         rcases bb (x1.2 == 5) with h8 | h8
         ·rw [h8, cT] at hh
          rcases bb (x3.2 == 5) with h9 | h9
          ·rw [h9, cT] at hh
           rcases bb ((((x1.1.Low.Age == 0) && ((x1.1.Low.Shoots == 0) && ((x1.1.Low.Height == 0) && ((x1.1.Low.Girth == 0) && true)))) && (((x1.1.High.Age == 0) && ((x1.1.High.Shoots == 0) && ((x1.1.High.Height == 0) && ((x1.1.High.Girth == 0) && true)))) && true))) with h10 | h10
           ·rw [h10, cT] at hh
            rcases bb ((((x3.1.Low.Age == 0) && ((x3.1.Low.Shoots == 0) && ((x3.1.Low.Height == 0) && ((x3.1.Low.Girth == 0) && true)))) && (((x3.1.High.Age == 0) && ((x3.1.High.Shoots == 0) && ((x3.1.High.Height == 0) && ((x3.1.High.Girth == 0) && true)))) && true))) with h11 | h11
            ·rw [h11, cT] at hh
             cases h12 : law02_known fu with
             | none => rw [h12, oN] at hh; cases hh
             | some x5 =>
              rw [h12, oS] at hh
              rw [← sI hh]
              refine FC.x pfT 100 60 (z62b0 b l_0 l_1 l_2 l_3 l_4 l_5 q10 x1 ++ (z62b1 b ++ (z62b2 b l_0 l_1 l_2 l_3 l_4 l_5 q10 x2 x3 x4 ++ ((hF :: (hR 6 (hT :: hE :: hE :: hT :: (hR 4 ((hB hQ true) :: (hR 4 [(hB hQ true), hE, hE, (hC (.bool (x5))), hE, hE])))))))))) (aa (z62q0 fu b l_0 l_1 l_2 l_3 l_4 l_5 q10 x1 h1) <| aa (z62q1 fu b l_0 l_1 l_2 l_3 l_4 l_5 q10 x2 h2 h3) <| aa (z62q2 fu b l_0 l_1 l_2 l_3 l_4 l_5 q10 x2 x3 x4 h4 h5 h6) <| pc h7 <| pc h8 <| pc h9 <| pc h10 <| pc h11 <| pc (law02_known_fc fu  x5 h12) <| pn) (by kernel_rfl) (by kernel_rfl) ?_ (by kernel_rfl)
              exact ⟨PinL.pf (encL_pf cXSample_pf _), trivial⟩
            ·rw [h11, cF] at hh
             rw [← sI hh]
             refine FC.x pfT 100 60 (z62b0 b l_0 l_1 l_2 l_3 l_4 l_5 q10 x1 ++ (z62b1 b ++ (z62b2 b l_0 l_1 l_2 l_3 l_4 l_5 q10 x2 x3 x4 ++ ((hF :: (hR 6 (hT :: hE :: hE :: hT :: (hR 4 ((hB hQ true) :: (hR 4 ((hB hQ false) :: (hR 4 [])))))))))))) (aa (z62q0 fu b l_0 l_1 l_2 l_3 l_4 l_5 q10 x1 h1) <| aa (z62q1 fu b l_0 l_1 l_2 l_3 l_4 l_5 q10 x2 h2 h3) <| aa (z62q2 fu b l_0 l_1 l_2 l_3 l_4 l_5 q10 x2 x3 x4 h4 h5 h6) <| pc h7 <| pc h8 <| pc h9 <| pc h10 <| pc h11 <| pn) (by kernel_rfl) (by kernel_rfl) ?_ (by kernel_rfl)
             exact ⟨PinL.pf (encL_pf cXSample_pf _), trivial⟩
           ·rw [h10, cF] at hh
            rw [← sI hh]
            refine FC.x pfT 100 60 (z62b0 b l_0 l_1 l_2 l_3 l_4 l_5 q10 x1 ++ (z62b1 b ++ (z62b2 b l_0 l_1 l_2 l_3 l_4 l_5 q10 x2 x3 x4 ++ ((hF :: (hR 6 (hT :: hE :: hE :: hT :: (hR 4 ((hB hQ false) :: (hR 6 [])))))))))) (aa (z62q0 fu b l_0 l_1 l_2 l_3 l_4 l_5 q10 x1 h1) <| aa (z62q1 fu b l_0 l_1 l_2 l_3 l_4 l_5 q10 x2 h2 h3) <| aa (z62q2 fu b l_0 l_1 l_2 l_3 l_4 l_5 q10 x2 x3 x4 h4 h5 h6) <| pc h7 <| pc h8 <| pc h9 <| pc h10 <| pn) (by kernel_rfl) (by kernel_rfl) ?_ (by kernel_rfl)
            exact ⟨PinL.pf (encL_pf cXSample_pf _), trivial⟩
          ·rw [h9, cF] at hh
           rw [← sI hh]
           refine FC.x pfT 100 60 (z62b0 b l_0 l_1 l_2 l_3 l_4 l_5 q10 x1 ++ (z62b1 b ++ (z62b2 b l_0 l_1 l_2 l_3 l_4 l_5 q10 x2 x3 x4 ++ ((hF :: (hR 6 (hT :: hE :: hE :: hF :: (hR 8 [])))))))) (aa (z62q0 fu b l_0 l_1 l_2 l_3 l_4 l_5 q10 x1 h1) <| aa (z62q1 fu b l_0 l_1 l_2 l_3 l_4 l_5 q10 x2 h2 h3) <| aa (z62q2 fu b l_0 l_1 l_2 l_3 l_4 l_5 q10 x2 x3 x4 h4 h5 h6) <| pc h7 <| pc h8 <| pc h9 <| pn) (by kernel_rfl) (by kernel_rfl) ?_ (by kernel_rfl)
           exact ⟨PinL.pf (encL_pf cXSample_pf _), trivial⟩
         ·rw [h8, cF] at hh
          rw [← sI hh]
          refine FC.x pfT 100 60 (z62b0 b l_0 l_1 l_2 l_3 l_4 l_5 q10 x1 ++ (z62b1 b ++ (z62b2 b l_0 l_1 l_2 l_3 l_4 l_5 q10 x2 x3 x4 ++ ((hF :: (hR 6 (hF :: (hR 9 [])))))))) (aa (z62q0 fu b l_0 l_1 l_2 l_3 l_4 l_5 q10 x1 h1) <| aa (z62q1 fu b l_0 l_1 l_2 l_3 l_4 l_5 q10 x2 h2 h3) <| aa (z62q2 fu b l_0 l_1 l_2 l_3 l_4 l_5 q10 x2 x3 x4 h4 h5 h6) <| pc h7 <| pc h8 <| pn) (by kernel_rfl) (by kernel_rfl) ?_ (by kernel_rfl)
          exact ⟨PinL.pf (encL_pf cXSample_pf _), trivial⟩
     ·rw [h4, cF] at hh
      rcases bb (x1.2 == 2) with h5 | h5
      ·rw [h5, cT] at hh
       rcases bb ((((x1.1.Low.Age == 0) && ((x1.1.Low.Shoots == 0) && ((x1.1.Low.Height == 0) && ((x1.1.Low.Girth == 0) && true)))) && (((x1.1.High.Age == 0) && ((x1.1.High.Shoots == 0) && ((x1.1.High.Height == 0) && ((x1.1.High.Girth == 0) && true)))) && true))) with h6 | h6
       ·rw [h6, cT] at hh
        cases h7 : law02_known fu with
        | none => rw [h7, oN] at hh; cases hh
        | some x5 =>
         rw [h7, oS] at hh
         rw [← sI hh]
         refine FC.x pfT 100 60 (z62b0 b l_0 l_1 l_2 l_3 l_4 l_5 q10 x1 ++ (z62b1 b ++ ([(z62i16 l_0 l_1 l_2 l_3 l_4 l_5 q10 x2), hE, hE, hE, hT, hE, hE, hE, (hB hQ true), hE, hE, (hC (.bool (x5))), hE, hE]))) (aa (z62q0 fu b l_0 l_1 l_2 l_3 l_4 l_5 q10 x1 h1) <| aa (z62q1 fu b l_0 l_1 l_2 l_3 l_4 l_5 q10 x2 h2 h3) <| pc h4 <| pc h5 <| pc h6 <| pc (law02_known_fc fu  x5 h7) <| pn) (by kernel_rfl) (by kernel_rfl) ?_ (by kernel_rfl)
         exact ⟨PinL.pf (encL_pf cXSample_pf _), trivial⟩
       ·rw [h6, cF] at hh
        rw [← sI hh]
        refine FC.x pfT 100 60 (z62b0 b l_0 l_1 l_2 l_3 l_4 l_5 q10 x1 ++ (z62b1 b ++ (((z62i16 l_0 l_1 l_2 l_3 l_4 l_5 q10 x2) :: hE :: hE :: hE :: hT :: hE :: hE :: hE :: (hB hQ false) :: (hR 4 []))))) (aa (z62q0 fu b l_0 l_1 l_2 l_3 l_4 l_5 q10 x1 h1) <| aa (z62q1 fu b l_0 l_1 l_2 l_3 l_4 l_5 q10 x2 h2 h3) <| pc h4 <| pc h5 <| pc h6 <| pn) (by kernel_rfl) (by kernel_rfl) ?_ (by kernel_rfl)
        exact ⟨PinL.pf (encL_pf cXSample_pf _), trivial⟩
      ·rw [h5, cF] at hh
       rw [← sI hh]
       refine FC.x pfT 100 60 (z62b0 b l_0 l_1 l_2 l_3 l_4 l_5 q10 x1 ++ (z62b1 b ++ (((z62i16 l_0 l_1 l_2 l_3 l_4 l_5 q10 x2) :: hE :: hE :: hE :: hF :: (hR 5 []))))) (aa (z62q0 fu b l_0 l_1 l_2 l_3 l_4 l_5 q10 x1 h1) <| aa (z62q1 fu b l_0 l_1 l_2 l_3 l_4 l_5 q10 x2 h2 h3) <| pc h4 <| pc h5 <| pn) (by kernel_rfl) (by kernel_rfl) ?_ (by kernel_rfl)
       exact ⟨PinL.pf (encL_pf cXSample_pf _), trivial⟩
   ·rw [h2, cF] at hh
    rcases bb (x1.2 == 2) with h3 | h3
    ·rw [h3, cT] at hh
     rcases bb ((((x1.1.Low.Age == 0) && ((x1.1.Low.Shoots == 0) && ((x1.1.Low.Height == 0) && ((x1.1.Low.Girth == 0) && true)))) && (((x1.1.High.Age == 0) && ((x1.1.High.Shoots == 0) && ((x1.1.High.Height == 0) && ((x1.1.High.Girth == 0) && true)))) && true))) with h4 | h4
     ·rw [h4, cT] at hh
      cases h5 : law02_known fu with
      | none => rw [h5, oN] at hh; cases hh
      | some x5 =>
       rw [h5, oS] at hh
       rw [← sI hh]
       refine FC.x pfT 100 60 (z62b0 b l_0 l_1 l_2 l_3 l_4 l_5 q10 x1 ++ (((hB (hC (.bool (ref02_Box b))) false) :: (hR 4 [hT, hE, hE, hE, (hB hQ true), hE, hE, (hC (.bool (x5))), hE, hE])))) (aa (z62q0 fu b l_0 l_1 l_2 l_3 l_4 l_5 q10 x1 h1) <| pc h2 <| pc h3 <| pc h4 <| pc (law02_known_fc fu  x5 h5) <| pn) (by kernel_rfl) (by kernel_rfl) ?_ (by kernel_rfl)
       exact ⟨PinL.pf (encL_pf cXSample_pf _), trivial⟩
     ·rw [h4, cF] at hh
      rw [← sI hh]
      refine FC.x pfT 100 60 (z62b0 b l_0 l_1 l_2 l_3 l_4 l_5 q10 x1 ++ (((hB (hC (.bool (ref02_Box b))) false) :: (hR 4 (hT :: hE :: hE :: hE :: (hB hQ false) :: (hR 4 [])))))) (aa (z62q0 fu b l_0 l_1 l_2 l_3 l_4 l_5 q10 x1 h1) <| pc h2 <| pc h3 <| pc h4 <| pn) (by kernel_rfl) (by kernel_rfl) ?_ (by kernel_rfl)
      exact ⟨PinL.pf (encL_pf cXSample_pf _), trivial⟩
    ·rw [h3, cF] at hh
     rw [← sI hh]
     refine FC.x pfT 100 60 (z62b0 b l_0 l_1 l_2 l_3 l_4 l_5 q10 x1 ++ (((hB (hC (.bool (ref02_Box b))) false) :: (hR 4 (hF :: (hR 5 [])))))) (aa (z62q0 fu b l_0 l_1 l_2 l_3 l_4 l_5 q10 x1 h1) <| pc h2 <| pc h3 <| pn) (by kernel_rfl) (by kernel_rfl) ?_ (by kernel_rfl)
     exact ⟨PinL.pf (encL_pf cXSample_pf _), trivial⟩

end Go.Proofs.G2
