/- Contracts of the functions that the law runs, part 3: made by a program, checked by the kernel. No conditions. -/
import Derived.Test.YtfgdbanigkfjlaaDoorGb
namespace Go.Proofs.G2
open Go.Sim Go.Proofs
set_option maxRecDepth 20000
set_option maxHeartbeats 1000000
/- greenhew/greenhewref02.Box -/
abbrev ref02_Box_r0 (b : XBox) : Prop := FC P GG 23 (A_ref02_Stand b.Low) [] (.bool (ref02_Stand b.Low))
abbrev ref02_Box_r1 (b : XBox) : Prop := FC P GG 23 (A_ref02_Stand b.High) [] (.bool (ref02_Stand b.High))
abbrev A_ref02_Box (b : XBox) : List Value := [.agg #[I (b.Low.Age), I (b.Low.Shoots), I (b.Low.Height), I (b.Low.Girth), I (b.High.Age), I (b.High.Shoots), I (b.High.Height), I (b.High.Girth)]]
noncomputable def ref02_Box (b : XBox) : Bool :=
  bif ref02_Stand b.Low then (bif ref02_Stand b.High then (bif b.Low.Age == b.High.Age then (bif decide (b.Low.Shoots ≤ b.High.Shoots) then (bif decide (b.Low.Height ≤ b.High.Height) then decide (b.Low.Girth ≤ b.High.Girth)
          else false)
        else false)
      else false)
    else false)
  else false
theorem ref02_Box_fc (b : XBox) : FC P GG 28 [.agg #[I (b.Low.Age), I (b.Low.Shoots), I (b.Low.Height), I (b.Low.Girth), I (b.High.Age), I (b.High.Shoots), I (b.High.Height), I (b.High.Girth)]] [] (.bool (ref02_Box b)) := by
  refine FC.of_fsat 47 100 Tryd.func28 (by kernel_rfl) (by kernel_rfl) (by kernel_rfl) trivial ?_
  rcases Bool.eq_false_or_eq_true (ref02_Stand b.Low) with h1 | h1
  · skip
    rcases Bool.eq_false_or_eq_true (ref02_Stand b.High) with h2 | h2
    · skip
      rcases Bool.eq_false_or_eq_true (b.Low.Age == b.High.Age) with h3 | h3
      · skip
        rcases Bool.eq_false_or_eq_true (decide (b.Low.Shoots ≤ b.High.Shoots)) with h4 | h4
        · skip
          rcases Bool.eq_false_or_eq_true (decide (b.Low.Height ≤ b.High.Height)) with h5 | h5
          · skip
            have e : ref02_Box b = decide (b.Low.Girth ≤ b.High.Girth) := by unfold ref02_Box; rw [h1, cond_true, h2, cond_true, h3, cond_true, h4, cond_true, h5, cond_true]; first | done | rfl
            rw [e]
            exact FSat.done pfT (fuel := 10) (hs := (hR 4 ((hB (hC (.bool (ref02_Stand b.Low))) true) :: hE :: hE :: hE :: (hB (hC (.bool (ref02_Stand b.High))) true) :: (hR 8 (hT :: (hR 8 (hT :: (hR 8 (hT :: (hR 11 [])))))))))) (ss := []) (R := [(ref02_Box_r0 b), (ref02_Stand b.Low) = true, (ref02_Box_r1 b), (ref02_Stand b.High) = true, (b.Low.Age == b.High.Age) = true, (decide (b.Low.Shoots ≤ b.High.Shoots)) = true, (decide (b.Low.Height ≤ b.High.Height)) = true]) (by kernel_rfl) ⟨ref02_Stand_fc b.Low, h1, ref02_Stand_fc b.High, h2, h3, h4, h5, trivial⟩ (by kernel_rfl)
          · skip
            have e : ref02_Box b = false := by unfold ref02_Box; rw [h1, cond_true, h2, cond_true, h3, cond_true, h4, cond_true, h5, cond_false]; first | done | rfl
            rw [e]
            exact FSat.done pfT (fuel := 10) (hs := (hR 4 ((hB (hC (.bool (ref02_Stand b.Low))) true) :: hE :: hE :: hE :: (hB (hC (.bool (ref02_Stand b.High))) true) :: (hR 8 (hT :: (hR 8 (hT :: (hR 8 (hF :: (hR 4 [])))))))))) (ss := []) (R := [(ref02_Box_r0 b), (ref02_Stand b.Low) = true, (ref02_Box_r1 b), (ref02_Stand b.High) = true, (b.Low.Age == b.High.Age) = true, (decide (b.Low.Shoots ≤ b.High.Shoots)) = true, (decide (b.Low.Height ≤ b.High.Height)) = false]) (by kernel_rfl) ⟨ref02_Stand_fc b.Low, h1, ref02_Stand_fc b.High, h2, h3, h4, h5, trivial⟩ (by kernel_rfl)
        · skip
          have e : ref02_Box b = false := by unfold ref02_Box; rw [h1, cond_true, h2, cond_true, h3, cond_true, h4, cond_false]; first | done | rfl
          rw [e]
          exact FSat.done pfT (fuel := 10) (hs := (hR 4 ((hB (hC (.bool (ref02_Stand b.Low))) true) :: hE :: hE :: hE :: (hB (hC (.bool (ref02_Stand b.High))) true) :: (hR 8 (hT :: (hR 8 (hF :: (hR 6 [])))))))) (ss := []) (R := [(ref02_Box_r0 b), (ref02_Stand b.Low) = true, (ref02_Box_r1 b), (ref02_Stand b.High) = true, (b.Low.Age == b.High.Age) = true, (decide (b.Low.Shoots ≤ b.High.Shoots)) = false]) (by kernel_rfl) ⟨ref02_Stand_fc b.Low, h1, ref02_Stand_fc b.High, h2, h3, h4, trivial⟩ (by kernel_rfl)
      · skip
        have e : ref02_Box b = false := by unfold ref02_Box; rw [h1, cond_true, h2, cond_true, h3, cond_false]; first | done | rfl
        rw [e]
        exact FSat.done pfT (fuel := 10) (hs := (hR 4 ((hB (hC (.bool (ref02_Stand b.Low))) true) :: hE :: hE :: hE :: (hB (hC (.bool (ref02_Stand b.High))) true) :: (hR 8 (hF :: (hR 8 [])))))) (ss := []) (R := [(ref02_Box_r0 b), (ref02_Stand b.Low) = true, (ref02_Box_r1 b), (ref02_Stand b.High) = true, (b.Low.Age == b.High.Age) = false]) (by kernel_rfl) ⟨ref02_Stand_fc b.Low, h1, ref02_Stand_fc b.High, h2, h3, trivial⟩ (by kernel_rfl)
    · skip
      have e : ref02_Box b = false := by unfold ref02_Box; rw [h1, cond_true, h2, cond_false]; first | done | rfl
      rw [e]
      exact FSat.done pfT (fuel := 10) (hs := (hR 4 ((hB (hC (.bool (ref02_Stand b.Low))) true) :: hE :: hE :: hE :: (hB (hC (.bool (ref02_Stand b.High))) false) :: (hR 10 [])))) (ss := []) (R := [(ref02_Box_r0 b), (ref02_Stand b.Low) = true, (ref02_Box_r1 b), (ref02_Stand b.High) = false]) (by kernel_rfl) ⟨ref02_Stand_fc b.Low, h1, ref02_Stand_fc b.High, h2, trivial⟩ (by kernel_rfl)
  · skip
    have e : ref02_Box b = false := by unfold ref02_Box; rw [h1, cond_false]; first | done | rfl
    rw [e]
    exact FSat.done pfT (fuel := 10) (hs := (hR 4 ((hB (hC (.bool (ref02_Stand b.Low))) false) :: (hR 11 [])))) (ss := []) (R := [(ref02_Box_r0 b), (ref02_Stand b.Low) = false]) (by kernel_rfl) ⟨ref02_Stand_fc b.Low, h1, trivial⟩ (by kernel_rfl)

/- greenhew/greenhewref02.Season -/
abbrev ref02_Season_r0 (q : XSeason) : Prop := FC P GG 64 (A_ref02_Span q.Light 100) [] (.bool (ref02_Span q.Light 100))
abbrev ref02_Season_r1 (q : XSeason) : Prop := FC P GG 64 (A_ref02_Span q.Browse 100) [] (.bool (ref02_Span q.Browse 100))
abbrev ref02_Season_r2 (q : XSeason) : Prop := FC P GG 64 (A_ref02_Span q.Mild 200) [] (.bool (ref02_Span q.Mild 200))
abbrev A_ref02_Season (q : XSeason) : List Value := [.agg #[I (q.Light.Low), I (q.Light.High), I (q.Browse.Low), I (q.Browse.High), I (q.Mild.Low), I (q.Mild.High), .bool (q.Cut)]]
noncomputable def ref02_Season (q : XSeason) : Bool :=
  bif ref02_Span q.Light 100 then (bif ref02_Span q.Browse 100 then ref02_Span q.Mild 200
    else false)
  else false
theorem ref02_Season_fc (q : XSeason) : FC P GG 32 [.agg #[I (q.Light.Low), I (q.Light.High), I (q.Browse.Low), I (q.Browse.High), I (q.Mild.Low), I (q.Mild.High), .bool (q.Cut)]] [] (.bool (ref02_Season q)) := by
  refine FC.of_fsat 16 100 Tryd.func32 (by kernel_rfl) (by kernel_rfl) (by kernel_rfl) trivial ?_
  rcases Bool.eq_false_or_eq_true (ref02_Span q.Light 100) with h1 | h1
  · skip
    rcases Bool.eq_false_or_eq_true (ref02_Span q.Browse 100) with h2 | h2
    · skip
      have e : ref02_Season q = ref02_Span q.Mild 200 := by unfold ref02_Season; rw [h1, cond_true, h2, cond_true]; first | done | rfl
      rw [e]
      exact FSat.done pfT (fuel := 10) (hs := (hR 4 ((hB (hC (.bool (ref02_Span q.Light 100))) true) :: hE :: hE :: hE :: (hB (hC (.bool (ref02_Span q.Browse 100))) true) :: (hR 4 [(hC (.bool (ref02_Span q.Mild 200))), hE, hE])))) (ss := []) (R := [(ref02_Season_r0 q), (ref02_Span q.Light 100) = true, (ref02_Season_r1 q), (ref02_Span q.Browse 100) = true, (ref02_Season_r2 q)]) (by kernel_rfl) ⟨ref02_Span_fc q.Light 100, h1, ref02_Span_fc q.Browse 100, h2, ref02_Span_fc q.Mild 200, trivial⟩ (by kernel_rfl)
    · skip
      have e : ref02_Season q = false := by unfold ref02_Season; rw [h1, cond_true, h2, cond_false]; first | done | rfl
      rw [e]
      exact FSat.done pfT (fuel := 10) (hs := (hR 4 ((hB (hC (.bool (ref02_Span q.Light 100))) true) :: hE :: hE :: hE :: (hB (hC (.bool (ref02_Span q.Browse 100))) false) :: (hR 4 [])))) (ss := []) (R := [(ref02_Season_r0 q), (ref02_Span q.Light 100) = true, (ref02_Season_r1 q), (ref02_Span q.Browse 100) = false]) (by kernel_rfl) ⟨ref02_Span_fc q.Light 100, h1, ref02_Span_fc q.Browse 100, h2, trivial⟩ (by kernel_rfl)
  · skip
    have e : ref02_Season q = false := by unfold ref02_Season; rw [h1, cond_false]; first | done | rfl
    rw [e]
    exact FSat.done pfT (fuel := 10) (hs := (hR 4 ((hB (hC (.bool (ref02_Span q.Light 100))) false) :: (hR 5 [])))) (ss := []) (R := [(ref02_Season_r0 q), (ref02_Span q.Light 100) = false]) (by kernel_rfl) ⟨ref02_Span_fc q.Light 100, h1, trivial⟩ (by kernel_rfl)

/- greenhew/greenhewref02.Cut -/
noncomputable abbrev ref02_Cut_i0 (s : XSpecies) (age : Int) : Hint := (hL (.agg #[I ((at_ zXSpan s.Sprouts (imin age (W (((s.Sprouts.length : Nat) : Int) - 1)))).Low), I ((at_ zXSpan s.Sprouts (imin age (W (((s.Sprouts.length : Nat) : Int) - 1)))).High)]))
abbrev ref02_Cut_r1 (s : XSpecies) (age : Int) : Prop := 0 ≤ (imin age (W (((s.Sprouts.length : Nat) : Int) - 1))) ∧ (imin age (W (((s.Sprouts.length : Nat) : Int) - 1))) < ((s.Sprouts.length : Nat) : Int)
abbrev ref02_Cut_r2 (s : XSpecies) (age : Int) : Prop := RowLd P 56 (encL cXSpan s.Sprouts) (0 + (imin age (W (((s.Sprouts.length : Nat) : Int) - 1))).toNat * 2) (.agg #[I ((at_ zXSpan s.Sprouts (imin age (W (((s.Sprouts.length : Nat) : Int) - 1)))).Low), I ((at_ zXSpan s.Sprouts (imin age (W (((s.Sprouts.length : Nat) : Int) - 1)))).High)])
abbrev A_ref02_Cut (s : XSpecies) (age : Int) (q10 : Nat) (q11 : Nat) (q12 : Nat) (q13 : Nat) : List Value := [.agg #[.slice (some ⟨10, 0, none⟩) (s.Rise.length) (q10), .slice (some ⟨11, 0, none⟩) (s.Thick.length) (q11), I (s.Top), I (s.Stout), I (s.Shade), I (s.Reach), .slice (some ⟨12, 0, none⟩) (s.Ladder.length) (q12), .slice (some ⟨13, 0, none⟩) (s.Sprouts.length) (q13)], I (age)]
abbrev K_ref02_Cut (s : XSpecies) : List (Nat × List Value) := [(10, encL cInt s.Rise), (11, encL cInt s.Thick), (12, encL cXRung s.Ladder), (13, encL cXSpan s.Sprouts)]
noncomputable def ref02_Cut (s : XSpecies) (age : Int) : Option XBox :=
  bif decide (0 ≤ (imin age (W (((s.Sprouts.length : Nat) : Int) - 1))) ∧ (imin age (W (((s.Sprouts.length : Nat) : Int) - 1))) < ((s.Sprouts.length : Nat) : Int)) then some (⟨(⟨0, (at_ zXSpan s.Sprouts (imin age (W (((s.Sprouts.length : Nat) : Int) - 1)))).Low, 0, 0⟩ : XStand), (⟨0, (at_ zXSpan s.Sprouts (imin age (W (((s.Sprouts.length : Nat) : Int) - 1)))).High, 0, 0⟩ : XStand)⟩ : XBox) else none
theorem ref02_Cut_fc (s : XSpecies) (age : Int) (q10 q11 q12 q13 : Nat) (r : XBox) (hh : ref02_Cut s age = some r) : FC P GG 40 [.agg #[.slice (some ⟨10, 0, none⟩) (s.Rise.length) (q10), .slice (some ⟨11, 0, none⟩) (s.Thick.length) (q11), I (s.Top), I (s.Stout), I (s.Shade), I (s.Reach), .slice (some ⟨12, 0, none⟩) (s.Ladder.length) (q12), .slice (some ⟨13, 0, none⟩) (s.Sprouts.length) (q13)], I (age)] [(10, encL cInt s.Rise), (11, encL cInt s.Thick), (12, encL cXRung s.Ladder), (13, encL cXSpan s.Sprouts)] (.agg #[I (r.Low.Age), I (r.Low.Shoots), I (r.Low.Height), I (r.Low.Girth), I (r.High.Age), I (r.High.Shoots), I (r.High.Height), I (r.High.Girth)]) := by
  refine FC.of_fsat 23 100 Tryd.func40 (by kernel_rfl) (by kernel_rfl) (by kernel_rfl) ⟨PinL.pf (encL_pf cInt_pf _), PinL.pf (encL_pf cInt_pf _), PinL.pf (encL_pf cXRung_pf _), PinL.pf (encL_pf cXSpan_pf _), trivial⟩ ?_
  rcases Bool.eq_false_or_eq_true (decide (0 ≤ (imin age (W (((s.Sprouts.length : Nat) : Int) - 1))) ∧ (imin age (W (((s.Sprouts.length : Nat) : Int) - 1))) < ((s.Sprouts.length : Nat) : Int))) with h1 | h1
  rotate_left
  · skip
    have e : ref02_Cut s age = none := by unfold ref02_Cut; rw [h1, cond_false]; first | done | rfl
    rw [e] at hh; cases hh
  · skip
    have e : ref02_Cut s age = some (⟨(⟨0, (at_ zXSpan s.Sprouts (imin age (W (((s.Sprouts.length : Nat) : Int) - 1)))).Low, 0, 0⟩ : XStand), (⟨0, (at_ zXSpan s.Sprouts (imin age (W (((s.Sprouts.length : Nat) : Int) - 1)))).High, 0, 0⟩ : XStand)⟩ : XBox) := by unfold ref02_Cut; rw [h1, cond_true]; first | done | rfl
    rw [e] at hh
    have hr := Option.some.inj hh
    rw [← hr]
    exact FSat.done pfT (fuel := 12) (hs := (hR 10 (hX :: (ref02_Cut_i0 s age) :: (hR 10 [])))) (ss := []) (R := [(ref02_Cut_r1 s age), (ref02_Cut_r2 s age)]) (by kernel_rfl) ⟨of_decide_eq_true h1, RowLd.elem cXSpan_len _ (.inl ⟨_, rfl⟩) rfl rfl _ _ (of_decide_eq_true h1), trivial⟩ (by kernel_rfl)

/- greenhew/greenhewlaw02.GrowthTight -/
noncomputable abbrev law02_GrowthTight_i0 (s : XSpecies) (q10 : Nat) (q11 : Nat) (q12 : Nat) (q13 : Nat) : Hint := (hB (hM (.bool (law02_short s)) (.bool (law02_short s)) (A_law02_short s q10 q11 q12 q13) (K_law02_short s) [(10, 10, 0), (11, 11, 0), (12, 12, 0), (13, 13, 0)]) true)
noncomputable abbrev law02_GrowthTight_i1 (s : XSpecies) (q10 : Nat) (q11 : Nat) (q12 : Nat) (q13 : Nat) (x2 : Bool) : Hint := (hB (hM (.bool (x2)) (.bool (x2)) (A_ref02_Species s q10 q11 q12 q13) (K_ref02_Species s) [(10, 10, 0), (11, 11, 0), (12, 12, 0), (13, 13, 0)]) true)
noncomputable abbrev law02_GrowthTight_i2 (s : XSpecies) (b : XBox) (q : XSeason) (q10 : Nat) (q11 : Nat) (q12 : Nat) (q13 : Nat) (x6 : XBox × Int) : Hint := (hM (.tuple #[.agg #[I (x6.1.Low.Age), I (x6.1.Low.Shoots), I (x6.1.Low.Height), I (x6.1.Low.Girth), I (x6.1.High.Age), I (x6.1.High.Shoots), I (x6.1.High.Height), I (x6.1.High.Girth)], I (x6.2)]) (.tuple #[.agg #[I (x6.1.Low.Age), I (x6.1.Low.Shoots), I (x6.1.Low.Height), I (x6.1.Low.Girth), I (x6.1.High.Age), I (x6.1.High.Shoots), I (x6.1.High.Height), I (x6.1.High.Girth)], I (x6.2)]) (A_growth_Step s b q q10 q11 q12 q13) (K_growth_Step s) [(10, 10, 0), (11, 11, 0), (12, 12, 0), (13, 13, 0)])
abbrev law02_GrowthTight_r3 (s : XSpecies) (q10 : Nat) (q11 : Nat) (q12 : Nat) (q13 : Nat) : Prop := FC P GG 17 (A_law02_short s q10 q11 q12 q13) (K_law02_short s) (.bool (law02_short s))
abbrev law02_GrowthTight_r4 (s : XSpecies) (q10 : Nat) (q11 : Nat) (q12 : Nat) (q13 : Nat) : Prop := VRs (Ren.emb [(10, 10, 0), (11, 11, 0), (12, 12, 0), (13, 13, 0)]) (A_law02_short s q10 q11 q12 q13) [.agg #[.slice (some ⟨10, 0, none⟩) (s.Rise.length) (q10), .slice (some ⟨11, 0, none⟩) (s.Thick.length) (q11), I (s.Top), I (s.Stout), I (s.Shade), I (s.Reach), .slice (some ⟨12, 0, none⟩) (s.Ladder.length) (q12), .slice (some ⟨13, 0, none⟩) (s.Sprouts.length) (q13)]]
abbrev law02_GrowthTight_r5 (s : XSpecies) : Prop := MemAt (Ren.emb [(10, 10, 0), (11, 11, 0), (12, 12, 0), (13, 13, 0)]) (encL cInt s.Rise) 0 (encL cInt s.Rise) ∧ MemAt (Ren.emb [(10, 10, 0), (11, 11, 0), (12, 12, 0), (13, 13, 0)]) (encL cInt s.Thick) 0 (encL cInt s.Thick) ∧ MemAt (Ren.emb [(10, 10, 0), (11, 11, 0), (12, 12, 0), (13, 13, 0)]) (encL cXRung s.Ladder) 0 (encL cXRung s.Ladder) ∧ MemAt (Ren.emb [(10, 10, 0), (11, 11, 0), (12, 12, 0), (13, 13, 0)]) (encL cXSpan s.Sprouts) 0 (encL cXSpan s.Sprouts) ∧ True
abbrev law02_GrowthTight_r6 (s : XSpecies) : Prop := VR (Ren.emb [(10, 10, 0), (11, 11, 0), (12, 12, 0), (13, 13, 0)]) (.bool (law02_short s)) (.bool (law02_short s))
abbrev law02_GrowthTight_r7 (s : XSpecies) (q10 : Nat) (q11 : Nat) (q12 : Nat) (q13 : Nat) (x2 : Bool) : Prop := FC P GG 22 (A_ref02_Species s q10 q11 q12 q13) (K_ref02_Species s) (.bool (x2))
abbrev law02_GrowthTight_r8 (s : XSpecies) (q10 : Nat) (q11 : Nat) (q12 : Nat) (q13 : Nat) : Prop := VRs (Ren.emb [(10, 10, 0), (11, 11, 0), (12, 12, 0), (13, 13, 0)]) (A_ref02_Species s q10 q11 q12 q13) [.agg #[.slice (some ⟨10, 0, none⟩) (s.Rise.length) (q10), .slice (some ⟨11, 0, none⟩) (s.Thick.length) (q11), I (s.Top), I (s.Stout), I (s.Shade), I (s.Reach), .slice (some ⟨12, 0, none⟩) (s.Ladder.length) (q12), .slice (some ⟨13, 0, none⟩) (s.Sprouts.length) (q13)]]
abbrev law02_GrowthTight_r9 (x2 : Bool) : Prop := VR (Ren.emb [(10, 10, 0), (11, 11, 0), (12, 12, 0), (13, 13, 0)]) (.bool (x2)) (.bool (x2))
abbrev law02_GrowthTight_r10 (s : XSpecies) (b : XBox) (q : XSeason) (q10 : Nat) (q11 : Nat) (q12 : Nat) (q13 : Nat) (x6 : XBox × Int) : Prop := FC P GG 31 (A_growth_Step s b q q10 q11 q12 q13) (K_growth_Step s) (.tuple #[.agg #[I (x6.1.Low.Age), I (x6.1.Low.Shoots), I (x6.1.Low.Height), I (x6.1.Low.Girth), I (x6.1.High.Age), I (x6.1.High.Shoots), I (x6.1.High.Height), I (x6.1.High.Girth)], I (x6.2)])
abbrev law02_GrowthTight_r11 (s : XSpecies) (b : XBox) (q : XSeason) (q10 : Nat) (q11 : Nat) (q12 : Nat) (q13 : Nat) : Prop := VRs (Ren.emb [(10, 10, 0), (11, 11, 0), (12, 12, 0), (13, 13, 0)]) (A_growth_Step s b q q10 q11 q12 q13) [.agg #[.slice (some ⟨10, 0, none⟩) (s.Rise.length) (q10), .slice (some ⟨11, 0, none⟩) (s.Thick.length) (q11), I (s.Top), I (s.Stout), I (s.Shade), I (s.Reach), .slice (some ⟨12, 0, none⟩) (s.Ladder.length) (q12), .slice (some ⟨13, 0, none⟩) (s.Sprouts.length) (q13)], .agg #[I (b.Low.Age), I (b.Low.Shoots), I (b.Low.Height), I (b.Low.Girth), I (b.High.Age), I (b.High.Shoots), I (b.High.Height), I (b.High.Girth)], .agg #[I (q.Light.Low), I (q.Light.High), I (q.Browse.Low), I (q.Browse.High), I (q.Mild.Low), I (q.Mild.High), .bool (q.Cut)]]
abbrev law02_GrowthTight_r12 (x6 : XBox × Int) : Prop := VR (Ren.emb [(10, 10, 0), (11, 11, 0), (12, 12, 0), (13, 13, 0)]) (.tuple #[.agg #[I (x6.1.Low.Age), I (x6.1.Low.Shoots), I (x6.1.Low.Height), I (x6.1.Low.Girth), I (x6.1.High.Age), I (x6.1.High.Shoots), I (x6.1.High.Height), I (x6.1.High.Girth)], I (x6.2)]) (.tuple #[.agg #[I (x6.1.Low.Age), I (x6.1.Low.Shoots), I (x6.1.Low.Height), I (x6.1.Low.Girth), I (x6.1.High.Age), I (x6.1.High.Shoots), I (x6.1.High.Height), I (x6.1.High.Girth)], I (x6.2)])
theorem law02_GrowthTight_p13 (s : XSpecies) (q10 : Nat) (q11 : Nat) (q12 : Nat) (q13 : Nat) : (law02_GrowthTight_r4 s q10 q11 q12 q13) := (.cons _ _ _ _ (.agg _ _ (.cons _ _ _ _ (.slc 10 0 _ _ _ ⟨10, 0, 0, 0⟩ rfl (.inl rfl)) (.cons _ _ _ _ (.slc 11 0 _ _ _ ⟨11, 0, 0, 0⟩ rfl (.inl rfl)) (.cons _ _ _ _ (VR.of_pf rfl) (.cons _ _ _ _ (VR.of_pf rfl) (.cons _ _ _ _ (VR.of_pf rfl) (.cons _ _ _ _ (VR.of_pf rfl) (.cons _ _ _ _ (.slc 12 0 _ _ _ ⟨12, 0, 0, 0⟩ rfl (.inl rfl)) (.cons _ _ _ _ (.slc 13 0 _ _ _ ⟨13, 0, 0, 0⟩ rfl (.inl rfl)) .nil))))))))) .nil)
theorem law02_GrowthTight_p14 (s : XSpecies) : (law02_GrowthTight_r5 s) := ⟨MemAt.same _ (encL_pf cInt_pf _), MemAt.same _ (encL_pf cInt_pf _), MemAt.same _ (encL_pf cXRung_pf _), MemAt.same _ (encL_pf cXSpan_pf _), trivial⟩
theorem law02_GrowthTight_p15 (s : XSpecies) (q10 : Nat) (q11 : Nat) (q12 : Nat) (q13 : Nat) : (law02_GrowthTight_r8 s q10 q11 q12 q13) := (.cons _ _ _ _ (.agg _ _ (.cons _ _ _ _ (.slc 10 0 _ _ _ ⟨10, 0, 0, 0⟩ rfl (.inl rfl)) (.cons _ _ _ _ (.slc 11 0 _ _ _ ⟨11, 0, 0, 0⟩ rfl (.inl rfl)) (.cons _ _ _ _ (VR.of_pf rfl) (.cons _ _ _ _ (VR.of_pf rfl) (.cons _ _ _ _ (VR.of_pf rfl) (.cons _ _ _ _ (VR.of_pf rfl) (.cons _ _ _ _ (.slc 12 0 _ _ _ ⟨12, 0, 0, 0⟩ rfl (.inl rfl)) (.cons _ _ _ _ (.slc 13 0 _ _ _ ⟨13, 0, 0, 0⟩ rfl (.inl rfl)) .nil))))))))) .nil)
theorem law02_GrowthTight_p16 (s : XSpecies) (b : XBox) (q : XSeason) (q10 : Nat) (q11 : Nat) (q12 : Nat) (q13 : Nat) : (law02_GrowthTight_r11 s b q q10 q11 q12 q13) := (.cons _ _ _ _ (.agg _ _ (.cons _ _ _ _ (.slc 10 0 _ _ _ ⟨10, 0, 0, 0⟩ rfl (.inl rfl)) (.cons _ _ _ _ (.slc 11 0 _ _ _ ⟨11, 0, 0, 0⟩ rfl (.inl rfl)) (.cons _ _ _ _ (VR.of_pf rfl) (.cons _ _ _ _ (VR.of_pf rfl) (.cons _ _ _ _ (VR.of_pf rfl) (.cons _ _ _ _ (VR.of_pf rfl) (.cons _ _ _ _ (.slc 12 0 _ _ _ ⟨12, 0, 0, 0⟩ rfl (.inl rfl)) (.cons _ _ _ _ (.slc 13 0 _ _ _ ⟨13, 0, 0, 0⟩ rfl (.inl rfl)) .nil))))))))) (.cons _ _ _ _ (VR.of_pf rfl) (.cons _ _ _ _ (VR.of_pf rfl) .nil)))
noncomputable abbrev law02_GrowthTight_i17 (s : XSpecies) (b : XBox) (q10 : Nat) (q11 : Nat) (q12 : Nat) (q13 : Nat) (x9 : XBox) : Hint := (hM (.agg #[I (x9.Low.Age), I (x9.Low.Shoots), I (x9.Low.Height), I (x9.Low.Girth), I (x9.High.Age), I (x9.High.Shoots), I (x9.High.Height), I (x9.High.Girth)]) (.agg #[I (x9.Low.Age), I (x9.Low.Shoots), I (x9.Low.Height), I (x9.Low.Girth), I (x9.High.Age), I (x9.High.Shoots), I (x9.High.Height), I (x9.High.Girth)]) (A_ref02_Cut s b.Low.Age q10 q11 q12 q13) (K_ref02_Cut s) [(10, 10, 0), (11, 11, 0), (12, 12, 0), (13, 13, 0)])
noncomputable abbrev law02_GrowthTight_i18 (s : XSpecies) (q : XSeason) (q10 : Nat) (q11 : Nat) (q12 : Nat) (q13 : Nat) (x9 : XBox) (x10 : XStand × Int) : Hint := (hM (.tuple #[.agg #[I (x10.1.Age), I (x10.1.Shoots), I (x10.1.Height), I (x10.1.Girth)], I (x10.2)]) (.tuple #[.agg #[I (x10.1.Age), I (x10.1.Shoots), I (x10.1.Height), I (x10.1.Girth)], I (x10.2)]) (A_growth_Grow s (⟨x9.Low.Age, x9.Low.Shoots, x9.High.Height, x9.High.Girth⟩ : XStand) (⟨q.Light.High, q.Browse.Low, q.Mild.High⟩ : XWeather) q10 q11 q12 q13) (K_growth_Grow s) [(10, 10, 0), (11, 11, 0), (12, 12, 0), (13, 13, 0)])
noncomputable abbrev law02_GrowthTight_i19 (s : XSpecies) (q : XSeason) (q10 : Nat) (q11 : Nat) (q12 : Nat) (q13 : Nat) (x9 : XBox) (x11 : XStand × Int) : Hint := (hM (.tuple #[.agg #[I (x11.1.Age), I (x11.1.Shoots), I (x11.1.Height), I (x11.1.Girth)], I (x11.2)]) (.tuple #[.agg #[I (x11.1.Age), I (x11.1.Shoots), I (x11.1.Height), I (x11.1.Girth)], I (x11.2)]) (A_growth_Grow s (⟨x9.Low.Age, x9.High.Shoots, x9.Low.Height, x9.Low.Girth⟩ : XStand) (⟨q.Light.Low, q.Browse.High, q.Mild.Low⟩ : XWeather) q10 q11 q12 q13) (K_growth_Grow s) [(10, 10, 0), (11, 11, 0), (12, 12, 0), (13, 13, 0)])
abbrev law02_GrowthTight_r20 (s : XSpecies) (b : XBox) (q10 : Nat) (q11 : Nat) (q12 : Nat) (q13 : Nat) (x9 : XBox) : Prop := FC P GG 40 (A_ref02_Cut s b.Low.Age q10 q11 q12 q13) (K_ref02_Cut s) (.agg #[I (x9.Low.Age), I (x9.Low.Shoots), I (x9.Low.Height), I (x9.Low.Girth), I (x9.High.Age), I (x9.High.Shoots), I (x9.High.Height), I (x9.High.Girth)])
abbrev law02_GrowthTight_r21 (s : XSpecies) (b : XBox) (q10 : Nat) (q11 : Nat) (q12 : Nat) (q13 : Nat) : Prop := VRs (Ren.emb [(10, 10, 0), (11, 11, 0), (12, 12, 0), (13, 13, 0)]) (A_ref02_Cut s b.Low.Age q10 q11 q12 q13) [.agg #[.slice (some ⟨10, 0, none⟩) (s.Rise.length) (q10), .slice (some ⟨11, 0, none⟩) (s.Thick.length) (q11), I (s.Top), I (s.Stout), I (s.Shade), I (s.Reach), .slice (some ⟨12, 0, none⟩) (s.Ladder.length) (q12), .slice (some ⟨13, 0, none⟩) (s.Sprouts.length) (q13)], I (b.Low.Age)]
abbrev law02_GrowthTight_r22 (x9 : XBox) : Prop := VR (Ren.emb [(10, 10, 0), (11, 11, 0), (12, 12, 0), (13, 13, 0)]) (.agg #[I (x9.Low.Age), I (x9.Low.Shoots), I (x9.Low.Height), I (x9.Low.Girth), I (x9.High.Age), I (x9.High.Shoots), I (x9.High.Height), I (x9.High.Girth)]) (.agg #[I (x9.Low.Age), I (x9.Low.Shoots), I (x9.Low.Height), I (x9.Low.Girth), I (x9.High.Age), I (x9.High.Shoots), I (x9.High.Height), I (x9.High.Girth)])
abbrev law02_GrowthTight_r23 (s : XSpecies) (q : XSeason) (q10 : Nat) (q11 : Nat) (q12 : Nat) (q13 : Nat) (x9 : XBox) (x10 : XStand × Int) : Prop := FC P GG 19 (A_growth_Grow s (⟨x9.Low.Age, x9.Low.Shoots, x9.High.Height, x9.High.Girth⟩ : XStand) (⟨q.Light.High, q.Browse.Low, q.Mild.High⟩ : XWeather) q10 q11 q12 q13) (K_growth_Grow s) (.tuple #[.agg #[I (x10.1.Age), I (x10.1.Shoots), I (x10.1.Height), I (x10.1.Girth)], I (x10.2)])
abbrev law02_GrowthTight_r24 (s : XSpecies) (q : XSeason) (q10 : Nat) (q11 : Nat) (q12 : Nat) (q13 : Nat) (x9 : XBox) : Prop := VRs (Ren.emb [(10, 10, 0), (11, 11, 0), (12, 12, 0), (13, 13, 0)]) (A_growth_Grow s (⟨x9.Low.Age, x9.Low.Shoots, x9.High.Height, x9.High.Girth⟩ : XStand) (⟨q.Light.High, q.Browse.Low, q.Mild.High⟩ : XWeather) q10 q11 q12 q13) [.agg #[.slice (some ⟨10, 0, none⟩) (s.Rise.length) (q10), .slice (some ⟨11, 0, none⟩) (s.Thick.length) (q11), I (s.Top), I (s.Stout), I (s.Shade), I (s.Reach), .slice (some ⟨12, 0, none⟩) (s.Ladder.length) (q12), .slice (some ⟨13, 0, none⟩) (s.Sprouts.length) (q13)], .agg #[I (x9.Low.Age), I (x9.Low.Shoots), I (x9.High.Height), I (x9.High.Girth)], .agg #[I (q.Light.High), I (q.Browse.Low), I (q.Mild.High)]]
abbrev law02_GrowthTight_r25 (x10 : XStand × Int) : Prop := VR (Ren.emb [(10, 10, 0), (11, 11, 0), (12, 12, 0), (13, 13, 0)]) (.tuple #[.agg #[I (x10.1.Age), I (x10.1.Shoots), I (x10.1.Height), I (x10.1.Girth)], I (x10.2)]) (.tuple #[.agg #[I (x10.1.Age), I (x10.1.Shoots), I (x10.1.Height), I (x10.1.Girth)], I (x10.2)])
abbrev law02_GrowthTight_r26 (s : XSpecies) (q : XSeason) (q10 : Nat) (q11 : Nat) (q12 : Nat) (q13 : Nat) (x9 : XBox) (x11 : XStand × Int) : Prop := FC P GG 19 (A_growth_Grow s (⟨x9.Low.Age, x9.High.Shoots, x9.Low.Height, x9.Low.Girth⟩ : XStand) (⟨q.Light.Low, q.Browse.High, q.Mild.Low⟩ : XWeather) q10 q11 q12 q13) (K_growth_Grow s) (.tuple #[.agg #[I (x11.1.Age), I (x11.1.Shoots), I (x11.1.Height), I (x11.1.Girth)], I (x11.2)])
abbrev law02_GrowthTight_r27 (s : XSpecies) (q : XSeason) (q10 : Nat) (q11 : Nat) (q12 : Nat) (q13 : Nat) (x9 : XBox) : Prop := VRs (Ren.emb [(10, 10, 0), (11, 11, 0), (12, 12, 0), (13, 13, 0)]) (A_growth_Grow s (⟨x9.Low.Age, x9.High.Shoots, x9.Low.Height, x9.Low.Girth⟩ : XStand) (⟨q.Light.Low, q.Browse.High, q.Mild.Low⟩ : XWeather) q10 q11 q12 q13) [.agg #[.slice (some ⟨10, 0, none⟩) (s.Rise.length) (q10), .slice (some ⟨11, 0, none⟩) (s.Thick.length) (q11), I (s.Top), I (s.Stout), I (s.Shade), I (s.Reach), .slice (some ⟨12, 0, none⟩) (s.Ladder.length) (q12), .slice (some ⟨13, 0, none⟩) (s.Sprouts.length) (q13)], .agg #[I (x9.Low.Age), I (x9.High.Shoots), I (x9.Low.Height), I (x9.Low.Girth)], .agg #[I (q.Light.Low), I (q.Browse.High), I (q.Mild.Low)]]
abbrev law02_GrowthTight_r28 (x11 : XStand × Int) : Prop := VR (Ren.emb [(10, 10, 0), (11, 11, 0), (12, 12, 0), (13, 13, 0)]) (.tuple #[.agg #[I (x11.1.Age), I (x11.1.Shoots), I (x11.1.Height), I (x11.1.Girth)], I (x11.2)]) (.tuple #[.agg #[I (x11.1.Age), I (x11.1.Shoots), I (x11.1.Height), I (x11.1.Girth)], I (x11.2)])
theorem law02_GrowthTight_p29 (s : XSpecies) (b : XBox) (q10 : Nat) (q11 : Nat) (q12 : Nat) (q13 : Nat) : (law02_GrowthTight_r21 s b q10 q11 q12 q13) := (.cons _ _ _ _ (.agg _ _ (.cons _ _ _ _ (.slc 10 0 _ _ _ ⟨10, 0, 0, 0⟩ rfl (.inl rfl)) (.cons _ _ _ _ (.slc 11 0 _ _ _ ⟨11, 0, 0, 0⟩ rfl (.inl rfl)) (.cons _ _ _ _ (VR.of_pf rfl) (.cons _ _ _ _ (VR.of_pf rfl) (.cons _ _ _ _ (VR.of_pf rfl) (.cons _ _ _ _ (VR.of_pf rfl) (.cons _ _ _ _ (.slc 12 0 _ _ _ ⟨12, 0, 0, 0⟩ rfl (.inl rfl)) (.cons _ _ _ _ (.slc 13 0 _ _ _ ⟨13, 0, 0, 0⟩ rfl (.inl rfl)) .nil))))))))) (.cons _ _ _ _ (VR.of_pf rfl) .nil))
theorem law02_GrowthTight_p30 (s : XSpecies) (q : XSeason) (q10 : Nat) (q11 : Nat) (q12 : Nat) (q13 : Nat) (x9 : XBox) : (law02_GrowthTight_r24 s q q10 q11 q12 q13 x9) := (.cons _ _ _ _ (.agg _ _ (.cons _ _ _ _ (.slc 10 0 _ _ _ ⟨10, 0, 0, 0⟩ rfl (.inl rfl)) (.cons _ _ _ _ (.slc 11 0 _ _ _ ⟨11, 0, 0, 0⟩ rfl (.inl rfl)) (.cons _ _ _ _ (VR.of_pf rfl) (.cons _ _ _ _ (VR.of_pf rfl) (.cons _ _ _ _ (VR.of_pf rfl) (.cons _ _ _ _ (VR.of_pf rfl) (.cons _ _ _ _ (.slc 12 0 _ _ _ ⟨12, 0, 0, 0⟩ rfl (.inl rfl)) (.cons _ _ _ _ (.slc 13 0 _ _ _ ⟨13, 0, 0, 0⟩ rfl (.inl rfl)) .nil))))))))) (.cons _ _ _ _ (VR.of_pf rfl) (.cons _ _ _ _ (VR.of_pf rfl) .nil)))
theorem law02_GrowthTight_p31 (s : XSpecies) (q : XSeason) (q10 : Nat) (q11 : Nat) (q12 : Nat) (q13 : Nat) (x9 : XBox) : (law02_GrowthTight_r27 s q q10 q11 q12 q13 x9) := (.cons _ _ _ _ (.agg _ _ (.cons _ _ _ _ (.slc 10 0 _ _ _ ⟨10, 0, 0, 0⟩ rfl (.inl rfl)) (.cons _ _ _ _ (.slc 11 0 _ _ _ ⟨11, 0, 0, 0⟩ rfl (.inl rfl)) (.cons _ _ _ _ (VR.of_pf rfl) (.cons _ _ _ _ (VR.of_pf rfl) (.cons _ _ _ _ (VR.of_pf rfl) (.cons _ _ _ _ (VR.of_pf rfl) (.cons _ _ _ _ (.slc 12 0 _ _ _ ⟨12, 0, 0, 0⟩ rfl (.inl rfl)) (.cons _ _ _ _ (.slc 13 0 _ _ _ ⟨13, 0, 0, 0⟩ rfl (.inl rfl)) .nil))))))))) (.cons _ _ _ _ (VR.of_pf rfl) (.cons _ _ _ _ (VR.of_pf rfl) .nil)))
abbrev law02_GrowthTight_r32 (x6 : XBox × Int) (x10 : XStand × Int) (x11 : XStand × Int) : Prop := (((x6.1.Low.Age == x11.1.Age) && ((x6.1.Low.Shoots == x10.1.Shoots) && ((x6.1.Low.Height == x11.1.Height) && ((x6.1.Low.Girth == x11.1.Girth) && true))))) = true
abbrev law02_GrowthTight_r33 (x6 : XBox × Int) (x10 : XStand × Int) (x11 : XStand × Int) : Prop := (((x6.1.High.Age == x10.1.Age) && ((x6.1.High.Shoots == x11.1.Shoots) && ((x6.1.High.Height == x10.1.Height) && ((x6.1.High.Girth == x10.1.Girth) && true))))) = true
abbrev law02_GrowthTight_r34 (x6 : XBox × Int) (x10 : XStand × Int) (x11 : XStand × Int) : Prop := (((x6.1.High.Age == x10.1.Age) && ((x6.1.High.Shoots == x11.1.Shoots) && ((x6.1.High.Height == x10.1.Height) && ((x6.1.High.Girth == x10.1.Girth) && true))))) = false
abbrev law02_GrowthTight_r35 (x6 : XBox × Int) (x10 : XStand × Int) (x11 : XStand × Int) : Prop := (((x6.1.Low.Age == x11.1.Age) && ((x6.1.Low.Shoots == x10.1.Shoots) && ((x6.1.Low.Height == x11.1.Height) && ((x6.1.Low.Girth == x11.1.Girth) && true))))) = false
noncomputable abbrev law02_GrowthTight_i36 (s : XSpecies) (b : XBox) (q : XSeason) (q10 : Nat) (q11 : Nat) (q12 : Nat) (q13 : Nat) (x9 : XStand × Int) : Hint := (hM (.tuple #[.agg #[I (x9.1.Age), I (x9.1.Shoots), I (x9.1.Height), I (x9.1.Girth)], I (x9.2)]) (.tuple #[.agg #[I (x9.1.Age), I (x9.1.Shoots), I (x9.1.Height), I (x9.1.Girth)], I (x9.2)]) (A_growth_Grow s (⟨b.Low.Age, b.Low.Shoots, b.High.Height, b.High.Girth⟩ : XStand) (⟨q.Light.High, q.Browse.Low, q.Mild.High⟩ : XWeather) q10 q11 q12 q13) (K_growth_Grow s) [(10, 10, 0), (11, 11, 0), (12, 12, 0), (13, 13, 0)])
noncomputable abbrev law02_GrowthTight_i37 (s : XSpecies) (b : XBox) (q : XSeason) (q10 : Nat) (q11 : Nat) (q12 : Nat) (q13 : Nat) (x10 : XStand × Int) : Hint := (hM (.tuple #[.agg #[I (x10.1.Age), I (x10.1.Shoots), I (x10.1.Height), I (x10.1.Girth)], I (x10.2)]) (.tuple #[.agg #[I (x10.1.Age), I (x10.1.Shoots), I (x10.1.Height), I (x10.1.Girth)], I (x10.2)]) (A_growth_Grow s (⟨b.Low.Age, b.High.Shoots, b.Low.Height, b.Low.Girth⟩ : XStand) (⟨q.Light.Low, q.Browse.High, q.Mild.Low⟩ : XWeather) q10 q11 q12 q13) (K_growth_Grow s) [(10, 10, 0), (11, 11, 0), (12, 12, 0), (13, 13, 0)])
abbrev law02_GrowthTight_r38 (s : XSpecies) (b : XBox) (q : XSeason) (q10 : Nat) (q11 : Nat) (q12 : Nat) (q13 : Nat) (x9 : XStand × Int) : Prop := FC P GG 19 (A_growth_Grow s (⟨b.Low.Age, b.Low.Shoots, b.High.Height, b.High.Girth⟩ : XStand) (⟨q.Light.High, q.Browse.Low, q.Mild.High⟩ : XWeather) q10 q11 q12 q13) (K_growth_Grow s) (.tuple #[.agg #[I (x9.1.Age), I (x9.1.Shoots), I (x9.1.Height), I (x9.1.Girth)], I (x9.2)])
abbrev law02_GrowthTight_r39 (s : XSpecies) (b : XBox) (q : XSeason) (q10 : Nat) (q11 : Nat) (q12 : Nat) (q13 : Nat) : Prop := VRs (Ren.emb [(10, 10, 0), (11, 11, 0), (12, 12, 0), (13, 13, 0)]) (A_growth_Grow s (⟨b.Low.Age, b.Low.Shoots, b.High.Height, b.High.Girth⟩ : XStand) (⟨q.Light.High, q.Browse.Low, q.Mild.High⟩ : XWeather) q10 q11 q12 q13) [.agg #[.slice (some ⟨10, 0, none⟩) (s.Rise.length) (q10), .slice (some ⟨11, 0, none⟩) (s.Thick.length) (q11), I (s.Top), I (s.Stout), I (s.Shade), I (s.Reach), .slice (some ⟨12, 0, none⟩) (s.Ladder.length) (q12), .slice (some ⟨13, 0, none⟩) (s.Sprouts.length) (q13)], .agg #[I (b.Low.Age), I (b.Low.Shoots), I (b.High.Height), I (b.High.Girth)], .agg #[I (q.Light.High), I (q.Browse.Low), I (q.Mild.High)]]
abbrev law02_GrowthTight_r40 (x9 : XStand × Int) : Prop := VR (Ren.emb [(10, 10, 0), (11, 11, 0), (12, 12, 0), (13, 13, 0)]) (.tuple #[.agg #[I (x9.1.Age), I (x9.1.Shoots), I (x9.1.Height), I (x9.1.Girth)], I (x9.2)]) (.tuple #[.agg #[I (x9.1.Age), I (x9.1.Shoots), I (x9.1.Height), I (x9.1.Girth)], I (x9.2)])
abbrev law02_GrowthTight_r41 (s : XSpecies) (b : XBox) (q : XSeason) (q10 : Nat) (q11 : Nat) (q12 : Nat) (q13 : Nat) (x10 : XStand × Int) : Prop := FC P GG 19 (A_growth_Grow s (⟨b.Low.Age, b.High.Shoots, b.Low.Height, b.Low.Girth⟩ : XStand) (⟨q.Light.Low, q.Browse.High, q.Mild.Low⟩ : XWeather) q10 q11 q12 q13) (K_growth_Grow s) (.tuple #[.agg #[I (x10.1.Age), I (x10.1.Shoots), I (x10.1.Height), I (x10.1.Girth)], I (x10.2)])
abbrev law02_GrowthTight_r42 (s : XSpecies) (b : XBox) (q : XSeason) (q10 : Nat) (q11 : Nat) (q12 : Nat) (q13 : Nat) : Prop := VRs (Ren.emb [(10, 10, 0), (11, 11, 0), (12, 12, 0), (13, 13, 0)]) (A_growth_Grow s (⟨b.Low.Age, b.High.Shoots, b.Low.Height, b.Low.Girth⟩ : XStand) (⟨q.Light.Low, q.Browse.High, q.Mild.Low⟩ : XWeather) q10 q11 q12 q13) [.agg #[.slice (some ⟨10, 0, none⟩) (s.Rise.length) (q10), .slice (some ⟨11, 0, none⟩) (s.Thick.length) (q11), I (s.Top), I (s.Stout), I (s.Shade), I (s.Reach), .slice (some ⟨12, 0, none⟩) (s.Ladder.length) (q12), .slice (some ⟨13, 0, none⟩) (s.Sprouts.length) (q13)], .agg #[I (b.Low.Age), I (b.High.Shoots), I (b.Low.Height), I (b.Low.Girth)], .agg #[I (q.Light.Low), I (q.Browse.High), I (q.Mild.Low)]]
theorem law02_GrowthTight_p43 (s : XSpecies) (b : XBox) (q : XSeason) (q10 : Nat) (q11 : Nat) (q12 : Nat) (q13 : Nat) : (law02_GrowthTight_r39 s b q q10 q11 q12 q13) := (.cons _ _ _ _ (.agg _ _ (.cons _ _ _ _ (.slc 10 0 _ _ _ ⟨10, 0, 0, 0⟩ rfl (.inl rfl)) (.cons _ _ _ _ (.slc 11 0 _ _ _ ⟨11, 0, 0, 0⟩ rfl (.inl rfl)) (.cons _ _ _ _ (VR.of_pf rfl) (.cons _ _ _ _ (VR.of_pf rfl) (.cons _ _ _ _ (VR.of_pf rfl) (.cons _ _ _ _ (VR.of_pf rfl) (.cons _ _ _ _ (.slc 12 0 _ _ _ ⟨12, 0, 0, 0⟩ rfl (.inl rfl)) (.cons _ _ _ _ (.slc 13 0 _ _ _ ⟨13, 0, 0, 0⟩ rfl (.inl rfl)) .nil))))))))) (.cons _ _ _ _ (VR.of_pf rfl) (.cons _ _ _ _ (VR.of_pf rfl) .nil)))
theorem law02_GrowthTight_p44 (s : XSpecies) (b : XBox) (q : XSeason) (q10 : Nat) (q11 : Nat) (q12 : Nat) (q13 : Nat) : (law02_GrowthTight_r42 s b q q10 q11 q12 q13) := (.cons _ _ _ _ (.agg _ _ (.cons _ _ _ _ (.slc 10 0 _ _ _ ⟨10, 0, 0, 0⟩ rfl (.inl rfl)) (.cons _ _ _ _ (.slc 11 0 _ _ _ ⟨11, 0, 0, 0⟩ rfl (.inl rfl)) (.cons _ _ _ _ (VR.of_pf rfl) (.cons _ _ _ _ (VR.of_pf rfl) (.cons _ _ _ _ (VR.of_pf rfl) (.cons _ _ _ _ (VR.of_pf rfl) (.cons _ _ _ _ (.slc 12 0 _ _ _ ⟨12, 0, 0, 0⟩ rfl (.inl rfl)) (.cons _ _ _ _ (.slc 13 0 _ _ _ ⟨13, 0, 0, 0⟩ rfl (.inl rfl)) .nil))))))))) (.cons _ _ _ _ (VR.of_pf rfl) (.cons _ _ _ _ (VR.of_pf rfl) .nil)))
abbrev law02_GrowthTight_r45 (x6 : XBox × Int) (x9 : XStand × Int) (x10 : XStand × Int) : Prop := (((x6.1.Low.Age == x10.1.Age) && ((x6.1.Low.Shoots == x9.1.Shoots) && ((x6.1.Low.Height == x10.1.Height) && ((x6.1.Low.Girth == x10.1.Girth) && true))))) = true
abbrev law02_GrowthTight_r46 (x6 : XBox × Int) (x9 : XStand × Int) (x10 : XStand × Int) : Prop := (((x6.1.High.Age == x9.1.Age) && ((x6.1.High.Shoots == x10.1.Shoots) && ((x6.1.High.Height == x9.1.Height) && ((x6.1.High.Girth == x9.1.Girth) && true))))) = true
abbrev law02_GrowthTight_r47 (x6 : XBox × Int) (x9 : XStand × Int) (x10 : XStand × Int) : Prop := (((x6.1.High.Age == x9.1.Age) && ((x6.1.High.Shoots == x10.1.Shoots) && ((x6.1.High.Height == x9.1.Height) && ((x6.1.High.Girth == x9.1.Girth) && true))))) = false
abbrev law02_GrowthTight_r48 (x6 : XBox × Int) (x9 : XStand × Int) (x10 : XStand × Int) : Prop := (((x6.1.Low.Age == x10.1.Age) && ((x6.1.Low.Shoots == x9.1.Shoots) && ((x6.1.Low.Height == x10.1.Height) && ((x6.1.Low.Girth == x10.1.Girth) && true))))) = false
noncomputable abbrev law02_GrowthTight_i49 (s : XSpecies) (q10 : Nat) (q11 : Nat) (q12 : Nat) (q13 : Nat) (x2 : Bool) : Hint := (hB (hM (.bool (x2)) (.bool (x2)) (A_ref02_Species s q10 q11 q12 q13) (K_ref02_Species s) [(10, 10, 0), (11, 11, 0), (12, 12, 0), (13, 13, 0)]) false)
noncomputable abbrev law02_GrowthTight_i50 (s : XSpecies) (q10 : Nat) (q11 : Nat) (q12 : Nat) (q13 : Nat) : Hint := (hB (hM (.bool (law02_short s)) (.bool (law02_short s)) (A_law02_short s q10 q11 q12 q13) (K_law02_short s) [(10, 10, 0), (11, 11, 0), (12, 12, 0), (13, 13, 0)]) false)
abbrev A_law02_GrowthTight (s : XSpecies) (b : XBox) (q : XSeason) (q10 : Nat) (q11 : Nat) (q12 : Nat) (q13 : Nat) : List Value := [.agg #[.slice (some ⟨10, 0, none⟩) (s.Rise.length) (q10), .slice (some ⟨11, 0, none⟩) (s.Thick.length) (q11), I (s.Top), I (s.Stout), I (s.Shade), I (s.Reach), .slice (some ⟨12, 0, none⟩) (s.Ladder.length) (q12), .slice (some ⟨13, 0, none⟩) (s.Sprouts.length) (q13)], .agg #[I (b.Low.Age), I (b.Low.Shoots), I (b.Low.Height), I (b.Low.Girth), I (b.High.Age), I (b.High.Shoots), I (b.High.Height), I (b.High.Girth)], .agg #[I (q.Light.Low), I (q.Light.High), I (q.Browse.Low), I (q.Browse.High), I (q.Mild.Low), I (q.Mild.High), .bool (q.Cut)]]
abbrev K_law02_GrowthTight (s : XSpecies) : List (Nat × List Value) := [(10, encL cInt s.Rise), (11, encL cInt s.Thick), (12, encL cXRung s.Ladder), (13, encL cXSpan s.Sprouts)]
noncomputable def law02_GrowthTight (fu : Nat) (s : XSpecies) (b : XBox) (q : XSeason) : Option Bool :=
  bif law02_short s then (Option.bind (ref02_Species fu s) fun x2 =>
    bif x2 then (bif ref02_Box b then (bif ref02_Season q then (Option.bind (growth_Step fu s b q) fun x6 =>
          bif x6.2 != 0 then some false
          else (bif q.Cut then (Option.bind (ref02_Cut s b.Low.Age) fun x9 =>
              Option.bind (growth_Grow fu s (⟨x9.Low.Age, x9.Low.Shoots, x9.High.Height, x9.High.Girth⟩ : XStand) (⟨q.Light.High, q.Browse.Low, q.Mild.High⟩ : XWeather)) fun x10 =>
              Option.bind (growth_Grow fu s (⟨x9.Low.Age, x9.High.Shoots, x9.Low.Height, x9.Low.Girth⟩ : XStand) (⟨q.Light.Low, q.Browse.High, q.Mild.Low⟩ : XWeather)) fun x11 =>
              bif x10.2 != 0 then some false
              else (bif x11.2 != 0 then some false
                else (bif ((x6.1.Low.Age == x11.1.Age) && ((x6.1.Low.Shoots == x10.1.Shoots) && ((x6.1.Low.Height == x11.1.Height) && ((x6.1.Low.Girth == x11.1.Girth) && true)))) then (bif ((x6.1.High.Age == x10.1.Age) && ((x6.1.High.Shoots == x11.1.Shoots) && ((x6.1.High.Height == x10.1.Height) && ((x6.1.High.Girth == x10.1.Girth) && true)))) then (Option.bind (law02_known fu) fun x16 =>
                      some x16)
                    else some false)
                  else some false)))
            else (Option.bind (growth_Grow fu s (⟨b.Low.Age, b.Low.Shoots, b.High.Height, b.High.Girth⟩ : XStand) (⟨q.Light.High, q.Browse.Low, q.Mild.High⟩ : XWeather)) fun x9 =>
              Option.bind (growth_Grow fu s (⟨b.Low.Age, b.High.Shoots, b.Low.Height, b.Low.Girth⟩ : XStand) (⟨q.Light.Low, q.Browse.High, q.Mild.Low⟩ : XWeather)) fun x10 =>
              bif x9.2 != 0 then some false
              else (bif x10.2 != 0 then some false
                else (bif ((x6.1.Low.Age == x10.1.Age) && ((x6.1.Low.Shoots == x9.1.Shoots) && ((x6.1.Low.Height == x10.1.Height) && ((x6.1.Low.Girth == x10.1.Girth) && true)))) then (bif ((x6.1.High.Age == x9.1.Age) && ((x6.1.High.Shoots == x10.1.Shoots) && ((x6.1.High.Height == x9.1.Height) && ((x6.1.High.Girth == x9.1.Girth) && true)))) then (Option.bind (law02_known fu) fun x15 =>
                      some x15)
                    else some false)
                  else some false)))))
        else (Option.bind (law02_known fu) fun x6 =>
          some x6))
      else (Option.bind (law02_known fu) fun x5 =>
        some x5))
    else (Option.bind (law02_known fu) fun x4 =>
      some x4))
  else (Option.bind (law02_known fu) fun x2 =>
    some x2)
theorem law02_GrowthTight_fc (fu : Nat) (s : XSpecies) (b : XBox) (q : XSeason) (q10 q11 q12 q13 : Nat) (r : Bool) (hh : law02_GrowthTight fu s b q = some r) : FC P GG 7 [.agg #[.slice (some ⟨10, 0, none⟩) (s.Rise.length) (q10), .slice (some ⟨11, 0, none⟩) (s.Thick.length) (q11), I (s.Top), I (s.Stout), I (s.Shade), I (s.Reach), .slice (some ⟨12, 0, none⟩) (s.Ladder.length) (q12), .slice (some ⟨13, 0, none⟩) (s.Sprouts.length) (q13)], .agg #[I (b.Low.Age), I (b.Low.Shoots), I (b.Low.Height), I (b.Low.Girth), I (b.High.Age), I (b.High.Shoots), I (b.High.Height), I (b.High.Girth)], .agg #[I (q.Light.Low), I (q.Light.High), I (q.Browse.Low), I (q.Browse.High), I (q.Mild.Low), I (q.Mild.High), .bool (q.Cut)]] [(10, encL cInt s.Rise), (11, encL cInt s.Thick), (12, encL cXRung s.Ladder), (13, encL cXSpan s.Sprouts)] (.bool (r)) := by
  refine FC.of_fsat 143 100 Tryd.func7 (by kernel_rfl) (by kernel_rfl) (by kernel_rfl) ⟨PinL.pf (encL_pf cInt_pf _), PinL.pf (encL_pf cInt_pf _), PinL.pf (encL_pf cXRung_pf _), PinL.pf (encL_pf cXSpan_pf _), trivial⟩ ?_
  rcases Bool.eq_false_or_eq_true (law02_short s) with h1 | h1
  · skip
    cases h2 : ref02_Species fu s with
    | none =>
      have e : law02_GrowthTight fu s b q = none := by unfold law02_GrowthTight; rw [h1, cond_true, h2, Option.bind_none]; first | done | rfl
      rw [e] at hh; cases hh
    | some x2 =>
      rcases Bool.eq_false_or_eq_true (x2) with h3 | h3
      · skip
        rcases Bool.eq_false_or_eq_true (ref02_Box b) with h4 | h4
        · skip
          rcases Bool.eq_false_or_eq_true (ref02_Season q) with h5 | h5
          · skip
            cases h6 : growth_Step fu s b q with
            | none =>
              have e : law02_GrowthTight fu s b q = none := by unfold law02_GrowthTight; rw [h1, cond_true, h2, Option.bind_some, h3, cond_true, h4, cond_true, h5, cond_true, h6, Option.bind_none]; first | done | rfl
              rw [e] at hh; cases hh
            | some x6 =>
              rcases Bool.eq_false_or_eq_true (x6.2 != 0) with h7 | h7
              · skip
                have e : law02_GrowthTight fu s b q = some false := by unfold law02_GrowthTight; rw [h1, cond_true, h2, Option.bind_some, h3, cond_true, h4, cond_true, h5, cond_true, h6, Option.bind_some, h7, cond_true]; first | done | rfl
                rw [e] at hh
                have hr := Option.some.inj hh
                rw [← hr]
                exact FSat.done pfT (fuel := 21) (hs := (hR 5 ((law02_GrowthTight_i0 s q10 q11 q12 q13) :: hE :: hE :: hE :: (law02_GrowthTight_i1 s q10 q11 q12 q13 x2) :: (hR 4 ((hB (hC (.bool (ref02_Box b))) true) :: (hR 4 ((hB (hC (.bool (ref02_Season q))) true) :: (hR 5 ((law02_GrowthTight_i2 s b q q10 q11 q12 q13 x6) :: (hR 7 [hT, hE])))))))))) (ss := []) (R := [(law02_GrowthTight_r3 s q10 q11 q12 q13), (law02_GrowthTight_r4 s q10 q11 q12 q13), (law02_GrowthTight_r5 s), (law02_GrowthTight_r6 s), (law02_short s) = true, (law02_GrowthTight_r7 s q10 q11 q12 q13 x2), (law02_GrowthTight_r8 s q10 q11 q12 q13), (law02_GrowthTight_r5 s), (law02_GrowthTight_r9 x2), (x2) = true, FC P GG 28 (A_ref02_Box b) [] (.bool (ref02_Box b)), (ref02_Box b) = true, FC P GG 32 (A_ref02_Season q) [] (.bool (ref02_Season q)), (ref02_Season q) = true, (law02_GrowthTight_r10 s b q q10 q11 q12 q13 x6), (law02_GrowthTight_r11 s b q q10 q11 q12 q13), (law02_GrowthTight_r5 s), (law02_GrowthTight_r12 x6), (x6.2 != 0) = true]) (by kernel_rfl) ⟨law02_short_fc s q10 q11 q12 q13, law02_GrowthTight_p13 s q10 q11 q12 q13, law02_GrowthTight_p14 s, selfB_self 9 _ rfl _, h1, ref02_Species_fc fu s q10 q11 q12 q13 x2 h2, law02_GrowthTight_p15 s q10 q11 q12 q13, law02_GrowthTight_p14 s, selfB_self 9 _ rfl _, h3, ref02_Box_fc b, h4, ref02_Season_fc q, h5, growth_Step_fc fu s b q q10 q11 q12 q13 x6 h6, law02_GrowthTight_p16 s b q q10 q11 q12 q13, law02_GrowthTight_p14 s, selfB_self 9 _ rfl _, h7, trivial⟩ (by kernel_rfl)
              · skip
                rcases Bool.eq_false_or_eq_true (q.Cut) with h8 | h8
                · skip
                  cases h9 : ref02_Cut s b.Low.Age with
                  | none =>
                    have e : law02_GrowthTight fu s b q = none := by unfold law02_GrowthTight; rw [h1, cond_true, h2, Option.bind_some, h3, cond_true, h4, cond_true, h5, cond_true, h6, Option.bind_some, h7, cond_false, h8, cond_true, h9, Option.bind_none]; first | done | rfl
                    rw [e] at hh; cases hh
                  | some x9 =>
                    cases h10 : growth_Grow fu s (⟨x9.Low.Age, x9.Low.Shoots, x9.High.Height, x9.High.Girth⟩ : XStand) (⟨q.Light.High, q.Browse.Low, q.Mild.High⟩ : XWeather) with
                    | none =>
                      have e : law02_GrowthTight fu s b q = none := by unfold law02_GrowthTight; rw [h1, cond_true, h2, Option.bind_some, h3, cond_true, h4, cond_true, h5, cond_true, h6, Option.bind_some, h7, cond_false, h8, cond_true, h9, Option.bind_some, h10, Option.bind_none]; first | done | rfl
                      rw [e] at hh; cases hh
                    | some x10 =>
                      cases h11 : growth_Grow fu s (⟨x9.Low.Age, x9.High.Shoots, x9.Low.Height, x9.Low.Girth⟩ : XStand) (⟨q.Light.Low, q.Browse.High, q.Mild.Low⟩ : XWeather) with
                      | none =>
                        have e : law02_GrowthTight fu s b q = none := by unfold law02_GrowthTight; rw [h1, cond_true, h2, Option.bind_some, h3, cond_true, h4, cond_true, h5, cond_true, h6, Option.bind_some, h7, cond_false, h8, cond_true, h9, Option.bind_some, h10, Option.bind_some, h11, Option.bind_none]; first | done | rfl
                        rw [e] at hh; cases hh
                      | some x11 =>
                        rcases Bool.eq_false_or_eq_true (x10.2 != 0) with h12 | h12
                        · skip
                          have e : law02_GrowthTight fu s b q = some false := by unfold law02_GrowthTight; rw [h1, cond_true, h2, Option.bind_some, h3, cond_true, h4, cond_true, h5, cond_true, h6, Option.bind_some, h7, cond_false, h8, cond_true, h9, Option.bind_some, h10, Option.bind_some, h11, Option.bind_some, h12, cond_true]; first | done | rfl
                          rw [e] at hh
                          have hr := Option.some.inj hh
                          rw [← hr]
                          exact FSat.done pfT (fuel := 41) (hs := (hR 5 ((law02_GrowthTight_i0 s q10 q11 q12 q13) :: hE :: hE :: hE :: (law02_GrowthTight_i1 s q10 q11 q12 q13 x2) :: (hR 4 ((hB (hC (.bool (ref02_Box b))) true) :: (hR 4 ((hB (hC (.bool (ref02_Season q))) true) :: (hR 5 ((law02_GrowthTight_i2 s b q q10 q11 q12 q13 x6) :: (hR 7 (hF :: hE :: hT :: (hR 4 ((law02_GrowthTight_i17 s b q10 q11 q12 q13 x9) :: (hR 42 ((law02_GrowthTight_i18 s q q10 q11 q12 q13 x9 x10) :: (hR 19 ((law02_GrowthTight_i19 s q q10 q11 q12 q13 x9 x11) :: (hR 7 [hT, hE, hE, hE])))))))))))))))))) (ss := []) (R := [(law02_GrowthTight_r3 s q10 q11 q12 q13), (law02_GrowthTight_r4 s q10 q11 q12 q13), (law02_GrowthTight_r5 s), (law02_GrowthTight_r6 s), (law02_short s) = true, (law02_GrowthTight_r7 s q10 q11 q12 q13 x2), (law02_GrowthTight_r8 s q10 q11 q12 q13), (law02_GrowthTight_r5 s), (law02_GrowthTight_r9 x2), (x2) = true, FC P GG 28 (A_ref02_Box b) [] (.bool (ref02_Box b)), (ref02_Box b) = true, FC P GG 32 (A_ref02_Season q) [] (.bool (ref02_Season q)), (ref02_Season q) = true, (law02_GrowthTight_r10 s b q q10 q11 q12 q13 x6), (law02_GrowthTight_r11 s b q q10 q11 q12 q13), (law02_GrowthTight_r5 s), (law02_GrowthTight_r12 x6), (x6.2 != 0) = false, (q.Cut) = true, (law02_GrowthTight_r20 s b q10 q11 q12 q13 x9), (law02_GrowthTight_r21 s b q10 q11 q12 q13), (law02_GrowthTight_r5 s), (law02_GrowthTight_r22 x9), (law02_GrowthTight_r23 s q q10 q11 q12 q13 x9 x10), (law02_GrowthTight_r24 s q q10 q11 q12 q13 x9), (law02_GrowthTight_r5 s), (law02_GrowthTight_r25 x10), (law02_GrowthTight_r26 s q q10 q11 q12 q13 x9 x11), (law02_GrowthTight_r27 s q q10 q11 q12 q13 x9), (law02_GrowthTight_r5 s), (law02_GrowthTight_r28 x11), (x10.2 != 0) = true]) (by kernel_rfl) ⟨law02_short_fc s q10 q11 q12 q13, law02_GrowthTight_p13 s q10 q11 q12 q13, law02_GrowthTight_p14 s, selfB_self 9 _ rfl _, h1, ref02_Species_fc fu s q10 q11 q12 q13 x2 h2, law02_GrowthTight_p15 s q10 q11 q12 q13, law02_GrowthTight_p14 s, selfB_self 9 _ rfl _, h3, ref02_Box_fc b, h4, ref02_Season_fc q, h5, growth_Step_fc fu s b q q10 q11 q12 q13 x6 h6, law02_GrowthTight_p16 s b q q10 q11 q12 q13, law02_GrowthTight_p14 s, selfB_self 9 _ rfl _, h7, h8, ref02_Cut_fc s b.Low.Age q10 q11 q12 q13 x9 h9, law02_GrowthTight_p29 s b q10 q11 q12 q13, law02_GrowthTight_p14 s, selfB_self 9 _ rfl _, growth_Grow_fc fu s (⟨x9.Low.Age, x9.Low.Shoots, x9.High.Height, x9.High.Girth⟩ : XStand) (⟨q.Light.High, q.Browse.Low, q.Mild.High⟩ : XWeather) q10 q11 q12 q13 x10 h10, law02_GrowthTight_p30 s q q10 q11 q12 q13 x9, law02_GrowthTight_p14 s, selfB_self 9 _ rfl _, growth_Grow_fc fu s (⟨x9.Low.Age, x9.High.Shoots, x9.Low.Height, x9.Low.Girth⟩ : XStand) (⟨q.Light.Low, q.Browse.High, q.Mild.Low⟩ : XWeather) q10 q11 q12 q13 x11 h11, law02_GrowthTight_p31 s q q10 q11 q12 q13 x9, law02_GrowthTight_p14 s, selfB_self 9 _ rfl _, h12, trivial⟩ (by kernel_rfl)
                        · skip
                          rcases Bool.eq_false_or_eq_true (x11.2 != 0) with h13 | h13
                          · skip
                            have e : law02_GrowthTight fu s b q = some false := by unfold law02_GrowthTight; rw [h1, cond_true, h2, Option.bind_some, h3, cond_true, h4, cond_true, h5, cond_true, h6, Option.bind_some, h7, cond_false, h8, cond_true, h9, Option.bind_some, h10, Option.bind_some, h11, Option.bind_some, h12, cond_false, h13, cond_true]; first | done | rfl
                            rw [e] at hh
                            have hr := Option.some.inj hh
                            rw [← hr]
                            exact FSat.done pfT (fuel := 41) (hs := (hR 5 ((law02_GrowthTight_i0 s q10 q11 q12 q13) :: hE :: hE :: hE :: (law02_GrowthTight_i1 s q10 q11 q12 q13 x2) :: (hR 4 ((hB (hC (.bool (ref02_Box b))) true) :: (hR 4 ((hB (hC (.bool (ref02_Season q))) true) :: (hR 5 ((law02_GrowthTight_i2 s b q q10 q11 q12 q13 x6) :: (hR 7 (hF :: hE :: hT :: (hR 4 ((law02_GrowthTight_i17 s b q10 q11 q12 q13 x9) :: (hR 42 ((law02_GrowthTight_i18 s q q10 q11 q12 q13 x9 x10) :: (hR 19 ((law02_GrowthTight_i19 s q q10 q11 q12 q13 x9 x11) :: (hR 7 [hF, hE, hE, hT, hE, hE])))))))))))))))))) (ss := []) (R := [(law02_GrowthTight_r3 s q10 q11 q12 q13), (law02_GrowthTight_r4 s q10 q11 q12 q13), (law02_GrowthTight_r5 s), (law02_GrowthTight_r6 s), (law02_short s) = true, (law02_GrowthTight_r7 s q10 q11 q12 q13 x2), (law02_GrowthTight_r8 s q10 q11 q12 q13), (law02_GrowthTight_r5 s), (law02_GrowthTight_r9 x2), (x2) = true, FC P GG 28 (A_ref02_Box b) [] (.bool (ref02_Box b)), (ref02_Box b) = true, FC P GG 32 (A_ref02_Season q) [] (.bool (ref02_Season q)), (ref02_Season q) = true, (law02_GrowthTight_r10 s b q q10 q11 q12 q13 x6), (law02_GrowthTight_r11 s b q q10 q11 q12 q13), (law02_GrowthTight_r5 s), (law02_GrowthTight_r12 x6), (x6.2 != 0) = false, (q.Cut) = true, (law02_GrowthTight_r20 s b q10 q11 q12 q13 x9), (law02_GrowthTight_r21 s b q10 q11 q12 q13), (law02_GrowthTight_r5 s), (law02_GrowthTight_r22 x9), (law02_GrowthTight_r23 s q q10 q11 q12 q13 x9 x10), (law02_GrowthTight_r24 s q q10 q11 q12 q13 x9), (law02_GrowthTight_r5 s), (law02_GrowthTight_r25 x10), (law02_GrowthTight_r26 s q q10 q11 q12 q13 x9 x11), (law02_GrowthTight_r27 s q q10 q11 q12 q13 x9), (law02_GrowthTight_r5 s), (law02_GrowthTight_r28 x11), (x10.2 != 0) = false, (x11.2 != 0) = true]) (by kernel_rfl) ⟨law02_short_fc s q10 q11 q12 q13, law02_GrowthTight_p13 s q10 q11 q12 q13, law02_GrowthTight_p14 s, selfB_self 9 _ rfl _, h1, ref02_Species_fc fu s q10 q11 q12 q13 x2 h2, law02_GrowthTight_p15 s q10 q11 q12 q13, law02_GrowthTight_p14 s, selfB_self 9 _ rfl _, h3, ref02_Box_fc b, h4, ref02_Season_fc q, h5, growth_Step_fc fu s b q q10 q11 q12 q13 x6 h6, law02_GrowthTight_p16 s b q q10 q11 q12 q13, law02_GrowthTight_p14 s, selfB_self 9 _ rfl _, h7, h8, ref02_Cut_fc s b.Low.Age q10 q11 q12 q13 x9 h9, law02_GrowthTight_p29 s b q10 q11 q12 q13, law02_GrowthTight_p14 s, selfB_self 9 _ rfl _, growth_Grow_fc fu s (⟨x9.Low.Age, x9.Low.Shoots, x9.High.Height, x9.High.Girth⟩ : XStand) (⟨q.Light.High, q.Browse.Low, q.Mild.High⟩ : XWeather) q10 q11 q12 q13 x10 h10, law02_GrowthTight_p30 s q q10 q11 q12 q13 x9, law02_GrowthTight_p14 s, selfB_self 9 _ rfl _, growth_Grow_fc fu s (⟨x9.Low.Age, x9.High.Shoots, x9.Low.Height, x9.Low.Girth⟩ : XStand) (⟨q.Light.Low, q.Browse.High, q.Mild.Low⟩ : XWeather) q10 q11 q12 q13 x11 h11, law02_GrowthTight_p31 s q q10 q11 q12 q13 x9, law02_GrowthTight_p14 s, selfB_self 9 _ rfl _, h12, h13, trivial⟩ (by kernel_rfl)
                          · skip
                            rcases Bool.eq_false_or_eq_true (((x6.1.Low.Age == x11.1.Age) && ((x6.1.Low.Shoots == x10.1.Shoots) && ((x6.1.Low.Height == x11.1.Height) && ((x6.1.Low.Girth == x11.1.Girth) && true))))) with h14 | h14
                            · skip
                              rcases Bool.eq_false_or_eq_true (((x6.1.High.Age == x10.1.Age) && ((x6.1.High.Shoots == x11.1.Shoots) && ((x6.1.High.Height == x10.1.Height) && ((x6.1.High.Girth == x10.1.Girth) && true))))) with h15 | h15
                              · skip
                                cases h16 : law02_known fu with
                                | none =>
                                  have e : law02_GrowthTight fu s b q = none := by unfold law02_GrowthTight; rw [h1, cond_true, h2, Option.bind_some, h3, cond_true, h4, cond_true, h5, cond_true, h6, Option.bind_some, h7, cond_false, h8, cond_true, h9, Option.bind_some, h10, Option.bind_some, h11, Option.bind_some, h12, cond_false, h13, cond_false, h14, cond_true, h15, cond_true, h16, Option.bind_none]; first | done | rfl
                                  rw [e] at hh; cases hh
                                | some x16 =>
                                  have e : law02_GrowthTight fu s b q = some x16 := by unfold law02_GrowthTight; rw [h1, cond_true, h2, Option.bind_some, h3, cond_true, h4, cond_true, h5, cond_true, h6, Option.bind_some, h7, cond_false, h8, cond_true, h9, Option.bind_some, h10, Option.bind_some, h11, Option.bind_some, h12, cond_false, h13, cond_false, h14, cond_true, h15, cond_true, h16, Option.bind_some]; first | done | rfl
                                  rw [e] at hh
                                  have hr := Option.some.inj hh
                                  rw [← hr]
                                  exact FSat.done pfT (fuel := 42) (hs := (hR 5 ((law02_GrowthTight_i0 s q10 q11 q12 q13) :: hE :: hE :: hE :: (law02_GrowthTight_i1 s q10 q11 q12 q13 x2) :: (hR 4 ((hB (hC (.bool (ref02_Box b))) true) :: (hR 4 ((hB (hC (.bool (ref02_Season q))) true) :: (hR 5 ((law02_GrowthTight_i2 s b q q10 q11 q12 q13 x6) :: (hR 7 (hF :: hE :: hT :: (hR 4 ((law02_GrowthTight_i17 s b q10 q11 q12 q13 x9) :: (hR 42 ((law02_GrowthTight_i18 s q q10 q11 q12 q13 x9 x10) :: (hR 19 ((law02_GrowthTight_i19 s q q10 q11 q12 q13 x9 x11) :: (hR 7 (hF :: hE :: hE :: hF :: (hR 12 ((hB hQ true) :: (hR 12 [(hB hQ true), hE, hE, (hC (.bool (x16))), hE, hE])))))))))))))))))))))) (ss := []) (R := [(law02_GrowthTight_r3 s q10 q11 q12 q13), (law02_GrowthTight_r4 s q10 q11 q12 q13), (law02_GrowthTight_r5 s), (law02_GrowthTight_r6 s), (law02_short s) = true, (law02_GrowthTight_r7 s q10 q11 q12 q13 x2), (law02_GrowthTight_r8 s q10 q11 q12 q13), (law02_GrowthTight_r5 s), (law02_GrowthTight_r9 x2), (x2) = true, FC P GG 28 (A_ref02_Box b) [] (.bool (ref02_Box b)), (ref02_Box b) = true, FC P GG 32 (A_ref02_Season q) [] (.bool (ref02_Season q)), (ref02_Season q) = true, (law02_GrowthTight_r10 s b q q10 q11 q12 q13 x6), (law02_GrowthTight_r11 s b q q10 q11 q12 q13), (law02_GrowthTight_r5 s), (law02_GrowthTight_r12 x6), (x6.2 != 0) = false, (q.Cut) = true, (law02_GrowthTight_r20 s b q10 q11 q12 q13 x9), (law02_GrowthTight_r21 s b q10 q11 q12 q13), (law02_GrowthTight_r5 s), (law02_GrowthTight_r22 x9), (law02_GrowthTight_r23 s q q10 q11 q12 q13 x9 x10), (law02_GrowthTight_r24 s q q10 q11 q12 q13 x9), (law02_GrowthTight_r5 s), (law02_GrowthTight_r25 x10), (law02_GrowthTight_r26 s q q10 q11 q12 q13 x9 x11), (law02_GrowthTight_r27 s q q10 q11 q12 q13 x9), (law02_GrowthTight_r5 s), (law02_GrowthTight_r28 x11), (x10.2 != 0) = false, (x11.2 != 0) = false, (law02_GrowthTight_r32 x6 x10 x11), (law02_GrowthTight_r33 x6 x10 x11), FC P GG 18 (A_law02_known) [] (.bool (x16))]) (by kernel_rfl) ⟨law02_short_fc s q10 q11 q12 q13, law02_GrowthTight_p13 s q10 q11 q12 q13, law02_GrowthTight_p14 s, selfB_self 9 _ rfl _, h1, ref02_Species_fc fu s q10 q11 q12 q13 x2 h2, law02_GrowthTight_p15 s q10 q11 q12 q13, law02_GrowthTight_p14 s, selfB_self 9 _ rfl _, h3, ref02_Box_fc b, h4, ref02_Season_fc q, h5, growth_Step_fc fu s b q q10 q11 q12 q13 x6 h6, law02_GrowthTight_p16 s b q q10 q11 q12 q13, law02_GrowthTight_p14 s, selfB_self 9 _ rfl _, h7, h8, ref02_Cut_fc s b.Low.Age q10 q11 q12 q13 x9 h9, law02_GrowthTight_p29 s b q10 q11 q12 q13, law02_GrowthTight_p14 s, selfB_self 9 _ rfl _, growth_Grow_fc fu s (⟨x9.Low.Age, x9.Low.Shoots, x9.High.Height, x9.High.Girth⟩ : XStand) (⟨q.Light.High, q.Browse.Low, q.Mild.High⟩ : XWeather) q10 q11 q12 q13 x10 h10, law02_GrowthTight_p30 s q q10 q11 q12 q13 x9, law02_GrowthTight_p14 s, selfB_self 9 _ rfl _, growth_Grow_fc fu s (⟨x9.Low.Age, x9.High.Shoots, x9.Low.Height, x9.Low.Girth⟩ : XStand) (⟨q.Light.Low, q.Browse.High, q.Mild.Low⟩ : XWeather) q10 q11 q12 q13 x11 h11, law02_GrowthTight_p31 s q q10 q11 q12 q13 x9, law02_GrowthTight_p14 s, selfB_self 9 _ rfl _, h12, h13, h14, h15, law02_known_fc fu  x16 h16, trivial⟩ (by kernel_rfl)
                              · skip
                                have e : law02_GrowthTight fu s b q = some false := by unfold law02_GrowthTight; rw [h1, cond_true, h2, Option.bind_some, h3, cond_true, h4, cond_true, h5, cond_true, h6, Option.bind_some, h7, cond_false, h8, cond_true, h9, Option.bind_some, h10, Option.bind_some, h11, Option.bind_some, h12, cond_false, h13, cond_false, h14, cond_true, h15, cond_false]; first | done | rfl
                                rw [e] at hh
                                have hr := Option.some.inj hh
                                rw [← hr]
                                exact FSat.done pfT (fuel := 42) (hs := (hR 5 ((law02_GrowthTight_i0 s q10 q11 q12 q13) :: hE :: hE :: hE :: (law02_GrowthTight_i1 s q10 q11 q12 q13 x2) :: (hR 4 ((hB (hC (.bool (ref02_Box b))) true) :: (hR 4 ((hB (hC (.bool (ref02_Season q))) true) :: (hR 5 ((law02_GrowthTight_i2 s b q q10 q11 q12 q13 x6) :: (hR 7 (hF :: hE :: hT :: (hR 4 ((law02_GrowthTight_i17 s b q10 q11 q12 q13 x9) :: (hR 42 ((law02_GrowthTight_i18 s q q10 q11 q12 q13 x9 x10) :: (hR 19 ((law02_GrowthTight_i19 s q q10 q11 q12 q13 x9 x11) :: (hR 7 (hF :: hE :: hE :: hF :: (hR 12 ((hB hQ true) :: (hR 12 ((hB hQ false) :: (hR 4 [])))))))))))))))))))))))) (ss := []) (R := [(law02_GrowthTight_r3 s q10 q11 q12 q13), (law02_GrowthTight_r4 s q10 q11 q12 q13), (law02_GrowthTight_r5 s), (law02_GrowthTight_r6 s), (law02_short s) = true, (law02_GrowthTight_r7 s q10 q11 q12 q13 x2), (law02_GrowthTight_r8 s q10 q11 q12 q13), (law02_GrowthTight_r5 s), (law02_GrowthTight_r9 x2), (x2) = true, FC P GG 28 (A_ref02_Box b) [] (.bool (ref02_Box b)), (ref02_Box b) = true, FC P GG 32 (A_ref02_Season q) [] (.bool (ref02_Season q)), (ref02_Season q) = true, (law02_GrowthTight_r10 s b q q10 q11 q12 q13 x6), (law02_GrowthTight_r11 s b q q10 q11 q12 q13), (law02_GrowthTight_r5 s), (law02_GrowthTight_r12 x6), (x6.2 != 0) = false, (q.Cut) = true, (law02_GrowthTight_r20 s b q10 q11 q12 q13 x9), (law02_GrowthTight_r21 s b q10 q11 q12 q13), (law02_GrowthTight_r5 s), (law02_GrowthTight_r22 x9), (law02_GrowthTight_r23 s q q10 q11 q12 q13 x9 x10), (law02_GrowthTight_r24 s q q10 q11 q12 q13 x9), (law02_GrowthTight_r5 s), (law02_GrowthTight_r25 x10), (law02_GrowthTight_r26 s q q10 q11 q12 q13 x9 x11), (law02_GrowthTight_r27 s q q10 q11 q12 q13 x9), (law02_GrowthTight_r5 s), (law02_GrowthTight_r28 x11), (x10.2 != 0) = false, (x11.2 != 0) = false, (law02_GrowthTight_r32 x6 x10 x11), (law02_GrowthTight_r34 x6 x10 x11)]) (by kernel_rfl) ⟨law02_short_fc s q10 q11 q12 q13, law02_GrowthTight_p13 s q10 q11 q12 q13, law02_GrowthTight_p14 s, selfB_self 9 _ rfl _, h1, ref02_Species_fc fu s q10 q11 q12 q13 x2 h2, law02_GrowthTight_p15 s q10 q11 q12 q13, law02_GrowthTight_p14 s, selfB_self 9 _ rfl _, h3, ref02_Box_fc b, h4, ref02_Season_fc q, h5, growth_Step_fc fu s b q q10 q11 q12 q13 x6 h6, law02_GrowthTight_p16 s b q q10 q11 q12 q13, law02_GrowthTight_p14 s, selfB_self 9 _ rfl _, h7, h8, ref02_Cut_fc s b.Low.Age q10 q11 q12 q13 x9 h9, law02_GrowthTight_p29 s b q10 q11 q12 q13, law02_GrowthTight_p14 s, selfB_self 9 _ rfl _, growth_Grow_fc fu s (⟨x9.Low.Age, x9.Low.Shoots, x9.High.Height, x9.High.Girth⟩ : XStand) (⟨q.Light.High, q.Browse.Low, q.Mild.High⟩ : XWeather) q10 q11 q12 q13 x10 h10, law02_GrowthTight_p30 s q q10 q11 q12 q13 x9, law02_GrowthTight_p14 s, selfB_self 9 _ rfl _, growth_Grow_fc fu s (⟨x9.Low.Age, x9.High.Shoots, x9.Low.Height, x9.Low.Girth⟩ : XStand) (⟨q.Light.Low, q.Browse.High, q.Mild.Low⟩ : XWeather) q10 q11 q12 q13 x11 h11, law02_GrowthTight_p31 s q q10 q11 q12 q13 x9, law02_GrowthTight_p14 s, selfB_self 9 _ rfl _, h12, h13, h14, h15, trivial⟩ (by kernel_rfl)
                            · skip
                              have e : law02_GrowthTight fu s b q = some false := by unfold law02_GrowthTight; rw [h1, cond_true, h2, Option.bind_some, h3, cond_true, h4, cond_true, h5, cond_true, h6, Option.bind_some, h7, cond_false, h8, cond_true, h9, Option.bind_some, h10, Option.bind_some, h11, Option.bind_some, h12, cond_false, h13, cond_false, h14, cond_false]; first | done | rfl
                              rw [e] at hh
                              have hr := Option.some.inj hh
                              rw [← hr]
                              exact FSat.done pfT (fuel := 42) (hs := (hR 5 ((law02_GrowthTight_i0 s q10 q11 q12 q13) :: hE :: hE :: hE :: (law02_GrowthTight_i1 s q10 q11 q12 q13 x2) :: (hR 4 ((hB (hC (.bool (ref02_Box b))) true) :: (hR 4 ((hB (hC (.bool (ref02_Season q))) true) :: (hR 5 ((law02_GrowthTight_i2 s b q q10 q11 q12 q13 x6) :: (hR 7 (hF :: hE :: hT :: (hR 4 ((law02_GrowthTight_i17 s b q10 q11 q12 q13 x9) :: (hR 42 ((law02_GrowthTight_i18 s q q10 q11 q12 q13 x9 x10) :: (hR 19 ((law02_GrowthTight_i19 s q q10 q11 q12 q13 x9 x11) :: (hR 7 (hF :: hE :: hE :: hF :: (hR 12 ((hB hQ false) :: (hR 5 [])))))))))))))))))))))) (ss := []) (R := [(law02_GrowthTight_r3 s q10 q11 q12 q13), (law02_GrowthTight_r4 s q10 q11 q12 q13), (law02_GrowthTight_r5 s), (law02_GrowthTight_r6 s), (law02_short s) = true, (law02_GrowthTight_r7 s q10 q11 q12 q13 x2), (law02_GrowthTight_r8 s q10 q11 q12 q13), (law02_GrowthTight_r5 s), (law02_GrowthTight_r9 x2), (x2) = true, FC P GG 28 (A_ref02_Box b) [] (.bool (ref02_Box b)), (ref02_Box b) = true, FC P GG 32 (A_ref02_Season q) [] (.bool (ref02_Season q)), (ref02_Season q) = true, (law02_GrowthTight_r10 s b q q10 q11 q12 q13 x6), (law02_GrowthTight_r11 s b q q10 q11 q12 q13), (law02_GrowthTight_r5 s), (law02_GrowthTight_r12 x6), (x6.2 != 0) = false, (q.Cut) = true, (law02_GrowthTight_r20 s b q10 q11 q12 q13 x9), (law02_GrowthTight_r21 s b q10 q11 q12 q13), (law02_GrowthTight_r5 s), (law02_GrowthTight_r22 x9), (law02_GrowthTight_r23 s q q10 q11 q12 q13 x9 x10), (law02_GrowthTight_r24 s q q10 q11 q12 q13 x9), (law02_GrowthTight_r5 s), (law02_GrowthTight_r25 x10), (law02_GrowthTight_r26 s q q10 q11 q12 q13 x9 x11), (law02_GrowthTight_r27 s q q10 q11 q12 q13 x9), (law02_GrowthTight_r5 s), (law02_GrowthTight_r28 x11), (x10.2 != 0) = false, (x11.2 != 0) = false, (law02_GrowthTight_r35 x6 x10 x11)]) (by kernel_rfl) ⟨law02_short_fc s q10 q11 q12 q13, law02_GrowthTight_p13 s q10 q11 q12 q13, law02_GrowthTight_p14 s, selfB_self 9 _ rfl _, h1, ref02_Species_fc fu s q10 q11 q12 q13 x2 h2, law02_GrowthTight_p15 s q10 q11 q12 q13, law02_GrowthTight_p14 s, selfB_self 9 _ rfl _, h3, ref02_Box_fc b, h4, ref02_Season_fc q, h5, growth_Step_fc fu s b q q10 q11 q12 q13 x6 h6, law02_GrowthTight_p16 s b q q10 q11 q12 q13, law02_GrowthTight_p14 s, selfB_self 9 _ rfl _, h7, h8, ref02_Cut_fc s b.Low.Age q10 q11 q12 q13 x9 h9, law02_GrowthTight_p29 s b q10 q11 q12 q13, law02_GrowthTight_p14 s, selfB_self 9 _ rfl _, growth_Grow_fc fu s (⟨x9.Low.Age, x9.Low.Shoots, x9.High.Height, x9.High.Girth⟩ : XStand) (⟨q.Light.High, q.Browse.Low, q.Mild.High⟩ : XWeather) q10 q11 q12 q13 x10 h10, law02_GrowthTight_p30 s q q10 q11 q12 q13 x9, law02_GrowthTight_p14 s, selfB_self 9 _ rfl _, growth_Grow_fc fu s (⟨x9.Low.Age, x9.High.Shoots, x9.Low.Height, x9.Low.Girth⟩ : XStand) (⟨q.Light.Low, q.Browse.High, q.Mild.Low⟩ : XWeather) q10 q11 q12 q13 x11 h11, law02_GrowthTight_p31 s q q10 q11 q12 q13 x9, law02_GrowthTight_p14 s, selfB_self 9 _ rfl _, h12, h13, h14, trivial⟩ (by kernel_rfl)
                · skip
                  cases h9 : growth_Grow fu s (⟨b.Low.Age, b.Low.Shoots, b.High.Height, b.High.Girth⟩ : XStand) (⟨q.Light.High, q.Browse.Low, q.Mild.High⟩ : XWeather) with
                  | none =>
                    have e : law02_GrowthTight fu s b q = none := by unfold law02_GrowthTight; rw [h1, cond_true, h2, Option.bind_some, h3, cond_true, h4, cond_true, h5, cond_true, h6, Option.bind_some, h7, cond_false, h8, cond_false, h9, Option.bind_none]; first | done | rfl
                    rw [e] at hh; cases hh
                  | some x9 =>
                    cases h10 : growth_Grow fu s (⟨b.Low.Age, b.High.Shoots, b.Low.Height, b.Low.Girth⟩ : XStand) (⟨q.Light.Low, q.Browse.High, q.Mild.Low⟩ : XWeather) with
                    | none =>
                      have e : law02_GrowthTight fu s b q = none := by unfold law02_GrowthTight; rw [h1, cond_true, h2, Option.bind_some, h3, cond_true, h4, cond_true, h5, cond_true, h6, Option.bind_some, h7, cond_false, h8, cond_false, h9, Option.bind_some, h10, Option.bind_none]; first | done | rfl
                      rw [e] at hh; cases hh
                    | some x10 =>
                      rcases Bool.eq_false_or_eq_true (x9.2 != 0) with h11 | h11
                      · skip
                        have e : law02_GrowthTight fu s b q = some false := by unfold law02_GrowthTight; rw [h1, cond_true, h2, Option.bind_some, h3, cond_true, h4, cond_true, h5, cond_true, h6, Option.bind_some, h7, cond_false, h8, cond_false, h9, Option.bind_some, h10, Option.bind_some, h11, cond_true]; first | done | rfl
                        rw [e] at hh
                        have hr := Option.some.inj hh
                        rw [← hr]
                        exact FSat.done pfT (fuel := 41) (hs := (hR 5 ((law02_GrowthTight_i0 s q10 q11 q12 q13) :: hE :: hE :: hE :: (law02_GrowthTight_i1 s q10 q11 q12 q13 x2) :: (hR 4 ((hB (hC (.bool (ref02_Box b))) true) :: (hR 4 ((hB (hC (.bool (ref02_Season q))) true) :: (hR 5 ((law02_GrowthTight_i2 s b q q10 q11 q12 q13 x6) :: (hR 7 (hF :: hE :: hF :: (hR 41 ((law02_GrowthTight_i36 s b q q10 q11 q12 q13 x9) :: (hR 19 ((law02_GrowthTight_i37 s b q q10 q11 q12 q13 x10) :: (hR 7 [hT, hE, hE, hE])))))))))))))))) (ss := []) (R := [(law02_GrowthTight_r3 s q10 q11 q12 q13), (law02_GrowthTight_r4 s q10 q11 q12 q13), (law02_GrowthTight_r5 s), (law02_GrowthTight_r6 s), (law02_short s) = true, (law02_GrowthTight_r7 s q10 q11 q12 q13 x2), (law02_GrowthTight_r8 s q10 q11 q12 q13), (law02_GrowthTight_r5 s), (law02_GrowthTight_r9 x2), (x2) = true, FC P GG 28 (A_ref02_Box b) [] (.bool (ref02_Box b)), (ref02_Box b) = true, FC P GG 32 (A_ref02_Season q) [] (.bool (ref02_Season q)), (ref02_Season q) = true, (law02_GrowthTight_r10 s b q q10 q11 q12 q13 x6), (law02_GrowthTight_r11 s b q q10 q11 q12 q13), (law02_GrowthTight_r5 s), (law02_GrowthTight_r12 x6), (x6.2 != 0) = false, (q.Cut) = false, (law02_GrowthTight_r38 s b q q10 q11 q12 q13 x9), (law02_GrowthTight_r39 s b q q10 q11 q12 q13), (law02_GrowthTight_r5 s), (law02_GrowthTight_r40 x9), (law02_GrowthTight_r41 s b q q10 q11 q12 q13 x10), (law02_GrowthTight_r42 s b q q10 q11 q12 q13), (law02_GrowthTight_r5 s), (law02_GrowthTight_r25 x10), (x9.2 != 0) = true]) (by kernel_rfl) ⟨law02_short_fc s q10 q11 q12 q13, law02_GrowthTight_p13 s q10 q11 q12 q13, law02_GrowthTight_p14 s, selfB_self 9 _ rfl _, h1, ref02_Species_fc fu s q10 q11 q12 q13 x2 h2, law02_GrowthTight_p15 s q10 q11 q12 q13, law02_GrowthTight_p14 s, selfB_self 9 _ rfl _, h3, ref02_Box_fc b, h4, ref02_Season_fc q, h5, growth_Step_fc fu s b q q10 q11 q12 q13 x6 h6, law02_GrowthTight_p16 s b q q10 q11 q12 q13, law02_GrowthTight_p14 s, selfB_self 9 _ rfl _, h7, h8, growth_Grow_fc fu s (⟨b.Low.Age, b.Low.Shoots, b.High.Height, b.High.Girth⟩ : XStand) (⟨q.Light.High, q.Browse.Low, q.Mild.High⟩ : XWeather) q10 q11 q12 q13 x9 h9, law02_GrowthTight_p43 s b q q10 q11 q12 q13, law02_GrowthTight_p14 s, selfB_self 9 _ rfl _, growth_Grow_fc fu s (⟨b.Low.Age, b.High.Shoots, b.Low.Height, b.Low.Girth⟩ : XStand) (⟨q.Light.Low, q.Browse.High, q.Mild.Low⟩ : XWeather) q10 q11 q12 q13 x10 h10, law02_GrowthTight_p44 s b q q10 q11 q12 q13, law02_GrowthTight_p14 s, selfB_self 9 _ rfl _, h11, trivial⟩ (by kernel_rfl)
                      · skip
                        rcases Bool.eq_false_or_eq_true (x10.2 != 0) with h12 | h12
                        · skip
                          have e : law02_GrowthTight fu s b q = some false := by unfold law02_GrowthTight; rw [h1, cond_true, h2, Option.bind_some, h3, cond_true, h4, cond_true, h5, cond_true, h6, Option.bind_some, h7, cond_false, h8, cond_false, h9, Option.bind_some, h10, Option.bind_some, h11, cond_false, h12, cond_true]; first | done | rfl
                          rw [e] at hh
                          have hr := Option.some.inj hh
                          rw [← hr]
                          exact FSat.done pfT (fuel := 41) (hs := (hR 5 ((law02_GrowthTight_i0 s q10 q11 q12 q13) :: hE :: hE :: hE :: (law02_GrowthTight_i1 s q10 q11 q12 q13 x2) :: (hR 4 ((hB (hC (.bool (ref02_Box b))) true) :: (hR 4 ((hB (hC (.bool (ref02_Season q))) true) :: (hR 5 ((law02_GrowthTight_i2 s b q q10 q11 q12 q13 x6) :: (hR 7 (hF :: hE :: hF :: (hR 41 ((law02_GrowthTight_i36 s b q q10 q11 q12 q13 x9) :: (hR 19 ((law02_GrowthTight_i37 s b q q10 q11 q12 q13 x10) :: (hR 7 [hF, hE, hE, hT, hE, hE])))))))))))))))) (ss := []) (R := [(law02_GrowthTight_r3 s q10 q11 q12 q13), (law02_GrowthTight_r4 s q10 q11 q12 q13), (law02_GrowthTight_r5 s), (law02_GrowthTight_r6 s), (law02_short s) = true, (law02_GrowthTight_r7 s q10 q11 q12 q13 x2), (law02_GrowthTight_r8 s q10 q11 q12 q13), (law02_GrowthTight_r5 s), (law02_GrowthTight_r9 x2), (x2) = true, FC P GG 28 (A_ref02_Box b) [] (.bool (ref02_Box b)), (ref02_Box b) = true, FC P GG 32 (A_ref02_Season q) [] (.bool (ref02_Season q)), (ref02_Season q) = true, (law02_GrowthTight_r10 s b q q10 q11 q12 q13 x6), (law02_GrowthTight_r11 s b q q10 q11 q12 q13), (law02_GrowthTight_r5 s), (law02_GrowthTight_r12 x6), (x6.2 != 0) = false, (q.Cut) = false, (law02_GrowthTight_r38 s b q q10 q11 q12 q13 x9), (law02_GrowthTight_r39 s b q q10 q11 q12 q13), (law02_GrowthTight_r5 s), (law02_GrowthTight_r40 x9), (law02_GrowthTight_r41 s b q q10 q11 q12 q13 x10), (law02_GrowthTight_r42 s b q q10 q11 q12 q13), (law02_GrowthTight_r5 s), (law02_GrowthTight_r25 x10), (x9.2 != 0) = false, (x10.2 != 0) = true]) (by kernel_rfl) ⟨law02_short_fc s q10 q11 q12 q13, law02_GrowthTight_p13 s q10 q11 q12 q13, law02_GrowthTight_p14 s, selfB_self 9 _ rfl _, h1, ref02_Species_fc fu s q10 q11 q12 q13 x2 h2, law02_GrowthTight_p15 s q10 q11 q12 q13, law02_GrowthTight_p14 s, selfB_self 9 _ rfl _, h3, ref02_Box_fc b, h4, ref02_Season_fc q, h5, growth_Step_fc fu s b q q10 q11 q12 q13 x6 h6, law02_GrowthTight_p16 s b q q10 q11 q12 q13, law02_GrowthTight_p14 s, selfB_self 9 _ rfl _, h7, h8, growth_Grow_fc fu s (⟨b.Low.Age, b.Low.Shoots, b.High.Height, b.High.Girth⟩ : XStand) (⟨q.Light.High, q.Browse.Low, q.Mild.High⟩ : XWeather) q10 q11 q12 q13 x9 h9, law02_GrowthTight_p43 s b q q10 q11 q12 q13, law02_GrowthTight_p14 s, selfB_self 9 _ rfl _, growth_Grow_fc fu s (⟨b.Low.Age, b.High.Shoots, b.Low.Height, b.Low.Girth⟩ : XStand) (⟨q.Light.Low, q.Browse.High, q.Mild.Low⟩ : XWeather) q10 q11 q12 q13 x10 h10, law02_GrowthTight_p44 s b q q10 q11 q12 q13, law02_GrowthTight_p14 s, selfB_self 9 _ rfl _, h11, h12, trivial⟩ (by kernel_rfl)
                        · skip
                          rcases Bool.eq_false_or_eq_true (((x6.1.Low.Age == x10.1.Age) && ((x6.1.Low.Shoots == x9.1.Shoots) && ((x6.1.Low.Height == x10.1.Height) && ((x6.1.Low.Girth == x10.1.Girth) && true))))) with h13 | h13
                          · skip
                            rcases Bool.eq_false_or_eq_true (((x6.1.High.Age == x9.1.Age) && ((x6.1.High.Shoots == x10.1.Shoots) && ((x6.1.High.Height == x9.1.Height) && ((x6.1.High.Girth == x9.1.Girth) && true))))) with h14 | h14
                            · skip
                              cases h15 : law02_known fu with
                              | none =>
                                have e : law02_GrowthTight fu s b q = none := by unfold law02_GrowthTight; rw [h1, cond_true, h2, Option.bind_some, h3, cond_true, h4, cond_true, h5, cond_true, h6, Option.bind_some, h7, cond_false, h8, cond_false, h9, Option.bind_some, h10, Option.bind_some, h11, cond_false, h12, cond_false, h13, cond_true, h14, cond_true, h15, Option.bind_none]; first | done | rfl
                                rw [e] at hh; cases hh
                              | some x15 =>
                                have e : law02_GrowthTight fu s b q = some x15 := by unfold law02_GrowthTight; rw [h1, cond_true, h2, Option.bind_some, h3, cond_true, h4, cond_true, h5, cond_true, h6, Option.bind_some, h7, cond_false, h8, cond_false, h9, Option.bind_some, h10, Option.bind_some, h11, cond_false, h12, cond_false, h13, cond_true, h14, cond_true, h15, Option.bind_some]; first | done | rfl
                                rw [e] at hh
                                have hr := Option.some.inj hh
                                rw [← hr]
                                exact FSat.done pfT (fuel := 42) (hs := (hR 5 ((law02_GrowthTight_i0 s q10 q11 q12 q13) :: hE :: hE :: hE :: (law02_GrowthTight_i1 s q10 q11 q12 q13 x2) :: (hR 4 ((hB (hC (.bool (ref02_Box b))) true) :: (hR 4 ((hB (hC (.bool (ref02_Season q))) true) :: (hR 5 ((law02_GrowthTight_i2 s b q q10 q11 q12 q13 x6) :: (hR 7 (hF :: hE :: hF :: (hR 41 ((law02_GrowthTight_i36 s b q q10 q11 q12 q13 x9) :: (hR 19 ((law02_GrowthTight_i37 s b q q10 q11 q12 q13 x10) :: (hR 7 (hF :: hE :: hE :: hF :: (hR 12 ((hB hQ true) :: (hR 12 [(hB hQ true), hE, hE, (hC (.bool (x15))), hE, hE])))))))))))))))))))) (ss := []) (R := [(law02_GrowthTight_r3 s q10 q11 q12 q13), (law02_GrowthTight_r4 s q10 q11 q12 q13), (law02_GrowthTight_r5 s), (law02_GrowthTight_r6 s), (law02_short s) = true, (law02_GrowthTight_r7 s q10 q11 q12 q13 x2), (law02_GrowthTight_r8 s q10 q11 q12 q13), (law02_GrowthTight_r5 s), (law02_GrowthTight_r9 x2), (x2) = true, FC P GG 28 (A_ref02_Box b) [] (.bool (ref02_Box b)), (ref02_Box b) = true, FC P GG 32 (A_ref02_Season q) [] (.bool (ref02_Season q)), (ref02_Season q) = true, (law02_GrowthTight_r10 s b q q10 q11 q12 q13 x6), (law02_GrowthTight_r11 s b q q10 q11 q12 q13), (law02_GrowthTight_r5 s), (law02_GrowthTight_r12 x6), (x6.2 != 0) = false, (q.Cut) = false, (law02_GrowthTight_r38 s b q q10 q11 q12 q13 x9), (law02_GrowthTight_r39 s b q q10 q11 q12 q13), (law02_GrowthTight_r5 s), (law02_GrowthTight_r40 x9), (law02_GrowthTight_r41 s b q q10 q11 q12 q13 x10), (law02_GrowthTight_r42 s b q q10 q11 q12 q13), (law02_GrowthTight_r5 s), (law02_GrowthTight_r25 x10), (x9.2 != 0) = false, (x10.2 != 0) = false, (law02_GrowthTight_r45 x6 x9 x10), (law02_GrowthTight_r46 x6 x9 x10), FC P GG 18 (A_law02_known) [] (.bool (x15))]) (by kernel_rfl) ⟨law02_short_fc s q10 q11 q12 q13, law02_GrowthTight_p13 s q10 q11 q12 q13, law02_GrowthTight_p14 s, selfB_self 9 _ rfl _, h1, ref02_Species_fc fu s q10 q11 q12 q13 x2 h2, law02_GrowthTight_p15 s q10 q11 q12 q13, law02_GrowthTight_p14 s, selfB_self 9 _ rfl _, h3, ref02_Box_fc b, h4, ref02_Season_fc q, h5, growth_Step_fc fu s b q q10 q11 q12 q13 x6 h6, law02_GrowthTight_p16 s b q q10 q11 q12 q13, law02_GrowthTight_p14 s, selfB_self 9 _ rfl _, h7, h8, growth_Grow_fc fu s (⟨b.Low.Age, b.Low.Shoots, b.High.Height, b.High.Girth⟩ : XStand) (⟨q.Light.High, q.Browse.Low, q.Mild.High⟩ : XWeather) q10 q11 q12 q13 x9 h9, law02_GrowthTight_p43 s b q q10 q11 q12 q13, law02_GrowthTight_p14 s, selfB_self 9 _ rfl _, growth_Grow_fc fu s (⟨b.Low.Age, b.High.Shoots, b.Low.Height, b.Low.Girth⟩ : XStand) (⟨q.Light.Low, q.Browse.High, q.Mild.Low⟩ : XWeather) q10 q11 q12 q13 x10 h10, law02_GrowthTight_p44 s b q q10 q11 q12 q13, law02_GrowthTight_p14 s, selfB_self 9 _ rfl _, h11, h12, h13, h14, law02_known_fc fu  x15 h15, trivial⟩ (by kernel_rfl)
                            · skip
                              have e : law02_GrowthTight fu s b q = some false := by unfold law02_GrowthTight; rw [h1, cond_true, h2, Option.bind_some, h3, cond_true, h4, cond_true, h5, cond_true, h6, Option.bind_some, h7, cond_false, h8, cond_false, h9, Option.bind_some, h10, Option.bind_some, h11, cond_false, h12, cond_false, h13, cond_true, h14, cond_false]; first | done | rfl
                              rw [e] at hh
                              have hr := Option.some.inj hh
                              rw [← hr]
                              exact FSat.done pfT (fuel := 42) (hs := (hR 5 ((law02_GrowthTight_i0 s q10 q11 q12 q13) :: hE :: hE :: hE :: (law02_GrowthTight_i1 s q10 q11 q12 q13 x2) :: (hR 4 ((hB (hC (.bool (ref02_Box b))) true) :: (hR 4 ((hB (hC (.bool (ref02_Season q))) true) :: (hR 5 ((law02_GrowthTight_i2 s b q q10 q11 q12 q13 x6) :: (hR 7 (hF :: hE :: hF :: (hR 41 ((law02_GrowthTight_i36 s b q q10 q11 q12 q13 x9) :: (hR 19 ((law02_GrowthTight_i37 s b q q10 q11 q12 q13 x10) :: (hR 7 (hF :: hE :: hE :: hF :: (hR 12 ((hB hQ true) :: (hR 12 ((hB hQ false) :: (hR 4 [])))))))))))))))))))))) (ss := []) (R := [(law02_GrowthTight_r3 s q10 q11 q12 q13), (law02_GrowthTight_r4 s q10 q11 q12 q13), (law02_GrowthTight_r5 s), (law02_GrowthTight_r6 s), (law02_short s) = true, (law02_GrowthTight_r7 s q10 q11 q12 q13 x2), (law02_GrowthTight_r8 s q10 q11 q12 q13), (law02_GrowthTight_r5 s), (law02_GrowthTight_r9 x2), (x2) = true, FC P GG 28 (A_ref02_Box b) [] (.bool (ref02_Box b)), (ref02_Box b) = true, FC P GG 32 (A_ref02_Season q) [] (.bool (ref02_Season q)), (ref02_Season q) = true, (law02_GrowthTight_r10 s b q q10 q11 q12 q13 x6), (law02_GrowthTight_r11 s b q q10 q11 q12 q13), (law02_GrowthTight_r5 s), (law02_GrowthTight_r12 x6), (x6.2 != 0) = false, (q.Cut) = false, (law02_GrowthTight_r38 s b q q10 q11 q12 q13 x9), (law02_GrowthTight_r39 s b q q10 q11 q12 q13), (law02_GrowthTight_r5 s), (law02_GrowthTight_r40 x9), (law02_GrowthTight_r41 s b q q10 q11 q12 q13 x10), (law02_GrowthTight_r42 s b q q10 q11 q12 q13), (law02_GrowthTight_r5 s), (law02_GrowthTight_r25 x10), (x9.2 != 0) = false, (x10.2 != 0) = false, (law02_GrowthTight_r45 x6 x9 x10), (law02_GrowthTight_r47 x6 x9 x10)]) (by kernel_rfl) ⟨law02_short_fc s q10 q11 q12 q13, law02_GrowthTight_p13 s q10 q11 q12 q13, law02_GrowthTight_p14 s, selfB_self 9 _ rfl _, h1, ref02_Species_fc fu s q10 q11 q12 q13 x2 h2, law02_GrowthTight_p15 s q10 q11 q12 q13, law02_GrowthTight_p14 s, selfB_self 9 _ rfl _, h3, ref02_Box_fc b, h4, ref02_Season_fc q, h5, growth_Step_fc fu s b q q10 q11 q12 q13 x6 h6, law02_GrowthTight_p16 s b q q10 q11 q12 q13, law02_GrowthTight_p14 s, selfB_self 9 _ rfl _, h7, h8, growth_Grow_fc fu s (⟨b.Low.Age, b.Low.Shoots, b.High.Height, b.High.Girth⟩ : XStand) (⟨q.Light.High, q.Browse.Low, q.Mild.High⟩ : XWeather) q10 q11 q12 q13 x9 h9, law02_GrowthTight_p43 s b q q10 q11 q12 q13, law02_GrowthTight_p14 s, selfB_self 9 _ rfl _, growth_Grow_fc fu s (⟨b.Low.Age, b.High.Shoots, b.Low.Height, b.Low.Girth⟩ : XStand) (⟨q.Light.Low, q.Browse.High, q.Mild.Low⟩ : XWeather) q10 q11 q12 q13 x10 h10, law02_GrowthTight_p44 s b q q10 q11 q12 q13, law02_GrowthTight_p14 s, selfB_self 9 _ rfl _, h11, h12, h13, h14, trivial⟩ (by kernel_rfl)
                          · skip
                            have e : law02_GrowthTight fu s b q = some false := by unfold law02_GrowthTight; rw [h1, cond_true, h2, Option.bind_some, h3, cond_true, h4, cond_true, h5, cond_true, h6, Option.bind_some, h7, cond_false, h8, cond_false, h9, Option.bind_some, h10, Option.bind_some, h11, cond_false, h12, cond_false, h13, cond_false]; first | done | rfl
                            rw [e] at hh
                            have hr := Option.some.inj hh
                            rw [← hr]
                            exact FSat.done pfT (fuel := 42) (hs := (hR 5 ((law02_GrowthTight_i0 s q10 q11 q12 q13) :: hE :: hE :: hE :: (law02_GrowthTight_i1 s q10 q11 q12 q13 x2) :: (hR 4 ((hB (hC (.bool (ref02_Box b))) true) :: (hR 4 ((hB (hC (.bool (ref02_Season q))) true) :: (hR 5 ((law02_GrowthTight_i2 s b q q10 q11 q12 q13 x6) :: (hR 7 (hF :: hE :: hF :: (hR 41 ((law02_GrowthTight_i36 s b q q10 q11 q12 q13 x9) :: (hR 19 ((law02_GrowthTight_i37 s b q q10 q11 q12 q13 x10) :: (hR 7 (hF :: hE :: hE :: hF :: (hR 12 ((hB hQ false) :: (hR 5 [])))))))))))))))))))) (ss := []) (R := [(law02_GrowthTight_r3 s q10 q11 q12 q13), (law02_GrowthTight_r4 s q10 q11 q12 q13), (law02_GrowthTight_r5 s), (law02_GrowthTight_r6 s), (law02_short s) = true, (law02_GrowthTight_r7 s q10 q11 q12 q13 x2), (law02_GrowthTight_r8 s q10 q11 q12 q13), (law02_GrowthTight_r5 s), (law02_GrowthTight_r9 x2), (x2) = true, FC P GG 28 (A_ref02_Box b) [] (.bool (ref02_Box b)), (ref02_Box b) = true, FC P GG 32 (A_ref02_Season q) [] (.bool (ref02_Season q)), (ref02_Season q) = true, (law02_GrowthTight_r10 s b q q10 q11 q12 q13 x6), (law02_GrowthTight_r11 s b q q10 q11 q12 q13), (law02_GrowthTight_r5 s), (law02_GrowthTight_r12 x6), (x6.2 != 0) = false, (q.Cut) = false, (law02_GrowthTight_r38 s b q q10 q11 q12 q13 x9), (law02_GrowthTight_r39 s b q q10 q11 q12 q13), (law02_GrowthTight_r5 s), (law02_GrowthTight_r40 x9), (law02_GrowthTight_r41 s b q q10 q11 q12 q13 x10), (law02_GrowthTight_r42 s b q q10 q11 q12 q13), (law02_GrowthTight_r5 s), (law02_GrowthTight_r25 x10), (x9.2 != 0) = false, (x10.2 != 0) = false, (law02_GrowthTight_r48 x6 x9 x10)]) (by kernel_rfl) ⟨law02_short_fc s q10 q11 q12 q13, law02_GrowthTight_p13 s q10 q11 q12 q13, law02_GrowthTight_p14 s, selfB_self 9 _ rfl _, h1, ref02_Species_fc fu s q10 q11 q12 q13 x2 h2, law02_GrowthTight_p15 s q10 q11 q12 q13, law02_GrowthTight_p14 s, selfB_self 9 _ rfl _, h3, ref02_Box_fc b, h4, ref02_Season_fc q, h5, growth_Step_fc fu s b q q10 q11 q12 q13 x6 h6, law02_GrowthTight_p16 s b q q10 q11 q12 q13, law02_GrowthTight_p14 s, selfB_self 9 _ rfl _, h7, h8, growth_Grow_fc fu s (⟨b.Low.Age, b.Low.Shoots, b.High.Height, b.High.Girth⟩ : XStand) (⟨q.Light.High, q.Browse.Low, q.Mild.High⟩ : XWeather) q10 q11 q12 q13 x9 h9, law02_GrowthTight_p43 s b q q10 q11 q12 q13, law02_GrowthTight_p14 s, selfB_self 9 _ rfl _, growth_Grow_fc fu s (⟨b.Low.Age, b.High.Shoots, b.Low.Height, b.Low.Girth⟩ : XStand) (⟨q.Light.Low, q.Browse.High, q.Mild.Low⟩ : XWeather) q10 q11 q12 q13 x10 h10, law02_GrowthTight_p44 s b q q10 q11 q12 q13, law02_GrowthTight_p14 s, selfB_self 9 _ rfl _, h11, h12, h13, trivial⟩ (by kernel_rfl)
          · skip
            cases h6 : law02_known fu with
            | none =>
              have e : law02_GrowthTight fu s b q = none := by unfold law02_GrowthTight; rw [h1, cond_true, h2, Option.bind_some, h3, cond_true, h4, cond_true, h5, cond_false, h6, Option.bind_none]; first | done | rfl
              rw [e] at hh; cases hh
            | some x6 =>
              have e : law02_GrowthTight fu s b q = some x6 := by unfold law02_GrowthTight; rw [h1, cond_true, h2, Option.bind_some, h3, cond_true, h4, cond_true, h5, cond_false, h6, Option.bind_some]; first | done | rfl
              rw [e] at hh
              have hr := Option.some.inj hh
              rw [← hr]
              exact FSat.done pfT (fuel := 14) (hs := (hR 5 ((law02_GrowthTight_i0 s q10 q11 q12 q13) :: hE :: hE :: hE :: (law02_GrowthTight_i1 s q10 q11 q12 q13 x2) :: (hR 4 ((hB (hC (.bool (ref02_Box b))) true) :: (hR 4 [(hB (hC (.bool (ref02_Season q))) false), hE, hE, (hC (.bool (x6))), hE])))))) (ss := []) (R := [(law02_GrowthTight_r3 s q10 q11 q12 q13), (law02_GrowthTight_r4 s q10 q11 q12 q13), (law02_GrowthTight_r5 s), (law02_GrowthTight_r6 s), (law02_short s) = true, (law02_GrowthTight_r7 s q10 q11 q12 q13 x2), (law02_GrowthTight_r8 s q10 q11 q12 q13), (law02_GrowthTight_r5 s), (law02_GrowthTight_r9 x2), (x2) = true, FC P GG 28 (A_ref02_Box b) [] (.bool (ref02_Box b)), (ref02_Box b) = true, FC P GG 32 (A_ref02_Season q) [] (.bool (ref02_Season q)), (ref02_Season q) = false, FC P GG 18 (A_law02_known) [] (.bool (x6))]) (by kernel_rfl) ⟨law02_short_fc s q10 q11 q12 q13, law02_GrowthTight_p13 s q10 q11 q12 q13, law02_GrowthTight_p14 s, selfB_self 9 _ rfl _, h1, ref02_Species_fc fu s q10 q11 q12 q13 x2 h2, law02_GrowthTight_p15 s q10 q11 q12 q13, law02_GrowthTight_p14 s, selfB_self 9 _ rfl _, h3, ref02_Box_fc b, h4, ref02_Season_fc q, h5, law02_known_fc fu  x6 h6, trivial⟩ (by kernel_rfl)
        · skip
          cases h5 : law02_known fu with
          | none =>
            have e : law02_GrowthTight fu s b q = none := by unfold law02_GrowthTight; rw [h1, cond_true, h2, Option.bind_some, h3, cond_true, h4, cond_false, h5, Option.bind_none]; first | done | rfl
            rw [e] at hh; cases hh
          | some x5 =>
            have e : law02_GrowthTight fu s b q = some x5 := by unfold law02_GrowthTight; rw [h1, cond_true, h2, Option.bind_some, h3, cond_true, h4, cond_false, h5, Option.bind_some]; first | done | rfl
            rw [e] at hh
            have hr := Option.some.inj hh
            rw [← hr]
            exact FSat.done pfT (fuel := 14) (hs := (hR 5 ((law02_GrowthTight_i0 s q10 q11 q12 q13) :: hE :: hE :: hE :: (law02_GrowthTight_i1 s q10 q11 q12 q13 x2) :: (hR 4 ((hB (hC (.bool (ref02_Box b))) false) :: (hR 4 [(hC (.bool (x5))), hE])))))) (ss := []) (R := [(law02_GrowthTight_r3 s q10 q11 q12 q13), (law02_GrowthTight_r4 s q10 q11 q12 q13), (law02_GrowthTight_r5 s), (law02_GrowthTight_r6 s), (law02_short s) = true, (law02_GrowthTight_r7 s q10 q11 q12 q13 x2), (law02_GrowthTight_r8 s q10 q11 q12 q13), (law02_GrowthTight_r5 s), (law02_GrowthTight_r9 x2), (x2) = true, FC P GG 28 (A_ref02_Box b) [] (.bool (ref02_Box b)), (ref02_Box b) = false, FC P GG 18 (A_law02_known) [] (.bool (x5))]) (by kernel_rfl) ⟨law02_short_fc s q10 q11 q12 q13, law02_GrowthTight_p13 s q10 q11 q12 q13, law02_GrowthTight_p14 s, selfB_self 9 _ rfl _, h1, ref02_Species_fc fu s q10 q11 q12 q13 x2 h2, law02_GrowthTight_p15 s q10 q11 q12 q13, law02_GrowthTight_p14 s, selfB_self 9 _ rfl _, h3, ref02_Box_fc b, h4, law02_known_fc fu  x5 h5, trivial⟩ (by kernel_rfl)
      · skip
        cases h4 : law02_known fu with
        | none =>
          have e : law02_GrowthTight fu s b q = none := by unfold law02_GrowthTight; rw [h1, cond_true, h2, Option.bind_some, h3, cond_false, h4, Option.bind_none]; first | done | rfl
          rw [e] at hh; cases hh
        | some x4 =>
          have e : law02_GrowthTight fu s b q = some x4 := by unfold law02_GrowthTight; rw [h1, cond_true, h2, Option.bind_some, h3, cond_false, h4, Option.bind_some]; first | done | rfl
          rw [e] at hh
          have hr := Option.some.inj hh
          rw [← hr]
          exact FSat.done pfT (fuel := 14) (hs := (hR 5 ((law02_GrowthTight_i0 s q10 q11 q12 q13) :: hE :: hE :: hE :: (law02_GrowthTight_i49 s q10 q11 q12 q13 x2) :: (hR 6 [(hC (.bool (x4))), hE])))) (ss := []) (R := [(law02_GrowthTight_r3 s q10 q11 q12 q13), (law02_GrowthTight_r4 s q10 q11 q12 q13), (law02_GrowthTight_r5 s), (law02_GrowthTight_r6 s), (law02_short s) = true, (law02_GrowthTight_r7 s q10 q11 q12 q13 x2), (law02_GrowthTight_r8 s q10 q11 q12 q13), (law02_GrowthTight_r5 s), (law02_GrowthTight_r9 x2), (x2) = false, FC P GG 18 (A_law02_known) [] (.bool (x4))]) (by kernel_rfl) ⟨law02_short_fc s q10 q11 q12 q13, law02_GrowthTight_p13 s q10 q11 q12 q13, law02_GrowthTight_p14 s, selfB_self 9 _ rfl _, h1, ref02_Species_fc fu s q10 q11 q12 q13 x2 h2, law02_GrowthTight_p15 s q10 q11 q12 q13, law02_GrowthTight_p14 s, selfB_self 9 _ rfl _, h3, law02_known_fc fu  x4 h4, trivial⟩ (by kernel_rfl)
  · skip
    cases h2 : law02_known fu with
    | none =>
      have e : law02_GrowthTight fu s b q = none := by unfold law02_GrowthTight; rw [h1, cond_false, h2, Option.bind_none]; first | done | rfl
      rw [e] at hh; cases hh
    | some x2 =>
      have e : law02_GrowthTight fu s b q = some x2 := by unfold law02_GrowthTight; rw [h1, cond_false, h2, Option.bind_some]; first | done | rfl
      rw [e] at hh
      have hr := Option.some.inj hh
      rw [← hr]
      exact FSat.done pfT (fuel := 14) (hs := (hR 5 ((law02_GrowthTight_i50 s q10 q11 q12 q13) :: (hR 7 [(hC (.bool (x2))), hE])))) (ss := []) (R := [(law02_GrowthTight_r3 s q10 q11 q12 q13), (law02_GrowthTight_r4 s q10 q11 q12 q13), (law02_GrowthTight_r5 s), (law02_GrowthTight_r6 s), (law02_short s) = false, FC P GG 18 (A_law02_known) [] (.bool (x2))]) (by kernel_rfl) ⟨law02_short_fc s q10 q11 q12 q13, law02_GrowthTight_p13 s q10 q11 q12 q13, law02_GrowthTight_p14 s, selfB_self 9 _ rfl _, h1, law02_known_fc fu  x2 h2, trivial⟩ (by kernel_rfl)

/- greenhew/greenhewref02.Get -/
abbrev A_ref02_Get (b : XBox) (k : Int) : List Value := [.agg #[I (b.Low.Age), I (b.Low.Shoots), I (b.Low.Height), I (b.Low.Girth), I (b.High.Age), I (b.High.Shoots), I (b.High.Height), I (b.High.Girth)], I (k)]
noncomputable def ref02_Get (b : XBox) (k : Int) : XSpan :=
  bif k == 1 then (⟨b.Low.Shoots, b.High.Shoots⟩ : XSpan)
  else (bif k == 2 then (⟨b.Low.Height, b.High.Height⟩ : XSpan)
    else (⟨b.Low.Girth, b.High.Girth⟩ : XSpan))
theorem ref02_Get_fc (b : XBox) (k : Int) : FC P GG 75 [.agg #[I (b.Low.Age), I (b.Low.Shoots), I (b.Low.Height), I (b.Low.Girth), I (b.High.Age), I (b.High.Shoots), I (b.High.Height), I (b.High.Girth)], I (k)] [] (.agg #[I ((ref02_Get b k).Low), I ((ref02_Get b k).High)]) := by
  refine FC.of_fsat 31 100 Tryd.func75 (by kernel_rfl) (by kernel_rfl) (by kernel_rfl) trivial ?_
  rcases Bool.eq_false_or_eq_true (k == 1) with h1 | h1
  · skip
    have e : ref02_Get b k = (⟨b.Low.Shoots, b.High.Shoots⟩ : XSpan) := by unfold ref02_Get; rw [h1, cond_true]; first | done | rfl
    rw [e]
    exact FSat.done pfT (fuel := 17) (hs := (hE :: hE :: hE :: hT :: (hR 9 []))) (ss := []) (R := [(k == 1) = true]) (by kernel_rfl) ⟨h1, trivial⟩ (by kernel_rfl)
  · skip
    rcases Bool.eq_false_or_eq_true (k == 2) with h2 | h2
    · skip
      have e : ref02_Get b k = (⟨b.Low.Height, b.High.Height⟩ : XSpan) := by unfold ref02_Get; rw [h1, cond_false, h2, cond_true]; first | done | rfl
      rw [e]
      exact FSat.done pfT (fuel := 20) (hs := (hE :: hE :: hE :: hF :: hE :: hT :: (hR 9 []))) (ss := []) (R := [(k == 1) = false, (k == 2) = true]) (by kernel_rfl) ⟨h1, h2, trivial⟩ (by kernel_rfl)
    · skip
      have e : ref02_Get b k = (⟨b.Low.Girth, b.High.Girth⟩ : XSpan) := by unfold ref02_Get; rw [h1, cond_false, h2, cond_false]; first | done | rfl
      rw [e]
      exact FSat.done pfT (fuel := 22) (hs := (hE :: hE :: hE :: hF :: hE :: hF :: (hR 9 []))) (ss := []) (R := [(k == 1) = false, (k == 2) = false]) (by kernel_rfl) ⟨h1, h2, trivial⟩ (by kernel_rfl)

/- greenhew/greenhewref02.Set -/
abbrev ref02_Set_r0 : Prop := (.pointer (some ⟨101, 1, none⟩) : Value) = .pointer (some ⟨101, 1, none⟩)
abbrev A_ref02_Set (b : XBox) (k : Int) (s : XSpan) : List Value := [.agg #[I (b.Low.Age), I (b.Low.Shoots), I (b.Low.Height), I (b.Low.Girth), I (b.High.Age), I (b.High.Shoots), I (b.High.Height), I (b.High.Girth)], I (k), .agg #[I (s.Low), I (s.High)]]
noncomputable def ref02_Set (b : XBox) (k : Int) (s : XSpan) : XBox :=
  bif k == 1 then (⟨(⟨b.Low.Age, s.Low, b.Low.Height, b.Low.Girth⟩ : XStand), (⟨b.High.Age, s.High, b.High.Height, b.High.Girth⟩ : XStand)⟩ : XBox)
  else (bif k == 2 then (⟨(⟨b.Low.Age, b.Low.Shoots, s.Low, b.Low.Girth⟩ : XStand), (⟨b.High.Age, b.High.Shoots, s.High, b.High.Girth⟩ : XStand)⟩ : XBox)
    else (⟨(⟨b.Low.Age, b.Low.Shoots, b.Low.Height, s.Low⟩ : XStand), (⟨b.High.Age, b.High.Shoots, b.High.Height, s.High⟩ : XStand)⟩ : XBox))
theorem ref02_Set_fc (b : XBox) (k : Int) (s : XSpan) : FC P GG 82 [.agg #[I (b.Low.Age), I (b.Low.Shoots), I (b.Low.Height), I (b.Low.Girth), I (b.High.Age), I (b.High.Shoots), I (b.High.Height), I (b.High.Girth)], I (k), .agg #[I (s.Low), I (s.High)]] [] (.agg #[I (((ref02_Set b k s).Low).Age), I (((ref02_Set b k s).Low).Shoots), I (((ref02_Set b k s).Low).Height), I (((ref02_Set b k s).Low).Girth), I (((ref02_Set b k s).High).Age), I (((ref02_Set b k s).High).Shoots), I (((ref02_Set b k s).High).Height), I (((ref02_Set b k s).High).Girth)]) := by
  refine FC.of_fsat 37 100 Tryd.func82 (by kernel_rfl) (by kernel_rfl) (by kernel_rfl) trivial ?_
  rcases Bool.eq_false_or_eq_true (k == 1) with h1 | h1
  · skip
    have e : ref02_Set b k s = (⟨(⟨b.Low.Age, s.Low, b.Low.Height, b.Low.Girth⟩ : XStand), (⟨b.High.Age, s.High, b.High.Height, b.High.Girth⟩ : XStand)⟩ : XBox) := by unfold ref02_Set; rw [h1, cond_true]; first | done | rfl
    rw [e]
    exact FSat.done pfT (fuel := 19) (hs := (hR 4 (hT :: (hR 13 [])))) (ss := []) (R := [(k == 1) = true, ref02_Set_r0, (I (s.High) : Value) = I (s.High)]) (by kernel_rfl) ⟨h1, rfl, rfl, trivial⟩ (by kernel_rfl)
  · skip
    rcases Bool.eq_false_or_eq_true (k == 2) with h2 | h2
    · skip
      have e : ref02_Set b k s = (⟨(⟨b.Low.Age, b.Low.Shoots, s.Low, b.Low.Girth⟩ : XStand), (⟨b.High.Age, b.High.Shoots, s.High, b.High.Girth⟩ : XStand)⟩ : XBox) := by unfold ref02_Set; rw [h1, cond_false, h2, cond_true]; first | done | rfl
      rw [e]
      exact FSat.done pfT (fuel := 22) (hs := (hR 4 (hF :: hE :: hT :: (hR 13 [])))) (ss := []) (R := [(k == 1) = false, (k == 2) = true, ref02_Set_r0, (I (s.High) : Value) = I (s.High)]) (by kernel_rfl) ⟨h1, h2, rfl, rfl, trivial⟩ (by kernel_rfl)
    · skip
      have e : ref02_Set b k s = (⟨(⟨b.Low.Age, b.Low.Shoots, b.Low.Height, s.Low⟩ : XStand), (⟨b.High.Age, b.High.Shoots, b.High.Height, s.High⟩ : XStand)⟩ : XBox) := by unfold ref02_Set; rw [h1, cond_false, h2, cond_false]; first | done | rfl
      rw [e]
      exact FSat.done pfT (fuel := 22) (hs := (hR 4 (hF :: hE :: hF :: (hR 13 [])))) (ss := []) (R := [(k == 1) = false, (k == 2) = false, ref02_Set_r0, (I (s.High) : Value) = I (s.High)]) (by kernel_rfl) ⟨h1, h2, rfl, rfl, trivial⟩ (by kernel_rfl)

/- greenhew/greenhewref02.Spread -/
abbrev A_ref02_Spread (b : XBox) : List Value := [.agg #[I (b.Low.Age), I (b.Low.Shoots), I (b.Low.Height), I (b.Low.Girth), I (b.High.Age), I (b.High.Shoots), I (b.High.Height), I (b.High.Girth)]]
noncomputable def ref02_Spread (b : XBox) : Int :=
  W ((ref02_Wood b.High) - (ref02_Wood b.Low))
theorem ref02_Spread_fc (b : XBox) : FC P GG 54 [.agg #[I (b.Low.Age), I (b.Low.Shoots), I (b.Low.Height), I (b.Low.Girth), I (b.High.Age), I (b.High.Shoots), I (b.High.Height), I (b.High.Girth)]] [] (I (ref02_Spread b)) := by
  refine FC.of_fsat 10 100 Tryd.func54 (by kernel_rfl) (by kernel_rfl) (by kernel_rfl) trivial ?_
  have e : ref02_Spread b = W ((ref02_Wood b.High) - (ref02_Wood b.Low)) := by unfold ref02_Spread; rfl
  rw [e]
  exact FSat.done pfT (fuel := 10) (hs := (hR 4 [(hC (I (ref02_Wood b.High))), hE, hE, (hC (I (ref02_Wood b.Low))), hE, hE])) (ss := []) (R := [FC P GG 24 (A_ref02_Wood b.High) [] (I (ref02_Wood b.High)), FC P GG 24 (A_ref02_Wood b.Low) [] (I (ref02_Wood b.Low))]) (by kernel_rfl) ⟨ref02_Wood_fc b.High, ref02_Wood_fc b.Low, trivial⟩ (by kernel_rfl)

/- greenhew/greenhewref02.Promise -/
noncomputable abbrev ref02_Promise_i0 (b : XBox) (k : Int) (e_2 : Int) (v9 : Int) : Hint := (hC (.agg #[I (((ref02_Set b k (⟨imax ((ref02_Get b k).Low) (W (v9 - e_2)), imin ((ref02_Get b k).High) (W (v9 + e_2))⟩ : XSpan)).Low).Age), I (((ref02_Set b k (⟨imax ((ref02_Get b k).Low) (W (v9 - e_2)), imin ((ref02_Get b k).High) (W (v9 + e_2))⟩ : XSpan)).Low).Shoots), I (((ref02_Set b k (⟨imax ((ref02_Get b k).Low) (W (v9 - e_2)), imin ((ref02_Get b k).High) (W (v9 + e_2))⟩ : XSpan)).Low).Height), I (((ref02_Set b k (⟨imax ((ref02_Get b k).Low) (W (v9 - e_2)), imin ((ref02_Get b k).High) (W (v9 + e_2))⟩ : XSpan)).Low).Girth), I (((ref02_Set b k (⟨imax ((ref02_Get b k).Low) (W (v9 - e_2)), imin ((ref02_Get b k).High) (W (v9 + e_2))⟩ : XSpan)).High).Age), I (((ref02_Set b k (⟨imax ((ref02_Get b k).Low) (W (v9 - e_2)), imin ((ref02_Get b k).High) (W (v9 + e_2))⟩ : XSpan)).High).Shoots), I (((ref02_Set b k (⟨imax ((ref02_Get b k).Low) (W (v9 - e_2)), imin ((ref02_Get b k).High) (W (v9 + e_2))⟩ : XSpan)).High).Height), I (((ref02_Set b k (⟨imax ((ref02_Get b k).Low) (W (v9 - e_2)), imin ((ref02_Get b k).High) (W (v9 + e_2))⟩ : XSpan)).High).Girth)]))
noncomputable abbrev ref02_Promise_i1 (b : XBox) (k : Int) (e_2 : Int) (v9 : Int) : Hint := (hC (I (ref02_Spread (⟨((ref02_Set b k (⟨imax ((ref02_Get b k).Low) (W (v9 - e_2)), imin ((ref02_Get b k).High) (W (v9 + e_2))⟩ : XSpan)).Low), ((ref02_Set b k (⟨imax ((ref02_Get b k).Low) (W (v9 - e_2)), imin ((ref02_Get b k).High) (W (v9 + e_2))⟩ : XSpan)).High)⟩ : XBox))))
abbrev ref02_Promise_r2 (b : XBox) (k : Int) (e_2 : Int) (v9 : Int) : Prop := FC P GG 82 (A_ref02_Set b k (⟨imax ((ref02_Get b k).Low) (W (v9 - e_2)), imin ((ref02_Get b k).High) (W (v9 + e_2))⟩ : XSpan)) [] (.agg #[I (((ref02_Set b k (⟨imax ((ref02_Get b k).Low) (W (v9 - e_2)), imin ((ref02_Get b k).High) (W (v9 + e_2))⟩ : XSpan)).Low).Age), I (((ref02_Set b k (⟨imax ((ref02_Get b k).Low) (W (v9 - e_2)), imin ((ref02_Get b k).High) (W (v9 + e_2))⟩ : XSpan)).Low).Shoots), I (((ref02_Set b k (⟨imax ((ref02_Get b k).Low) (W (v9 - e_2)), imin ((ref02_Get b k).High) (W (v9 + e_2))⟩ : XSpan)).Low).Height), I (((ref02_Set b k (⟨imax ((ref02_Get b k).Low) (W (v9 - e_2)), imin ((ref02_Get b k).High) (W (v9 + e_2))⟩ : XSpan)).Low).Girth), I (((ref02_Set b k (⟨imax ((ref02_Get b k).Low) (W (v9 - e_2)), imin ((ref02_Get b k).High) (W (v9 + e_2))⟩ : XSpan)).High).Age), I (((ref02_Set b k (⟨imax ((ref02_Get b k).Low) (W (v9 - e_2)), imin ((ref02_Get b k).High) (W (v9 + e_2))⟩ : XSpan)).High).Shoots), I (((ref02_Set b k (⟨imax ((ref02_Get b k).Low) (W (v9 - e_2)), imin ((ref02_Get b k).High) (W (v9 + e_2))⟩ : XSpan)).High).Height), I (((ref02_Set b k (⟨imax ((ref02_Get b k).Low) (W (v9 - e_2)), imin ((ref02_Get b k).High) (W (v9 + e_2))⟩ : XSpan)).High).Girth)])
abbrev ref02_Promise_r3 (b : XBox) (k : Int) (e_2 : Int) (v9 : Int) : Prop := FC P GG 54 (A_ref02_Spread (⟨((ref02_Set b k (⟨imax ((ref02_Get b k).Low) (W (v9 - e_2)), imin ((ref02_Get b k).High) (W (v9 + e_2))⟩ : XSpan)).Low), ((ref02_Set b k (⟨imax ((ref02_Get b k).Low) (W (v9 - e_2)), imin ((ref02_Get b k).High) (W (v9 + e_2))⟩ : XSpan)).High)⟩ : XBox)) [] (I (ref02_Spread (⟨((ref02_Set b k (⟨imax ((ref02_Get b k).Low) (W (v9 - e_2)), imin ((ref02_Get b k).High) (W (v9 + e_2))⟩ : XSpan)).Low), ((ref02_Set b k (⟨imax ((ref02_Get b k).Low) (W (v9 - e_2)), imin ((ref02_Get b k).High) (W (v9 + e_2))⟩ : XSpan)).High)⟩ : XBox)))
theorem ref02_Promise_p4 (b : XBox) (k : Int) (e_2 : Int) (v9 : Int) : (ref02_Promise_r2 b k e_2 v9) := ref02_Set_fc b k (⟨imax ((ref02_Get b k).Low) (W (v9 - e_2)), imin ((ref02_Get b k).High) (W (v9 + e_2))⟩ : XSpan)
theorem ref02_Promise_p5 (b : XBox) (k : Int) (e_2 : Int) (v9 : Int) : (ref02_Promise_r3 b k e_2 v9) := ref02_Spread_fc (⟨((ref02_Set b k (⟨imax ((ref02_Get b k).Low) (W (v9 - e_2)), imin ((ref02_Get b k).High) (W (v9 + e_2))⟩ : XSpan)).Low), ((ref02_Set b k (⟨imax ((ref02_Get b k).Low) (W (v9 - e_2)), imin ((ref02_Get b k).High) (W (v9 + e_2))⟩ : XSpan)).High)⟩ : XBox)
noncomputable abbrev ref02_Promise_i6 (b : XBox) (k : Int) : Hint := (hC (.agg #[I ((ref02_Get b k).Low), I ((ref02_Get b k).High)]))
abbrev ref02_Promise_r7 (b : XBox) (k : Int) : Prop := FC P GG 75 (A_ref02_Get b k) [] (.agg #[I ((ref02_Get b k).Low), I ((ref02_Get b k).High)])
abbrev A_ref02_Promise (b : XBox) (k : Int) (e_2 : Int) : List Value := [.agg #[I (b.Low.Age), I (b.Low.Shoots), I (b.Low.Height), I (b.Low.Girth), I (b.High.Age), I (b.High.Shoots), I (b.High.Height), I (b.High.Girth)], I (k), I (e_2)]
noncomputable def ref02_Promise_L (fu : Nat) (b : XBox) (k : Int) (e_2 : Int) : Nat → (Int → Int → Option Int)
  | 0 => (fun _ _ => none)
  | fk + 1 => (fun v7 v9 => bif decide (v9 ≤ ((ref02_Get b k).High)) then ref02_Promise_L fu b k e_2 fk (imax v7 (ref02_Spread (⟨((ref02_Set b k (⟨imax ((ref02_Get b k).Low) (W (v9 - e_2)), imin ((ref02_Get b k).High) (W (v9 + e_2))⟩ : XSpan)).Low), ((ref02_Set b k (⟨imax ((ref02_Get b k).Low) (W (v9 - e_2)), imin ((ref02_Get b k).High) (W (v9 + e_2))⟩ : XSpan)).High)⟩ : XBox))) (W (v9 + 1))
      else some v7)
theorem ref02_Promise_L_s0 (fu : Nat) (b : XBox) (k : Int) (e_2 : Int) (fk : Nat) (v7 : Int) (v9 : Int) : ref02_Promise_L fu b k e_2 (fk + 1) v7 v9 = (bif decide (v9 ≤ ((ref02_Get b k).High)) then ref02_Promise_L fu b k e_2 fk (imax v7 (ref02_Spread (⟨((ref02_Set b k (⟨imax ((ref02_Get b k).Low) (W (v9 - e_2)), imin ((ref02_Get b k).High) (W (v9 + e_2))⟩ : XSpan)).Low), ((ref02_Set b k (⟨imax ((ref02_Get b k).Low) (W (v9 - e_2)), imin ((ref02_Get b k).High) (W (v9 + e_2))⟩ : XSpan)).High)⟩ : XBox))) (W (v9 + 1))
      else some v7) := rfl
noncomputable def ref02_Promise (fu : Nat) (b : XBox) (k : Int) (e_2 : Int) : Option Int :=
  ref02_Promise_L fu b k e_2 fu 0 ((ref02_Get b k).Low)
theorem ref02_Promise_L_fs (fu : Nat) (b : XBox) (k : Int) (e_2 : Int) : ∀ fk, (∀ (v7 : Int) (v9 : Int) (r : Int), ref02_Promise_L fu b k e_2 fk v7 v9 = some r → FSat P GG Tryd.f92 (I (r)) (ids (looses [])) 41 [.lp (cA (bodyOf Tryd.f92) [1, 1, 1, 0, 1, 0, 0]), .blk 0, .code (cA (bodyOf Tryd.f92) [1, 1, 1, 1])] (tOf 41 [(1, I (k)), (2, I (e_2)), (3, .pointer (some ⟨100, 0, none⟩)), (6, I (0)), (7, I (v7)), (8, .pointer (some ⟨101, 0, none⟩)), (9, I (v9))]) (mOf 102 [(0, .rom [I (1), I (2), I (3)] .glob), (100, .row [I (b.Low.Age), I (b.Low.Shoots), I (b.Low.Height), I (b.Low.Girth), I (b.High.Age), I (b.High.Shoots), I (b.High.Height), I (b.High.Girth)] 0), (101, .row [I ((ref02_Get b k).Low), I ((ref02_Get b k).High)] 0)])) := by
  intro fk
  induction fk with
  | zero => exact fun _ _ r hh => by cases hh
  | succ fk ih =>
    · intro v7 v9 r hh
      rcases Bool.eq_false_or_eq_true (decide (v9 ≤ ((ref02_Get b k).High))) with h1 | h1
      · skip
        have e : ref02_Promise_L fu b k e_2 (fk + 1) v7 v9 = ref02_Promise_L fu b k e_2 fk (imax v7 (ref02_Spread (⟨((ref02_Set b k (⟨imax ((ref02_Get b k).Low) (W (v9 - e_2)), imin ((ref02_Get b k).High) (W (v9 + e_2))⟩ : XSpan)).Low), ((ref02_Set b k (⟨imax ((ref02_Get b k).Low) (W (v9 - e_2)), imin ((ref02_Get b k).High) (W (v9 + e_2))⟩ : XSpan)).High)⟩ : XBox))) (W (v9 + 1)) := by rw [ref02_Promise_L_s0]; rw [h1, cond_true]; first | done | rfl
        rw [e] at hh
        have nx := ih (imax v7 (ref02_Spread (⟨((ref02_Set b k (⟨imax ((ref02_Get b k).Low) (W (v9 - e_2)), imin ((ref02_Get b k).High) (W (v9 + e_2))⟩ : XSpan)).Low), ((ref02_Set b k (⟨imax ((ref02_Get b k).Low) (W (v9 - e_2)), imin ((ref02_Get b k).High) (W (v9 + e_2))⟩ : XSpan)).High)⟩ : XBox))) (W (v9 + 1)) r hh
        refine FSat.stop pfT (fuel := 17) (hs := (hE :: hE :: hE :: hT :: (hR 16 ((ref02_Promise_i0 b k e_2 v9) :: (ref02_Promise_i1 b k e_2 v9) :: (hR 5 []))))) (ss := [.go, .st [1, 2, 3, 6, 7, 8, 9] [0, 100, 101]]) (R := [(decide (v9 ≤ ((ref02_Get b k).High))) = true, (ref02_Promise_r2 b k e_2 v9), (ref02_Promise_r3 b k e_2 v9)]) (by kernel_rfl) ⟨h1, ref02_Promise_p4 b k e_2 v9, ref02_Promise_p5 b k e_2 v9, trivial⟩ 102 (by kernel_rfl) ?_ nx
        exact ⟨PinL.lit (by kernel_rfl), PinL.lit (by kernel_rfl), PinL.lit (by kernel_rfl), trivial⟩
      · skip
        have e : ref02_Promise_L fu b k e_2 (fk + 1) v7 v9 = some v7 := by rw [ref02_Promise_L_s0]; rw [h1, cond_false]; first | done | rfl
        rw [e] at hh
        have hr := Option.some.inj hh
        rw [← hr]
        exact FSat.done pfT (fuel := 14) (hs := [hE, hE, hE, hF, hE, hE]) (ss := [.go]) (R := [(decide (v9 ≤ ((ref02_Get b k).High))) = false]) (by kernel_rfl) ⟨h1, trivial⟩ (by kernel_rfl)
theorem ref02_Promise_fc (fu : Nat) (b : XBox) (k : Int) (e_2 : Int) (r : Int) (hh : ref02_Promise fu b k e_2 = some r) : FC P GG 92 [.agg #[I (b.Low.Age), I (b.Low.Shoots), I (b.Low.Height), I (b.Low.Girth), I (b.High.Age), I (b.High.Shoots), I (b.High.Height), I (b.High.Girth)], I (k), I (e_2)] [] (I (r)) := by
  refine FC.of_fsat 41 100 Tryd.func92 (by kernel_rfl) (by kernel_rfl) (by kernel_rfl) trivial ?_
  have e : ref02_Promise fu b k e_2 = ref02_Promise_L fu b k e_2 fu 0 ((ref02_Get b k).Low) := by unfold ref02_Promise; rfl
  rw [e] at hh
  have nx := ref02_Promise_L_fs fu b k e_2 fu 0 ((ref02_Get b k).Low) r hh
  refine FSat.stop pfT (fuel := 17) (hs := (hR 5 ((ref02_Promise_i6 b k) :: (hR 5 [])))) (ss := [.st [1, 2, 3, 6, 7, 8, 9] [0, 100, 101]]) (R := [(ref02_Promise_r7 b k)]) (by kernel_rfl) ⟨ref02_Get_fc b k, trivial⟩ 102 (by kernel_rfl) ?_ nx
  exact ⟨PinL.lit (by kernel_rfl), PinL.lit (by kernel_rfl), PinL.lit (by kernel_rfl), trivial⟩

/- greenhew/greenhewref02.Ask -/
abbrev A_ref02_Ask (b : XBox) (t_1 : XTolerance) : List Value := [.agg #[I (b.Low.Age), I (b.Low.Shoots), I (b.Low.Height), I (b.Low.Girth), I (b.High.Age), I (b.High.Shoots), I (b.High.Height), I (b.High.Girth)], .agg #[I (t_1.Shoots), I (t_1.Height), I (t_1.Girth)]]
noncomputable def ref02_Ask (fu : Nat) (b : XBox) (t_1 : XTolerance) : Option (Int × Int) :=
  Option.bind (ref02_Promise fu b 1 t_1.Shoots) fun x1 =>
  Option.bind (ref02_Promise fu b 2 t_1.Height) fun x2 =>
  bif decide (x2 < x1) then (Option.bind (ref02_Promise fu b 3 t_1.Girth) fun x4 =>
    bif decide (x4 < x2) then some (3, x4)
    else some (2, x2))
  else (Option.bind (ref02_Promise fu b 3 t_1.Girth) fun x4 =>
    bif decide (x4 < x1) then some (3, x4)
    else some (1, x1))
theorem ref02_Ask_fc (fu : Nat) (b : XBox) (t_1 : XTolerance) (r : Int × Int) (hh : ref02_Ask fu b t_1 = some r) : FC P GG 53 [.agg #[I (b.Low.Age), I (b.Low.Shoots), I (b.Low.Height), I (b.Low.Girth), I (b.High.Age), I (b.High.Shoots), I (b.High.Height), I (b.High.Girth)], .agg #[I (t_1.Shoots), I (t_1.Height), I (t_1.Girth)]] [] (.tuple #[I (r.1), I (r.2)]) := by
  refine FC.of_fsat 41 100 Tryd.func53 (by kernel_rfl) (by kernel_rfl) (by kernel_rfl) trivial ?_
  cases h1 : ref02_Promise fu b 1 t_1.Shoots with
  | none =>
    have e : ref02_Ask fu b t_1 = none := by unfold ref02_Ask; rw [h1, Option.bind_none]; first | done | rfl
    rw [e] at hh; cases hh
  | some x1 =>
    cases h2 : ref02_Promise fu b 2 t_1.Height with
    | none =>
      have e : ref02_Ask fu b t_1 = none := by unfold ref02_Ask; rw [h1, Option.bind_some, h2, Option.bind_none]; first | done | rfl
      rw [e] at hh; cases hh
    | some x2 =>
      rcases Bool.eq_false_or_eq_true (decide (x2 < x1)) with h3 | h3
      · skip
        cases h4 : ref02_Promise fu b 3 t_1.Girth with
        | none =>
          have e : ref02_Ask fu b t_1 = none := by unfold ref02_Ask; rw [h1, Option.bind_some, h2, Option.bind_some, h3, cond_true, h4, Option.bind_none]; first | done | rfl
          rw [e] at hh; cases hh
        | some x4 =>
          rcases Bool.eq_false_or_eq_true (decide (x4 < x2)) with h5 | h5
          · skip
            have e : ref02_Ask fu b t_1 = some (3, x4) := by unfold ref02_Ask; rw [h1, Option.bind_some, h2, Option.bind_some, h3, cond_true, h4, Option.bind_some, h5, cond_true]; first | done | rfl
            rw [e] at hh
            have hr := Option.some.inj hh
            rw [← hr]
            exact FSat.done pfT (fuel := 57) (hs := (hR 15 ((hC (I (x1))) :: (hR 12 ((hC (I (x2))) :: hE :: hE :: hE :: hT :: (hR 16 ((hC (I (x4))) :: hE :: hE :: hE :: hT :: (hR 13 [])))))))) (ss := [.go, .go, .go]) (R := [FC P GG 92 (A_ref02_Promise b 1 t_1.Shoots) [] (I (x1)), FC P GG 92 (A_ref02_Promise b 2 t_1.Height) [] (I (x2)), (decide (x2 < x1)) = true, FC P GG 92 (A_ref02_Promise b 3 t_1.Girth) [] (I (x4)), (decide (x4 < x2)) = true]) (by kernel_rfl) ⟨ref02_Promise_fc fu b 1 t_1.Shoots x1 h1, ref02_Promise_fc fu b 2 t_1.Height x2 h2, h3, ref02_Promise_fc fu b 3 t_1.Girth x4 h4, h5, trivial⟩ (by kernel_rfl)
          · skip
            have e : ref02_Ask fu b t_1 = some (2, x2) := by unfold ref02_Ask; rw [h1, Option.bind_some, h2, Option.bind_some, h3, cond_true, h4, Option.bind_some, h5, cond_false]; first | done | rfl
            rw [e] at hh
            have hr := Option.some.inj hh
            rw [← hr]
            exact FSat.done pfT (fuel := 57) (hs := (hR 15 ((hC (I (x1))) :: (hR 12 ((hC (I (x2))) :: hE :: hE :: hE :: hT :: (hR 16 ((hC (I (x4))) :: hE :: hE :: hE :: hF :: (hR 9 [])))))))) (ss := [.go, .go, .go]) (R := [FC P GG 92 (A_ref02_Promise b 1 t_1.Shoots) [] (I (x1)), FC P GG 92 (A_ref02_Promise b 2 t_1.Height) [] (I (x2)), (decide (x2 < x1)) = true, FC P GG 92 (A_ref02_Promise b 3 t_1.Girth) [] (I (x4)), (decide (x4 < x2)) = false]) (by kernel_rfl) ⟨ref02_Promise_fc fu b 1 t_1.Shoots x1 h1, ref02_Promise_fc fu b 2 t_1.Height x2 h2, h3, ref02_Promise_fc fu b 3 t_1.Girth x4 h4, h5, trivial⟩ (by kernel_rfl)
      · skip
        cases h4 : ref02_Promise fu b 3 t_1.Girth with
        | none =>
          have e : ref02_Ask fu b t_1 = none := by unfold ref02_Ask; rw [h1, Option.bind_some, h2, Option.bind_some, h3, cond_false, h4, Option.bind_none]; first | done | rfl
          rw [e] at hh; cases hh
        | some x4 =>
          rcases Bool.eq_false_or_eq_true (decide (x4 < x1)) with h5 | h5
          · skip
            have e : ref02_Ask fu b t_1 = some (3, x4) := by unfold ref02_Ask; rw [h1, Option.bind_some, h2, Option.bind_some, h3, cond_false, h4, Option.bind_some, h5, cond_true]; first | done | rfl
            rw [e] at hh
            have hr := Option.some.inj hh
            rw [← hr]
            exact FSat.done pfT (fuel := 57) (hs := (hR 15 ((hC (I (x1))) :: (hR 12 ((hC (I (x2))) :: hE :: hE :: hE :: hF :: (hR 12 ((hC (I (x4))) :: hE :: hE :: hE :: hT :: (hR 13 [])))))))) (ss := [.go, .go, .go]) (R := [FC P GG 92 (A_ref02_Promise b 1 t_1.Shoots) [] (I (x1)), FC P GG 92 (A_ref02_Promise b 2 t_1.Height) [] (I (x2)), (decide (x2 < x1)) = false, FC P GG 92 (A_ref02_Promise b 3 t_1.Girth) [] (I (x4)), (decide (x4 < x1)) = true]) (by kernel_rfl) ⟨ref02_Promise_fc fu b 1 t_1.Shoots x1 h1, ref02_Promise_fc fu b 2 t_1.Height x2 h2, h3, ref02_Promise_fc fu b 3 t_1.Girth x4 h4, h5, trivial⟩ (by kernel_rfl)
          · skip
            have e : ref02_Ask fu b t_1 = some (1, x1) := by unfold ref02_Ask; rw [h1, Option.bind_some, h2, Option.bind_some, h3, cond_false, h4, Option.bind_some, h5, cond_false]; first | done | rfl
            rw [e] at hh
            have hr := Option.some.inj hh
            rw [← hr]
            exact FSat.done pfT (fuel := 57) (hs := (hR 15 ((hC (I (x1))) :: (hR 12 ((hC (I (x2))) :: hE :: hE :: hE :: hF :: (hR 12 ((hC (I (x4))) :: hE :: hE :: hE :: hF :: (hR 9 [])))))))) (ss := [.go, .go, .go]) (R := [FC P GG 92 (A_ref02_Promise b 1 t_1.Shoots) [] (I (x1)), FC P GG 92 (A_ref02_Promise b 2 t_1.Height) [] (I (x2)), (decide (x2 < x1)) = false, FC P GG 92 (A_ref02_Promise b 3 t_1.Girth) [] (I (x4)), (decide (x4 < x1)) = false]) (by kernel_rfl) ⟨ref02_Promise_fc fu b 1 t_1.Shoots x1 h1, ref02_Promise_fc fu b 2 t_1.Height x2 h2, h3, ref02_Promise_fc fu b 3 t_1.Girth x4 h4, h5, trivial⟩ (by kernel_rfl)

/- greenhew/greenhewlaw02.GrowthAsks -/
abbrev law02_GrowthAsks_r0 (b : XBox) (t_1 : XTolerance) (x1 : Int × Int × Int) : Prop := FC P GG 52 (A_growth_Ask b t_1) [] (.tuple #[I (x1.1), I (x1.2.1), I (x1.2.2)])
abbrev law02_GrowthAsks_r1 (b : XBox) (t_1 : XTolerance) (x9 : Int × Int) : Prop := FC P GG 53 (A_ref02_Ask b t_1) [] (.tuple #[I (x9.1), I (x9.2)])
abbrev A_law02_GrowthAsks (b : XBox) (t_1 : XTolerance) : List Value := [.agg #[I (b.Low.Age), I (b.Low.Shoots), I (b.Low.Height), I (b.Low.Girth), I (b.High.Age), I (b.High.Shoots), I (b.High.Height), I (b.High.Girth)], .agg #[I (t_1.Shoots), I (t_1.Height), I (t_1.Girth)]]
noncomputable def law02_GrowthAsks (fu : Nat) (b : XBox) (t_1 : XTolerance) : Option Bool :=
  Option.bind (growth_Ask fu b t_1) fun x1 =>
  bif ref02_Box b then (bif decide (t_1.Shoots < 0) then (bif x1.2.2 == 2 then (bif x1.1 == 0 then (bif x1.2.1 == 0 then (Option.bind (law02_known fu) fun x7 =>
            some x7)
          else some false)
        else some false)
      else some false)
    else (bif decide (t_1.Shoots > 100000) then (bif x1.2.2 == 2 then (bif x1.1 == 0 then (bif x1.2.1 == 0 then (Option.bind (law02_known fu) fun x8 =>
              some x8)
            else some false)
          else some false)
        else some false)
      else (bif decide (t_1.Height < 0) then (bif x1.2.2 == 2 then (bif x1.1 == 0 then (bif x1.2.1 == 0 then (Option.bind (law02_known fu) fun x9 =>
                some x9)
              else some false)
            else some false)
          else some false)
        else (bif decide (t_1.Height > 100000) then (bif x1.2.2 == 2 then (bif x1.1 == 0 then (bif x1.2.1 == 0 then (Option.bind (law02_known fu) fun x10 =>
                  some x10)
                else some false)
              else some false)
            else some false)
          else (bif decide (t_1.Girth < 0) then (bif x1.2.2 == 2 then (bif x1.1 == 0 then (bif x1.2.1 == 0 then (Option.bind (law02_known fu) fun x11 =>
                    some x11)
                  else some false)
                else some false)
              else some false)
            else (bif decide (t_1.Girth > 100000) then (bif x1.2.2 == 2 then (bif x1.1 == 0 then (bif x1.2.1 == 0 then (Option.bind (law02_known fu) fun x12 =>
                      some x12)
                    else some false)
                  else some false)
                else some false)
              else (Option.bind (ref02_Ask fu b t_1) fun x9 =>
                bif x1.2.2 == 0 then (bif x1.1 == x9.1 then (bif x1.2.1 == x9.2 then (bif decide (x1.2.1 ≤ (ref02_Spread b)) then (Option.bind (law02_known fu) fun x14 =>
                        some x14)
                      else some false)
                    else some false)
                  else some false)
                else some false)))))))
  else (bif x1.2.2 == 2 then (bif x1.1 == 0 then (bif x1.2.1 == 0 then (Option.bind (law02_known fu) fun x6 =>
          some x6)
        else some false)
      else some false)
    else some false)
theorem law02_GrowthAsks_fc (fu : Nat) (b : XBox) (t_1 : XTolerance) (r : Bool) (hh : law02_GrowthAsks fu b t_1 = some r) : FC P GG 15 [.agg #[I (b.Low.Age), I (b.Low.Shoots), I (b.Low.Height), I (b.Low.Girth), I (b.High.Age), I (b.High.Shoots), I (b.High.Height), I (b.High.Girth)], .agg #[I (t_1.Shoots), I (t_1.Height), I (t_1.Girth)]] [] (.bool (r)) := by
  refine FC.of_fsat 90 100 Tryd.func15 (by kernel_rfl) (by kernel_rfl) (by kernel_rfl) trivial ?_
  cases h1 : growth_Ask fu b t_1 with
  | none =>
    have e : law02_GrowthAsks fu b t_1 = none := by unfold law02_GrowthAsks; rw [h1, Option.bind_none]; first | done | rfl
    rw [e] at hh; cases hh
  | some x1 =>
    rcases Bool.eq_false_or_eq_true (ref02_Box b) with h2 | h2
    · skip
      rcases Bool.eq_false_or_eq_true (decide (t_1.Shoots < 0)) with h3 | h3
      · skip
        rcases Bool.eq_false_or_eq_true (x1.2.2 == 2) with h4 | h4
        · skip
          rcases Bool.eq_false_or_eq_true (x1.1 == 0) with h5 | h5
          · skip
            rcases Bool.eq_false_or_eq_true (x1.2.1 == 0) with h6 | h6
            · skip
              cases h7 : law02_known fu with
              | none =>
                have e : law02_GrowthAsks fu b t_1 = none := by unfold law02_GrowthAsks; rw [h1, Option.bind_some, h2, cond_true, h3, cond_true, h4, cond_true, h5, cond_true, h6, cond_true, h7, Option.bind_none]; first | done | rfl
                rw [e] at hh; cases hh
              | some x7 =>
                have e : law02_GrowthAsks fu b t_1 = some x7 := by unfold law02_GrowthAsks; rw [h1, Option.bind_some, h2, cond_true, h3, cond_true, h4, cond_true, h5, cond_true, h6, cond_true, h7, Option.bind_some]; first | done | rfl
                rw [e] at hh
                have hr := Option.some.inj hh
                rw [← hr]
                exact FSat.done pfT (fuel := 16) (hs := (hR 5 ((hC (.tuple #[I (x1.1), I (x1.2.1), I (x1.2.2)])) :: (hR 8 ((hB (hC (.bool (ref02_Box b))) true) :: (hR 4 (hT :: (hR 12 [hT, hE, hE, hT, hE, hE, hE, hT, hE, hE, (hC (.bool (x7))), hE, hE])))))))) (ss := []) (R := [(law02_GrowthAsks_r0 b t_1 x1), FC P GG 28 (A_ref02_Box b) [] (.bool (ref02_Box b)), (ref02_Box b) = true, (decide (t_1.Shoots < 0)) = true, (x1.2.2 == 2) = true, (x1.1 == 0) = true, (x1.2.1 == 0) = true, FC P GG 18 (A_law02_known) [] (.bool (x7))]) (by kernel_rfl) ⟨growth_Ask_fc fu b t_1 x1 h1, ref02_Box_fc b, h2, h3, h4, h5, h6, law02_known_fc fu  x7 h7, trivial⟩ (by kernel_rfl)
            · skip
              have e : law02_GrowthAsks fu b t_1 = some false := by unfold law02_GrowthAsks; rw [h1, Option.bind_some, h2, cond_true, h3, cond_true, h4, cond_true, h5, cond_true, h6, cond_false]; first | done | rfl
              rw [e] at hh
              have hr := Option.some.inj hh
              rw [← hr]
              exact FSat.done pfT (fuel := 16) (hs := (hR 5 ((hC (.tuple #[I (x1.1), I (x1.2.1), I (x1.2.2)])) :: (hR 8 ((hB (hC (.bool (ref02_Box b))) true) :: (hR 4 (hT :: (hR 12 (hT :: hE :: hE :: hT :: hE :: hE :: hE :: hF :: (hR 4 [])))))))))) (ss := []) (R := [(law02_GrowthAsks_r0 b t_1 x1), FC P GG 28 (A_ref02_Box b) [] (.bool (ref02_Box b)), (ref02_Box b) = true, (decide (t_1.Shoots < 0)) = true, (x1.2.2 == 2) = true, (x1.1 == 0) = true, (x1.2.1 == 0) = false]) (by kernel_rfl) ⟨growth_Ask_fc fu b t_1 x1 h1, ref02_Box_fc b, h2, h3, h4, h5, h6, trivial⟩ (by kernel_rfl)
          · skip
            have e : law02_GrowthAsks fu b t_1 = some false := by unfold law02_GrowthAsks; rw [h1, Option.bind_some, h2, cond_true, h3, cond_true, h4, cond_true, h5, cond_false]; first | done | rfl
            rw [e] at hh
            have hr := Option.some.inj hh
            rw [← hr]
            exact FSat.done pfT (fuel := 16) (hs := (hR 5 ((hC (.tuple #[I (x1.1), I (x1.2.1), I (x1.2.2)])) :: (hR 8 ((hB (hC (.bool (ref02_Box b))) true) :: (hR 4 (hT :: (hR 12 (hT :: hE :: hE :: hF :: (hR 6 [])))))))))) (ss := []) (R := [(law02_GrowthAsks_r0 b t_1 x1), FC P GG 28 (A_ref02_Box b) [] (.bool (ref02_Box b)), (ref02_Box b) = true, (decide (t_1.Shoots < 0)) = true, (x1.2.2 == 2) = true, (x1.1 == 0) = false]) (by kernel_rfl) ⟨growth_Ask_fc fu b t_1 x1 h1, ref02_Box_fc b, h2, h3, h4, h5, trivial⟩ (by kernel_rfl)
        · skip
          have e : law02_GrowthAsks fu b t_1 = some false := by unfold law02_GrowthAsks; rw [h1, Option.bind_some, h2, cond_true, h3, cond_true, h4, cond_false]; first | done | rfl
          rw [e] at hh
          have hr := Option.some.inj hh
          rw [← hr]
          exact FSat.done pfT (fuel := 16) (hs := (hR 5 ((hC (.tuple #[I (x1.1), I (x1.2.1), I (x1.2.2)])) :: (hR 8 ((hB (hC (.bool (ref02_Box b))) true) :: (hR 4 (hT :: (hR 12 (hF :: (hR 7 [])))))))))) (ss := []) (R := [(law02_GrowthAsks_r0 b t_1 x1), FC P GG 28 (A_ref02_Box b) [] (.bool (ref02_Box b)), (ref02_Box b) = true, (decide (t_1.Shoots < 0)) = true, (x1.2.2 == 2) = false]) (by kernel_rfl) ⟨growth_Ask_fc fu b t_1 x1 h1, ref02_Box_fc b, h2, h3, h4, trivial⟩ (by kernel_rfl)
      · skip
        rcases Bool.eq_false_or_eq_true (decide (t_1.Shoots > 100000)) with h4 | h4
        · skip
          rcases Bool.eq_false_or_eq_true (x1.2.2 == 2) with h5 | h5
          · skip
            rcases Bool.eq_false_or_eq_true (x1.1 == 0) with h6 | h6
            · skip
              rcases Bool.eq_false_or_eq_true (x1.2.1 == 0) with h7 | h7
              · skip
                cases h8 : law02_known fu with
                | none =>
                  have e : law02_GrowthAsks fu b t_1 = none := by unfold law02_GrowthAsks; rw [h1, Option.bind_some, h2, cond_true, h3, cond_false, h4, cond_true, h5, cond_true, h6, cond_true, h7, cond_true, h8, Option.bind_none]; first | done | rfl
                  rw [e] at hh; cases hh
                | some x8 =>
                  have e : law02_GrowthAsks fu b t_1 = some x8 := by unfold law02_GrowthAsks; rw [h1, Option.bind_some, h2, cond_true, h3, cond_false, h4, cond_true, h5, cond_true, h6, cond_true, h7, cond_true, h8, Option.bind_some]; first | done | rfl
                  rw [e] at hh
                  have hr := Option.some.inj hh
                  rw [← hr]
                  exact FSat.done pfT (fuel := 16) (hs := (hR 5 ((hC (.tuple #[I (x1.1), I (x1.2.1), I (x1.2.2)])) :: (hR 8 ((hB (hC (.bool (ref02_Box b))) true) :: (hR 4 (hF :: (hR 4 (hT :: (hR 10 [hT, hE, hE, hT, hE, hE, hE, hT, hE, hE, (hC (.bool (x8))), hE, hE])))))))))) (ss := []) (R := [(law02_GrowthAsks_r0 b t_1 x1), FC P GG 28 (A_ref02_Box b) [] (.bool (ref02_Box b)), (ref02_Box b) = true, (decide (t_1.Shoots < 0)) = false, (decide (t_1.Shoots > 100000)) = true, (x1.2.2 == 2) = true, (x1.1 == 0) = true, (x1.2.1 == 0) = true, FC P GG 18 (A_law02_known) [] (.bool (x8))]) (by kernel_rfl) ⟨growth_Ask_fc fu b t_1 x1 h1, ref02_Box_fc b, h2, h3, h4, h5, h6, h7, law02_known_fc fu  x8 h8, trivial⟩ (by kernel_rfl)
              · skip
                have e : law02_GrowthAsks fu b t_1 = some false := by unfold law02_GrowthAsks; rw [h1, Option.bind_some, h2, cond_true, h3, cond_false, h4, cond_true, h5, cond_true, h6, cond_true, h7, cond_false]; first | done | rfl
                rw [e] at hh
                have hr := Option.some.inj hh
                rw [← hr]
                exact FSat.done pfT (fuel := 16) (hs := (hR 5 ((hC (.tuple #[I (x1.1), I (x1.2.1), I (x1.2.2)])) :: (hR 8 ((hB (hC (.bool (ref02_Box b))) true) :: (hR 4 (hF :: (hR 4 (hT :: (hR 10 (hT :: hE :: hE :: hT :: hE :: hE :: hE :: hF :: (hR 4 [])))))))))))) (ss := []) (R := [(law02_GrowthAsks_r0 b t_1 x1), FC P GG 28 (A_ref02_Box b) [] (.bool (ref02_Box b)), (ref02_Box b) = true, (decide (t_1.Shoots < 0)) = false, (decide (t_1.Shoots > 100000)) = true, (x1.2.2 == 2) = true, (x1.1 == 0) = true, (x1.2.1 == 0) = false]) (by kernel_rfl) ⟨growth_Ask_fc fu b t_1 x1 h1, ref02_Box_fc b, h2, h3, h4, h5, h6, h7, trivial⟩ (by kernel_rfl)
            · skip
              have e : law02_GrowthAsks fu b t_1 = some false := by unfold law02_GrowthAsks; rw [h1, Option.bind_some, h2, cond_true, h3, cond_false, h4, cond_true, h5, cond_true, h6, cond_false]; first | done | rfl
              rw [e] at hh
              have hr := Option.some.inj hh
              rw [← hr]
              exact FSat.done pfT (fuel := 16) (hs := (hR 5 ((hC (.tuple #[I (x1.1), I (x1.2.1), I (x1.2.2)])) :: (hR 8 ((hB (hC (.bool (ref02_Box b))) true) :: (hR 4 (hF :: (hR 4 (hT :: (hR 10 (hT :: hE :: hE :: hF :: (hR 6 [])))))))))))) (ss := []) (R := [(law02_GrowthAsks_r0 b t_1 x1), FC P GG 28 (A_ref02_Box b) [] (.bool (ref02_Box b)), (ref02_Box b) = true, (decide (t_1.Shoots < 0)) = false, (decide (t_1.Shoots > 100000)) = true, (x1.2.2 == 2) = true, (x1.1 == 0) = false]) (by kernel_rfl) ⟨growth_Ask_fc fu b t_1 x1 h1, ref02_Box_fc b, h2, h3, h4, h5, h6, trivial⟩ (by kernel_rfl)
          · skip
            have e : law02_GrowthAsks fu b t_1 = some false := by unfold law02_GrowthAsks; rw [h1, Option.bind_some, h2, cond_true, h3, cond_false, h4, cond_true, h5, cond_false]; first | done | rfl
            rw [e] at hh
            have hr := Option.some.inj hh
            rw [← hr]
            exact FSat.done pfT (fuel := 16) (hs := (hR 5 ((hC (.tuple #[I (x1.1), I (x1.2.1), I (x1.2.2)])) :: (hR 8 ((hB (hC (.bool (ref02_Box b))) true) :: (hR 4 (hF :: (hR 4 (hT :: (hR 10 (hF :: (hR 7 [])))))))))))) (ss := []) (R := [(law02_GrowthAsks_r0 b t_1 x1), FC P GG 28 (A_ref02_Box b) [] (.bool (ref02_Box b)), (ref02_Box b) = true, (decide (t_1.Shoots < 0)) = false, (decide (t_1.Shoots > 100000)) = true, (x1.2.2 == 2) = false]) (by kernel_rfl) ⟨growth_Ask_fc fu b t_1 x1 h1, ref02_Box_fc b, h2, h3, h4, h5, trivial⟩ (by kernel_rfl)
        · skip
          rcases Bool.eq_false_or_eq_true (decide (t_1.Height < 0)) with h5 | h5
          · skip
            rcases Bool.eq_false_or_eq_true (x1.2.2 == 2) with h6 | h6
            · skip
              rcases Bool.eq_false_or_eq_true (x1.1 == 0) with h7 | h7
              · skip
                rcases Bool.eq_false_or_eq_true (x1.2.1 == 0) with h8 | h8
                · skip
                  cases h9 : law02_known fu with
                  | none =>
                    have e : law02_GrowthAsks fu b t_1 = none := by unfold law02_GrowthAsks; rw [h1, Option.bind_some, h2, cond_true, h3, cond_false, h4, cond_false, h5, cond_true, h6, cond_true, h7, cond_true, h8, cond_true, h9, Option.bind_none]; first | done | rfl
                    rw [e] at hh; cases hh
                  | some x9 =>
                    have e : law02_GrowthAsks fu b t_1 = some x9 := by unfold law02_GrowthAsks; rw [h1, Option.bind_some, h2, cond_true, h3, cond_false, h4, cond_false, h5, cond_true, h6, cond_true, h7, cond_true, h8, cond_true, h9, Option.bind_some]; first | done | rfl
                    rw [e] at hh
                    have hr := Option.some.inj hh
                    rw [← hr]
                    exact FSat.done pfT (fuel := 16) (hs := (hR 5 ((hC (.tuple #[I (x1.1), I (x1.2.1), I (x1.2.2)])) :: (hR 8 ((hB (hC (.bool (ref02_Box b))) true) :: (hR 4 (hF :: (hR 4 (hF :: (hR 4 (hT :: (hR 8 [hT, hE, hE, hT, hE, hE, hE, hT, hE, hE, (hC (.bool (x9))), hE, hE])))))))))))) (ss := []) (R := [(law02_GrowthAsks_r0 b t_1 x1), FC P GG 28 (A_ref02_Box b) [] (.bool (ref02_Box b)), (ref02_Box b) = true, (decide (t_1.Shoots < 0)) = false, (decide (t_1.Shoots > 100000)) = false, (decide (t_1.Height < 0)) = true, (x1.2.2 == 2) = true, (x1.1 == 0) = true, (x1.2.1 == 0) = true, FC P GG 18 (A_law02_known) [] (.bool (x9))]) (by kernel_rfl) ⟨growth_Ask_fc fu b t_1 x1 h1, ref02_Box_fc b, h2, h3, h4, h5, h6, h7, h8, law02_known_fc fu  x9 h9, trivial⟩ (by kernel_rfl)
                · skip
                  have e : law02_GrowthAsks fu b t_1 = some false := by unfold law02_GrowthAsks; rw [h1, Option.bind_some, h2, cond_true, h3, cond_false, h4, cond_false, h5, cond_true, h6, cond_true, h7, cond_true, h8, cond_false]; first | done | rfl
                  rw [e] at hh
                  have hr := Option.some.inj hh
                  rw [← hr]
                  exact FSat.done pfT (fuel := 16) (hs := (hR 5 ((hC (.tuple #[I (x1.1), I (x1.2.1), I (x1.2.2)])) :: (hR 8 ((hB (hC (.bool (ref02_Box b))) true) :: (hR 4 (hF :: (hR 4 (hF :: (hR 4 (hT :: (hR 8 (hT :: hE :: hE :: hT :: hE :: hE :: hE :: hF :: (hR 4 [])))))))))))))) (ss := []) (R := [(law02_GrowthAsks_r0 b t_1 x1), FC P GG 28 (A_ref02_Box b) [] (.bool (ref02_Box b)), (ref02_Box b) = true, (decide (t_1.Shoots < 0)) = false, (decide (t_1.Shoots > 100000)) = false, (decide (t_1.Height < 0)) = true, (x1.2.2 == 2) = true, (x1.1 == 0) = true, (x1.2.1 == 0) = false]) (by kernel_rfl) ⟨growth_Ask_fc fu b t_1 x1 h1, ref02_Box_fc b, h2, h3, h4, h5, h6, h7, h8, trivial⟩ (by kernel_rfl)
              · skip
                have e : law02_GrowthAsks fu b t_1 = some false := by unfold law02_GrowthAsks; rw [h1, Option.bind_some, h2, cond_true, h3, cond_false, h4, cond_false, h5, cond_true, h6, cond_true, h7, cond_false]; first | done | rfl
                rw [e] at hh
                have hr := Option.some.inj hh
                rw [← hr]
                exact FSat.done pfT (fuel := 16) (hs := (hR 5 ((hC (.tuple #[I (x1.1), I (x1.2.1), I (x1.2.2)])) :: (hR 8 ((hB (hC (.bool (ref02_Box b))) true) :: (hR 4 (hF :: (hR 4 (hF :: (hR 4 (hT :: (hR 8 (hT :: hE :: hE :: hF :: (hR 6 [])))))))))))))) (ss := []) (R := [(law02_GrowthAsks_r0 b t_1 x1), FC P GG 28 (A_ref02_Box b) [] (.bool (ref02_Box b)), (ref02_Box b) = true, (decide (t_1.Shoots < 0)) = false, (decide (t_1.Shoots > 100000)) = false, (decide (t_1.Height < 0)) = true, (x1.2.2 == 2) = true, (x1.1 == 0) = false]) (by kernel_rfl) ⟨growth_Ask_fc fu b t_1 x1 h1, ref02_Box_fc b, h2, h3, h4, h5, h6, h7, trivial⟩ (by kernel_rfl)
            · skip
              have e : law02_GrowthAsks fu b t_1 = some false := by unfold law02_GrowthAsks; rw [h1, Option.bind_some, h2, cond_true, h3, cond_false, h4, cond_false, h5, cond_true, h6, cond_false]; first | done | rfl
              rw [e] at hh
              have hr := Option.some.inj hh
              rw [← hr]
              exact FSat.done pfT (fuel := 16) (hs := (hR 5 ((hC (.tuple #[I (x1.1), I (x1.2.1), I (x1.2.2)])) :: (hR 8 ((hB (hC (.bool (ref02_Box b))) true) :: (hR 4 (hF :: (hR 4 (hF :: (hR 4 (hT :: (hR 8 (hF :: (hR 7 [])))))))))))))) (ss := []) (R := [(law02_GrowthAsks_r0 b t_1 x1), FC P GG 28 (A_ref02_Box b) [] (.bool (ref02_Box b)), (ref02_Box b) = true, (decide (t_1.Shoots < 0)) = false, (decide (t_1.Shoots > 100000)) = false, (decide (t_1.Height < 0)) = true, (x1.2.2 == 2) = false]) (by kernel_rfl) ⟨growth_Ask_fc fu b t_1 x1 h1, ref02_Box_fc b, h2, h3, h4, h5, h6, trivial⟩ (by kernel_rfl)
          · skip
            rcases Bool.eq_false_or_eq_true (decide (t_1.Height > 100000)) with h6 | h6
            · skip
              rcases Bool.eq_false_or_eq_true (x1.2.2 == 2) with h7 | h7
              · skip
                rcases Bool.eq_false_or_eq_true (x1.1 == 0) with h8 | h8
                · skip
                  rcases Bool.eq_false_or_eq_true (x1.2.1 == 0) with h9 | h9
                  · skip
                    cases h10 : law02_known fu with
                    | none =>
                      have e : law02_GrowthAsks fu b t_1 = none := by unfold law02_GrowthAsks; rw [h1, Option.bind_some, h2, cond_true, h3, cond_false, h4, cond_false, h5, cond_false, h6, cond_true, h7, cond_true, h8, cond_true, h9, cond_true, h10, Option.bind_none]; first | done | rfl
                      rw [e] at hh; cases hh
                    | some x10 =>
                      have e : law02_GrowthAsks fu b t_1 = some x10 := by unfold law02_GrowthAsks; rw [h1, Option.bind_some, h2, cond_true, h3, cond_false, h4, cond_false, h5, cond_false, h6, cond_true, h7, cond_true, h8, cond_true, h9, cond_true, h10, Option.bind_some]; first | done | rfl
                      rw [e] at hh
                      have hr := Option.some.inj hh
                      rw [← hr]
                      exact FSat.done pfT (fuel := 16) (hs := (hR 5 ((hC (.tuple #[I (x1.1), I (x1.2.1), I (x1.2.2)])) :: (hR 8 ((hB (hC (.bool (ref02_Box b))) true) :: (hR 4 (hF :: (hR 4 (hF :: (hR 4 (hF :: (hR 4 (hT :: (hR 6 [hT, hE, hE, hT, hE, hE, hE, hT, hE, hE, (hC (.bool (x10))), hE, hE])))))))))))))) (ss := []) (R := [(law02_GrowthAsks_r0 b t_1 x1), FC P GG 28 (A_ref02_Box b) [] (.bool (ref02_Box b)), (ref02_Box b) = true, (decide (t_1.Shoots < 0)) = false, (decide (t_1.Shoots > 100000)) = false, (decide (t_1.Height < 0)) = false, (decide (t_1.Height > 100000)) = true, (x1.2.2 == 2) = true, (x1.1 == 0) = true, (x1.2.1 == 0) = true, FC P GG 18 (A_law02_known) [] (.bool (x10))]) (by kernel_rfl) ⟨growth_Ask_fc fu b t_1 x1 h1, ref02_Box_fc b, h2, h3, h4, h5, h6, h7, h8, h9, law02_known_fc fu  x10 h10, trivial⟩ (by kernel_rfl)
                  · skip
                    have e : law02_GrowthAsks fu b t_1 = some false := by unfold law02_GrowthAsks; rw [h1, Option.bind_some, h2, cond_true, h3, cond_false, h4, cond_false, h5, cond_false, h6, cond_true, h7, cond_true, h8, cond_true, h9, cond_false]; first | done | rfl
                    rw [e] at hh
                    have hr := Option.some.inj hh
                    rw [← hr]
                    exact FSat.done pfT (fuel := 16) (hs := (hR 5 ((hC (.tuple #[I (x1.1), I (x1.2.1), I (x1.2.2)])) :: (hR 8 ((hB (hC (.bool (ref02_Box b))) true) :: (hR 4 (hF :: (hR 4 (hF :: (hR 4 (hF :: (hR 4 (hT :: (hR 6 (hT :: hE :: hE :: hT :: hE :: hE :: hE :: hF :: (hR 4 [])))))))))))))))) (ss := []) (R := [(law02_GrowthAsks_r0 b t_1 x1), FC P GG 28 (A_ref02_Box b) [] (.bool (ref02_Box b)), (ref02_Box b) = true, (decide (t_1.Shoots < 0)) = false, (decide (t_1.Shoots > 100000)) = false, (decide (t_1.Height < 0)) = false, (decide (t_1.Height > 100000)) = true, (x1.2.2 == 2) = true, (x1.1 == 0) = true, (x1.2.1 == 0) = false]) (by kernel_rfl) ⟨growth_Ask_fc fu b t_1 x1 h1, ref02_Box_fc b, h2, h3, h4, h5, h6, h7, h8, h9, trivial⟩ (by kernel_rfl)
                · skip
                  have e : law02_GrowthAsks fu b t_1 = some false := by unfold law02_GrowthAsks; rw [h1, Option.bind_some, h2, cond_true, h3, cond_false, h4, cond_false, h5, cond_false, h6, cond_true, h7, cond_true, h8, cond_false]; first | done | rfl
                  rw [e] at hh
                  have hr := Option.some.inj hh
                  rw [← hr]
                  exact FSat.done pfT (fuel := 16) (hs := (hR 5 ((hC (.tuple #[I (x1.1), I (x1.2.1), I (x1.2.2)])) :: (hR 8 ((hB (hC (.bool (ref02_Box b))) true) :: (hR 4 (hF :: (hR 4 (hF :: (hR 4 (hF :: (hR 4 (hT :: (hR 6 (hT :: hE :: hE :: hF :: (hR 6 [])))))))))))))))) (ss := []) (R := [(law02_GrowthAsks_r0 b t_1 x1), FC P GG 28 (A_ref02_Box b) [] (.bool (ref02_Box b)), (ref02_Box b) = true, (decide (t_1.Shoots < 0)) = false, (decide (t_1.Shoots > 100000)) = false, (decide (t_1.Height < 0)) = false, (decide (t_1.Height > 100000)) = true, (x1.2.2 == 2) = true, (x1.1 == 0) = false]) (by kernel_rfl) ⟨growth_Ask_fc fu b t_1 x1 h1, ref02_Box_fc b, h2, h3, h4, h5, h6, h7, h8, trivial⟩ (by kernel_rfl)
              · skip
                have e : law02_GrowthAsks fu b t_1 = some false := by unfold law02_GrowthAsks; rw [h1, Option.bind_some, h2, cond_true, h3, cond_false, h4, cond_false, h5, cond_false, h6, cond_true, h7, cond_false]; first | done | rfl
                rw [e] at hh
                have hr := Option.some.inj hh
                rw [← hr]
                exact FSat.done pfT (fuel := 16) (hs := (hR 5 ((hC (.tuple #[I (x1.1), I (x1.2.1), I (x1.2.2)])) :: (hR 8 ((hB (hC (.bool (ref02_Box b))) true) :: (hR 4 (hF :: (hR 4 (hF :: (hR 4 (hF :: (hR 4 (hT :: (hR 6 (hF :: (hR 7 [])))))))))))))))) (ss := []) (R := [(law02_GrowthAsks_r0 b t_1 x1), FC P GG 28 (A_ref02_Box b) [] (.bool (ref02_Box b)), (ref02_Box b) = true, (decide (t_1.Shoots < 0)) = false, (decide (t_1.Shoots > 100000)) = false, (decide (t_1.Height < 0)) = false, (decide (t_1.Height > 100000)) = true, (x1.2.2 == 2) = false]) (by kernel_rfl) ⟨growth_Ask_fc fu b t_1 x1 h1, ref02_Box_fc b, h2, h3, h4, h5, h6, h7, trivial⟩ (by kernel_rfl)
            · skip
              rcases Bool.eq_false_or_eq_true (decide (t_1.Girth < 0)) with h7 | h7
              · skip
                rcases Bool.eq_false_or_eq_true (x1.2.2 == 2) with h8 | h8
                · skip
                  rcases Bool.eq_false_or_eq_true (x1.1 == 0) with h9 | h9
                  · skip
                    rcases Bool.eq_false_or_eq_true (x1.2.1 == 0) with h10 | h10
                    · skip
                      cases h11 : law02_known fu with
                      | none =>
                        have e : law02_GrowthAsks fu b t_1 = none := by unfold law02_GrowthAsks; rw [h1, Option.bind_some, h2, cond_true, h3, cond_false, h4, cond_false, h5, cond_false, h6, cond_false, h7, cond_true, h8, cond_true, h9, cond_true, h10, cond_true, h11, Option.bind_none]; first | done | rfl
                        rw [e] at hh; cases hh
                      | some x11 =>
                        have e : law02_GrowthAsks fu b t_1 = some x11 := by unfold law02_GrowthAsks; rw [h1, Option.bind_some, h2, cond_true, h3, cond_false, h4, cond_false, h5, cond_false, h6, cond_false, h7, cond_true, h8, cond_true, h9, cond_true, h10, cond_true, h11, Option.bind_some]; first | done | rfl
                        rw [e] at hh
                        have hr := Option.some.inj hh
                        rw [← hr]
                        exact FSat.done pfT (fuel := 16) (hs := (hR 5 ((hC (.tuple #[I (x1.1), I (x1.2.1), I (x1.2.2)])) :: (hR 8 ((hB (hC (.bool (ref02_Box b))) true) :: (hR 4 (hF :: (hR 4 (hF :: (hR 4 (hF :: (hR 4 (hF :: (hR 4 (hT :: (hR 4 [hT, hE, hE, hT, hE, hE, hE, hT, hE, hE, (hC (.bool (x11))), hE, hE])))))))))))))))) (ss := []) (R := [(law02_GrowthAsks_r0 b t_1 x1), FC P GG 28 (A_ref02_Box b) [] (.bool (ref02_Box b)), (ref02_Box b) = true, (decide (t_1.Shoots < 0)) = false, (decide (t_1.Shoots > 100000)) = false, (decide (t_1.Height < 0)) = false, (decide (t_1.Height > 100000)) = false, (decide (t_1.Girth < 0)) = true, (x1.2.2 == 2) = true, (x1.1 == 0) = true, (x1.2.1 == 0) = true, FC P GG 18 (A_law02_known) [] (.bool (x11))]) (by kernel_rfl) ⟨growth_Ask_fc fu b t_1 x1 h1, ref02_Box_fc b, h2, h3, h4, h5, h6, h7, h8, h9, h10, law02_known_fc fu  x11 h11, trivial⟩ (by kernel_rfl)
                    · skip
                      have e : law02_GrowthAsks fu b t_1 = some false := by unfold law02_GrowthAsks; rw [h1, Option.bind_some, h2, cond_true, h3, cond_false, h4, cond_false, h5, cond_false, h6, cond_false, h7, cond_true, h8, cond_true, h9, cond_true, h10, cond_false]; first | done | rfl
                      rw [e] at hh
                      have hr := Option.some.inj hh
                      rw [← hr]
                      exact FSat.done pfT (fuel := 16) (hs := (hR 5 ((hC (.tuple #[I (x1.1), I (x1.2.1), I (x1.2.2)])) :: (hR 8 ((hB (hC (.bool (ref02_Box b))) true) :: (hR 4 (hF :: (hR 4 (hF :: (hR 4 (hF :: (hR 4 (hF :: (hR 4 (hT :: (hR 4 (hT :: hE :: hE :: hT :: hE :: hE :: hE :: hF :: (hR 4 [])))))))))))))))))) (ss := []) (R := [(law02_GrowthAsks_r0 b t_1 x1), FC P GG 28 (A_ref02_Box b) [] (.bool (ref02_Box b)), (ref02_Box b) = true, (decide (t_1.Shoots < 0)) = false, (decide (t_1.Shoots > 100000)) = false, (decide (t_1.Height < 0)) = false, (decide (t_1.Height > 100000)) = false, (decide (t_1.Girth < 0)) = true, (x1.2.2 == 2) = true, (x1.1 == 0) = true, (x1.2.1 == 0) = false]) (by kernel_rfl) ⟨growth_Ask_fc fu b t_1 x1 h1, ref02_Box_fc b, h2, h3, h4, h5, h6, h7, h8, h9, h10, trivial⟩ (by kernel_rfl)
                  · skip
                    have e : law02_GrowthAsks fu b t_1 = some false := by unfold law02_GrowthAsks; rw [h1, Option.bind_some, h2, cond_true, h3, cond_false, h4, cond_false, h5, cond_false, h6, cond_false, h7, cond_true, h8, cond_true, h9, cond_false]; first | done | rfl
                    rw [e] at hh
                    have hr := Option.some.inj hh
                    rw [← hr]
                    exact FSat.done pfT (fuel := 16) (hs := (hR 5 ((hC (.tuple #[I (x1.1), I (x1.2.1), I (x1.2.2)])) :: (hR 8 ((hB (hC (.bool (ref02_Box b))) true) :: (hR 4 (hF :: (hR 4 (hF :: (hR 4 (hF :: (hR 4 (hF :: (hR 4 (hT :: (hR 4 (hT :: hE :: hE :: hF :: (hR 6 [])))))))))))))))))) (ss := []) (R := [(law02_GrowthAsks_r0 b t_1 x1), FC P GG 28 (A_ref02_Box b) [] (.bool (ref02_Box b)), (ref02_Box b) = true, (decide (t_1.Shoots < 0)) = false, (decide (t_1.Shoots > 100000)) = false, (decide (t_1.Height < 0)) = false, (decide (t_1.Height > 100000)) = false, (decide (t_1.Girth < 0)) = true, (x1.2.2 == 2) = true, (x1.1 == 0) = false]) (by kernel_rfl) ⟨growth_Ask_fc fu b t_1 x1 h1, ref02_Box_fc b, h2, h3, h4, h5, h6, h7, h8, h9, trivial⟩ (by kernel_rfl)
                · skip
                  have e : law02_GrowthAsks fu b t_1 = some false := by unfold law02_GrowthAsks; rw [h1, Option.bind_some, h2, cond_true, h3, cond_false, h4, cond_false, h5, cond_false, h6, cond_false, h7, cond_true, h8, cond_false]; first | done | rfl
                  rw [e] at hh
                  have hr := Option.some.inj hh
                  rw [← hr]
                  exact FSat.done pfT (fuel := 16) (hs := (hR 5 ((hC (.tuple #[I (x1.1), I (x1.2.1), I (x1.2.2)])) :: (hR 8 ((hB (hC (.bool (ref02_Box b))) true) :: (hR 4 (hF :: (hR 4 (hF :: (hR 4 (hF :: (hR 4 (hF :: (hR 4 (hT :: (hR 4 (hF :: (hR 7 [])))))))))))))))))) (ss := []) (R := [(law02_GrowthAsks_r0 b t_1 x1), FC P GG 28 (A_ref02_Box b) [] (.bool (ref02_Box b)), (ref02_Box b) = true, (decide (t_1.Shoots < 0)) = false, (decide (t_1.Shoots > 100000)) = false, (decide (t_1.Height < 0)) = false, (decide (t_1.Height > 100000)) = false, (decide (t_1.Girth < 0)) = true, (x1.2.2 == 2) = false]) (by kernel_rfl) ⟨growth_Ask_fc fu b t_1 x1 h1, ref02_Box_fc b, h2, h3, h4, h5, h6, h7, h8, trivial⟩ (by kernel_rfl)
              · skip
                rcases Bool.eq_false_or_eq_true (decide (t_1.Girth > 100000)) with h8 | h8
                · skip
                  rcases Bool.eq_false_or_eq_true (x1.2.2 == 2) with h9 | h9
                  · skip
                    rcases Bool.eq_false_or_eq_true (x1.1 == 0) with h10 | h10
                    · skip
                      rcases Bool.eq_false_or_eq_true (x1.2.1 == 0) with h11 | h11
                      · skip
                        cases h12 : law02_known fu with
                        | none =>
                          have e : law02_GrowthAsks fu b t_1 = none := by unfold law02_GrowthAsks; rw [h1, Option.bind_some, h2, cond_true, h3, cond_false, h4, cond_false, h5, cond_false, h6, cond_false, h7, cond_false, h8, cond_true, h9, cond_true, h10, cond_true, h11, cond_true, h12, Option.bind_none]; first | done | rfl
                          rw [e] at hh; cases hh
                        | some x12 =>
                          have e : law02_GrowthAsks fu b t_1 = some x12 := by unfold law02_GrowthAsks; rw [h1, Option.bind_some, h2, cond_true, h3, cond_false, h4, cond_false, h5, cond_false, h6, cond_false, h7, cond_false, h8, cond_true, h9, cond_true, h10, cond_true, h11, cond_true, h12, Option.bind_some]; first | done | rfl
                          rw [e] at hh
                          have hr := Option.some.inj hh
                          rw [← hr]
                          exact FSat.done pfT (fuel := 16) (hs := (hR 5 ((hC (.tuple #[I (x1.1), I (x1.2.1), I (x1.2.2)])) :: (hR 8 ((hB (hC (.bool (ref02_Box b))) true) :: (hR 4 (hF :: (hR 4 (hF :: (hR 4 (hF :: (hR 4 (hF :: (hR 4 (hF :: (hR 4 [hT, hE, hE, hT, hE, hE, hT, hE, hE, hE, hT, hE, hE, (hC (.bool (x12))), hE, hE])))))))))))))))) (ss := []) (R := [(law02_GrowthAsks_r0 b t_1 x1), FC P GG 28 (A_ref02_Box b) [] (.bool (ref02_Box b)), (ref02_Box b) = true, (decide (t_1.Shoots < 0)) = false, (decide (t_1.Shoots > 100000)) = false, (decide (t_1.Height < 0)) = false, (decide (t_1.Height > 100000)) = false, (decide (t_1.Girth < 0)) = false, (decide (t_1.Girth > 100000)) = true, (x1.2.2 == 2) = true, (x1.1 == 0) = true, (x1.2.1 == 0) = true, FC P GG 18 (A_law02_known) [] (.bool (x12))]) (by kernel_rfl) ⟨growth_Ask_fc fu b t_1 x1 h1, ref02_Box_fc b, h2, h3, h4, h5, h6, h7, h8, h9, h10, h11, law02_known_fc fu  x12 h12, trivial⟩ (by kernel_rfl)
                      · skip
                        have e : law02_GrowthAsks fu b t_1 = some false := by unfold law02_GrowthAsks; rw [h1, Option.bind_some, h2, cond_true, h3, cond_false, h4, cond_false, h5, cond_false, h6, cond_false, h7, cond_false, h8, cond_true, h9, cond_true, h10, cond_true, h11, cond_false]; first | done | rfl
                        rw [e] at hh
                        have hr := Option.some.inj hh
                        rw [← hr]
                        exact FSat.done pfT (fuel := 16) (hs := (hR 5 ((hC (.tuple #[I (x1.1), I (x1.2.1), I (x1.2.2)])) :: (hR 8 ((hB (hC (.bool (ref02_Box b))) true) :: (hR 4 (hF :: (hR 4 (hF :: (hR 4 (hF :: (hR 4 (hF :: (hR 4 (hF :: (hR 4 (hT :: hE :: hE :: hT :: hE :: hE :: hT :: hE :: hE :: hE :: hF :: (hR 4 [])))))))))))))))))) (ss := []) (R := [(law02_GrowthAsks_r0 b t_1 x1), FC P GG 28 (A_ref02_Box b) [] (.bool (ref02_Box b)), (ref02_Box b) = true, (decide (t_1.Shoots < 0)) = false, (decide (t_1.Shoots > 100000)) = false, (decide (t_1.Height < 0)) = false, (decide (t_1.Height > 100000)) = false, (decide (t_1.Girth < 0)) = false, (decide (t_1.Girth > 100000)) = true, (x1.2.2 == 2) = true, (x1.1 == 0) = true, (x1.2.1 == 0) = false]) (by kernel_rfl) ⟨growth_Ask_fc fu b t_1 x1 h1, ref02_Box_fc b, h2, h3, h4, h5, h6, h7, h8, h9, h10, h11, trivial⟩ (by kernel_rfl)
                    · skip
                      have e : law02_GrowthAsks fu b t_1 = some false := by unfold law02_GrowthAsks; rw [h1, Option.bind_some, h2, cond_true, h3, cond_false, h4, cond_false, h5, cond_false, h6, cond_false, h7, cond_false, h8, cond_true, h9, cond_true, h10, cond_false]; first | done | rfl
                      rw [e] at hh
                      have hr := Option.some.inj hh
                      rw [← hr]
                      exact FSat.done pfT (fuel := 16) (hs := (hR 5 ((hC (.tuple #[I (x1.1), I (x1.2.1), I (x1.2.2)])) :: (hR 8 ((hB (hC (.bool (ref02_Box b))) true) :: (hR 4 (hF :: (hR 4 (hF :: (hR 4 (hF :: (hR 4 (hF :: (hR 4 (hF :: (hR 4 (hT :: hE :: hE :: hT :: hE :: hE :: hF :: (hR 6 [])))))))))))))))))) (ss := []) (R := [(law02_GrowthAsks_r0 b t_1 x1), FC P GG 28 (A_ref02_Box b) [] (.bool (ref02_Box b)), (ref02_Box b) = true, (decide (t_1.Shoots < 0)) = false, (decide (t_1.Shoots > 100000)) = false, (decide (t_1.Height < 0)) = false, (decide (t_1.Height > 100000)) = false, (decide (t_1.Girth < 0)) = false, (decide (t_1.Girth > 100000)) = true, (x1.2.2 == 2) = true, (x1.1 == 0) = false]) (by kernel_rfl) ⟨growth_Ask_fc fu b t_1 x1 h1, ref02_Box_fc b, h2, h3, h4, h5, h6, h7, h8, h9, h10, trivial⟩ (by kernel_rfl)
                  · skip
                    have e : law02_GrowthAsks fu b t_1 = some false := by unfold law02_GrowthAsks; rw [h1, Option.bind_some, h2, cond_true, h3, cond_false, h4, cond_false, h5, cond_false, h6, cond_false, h7, cond_false, h8, cond_true, h9, cond_false]; first | done | rfl
                    rw [e] at hh
                    have hr := Option.some.inj hh
                    rw [← hr]
                    exact FSat.done pfT (fuel := 16) (hs := (hR 5 ((hC (.tuple #[I (x1.1), I (x1.2.1), I (x1.2.2)])) :: (hR 8 ((hB (hC (.bool (ref02_Box b))) true) :: (hR 4 (hF :: (hR 4 (hF :: (hR 4 (hF :: (hR 4 (hF :: (hR 4 (hF :: (hR 4 (hT :: hE :: hE :: hF :: (hR 7 [])))))))))))))))))) (ss := []) (R := [(law02_GrowthAsks_r0 b t_1 x1), FC P GG 28 (A_ref02_Box b) [] (.bool (ref02_Box b)), (ref02_Box b) = true, (decide (t_1.Shoots < 0)) = false, (decide (t_1.Shoots > 100000)) = false, (decide (t_1.Height < 0)) = false, (decide (t_1.Height > 100000)) = false, (decide (t_1.Girth < 0)) = false, (decide (t_1.Girth > 100000)) = true, (x1.2.2 == 2) = false]) (by kernel_rfl) ⟨growth_Ask_fc fu b t_1 x1 h1, ref02_Box_fc b, h2, h3, h4, h5, h6, h7, h8, h9, trivial⟩ (by kernel_rfl)
                · skip
                  cases h9 : ref02_Ask fu b t_1 with
                  | none =>
                    have e : law02_GrowthAsks fu b t_1 = none := by unfold law02_GrowthAsks; rw [h1, Option.bind_some, h2, cond_true, h3, cond_false, h4, cond_false, h5, cond_false, h6, cond_false, h7, cond_false, h8, cond_false, h9, Option.bind_none]; first | done | rfl
                    rw [e] at hh; cases hh
                  | some x9 =>
                    rcases Bool.eq_false_or_eq_true (x1.2.2 == 0) with h10 | h10
                    · skip
                      rcases Bool.eq_false_or_eq_true (x1.1 == x9.1) with h11 | h11
                      · skip
                        rcases Bool.eq_false_or_eq_true (x1.2.1 == x9.2) with h12 | h12
                        · skip
                          rcases Bool.eq_false_or_eq_true (decide (x1.2.1 ≤ (ref02_Spread b))) with h13 | h13
                          · skip
                            cases h14 : law02_known fu with
                            | none =>
                              have e : law02_GrowthAsks fu b t_1 = none := by unfold law02_GrowthAsks; rw [h1, Option.bind_some, h2, cond_true, h3, cond_false, h4, cond_false, h5, cond_false, h6, cond_false, h7, cond_false, h8, cond_false, h9, Option.bind_some, h10, cond_true, h11, cond_true, h12, cond_true, h13, cond_true, h14, Option.bind_none]; first | done | rfl
                              rw [e] at hh; cases hh
                            | some x14 =>
                              have e : law02_GrowthAsks fu b t_1 = some x14 := by unfold law02_GrowthAsks; rw [h1, Option.bind_some, h2, cond_true, h3, cond_false, h4, cond_false, h5, cond_false, h6, cond_false, h7, cond_false, h8, cond_false, h9, Option.bind_some, h10, cond_true, h11, cond_true, h12, cond_true, h13, cond_true, h14, Option.bind_some]; first | done | rfl
                              rw [e] at hh
                              have hr := Option.some.inj hh
                              rw [← hr]
                              exact FSat.done pfT (fuel := 19) (hs := (hR 5 ((hC (.tuple #[I (x1.1), I (x1.2.1), I (x1.2.2)])) :: (hR 8 ((hB (hC (.bool (ref02_Box b))) true) :: (hR 4 (hF :: (hR 4 (hF :: (hR 4 (hF :: (hR 4 (hF :: (hR 4 (hF :: (hR 4 (hF :: hE :: hE :: hE :: (hC (.tuple #[I (x9.1), I (x9.2)])) :: (hR 6 (hT :: hE :: hE :: hE :: hT :: (hR 4 (hT :: (hR 4 [(hC (I (ref02_Spread b))), hT, hE, hE, (hC (.bool (x14))), hE, hE])))))))))))))))))))))) (ss := []) (R := [(law02_GrowthAsks_r0 b t_1 x1), FC P GG 28 (A_ref02_Box b) [] (.bool (ref02_Box b)), (ref02_Box b) = true, (decide (t_1.Shoots < 0)) = false, (decide (t_1.Shoots > 100000)) = false, (decide (t_1.Height < 0)) = false, (decide (t_1.Height > 100000)) = false, (decide (t_1.Girth < 0)) = false, (decide (t_1.Girth > 100000)) = false, (law02_GrowthAsks_r1 b t_1 x9), (x1.2.2 == 0) = true, (x1.1 == x9.1) = true, (x1.2.1 == x9.2) = true, FC P GG 54 (A_ref02_Spread b) [] (I (ref02_Spread b)), (decide (x1.2.1 ≤ (ref02_Spread b))) = true, FC P GG 18 (A_law02_known) [] (.bool (x14))]) (by kernel_rfl) ⟨growth_Ask_fc fu b t_1 x1 h1, ref02_Box_fc b, h2, h3, h4, h5, h6, h7, h8, ref02_Ask_fc fu b t_1 x9 h9, h10, h11, h12, ref02_Spread_fc b, h13, law02_known_fc fu  x14 h14, trivial⟩ (by kernel_rfl)
                          · skip
                            have e : law02_GrowthAsks fu b t_1 = some false := by unfold law02_GrowthAsks; rw [h1, Option.bind_some, h2, cond_true, h3, cond_false, h4, cond_false, h5, cond_false, h6, cond_false, h7, cond_false, h8, cond_false, h9, Option.bind_some, h10, cond_true, h11, cond_true, h12, cond_true, h13, cond_false]; first | done | rfl
                            rw [e] at hh
                            have hr := Option.some.inj hh
                            rw [← hr]
                            exact FSat.done pfT (fuel := 19) (hs := (hR 5 ((hC (.tuple #[I (x1.1), I (x1.2.1), I (x1.2.2)])) :: (hR 8 ((hB (hC (.bool (ref02_Box b))) true) :: (hR 4 (hF :: (hR 4 (hF :: (hR 4 (hF :: (hR 4 (hF :: (hR 4 (hF :: (hR 4 (hF :: hE :: hE :: hE :: (hC (.tuple #[I (x9.1), I (x9.2)])) :: (hR 6 (hT :: hE :: hE :: hE :: hT :: (hR 4 (hT :: (hR 4 ((hC (I (ref02_Spread b))) :: hF :: (hR 4 [])))))))))))))))))))))))) (ss := []) (R := [(law02_GrowthAsks_r0 b t_1 x1), FC P GG 28 (A_ref02_Box b) [] (.bool (ref02_Box b)), (ref02_Box b) = true, (decide (t_1.Shoots < 0)) = false, (decide (t_1.Shoots > 100000)) = false, (decide (t_1.Height < 0)) = false, (decide (t_1.Height > 100000)) = false, (decide (t_1.Girth < 0)) = false, (decide (t_1.Girth > 100000)) = false, (law02_GrowthAsks_r1 b t_1 x9), (x1.2.2 == 0) = true, (x1.1 == x9.1) = true, (x1.2.1 == x9.2) = true, FC P GG 54 (A_ref02_Spread b) [] (I (ref02_Spread b)), (decide (x1.2.1 ≤ (ref02_Spread b))) = false]) (by kernel_rfl) ⟨growth_Ask_fc fu b t_1 x1 h1, ref02_Box_fc b, h2, h3, h4, h5, h6, h7, h8, ref02_Ask_fc fu b t_1 x9 h9, h10, h11, h12, ref02_Spread_fc b, h13, trivial⟩ (by kernel_rfl)
                        · skip
                          have e : law02_GrowthAsks fu b t_1 = some false := by unfold law02_GrowthAsks; rw [h1, Option.bind_some, h2, cond_true, h3, cond_false, h4, cond_false, h5, cond_false, h6, cond_false, h7, cond_false, h8, cond_false, h9, Option.bind_some, h10, cond_true, h11, cond_true, h12, cond_false]; first | done | rfl
                          rw [e] at hh
                          have hr := Option.some.inj hh
                          rw [← hr]
                          exact FSat.done pfT (fuel := 19) (hs := (hR 5 ((hC (.tuple #[I (x1.1), I (x1.2.1), I (x1.2.2)])) :: (hR 8 ((hB (hC (.bool (ref02_Box b))) true) :: (hR 4 (hF :: (hR 4 (hF :: (hR 4 (hF :: (hR 4 (hF :: (hR 4 (hF :: (hR 4 (hF :: hE :: hE :: hE :: (hC (.tuple #[I (x9.1), I (x9.2)])) :: (hR 6 (hT :: hE :: hE :: hE :: hT :: (hR 4 (hF :: (hR 6 [])))))))))))))))))))))) (ss := []) (R := [(law02_GrowthAsks_r0 b t_1 x1), FC P GG 28 (A_ref02_Box b) [] (.bool (ref02_Box b)), (ref02_Box b) = true, (decide (t_1.Shoots < 0)) = false, (decide (t_1.Shoots > 100000)) = false, (decide (t_1.Height < 0)) = false, (decide (t_1.Height > 100000)) = false, (decide (t_1.Girth < 0)) = false, (decide (t_1.Girth > 100000)) = false, (law02_GrowthAsks_r1 b t_1 x9), (x1.2.2 == 0) = true, (x1.1 == x9.1) = true, (x1.2.1 == x9.2) = false]) (by kernel_rfl) ⟨growth_Ask_fc fu b t_1 x1 h1, ref02_Box_fc b, h2, h3, h4, h5, h6, h7, h8, ref02_Ask_fc fu b t_1 x9 h9, h10, h11, h12, trivial⟩ (by kernel_rfl)
                      · skip
                        have e : law02_GrowthAsks fu b t_1 = some false := by unfold law02_GrowthAsks; rw [h1, Option.bind_some, h2, cond_true, h3, cond_false, h4, cond_false, h5, cond_false, h6, cond_false, h7, cond_false, h8, cond_false, h9, Option.bind_some, h10, cond_true, h11, cond_false]; first | done | rfl
                        rw [e] at hh
                        have hr := Option.some.inj hh
                        rw [← hr]
                        exact FSat.done pfT (fuel := 19) (hs := (hR 5 ((hC (.tuple #[I (x1.1), I (x1.2.1), I (x1.2.2)])) :: (hR 8 ((hB (hC (.bool (ref02_Box b))) true) :: (hR 4 (hF :: (hR 4 (hF :: (hR 4 (hF :: (hR 4 (hF :: (hR 4 (hF :: (hR 4 (hF :: hE :: hE :: hE :: (hC (.tuple #[I (x9.1), I (x9.2)])) :: (hR 6 (hT :: hE :: hE :: hE :: hF :: (hR 8 [])))))))))))))))))))) (ss := []) (R := [(law02_GrowthAsks_r0 b t_1 x1), FC P GG 28 (A_ref02_Box b) [] (.bool (ref02_Box b)), (ref02_Box b) = true, (decide (t_1.Shoots < 0)) = false, (decide (t_1.Shoots > 100000)) = false, (decide (t_1.Height < 0)) = false, (decide (t_1.Height > 100000)) = false, (decide (t_1.Girth < 0)) = false, (decide (t_1.Girth > 100000)) = false, (law02_GrowthAsks_r1 b t_1 x9), (x1.2.2 == 0) = true, (x1.1 == x9.1) = false]) (by kernel_rfl) ⟨growth_Ask_fc fu b t_1 x1 h1, ref02_Box_fc b, h2, h3, h4, h5, h6, h7, h8, ref02_Ask_fc fu b t_1 x9 h9, h10, h11, trivial⟩ (by kernel_rfl)
                    · skip
                      have e : law02_GrowthAsks fu b t_1 = some false := by unfold law02_GrowthAsks; rw [h1, Option.bind_some, h2, cond_true, h3, cond_false, h4, cond_false, h5, cond_false, h6, cond_false, h7, cond_false, h8, cond_false, h9, Option.bind_some, h10, cond_false]; first | done | rfl
                      rw [e] at hh
                      have hr := Option.some.inj hh
                      rw [← hr]
                      exact FSat.done pfT (fuel := 19) (hs := (hR 5 ((hC (.tuple #[I (x1.1), I (x1.2.1), I (x1.2.2)])) :: (hR 8 ((hB (hC (.bool (ref02_Box b))) true) :: (hR 4 (hF :: (hR 4 (hF :: (hR 4 (hF :: (hR 4 (hF :: (hR 4 (hF :: (hR 4 (hF :: hE :: hE :: hE :: (hC (.tuple #[I (x9.1), I (x9.2)])) :: (hR 6 (hF :: (hR 9 [])))))))))))))))))))) (ss := []) (R := [(law02_GrowthAsks_r0 b t_1 x1), FC P GG 28 (A_ref02_Box b) [] (.bool (ref02_Box b)), (ref02_Box b) = true, (decide (t_1.Shoots < 0)) = false, (decide (t_1.Shoots > 100000)) = false, (decide (t_1.Height < 0)) = false, (decide (t_1.Height > 100000)) = false, (decide (t_1.Girth < 0)) = false, (decide (t_1.Girth > 100000)) = false, (law02_GrowthAsks_r1 b t_1 x9), (x1.2.2 == 0) = false]) (by kernel_rfl) ⟨growth_Ask_fc fu b t_1 x1 h1, ref02_Box_fc b, h2, h3, h4, h5, h6, h7, h8, ref02_Ask_fc fu b t_1 x9 h9, h10, trivial⟩ (by kernel_rfl)
    · skip
      rcases Bool.eq_false_or_eq_true (x1.2.2 == 2) with h3 | h3
      · skip
        rcases Bool.eq_false_or_eq_true (x1.1 == 0) with h4 | h4
        · skip
          rcases Bool.eq_false_or_eq_true (x1.2.1 == 0) with h5 | h5
          · skip
            cases h6 : law02_known fu with
            | none =>
              have e : law02_GrowthAsks fu b t_1 = none := by unfold law02_GrowthAsks; rw [h1, Option.bind_some, h2, cond_false, h3, cond_true, h4, cond_true, h5, cond_true, h6, Option.bind_none]; first | done | rfl
              rw [e] at hh; cases hh
            | some x6 =>
              have e : law02_GrowthAsks fu b t_1 = some x6 := by unfold law02_GrowthAsks; rw [h1, Option.bind_some, h2, cond_false, h3, cond_true, h4, cond_true, h5, cond_true, h6, Option.bind_some]; first | done | rfl
              rw [e] at hh
              have hr := Option.some.inj hh
              rw [← hr]
              exact FSat.done pfT (fuel := 16) (hs := (hR 5 ((hC (.tuple #[I (x1.1), I (x1.2.1), I (x1.2.2)])) :: (hR 8 ((hB (hC (.bool (ref02_Box b))) false) :: (hR 14 [hT, hE, hE, hT, hE, hE, hE, hT, hE, hE, (hC (.bool (x6))), hE, hE])))))) (ss := []) (R := [(law02_GrowthAsks_r0 b t_1 x1), FC P GG 28 (A_ref02_Box b) [] (.bool (ref02_Box b)), (ref02_Box b) = false, (x1.2.2 == 2) = true, (x1.1 == 0) = true, (x1.2.1 == 0) = true, FC P GG 18 (A_law02_known) [] (.bool (x6))]) (by kernel_rfl) ⟨growth_Ask_fc fu b t_1 x1 h1, ref02_Box_fc b, h2, h3, h4, h5, law02_known_fc fu  x6 h6, trivial⟩ (by kernel_rfl)
          · skip
            have e : law02_GrowthAsks fu b t_1 = some false := by unfold law02_GrowthAsks; rw [h1, Option.bind_some, h2, cond_false, h3, cond_true, h4, cond_true, h5, cond_false]; first | done | rfl
            rw [e] at hh
            have hr := Option.some.inj hh
            rw [← hr]
            exact FSat.done pfT (fuel := 16) (hs := (hR 5 ((hC (.tuple #[I (x1.1), I (x1.2.1), I (x1.2.2)])) :: (hR 8 ((hB (hC (.bool (ref02_Box b))) false) :: (hR 14 (hT :: hE :: hE :: hT :: hE :: hE :: hE :: hF :: (hR 4 [])))))))) (ss := []) (R := [(law02_GrowthAsks_r0 b t_1 x1), FC P GG 28 (A_ref02_Box b) [] (.bool (ref02_Box b)), (ref02_Box b) = false, (x1.2.2 == 2) = true, (x1.1 == 0) = true, (x1.2.1 == 0) = false]) (by kernel_rfl) ⟨growth_Ask_fc fu b t_1 x1 h1, ref02_Box_fc b, h2, h3, h4, h5, trivial⟩ (by kernel_rfl)
        · skip
          have e : law02_GrowthAsks fu b t_1 = some false := by unfold law02_GrowthAsks; rw [h1, Option.bind_some, h2, cond_false, h3, cond_true, h4, cond_false]; first | done | rfl
          rw [e] at hh
          have hr := Option.some.inj hh
          rw [← hr]
          exact FSat.done pfT (fuel := 16) (hs := (hR 5 ((hC (.tuple #[I (x1.1), I (x1.2.1), I (x1.2.2)])) :: (hR 8 ((hB (hC (.bool (ref02_Box b))) false) :: (hR 14 (hT :: hE :: hE :: hF :: (hR 6 [])))))))) (ss := []) (R := [(law02_GrowthAsks_r0 b t_1 x1), FC P GG 28 (A_ref02_Box b) [] (.bool (ref02_Box b)), (ref02_Box b) = false, (x1.2.2 == 2) = true, (x1.1 == 0) = false]) (by kernel_rfl) ⟨growth_Ask_fc fu b t_1 x1 h1, ref02_Box_fc b, h2, h3, h4, trivial⟩ (by kernel_rfl)
      · skip
        have e : law02_GrowthAsks fu b t_1 = some false := by unfold law02_GrowthAsks; rw [h1, Option.bind_some, h2, cond_false, h3, cond_false]; first | done | rfl
        rw [e] at hh
        have hr := Option.some.inj hh
        rw [← hr]
        exact FSat.done pfT (fuel := 16) (hs := (hR 5 ((hC (.tuple #[I (x1.1), I (x1.2.1), I (x1.2.2)])) :: (hR 8 ((hB (hC (.bool (ref02_Box b))) false) :: (hR 14 (hF :: (hR 7 [])))))))) (ss := []) (R := [(law02_GrowthAsks_r0 b t_1 x1), FC P GG 28 (A_ref02_Box b) [] (.bool (ref02_Box b)), (ref02_Box b) = false, (x1.2.2 == 2) = false]) (by kernel_rfl) ⟨growth_Ask_fc fu b t_1 x1 h1, ref02_Box_fc b, h2, h3, trivial⟩ (by kernel_rfl)



end Go.Proofs.G2
