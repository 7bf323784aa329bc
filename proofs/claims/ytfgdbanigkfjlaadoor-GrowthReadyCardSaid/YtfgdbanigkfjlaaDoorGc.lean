/- Contracts of the functions that the law runs, part 3: made by a program, checked by the kernel. No conditions. -/
import Derived.Test.YtfgdbanigkfjlaaDoorGb
namespace Go.Proofs.G2
open Go.Sim Go.Proofs
set_option maxRecDepth 20000
set_option maxHeartbeats 1000000
noncomputable def sg11H (_fu : Nat) (s : XSpecies) (q10 q11 q12 q13 : Nat) (p0 p1 : XBox) (p2 : XSeason) (_p3 : Nat) : List Hint := (hR 14 ((hM (.agg #[I (p0.Low.Age), I (p0.Low.Shoots), I (p0.Low.Height), I (p0.Low.Girth), I (p0.High.Age), I (p0.High.Shoots), I (p0.High.Height), I (p0.High.Girth)]) (.agg #[I (p0.Low.Age), I (p0.Low.Shoots), I (p0.Low.Height), I (p0.Low.Girth), I (p0.High.Age), I (p0.High.Shoots), I (p0.High.Height), I (p0.High.Girth)]) (A_ref02_Step s p1 p2 q10 q11 q12 q13) (K_ref02_Step s) [(10, 10, 0), (11, 11, 0), (12, 12, 0), (13, 13, 0)]) :: (hR 6 [])))
def sg11R (_fu : Nat) (s : XSpecies) (q10 q11 q12 q13 : Nat) (p0 p1 : XBox) (p2 : XSeason) (p3 : Nat) : List Prop := [FC P GG 33 (A_ref02_Step s p1 p2 q10 q11 q12 q13) (K_ref02_Step s) (.agg #[I (p0.Low.Age), I (p0.Low.Shoots), I (p0.Low.Height), I (p0.Low.Girth), I (p0.High.Age), I (p0.High.Shoots), I (p0.High.Height), I (p0.High.Girth)]), VRs (Ren.emb [(10, 10, 0), (11, 11, 0), (12, 12, 0), (13, 13, 0)]) (A_ref02_Step s p1 p2 q10 q11 q12 q13) [.agg #[.slice (some ⟨10, 0, none⟩) (s.Rise.length) (q10), .slice (some ⟨11, 0, none⟩) (s.Thick.length) (q11), I (s.Top), I (s.Stout), I (s.Shade), I (s.Reach), .slice (some ⟨12, 0, none⟩) (s.Ladder.length) (q12), .slice (some ⟨13, 0, none⟩) (s.Sprouts.length) (q13)], .agg #[I (p1.Low.Age), I (p1.Low.Shoots), I (p1.Low.Height), I (p1.Low.Girth), I (p1.High.Age), I (p1.High.Shoots), I (p1.High.Height), I (p1.High.Girth)], .agg #[I (p2.Light.Low), I (p2.Light.High), I (p2.Browse.Low), I (p2.Browse.High), I (p2.Mild.Low), I (p2.Mild.High), .bool (p2.Cut)]], MemAt (Ren.emb [(10, 10, 0), (11, 11, 0), (12, 12, 0), (13, 13, 0)]) (encL cInt s.Rise) 0 (encL cInt s.Rise) ∧ MemAt (Ren.emb [(10, 10, 0), (11, 11, 0), (12, 12, 0), (13, 13, 0)]) (encL cInt s.Thick) 0 (encL cInt s.Thick) ∧ MemAt (Ren.emb [(10, 10, 0), (11, 11, 0), (12, 12, 0), (13, 13, 0)]) (encL cXRung s.Ladder) 0 (encL cXRung s.Ladder) ∧ MemAt (Ren.emb [(10, 10, 0), (11, 11, 0), (12, 12, 0), (13, 13, 0)]) (encL cXSpan s.Sprouts) 0 (encL cXSpan s.Sprouts) ∧ True, VR (Ren.emb [(10, 10, 0), (11, 11, 0), (12, 12, 0), (13, 13, 0)]) (.agg #[I (p0.Low.Age), I (p0.Low.Shoots), I (p0.Low.Height), I (p0.Low.Girth), I (p0.High.Age), I (p0.High.Shoots), I (p0.High.Height), I (p0.High.Girth)]) (.agg #[I (p0.Low.Age), I (p0.Low.Shoots), I (p0.Low.Height), I (p0.Low.Girth), I (p0.High.Age), I (p0.High.Shoots), I (p0.High.Height), I (p0.High.Girth)]), (.slice (some ⟨p3, 0, none⟩) (12) (12) : Value) = .slice (some ⟨p3, 0, none⟩) (12) (12)]
theorem sg11P (fu : Nat) (s : XSpecies) (q10 q11 q12 q13 : Nat) (p0 p1 : XBox) (p2 : XSeason) (p3 : Nat) (p4 : (ref02_Step fu s p1 p2) = some p0) : All (sg11R fu s q10 q11 q12 q13 p0 p1 p2 p3) := ⟨ref02_Step_fc fu s p1 p2 q10 q11 q12 q13 p0 p4, (.cons _ _ _ _ (.agg _ _ (.cons _ _ _ _ (.slc 10 0 _ _ _ ⟨10, 0, 0, 0⟩ rfl (.inl rfl)) (.cons _ _ _ _ (.slc 11 0 _ _ _ ⟨11, 0, 0, 0⟩ rfl (.inl rfl)) (.cons _ _ _ _ (VR.of_pf rfl) (.cons _ _ _ _ (VR.of_pf rfl) (.cons _ _ _ _ (VR.of_pf rfl) (.cons _ _ _ _ (VR.of_pf rfl) (.cons _ _ _ _ (.slc 12 0 _ _ _ ⟨12, 0, 0, 0⟩ rfl (.inl rfl)) (.cons _ _ _ _ (.slc 13 0 _ _ _ ⟨13, 0, 0, 0⟩ rfl (.inl rfl)) .nil))))))))) (.cons _ _ _ _ (VR.of_pf rfl) (.cons _ _ _ _ (VR.of_pf rfl) .nil))), ⟨MemAt.same _ (encL_pf cInt_pf _), MemAt.same _ (encL_pf cInt_pf _), MemAt.same _ (encL_pf cXRung_pf _), MemAt.same _ (encL_pf cXSpan_pf _), trivial⟩, selfB_self 9 _ rfl _, rfl, trivial⟩
theorem ref02_History_12_ex (fu : Nat) (s : XSpecies) (b : XBox) (l_0 l_1 l_2 l_3 l_4 l_5 l_6 l_7 l_8 l_9 l_10 l_11 : XSeason) (q10 q11 q12 q13 q14 : Nat) (x1 x2 x3 x4 x5 x6 x7 x8 x9 x10 x11 x12 : XBox) (h1 : (ref02_Step fu s b l_0) = some x1) (h2 : (ref02_Step fu s x1 l_1) = some x2) (h3 : (ref02_Step fu s x2 l_2) = some x3) (h4 : (ref02_Step fu s x3 l_3) = some x4) (h5 : (ref02_Step fu s x4 l_4) = some x5) (h6 : (ref02_Step fu s x5 l_5) = some x6) (h7 : (ref02_Step fu s x6 l_6) = some x7) (h8 : (ref02_Step fu s x7 l_7) = some x8) (h9 : (ref02_Step fu s x8 l_8) = some x9) (h10 : (ref02_Step fu s x9 l_9) = some x10) (h11 : (ref02_Step fu s x10 l_10) = some x11) (h12 : (ref02_Step fu s x11 l_11) = some x12) : FCN P GG 36 [.agg #[.slice (some ⟨10, 0, none⟩) (s.Rise.length) (q10), .slice (some ⟨11, 0, none⟩) (s.Thick.length) (q11), I (s.Top), I (s.Stout), I (s.Shade), I (s.Reach), .slice (some ⟨12, 0, none⟩) (s.Ladder.length) (q12), .slice (some ⟨13, 0, none⟩) (s.Sprouts.length) (q13)], .agg #[I (b.Low.Age), I (b.Low.Shoots), I (b.Low.Height), I (b.Low.Girth), I (b.High.Age), I (b.High.Shoots), I (b.High.Height), I (b.High.Girth)], .slice (some ⟨14, 0, none⟩) (12) (q14)] [(10, encL cInt s.Rise), (11, encL cInt s.Thick), (12, encL cXRung s.Ladder), (13, encL cXSpan s.Sprouts), (14, encL cXSeason [l_0, l_1, l_2, l_3, l_4, l_5, l_6, l_7, l_8, l_9, l_10, l_11])] (.slice (some ⟨77, 0, none⟩) (13) (13)) 77 (encL cXBox ([b, x1, x2, x3, x4, x5, x6, x7, x8, x9, x10, x11, x12])) 8 :=
  FCN.of_exec pfT 100 60 (b := 126) (v := (.slice (some ⟨126, 0, none⟩) (13) (13))) (hs := (((hR 7 [])) ++ ((sg0H fu s q10 q11 q12 q13 x1 b l_0 102) ++ ((sg1H fu s q10 q11 q12 q13 x2 x1 l_1 104) ++ ((sg2H fu s q10 q11 q12 q13 x3 x2 l_2 106) ++ ((sg3H fu s q10 q11 q12 q13 x4 x3 l_3 108) ++ ((sg4H fu s q10 q11 q12 q13 x5 x4 l_4 110) ++ ((sg5H fu s q10 q11 q12 q13 x6 x5 l_5 112) ++ ((sg6H fu s q10 q11 q12 q13 x7 x6 l_6 114) ++ ((sg7H fu s q10 q11 q12 q13 x8 x7 l_7 116) ++ ((sg8H fu s q10 q11 q12 q13 x9 x8 l_8 118) ++ ((sg9H fu s q10 q11 q12 q13 x10 x9 l_9 120) ++ ((sg10H fu s q10 q11 q12 q13 x11 x10 l_10 122) ++ ((sg11H fu s q10 q11 q12 q13 x12 x11 l_11 124) ++ (((hR 4 [])) ++ [hE, hE]))))))))))))))) (R := (([]) ++ ((sg0R fu s q10 q11 q12 q13 x1 b l_0 102) ++ ((sg1R fu s q10 q11 q12 q13 x2 x1 l_1 104) ++ ((sg2R fu s q10 q11 q12 q13 x3 x2 l_2 106) ++ ((sg3R fu s q10 q11 q12 q13 x4 x3 l_3 108) ++ ((sg4R fu s q10 q11 q12 q13 x5 x4 l_4 110) ++ ((sg5R fu s q10 q11 q12 q13 x6 x5 l_5 112) ++ ((sg6R fu s q10 q11 q12 q13 x7 x6 l_6 114) ++ ((sg7R fu s q10 q11 q12 q13 x8 x7 l_7 116) ++ ((sg8R fu s q10 q11 q12 q13 x9 x8 l_8 118) ++ ((sg9R fu s q10 q11 q12 q13 x10 x9 l_9 120) ++ ((sg10R fu s q10 q11 q12 q13 x11 x10 l_10 122) ++ ((sg11R fu s q10 q11 q12 q13 x12 x11 l_11 124) ++ (([]) ++ []))))))))))))))) (by kernel_rfl) (All.append.2 ⟨trivial, (All.append.2 ⟨sg0P fu s q10 q11 q12 q13 x1 b l_0 102 h1, (All.append.2 ⟨sg1P fu s q10 q11 q12 q13 x2 x1 l_1 104 h2, (All.append.2 ⟨sg2P fu s q10 q11 q12 q13 x3 x2 l_2 106 h3, (All.append.2 ⟨sg3P fu s q10 q11 q12 q13 x4 x3 l_3 108 h4, (All.append.2 ⟨sg4P fu s q10 q11 q12 q13 x5 x4 l_4 110 h5, (All.append.2 ⟨sg5P fu s q10 q11 q12 q13 x6 x5 l_5 112 h6, (All.append.2 ⟨sg6P fu s q10 q11 q12 q13 x7 x6 l_6 114 h7, (All.append.2 ⟨sg7P fu s q10 q11 q12 q13 x8 x7 l_7 116 h8, (All.append.2 ⟨sg8P fu s q10 q11 q12 q13 x9 x8 l_8 118 h9, (All.append.2 ⟨sg9P fu s q10 q11 q12 q13 x10 x9 l_9 120 h10, (All.append.2 ⟨sg10P fu s q10 q11 q12 q13 x11 x10 l_10 122 h11, (All.append.2 ⟨sg11P fu s q10 q11 q12 q13 x12 x11 l_11 124 h12, (All.append.2 ⟨trivial, trivial⟩)⟩)⟩)⟩)⟩)⟩)⟩)⟩)⟩)⟩)⟩)⟩)⟩)⟩) (by kernel_rfl) ⟨PinL.pf (encL_pf cInt_pf _), PinL.pf (encL_pf cInt_pf _), PinL.pf (encL_pf cXRung_pf _), PinL.pf (encL_pf cXSpan_pf _), PinL.pf (encL_pf cXSeason_pf _), trivial⟩ (by kernel_rfl) (by kernel_rfl) (by kernel_rfl) (by kernel_rfl) (.slc 77 0 _ _ _ ⟨126, 0, 0, 0⟩ rfl (.inl rfl))

theorem ref02_History_none (fu : Nat) (s : XSpecies) (b : XBox) (l : List XSeason) (q10 q11 q12 q13 q14 : Nat) (h : decide (1 ≤ l.length) = false) : FCN P GG 36 [.agg #[.slice (some ⟨10, 0, none⟩) (s.Rise.length) (q10), .slice (some ⟨11, 0, none⟩) (s.Thick.length) (q11), I (s.Top), I (s.Stout), I (s.Shade), I (s.Reach), .slice (some ⟨12, 0, none⟩) (s.Ladder.length) (q12), .slice (some ⟨13, 0, none⟩) (s.Sprouts.length) (q13)], .agg #[I (b.Low.Age), I (b.Low.Shoots), I (b.Low.Height), I (b.Low.Girth), I (b.High.Age), I (b.High.Shoots), I (b.High.Height), I (b.High.Girth)], .slice (some ⟨14, 0, none⟩) (l.length) (q14)] [(10, encL cInt s.Rise), (11, encL cInt s.Thick), (12, encL cXRung s.Ladder), (13, encL cXSpan s.Sprouts), (14, encL cXSeason l)] (.slice (some ⟨77, 0, none⟩) (1) (1)) 77 (encL cXBox [b]) 0 := by
  cases l with
  | nil => exact ref02_History_0_ex fu s b q10 q11 q12 q13 q14
  | cons q l => exact absurd (of_decide_eq_false h) (by simp)

noncomputable def ref02_hist (fu : Nat) (s : XSpecies) : XBox → List XSeason → Option (List XBox)
  | b, [] => some [b]
  | b, q :: l => Option.bind (ref02_Step fu s b q) fun x => Option.bind (ref02_hist fu s x l) fun r => some (b :: r)
theorem ref02_hist_cons {fu : Nat} {s : XSpecies} {b : XBox} {q : XSeason} {l : List XSeason} {r : List XBox} (h : ref02_hist fu s b (q :: l) = some r) : ∃ x r2, ref02_Step fu s b q = some x ∧ ref02_hist fu s x l = some r2 ∧ b :: r2 = r := by
  unfold ref02_hist at h
  cases h1 : ref02_Step fu s b q with
  | none => rw [h1] at h; cases h
  | some x =>
    rw [h1, Option.bind_some] at h
    cases h2 : ref02_hist fu s x l with
    | none => rw [h2] at h; cases h
    | some r2 => rw [h2, Option.bind_some] at h; exact ⟨x, r2, rfl, h2, Option.some.inj h⟩
theorem ref02_History_fcn (fu : Nat) (s : XSpecies) (b : XBox) (l : List XSeason) (q10 q11 q12 q13 q14 : Nat) (r : List XBox) (hlo : 1 ≤ l.length) (hl : l.length ≤ 12) (hh : ref02_hist fu s b l = some r) : FCN P GG 36 [.agg #[.slice (some ⟨10, 0, none⟩) (s.Rise.length) (q10), .slice (some ⟨11, 0, none⟩) (s.Thick.length) (q11), I (s.Top), I (s.Stout), I (s.Shade), I (s.Reach), .slice (some ⟨12, 0, none⟩) (s.Ladder.length) (q12), .slice (some ⟨13, 0, none⟩) (s.Sprouts.length) (q13)], .agg #[I (b.Low.Age), I (b.Low.Shoots), I (b.Low.Height), I (b.Low.Girth), I (b.High.Age), I (b.High.Shoots), I (b.High.Height), I (b.High.Girth)], .slice (some ⟨14, 0, none⟩) (l.length) (q14)] [(10, encL cInt s.Rise), (11, encL cInt s.Thick), (12, encL cXRung s.Ladder), (13, encL cXSpan s.Sprouts), (14, encL cXSeason l)] (.slice (some ⟨77, 0, none⟩) (r.length) (r.length)) 77 (encL cXBox r) 8 := by
  match l, hlo, hl with
  | [l_0], _, _ =>
    obtain ⟨y0, r0, e0, g0, rfl⟩ := ref02_hist_cons hh
    cases g0
    exact ref02_History_1_ex fu s b l_0 q10 q11 q12 q13 q14  y0  e0
  | [l_0, l_1], _, _ =>
    obtain ⟨y0, r0, e0, g0, rfl⟩ := ref02_hist_cons hh
    obtain ⟨y1, r1, e1, g1, rfl⟩ := ref02_hist_cons g0
    cases g1
    exact ref02_History_2_ex fu s b l_0 l_1 q10 q11 q12 q13 q14  y0 y1  e0 e1
  | [l_0, l_1, l_2], _, _ =>
    obtain ⟨y0, r0, e0, g0, rfl⟩ := ref02_hist_cons hh
    obtain ⟨y1, r1, e1, g1, rfl⟩ := ref02_hist_cons g0
    obtain ⟨y2, r2, e2, g2, rfl⟩ := ref02_hist_cons g1
    cases g2
    exact ref02_History_3_ex fu s b l_0 l_1 l_2 q10 q11 q12 q13 q14  y0 y1 y2  e0 e1 e2
  | [l_0, l_1, l_2, l_3], _, _ =>
    obtain ⟨y0, r0, e0, g0, rfl⟩ := ref02_hist_cons hh
    obtain ⟨y1, r1, e1, g1, rfl⟩ := ref02_hist_cons g0
    obtain ⟨y2, r2, e2, g2, rfl⟩ := ref02_hist_cons g1
    obtain ⟨y3, r3, e3, g3, rfl⟩ := ref02_hist_cons g2
    cases g3
    exact ref02_History_4_ex fu s b l_0 l_1 l_2 l_3 q10 q11 q12 q13 q14  y0 y1 y2 y3  e0 e1 e2 e3
  | [l_0, l_1, l_2, l_3, l_4], _, _ =>
    obtain ⟨y0, r0, e0, g0, rfl⟩ := ref02_hist_cons hh
    obtain ⟨y1, r1, e1, g1, rfl⟩ := ref02_hist_cons g0
    obtain ⟨y2, r2, e2, g2, rfl⟩ := ref02_hist_cons g1
    obtain ⟨y3, r3, e3, g3, rfl⟩ := ref02_hist_cons g2
    obtain ⟨y4, r4, e4, g4, rfl⟩ := ref02_hist_cons g3
    cases g4
    exact ref02_History_5_ex fu s b l_0 l_1 l_2 l_3 l_4 q10 q11 q12 q13 q14  y0 y1 y2 y3 y4  e0 e1 e2 e3 e4
  | [l_0, l_1, l_2, l_3, l_4, l_5], _, _ =>
    obtain ⟨y0, r0, e0, g0, rfl⟩ := ref02_hist_cons hh
    obtain ⟨y1, r1, e1, g1, rfl⟩ := ref02_hist_cons g0
    obtain ⟨y2, r2, e2, g2, rfl⟩ := ref02_hist_cons g1
    obtain ⟨y3, r3, e3, g3, rfl⟩ := ref02_hist_cons g2
    obtain ⟨y4, r4, e4, g4, rfl⟩ := ref02_hist_cons g3
    obtain ⟨y5, r5, e5, g5, rfl⟩ := ref02_hist_cons g4
    cases g5
    exact ref02_History_6_ex fu s b l_0 l_1 l_2 l_3 l_4 l_5 q10 q11 q12 q13 q14  y0 y1 y2 y3 y4 y5  e0 e1 e2 e3 e4 e5
  | [l_0, l_1, l_2, l_3, l_4, l_5, l_6], _, _ =>
    obtain ⟨y0, r0, e0, g0, rfl⟩ := ref02_hist_cons hh
    obtain ⟨y1, r1, e1, g1, rfl⟩ := ref02_hist_cons g0
    obtain ⟨y2, r2, e2, g2, rfl⟩ := ref02_hist_cons g1
    obtain ⟨y3, r3, e3, g3, rfl⟩ := ref02_hist_cons g2
    obtain ⟨y4, r4, e4, g4, rfl⟩ := ref02_hist_cons g3
    obtain ⟨y5, r5, e5, g5, rfl⟩ := ref02_hist_cons g4
    obtain ⟨y6, r6, e6, g6, rfl⟩ := ref02_hist_cons g5
    cases g6
    exact ref02_History_7_ex fu s b l_0 l_1 l_2 l_3 l_4 l_5 l_6 q10 q11 q12 q13 q14  y0 y1 y2 y3 y4 y5 y6  e0 e1 e2 e3 e4 e5 e6
  | [l_0, l_1, l_2, l_3, l_4, l_5, l_6, l_7], _, _ =>
    obtain ⟨y0, r0, e0, g0, rfl⟩ := ref02_hist_cons hh
    obtain ⟨y1, r1, e1, g1, rfl⟩ := ref02_hist_cons g0
    obtain ⟨y2, r2, e2, g2, rfl⟩ := ref02_hist_cons g1
    obtain ⟨y3, r3, e3, g3, rfl⟩ := ref02_hist_cons g2
    obtain ⟨y4, r4, e4, g4, rfl⟩ := ref02_hist_cons g3
    obtain ⟨y5, r5, e5, g5, rfl⟩ := ref02_hist_cons g4
    obtain ⟨y6, r6, e6, g6, rfl⟩ := ref02_hist_cons g5
    obtain ⟨y7, r7, e7, g7, rfl⟩ := ref02_hist_cons g6
    cases g7
    exact ref02_History_8_ex fu s b l_0 l_1 l_2 l_3 l_4 l_5 l_6 l_7 q10 q11 q12 q13 q14  y0 y1 y2 y3 y4 y5 y6 y7  e0 e1 e2 e3 e4 e5 e6 e7
  | [l_0, l_1, l_2, l_3, l_4, l_5, l_6, l_7, l_8], _, _ =>
    obtain ⟨y0, r0, e0, g0, rfl⟩ := ref02_hist_cons hh
    obtain ⟨y1, r1, e1, g1, rfl⟩ := ref02_hist_cons g0
    obtain ⟨y2, r2, e2, g2, rfl⟩ := ref02_hist_cons g1
    obtain ⟨y3, r3, e3, g3, rfl⟩ := ref02_hist_cons g2
    obtain ⟨y4, r4, e4, g4, rfl⟩ := ref02_hist_cons g3
    obtain ⟨y5, r5, e5, g5, rfl⟩ := ref02_hist_cons g4
    obtain ⟨y6, r6, e6, g6, rfl⟩ := ref02_hist_cons g5
    obtain ⟨y7, r7, e7, g7, rfl⟩ := ref02_hist_cons g6
    obtain ⟨y8, r8, e8, g8, rfl⟩ := ref02_hist_cons g7
    cases g8
    exact ref02_History_9_ex fu s b l_0 l_1 l_2 l_3 l_4 l_5 l_6 l_7 l_8 q10 q11 q12 q13 q14  y0 y1 y2 y3 y4 y5 y6 y7 y8  e0 e1 e2 e3 e4 e5 e6 e7 e8
  | [l_0, l_1, l_2, l_3, l_4, l_5, l_6, l_7, l_8, l_9], _, _ =>
    obtain ⟨y0, r0, e0, g0, rfl⟩ := ref02_hist_cons hh
    obtain ⟨y1, r1, e1, g1, rfl⟩ := ref02_hist_cons g0
    obtain ⟨y2, r2, e2, g2, rfl⟩ := ref02_hist_cons g1
    obtain ⟨y3, r3, e3, g3, rfl⟩ := ref02_hist_cons g2
    obtain ⟨y4, r4, e4, g4, rfl⟩ := ref02_hist_cons g3
    obtain ⟨y5, r5, e5, g5, rfl⟩ := ref02_hist_cons g4
    obtain ⟨y6, r6, e6, g6, rfl⟩ := ref02_hist_cons g5
    obtain ⟨y7, r7, e7, g7, rfl⟩ := ref02_hist_cons g6
    obtain ⟨y8, r8, e8, g8, rfl⟩ := ref02_hist_cons g7
    obtain ⟨y9, r9, e9, g9, rfl⟩ := ref02_hist_cons g8
    cases g9
    exact ref02_History_10_ex fu s b l_0 l_1 l_2 l_3 l_4 l_5 l_6 l_7 l_8 l_9 q10 q11 q12 q13 q14  y0 y1 y2 y3 y4 y5 y6 y7 y8 y9  e0 e1 e2 e3 e4 e5 e6 e7 e8 e9
  | [l_0, l_1, l_2, l_3, l_4, l_5, l_6, l_7, l_8, l_9, l_10], _, _ =>
    obtain ⟨y0, r0, e0, g0, rfl⟩ := ref02_hist_cons hh
    obtain ⟨y1, r1, e1, g1, rfl⟩ := ref02_hist_cons g0
    obtain ⟨y2, r2, e2, g2, rfl⟩ := ref02_hist_cons g1
    obtain ⟨y3, r3, e3, g3, rfl⟩ := ref02_hist_cons g2
    obtain ⟨y4, r4, e4, g4, rfl⟩ := ref02_hist_cons g3
    obtain ⟨y5, r5, e5, g5, rfl⟩ := ref02_hist_cons g4
    obtain ⟨y6, r6, e6, g6, rfl⟩ := ref02_hist_cons g5
    obtain ⟨y7, r7, e7, g7, rfl⟩ := ref02_hist_cons g6
    obtain ⟨y8, r8, e8, g8, rfl⟩ := ref02_hist_cons g7
    obtain ⟨y9, r9, e9, g9, rfl⟩ := ref02_hist_cons g8
    obtain ⟨y10, r10, e10, g10, rfl⟩ := ref02_hist_cons g9
    cases g10
    exact ref02_History_11_ex fu s b l_0 l_1 l_2 l_3 l_4 l_5 l_6 l_7 l_8 l_9 l_10 q10 q11 q12 q13 q14  y0 y1 y2 y3 y4 y5 y6 y7 y8 y9 y10  e0 e1 e2 e3 e4 e5 e6 e7 e8 e9 e10
  | [l_0, l_1, l_2, l_3, l_4, l_5, l_6, l_7, l_8, l_9, l_10, l_11], _, _ =>
    obtain ⟨y0, r0, e0, g0, rfl⟩ := ref02_hist_cons hh
    obtain ⟨y1, r1, e1, g1, rfl⟩ := ref02_hist_cons g0
    obtain ⟨y2, r2, e2, g2, rfl⟩ := ref02_hist_cons g1
    obtain ⟨y3, r3, e3, g3, rfl⟩ := ref02_hist_cons g2
    obtain ⟨y4, r4, e4, g4, rfl⟩ := ref02_hist_cons g3
    obtain ⟨y5, r5, e5, g5, rfl⟩ := ref02_hist_cons g4
    obtain ⟨y6, r6, e6, g6, rfl⟩ := ref02_hist_cons g5
    obtain ⟨y7, r7, e7, g7, rfl⟩ := ref02_hist_cons g6
    obtain ⟨y8, r8, e8, g8, rfl⟩ := ref02_hist_cons g7
    obtain ⟨y9, r9, e9, g9, rfl⟩ := ref02_hist_cons g8
    obtain ⟨y10, r10, e10, g10, rfl⟩ := ref02_hist_cons g9
    obtain ⟨y11, r11, e11, g11, rfl⟩ := ref02_hist_cons g10
    cases g11
    exact ref02_History_12_ex fu s b l_0 l_1 l_2 l_3 l_4 l_5 l_6 l_7 l_8 l_9 l_10 l_11 q10 q11 q12 q13 q14  y0 y1 y2 y3 y4 y5 y6 y7 y8 y9 y10 y11  e0 e1 e2 e3 e4 e5 e6 e7 e8 e9 e10 e11
  | [], h, _ => exact absurd h (by simp)
  | _ :: _ :: _ :: _ :: _ :: _ :: _ :: _ :: _ :: _ :: _ :: _ :: _ :: _, _, h => exact absurd h (by simp only [List.length_cons]; omega)

/- greenhew/greenhewref02.Ready -/
noncomputable abbrev z57i0 (l : List XBox) (v8 : Int) : Hint := (hL (.agg #[I (((at_ zXBox l v8).High).Age), I (((at_ zXBox l v8).High).Shoots), I (((at_ zXBox l v8).High).Height), I (((at_ zXBox l v8).High).Girth)]))
noncomputable abbrev z57i1 (l : List XBox) (v8 : Int) : Hint := (hL (.agg #[I (((at_ zXBox l v8).Low).Age), I (((at_ zXBox l v8).Low).Shoots), I (((at_ zXBox l v8).Low).Height), I (((at_ zXBox l v8).Low).Girth)]))
abbrev z57r2 (l : List XBox) (v8 : Int) : Prop := RowLd P 28 (encL cXBox l) (0 + v8.toNat * 8 + 4) (.agg #[I (((at_ zXBox l v8).High).Age), I (((at_ zXBox l v8).High).Shoots), I (((at_ zXBox l v8).High).Height), I (((at_ zXBox l v8).High).Girth)])
abbrev z57r3 (l : List XBox) (v8 : Int) : Prop := RowLd P 28 (encL cXBox l) (0 + v8.toNat * 8) (.agg #[I (((at_ zXBox l v8).Low).Age), I (((at_ zXBox l v8).Low).Shoots), I (((at_ zXBox l v8).Low).Height), I (((at_ zXBox l v8).Low).Girth)])
abbrev A_ref02_Ready (l : List XBox) (liters : Int) (q10 : Nat) : List Value := [.slice (some ⟨10, 0, none⟩) (l.length) (q10), I (liters)]
abbrev K_ref02_Ready (l : List XBox) : List (Nat × List Value) := [(10, encL cXBox l)]
noncomputable def ref02_Ready_L (fu : Nat) (l : List XBox) (liters : Int) : Nat → (Int → Int → Int → Option (Int × Int))
  | 0 => (fun _ _ _ => none)
  | fk + 1 => (fun v6 v7 v8 => bif decide (v8 < ((l.length : Nat) : Int)) then (bif decide (v6 < 0) then (bif decide (0 ≤ v8 ∧ v8 < ((l.length : Nat) : Int)) then (bif decide ((ref02_Wood ((at_ zXBox l v8).High)) ≥ liters) then (bif decide (v7 < 0) then (bif decide ((ref02_Wood ((at_ zXBox l v8).Low)) ≥ liters) then ref02_Ready_L fu l liters fk v8 v8 (W (v8 + 1))
              else ref02_Ready_L fu l liters fk v8 v7 (W (v8 + 1)))
            else ref02_Ready_L fu l liters fk v8 v7 (W (v8 + 1)))
          else (bif decide (v7 < 0) then (bif decide ((ref02_Wood ((at_ zXBox l v8).Low)) ≥ liters) then ref02_Ready_L fu l liters fk v6 v8 (W (v8 + 1))
              else ref02_Ready_L fu l liters fk v6 v7 (W (v8 + 1)))
            else ref02_Ready_L fu l liters fk v6 v7 (W (v8 + 1)))) else none)
        else (bif decide (v7 < 0) then (bif decide (0 ≤ v8 ∧ v8 < ((l.length : Nat) : Int)) then (bif decide ((ref02_Wood ((at_ zXBox l v8).Low)) ≥ liters) then ref02_Ready_L fu l liters fk v6 v8 (W (v8 + 1))
            else ref02_Ready_L fu l liters fk v6 v7 (W (v8 + 1))) else none)
          else ref02_Ready_L fu l liters fk v6 v7 (W (v8 + 1))))
      else some (v6, v7))
theorem ref02_Ready_L_s0 (fu : Nat) (l : List XBox) (liters : Int) (fk : Nat) (v6 v7 v8 : Int) : ref02_Ready_L fu l liters (fk + 1) v6 v7 v8 = (bif decide (v8 < ((l.length : Nat) : Int)) then (bif decide (v6 < 0) then (bif decide (0 ≤ v8 ∧ v8 < ((l.length : Nat) : Int)) then (bif decide ((ref02_Wood ((at_ zXBox l v8).High)) ≥ liters) then (bif decide (v7 < 0) then (bif decide ((ref02_Wood ((at_ zXBox l v8).Low)) ≥ liters) then ref02_Ready_L fu l liters fk v8 v8 (W (v8 + 1))
              else ref02_Ready_L fu l liters fk v8 v7 (W (v8 + 1)))
            else ref02_Ready_L fu l liters fk v8 v7 (W (v8 + 1)))
          else (bif decide (v7 < 0) then (bif decide ((ref02_Wood ((at_ zXBox l v8).Low)) ≥ liters) then ref02_Ready_L fu l liters fk v6 v8 (W (v8 + 1))
              else ref02_Ready_L fu l liters fk v6 v7 (W (v8 + 1)))
            else ref02_Ready_L fu l liters fk v6 v7 (W (v8 + 1)))) else none)
        else (bif decide (v7 < 0) then (bif decide (0 ≤ v8 ∧ v8 < ((l.length : Nat) : Int)) then (bif decide ((ref02_Wood ((at_ zXBox l v8).Low)) ≥ liters) then ref02_Ready_L fu l liters fk v6 v8 (W (v8 + 1))
            else ref02_Ready_L fu l liters fk v6 v7 (W (v8 + 1))) else none)
          else ref02_Ready_L fu l liters fk v6 v7 (W (v8 + 1))))
      else some (v6, v7)) := rfl
noncomputable def ref02_Ready (fu : Nat) (l : List XBox) (liters : Int) : Option (Int × Int) :=
  ref02_Ready_L fu l liters fu (-1) (-1) 0
theorem ref02_Ready_L_fs (fu : Nat) (l : List XBox) (liters : Int) (q10 : Nat) : ∀ fk, (∀ (v6 v7 v8 : Int) (r : Int × Int), ref02_Ready_L fu l liters fk v6 v7 v8 = some r → FSat P GG Tryd.f43 (.tuple #[I (r.1), I (r.2)]) (ids (looses (K_ref02_Ready l))) 43 [.lp (cA (bodyOf Tryd.f43) [1, 1, 0, 1, 0, 0]), .blk 0, .code (cA (bodyOf Tryd.f43) [1, 1, 1])] (tOf 43 [(0, .slice (some ⟨10, 0, none⟩) (l.length) (q10)), (1, I (liters)), (4, I (0)), (5, I (0)), (6, I (v6)), (7, I (v7)), (8, I (v8))]) (mOf 100 [(0, .rom [I (1), I (2), I (3)] .glob), (10, .rom (encL cXBox l) .loose)])) := by
  intro fk
  induction fk with
  | zero => exact fun _ _ _ r hh => by cases hh
  | succ fk ih =>
    · intro v6 v7 v8 r hh
      rw [ref02_Ready_L_s0] at hh
      rcases bb (decide (v8 < ((l.length : Nat) : Int))) with h1 | h1
      ·rw [h1, cT] at hh
       rcases bb (decide (v6 < 0)) with h2 | h2
       ·rw [h2, cT] at hh
        rcases bb (decide (0 ≤ v8 ∧ v8 < ((l.length : Nat) : Int))) with h3 | h3
        rotate_left
        ·rw [h3, cF] at hh; cases hh
        ·rw [h3, cT] at hh
         rcases bb (decide ((ref02_Wood ((at_ zXBox l v8).High)) ≥ liters)) with h4 | h4
         ·rw [h4, cT] at hh
          rcases bb (decide (v7 < 0)) with h5 | h5
          ·rw [h5, cT] at hh
           rcases bb (decide ((ref02_Wood ((at_ zXBox l v8).Low)) ≥ liters)) with h6 | h6
           ·rw [h6, cT] at hh
            have nx := ih v8 v8 (W (v8 + 1)) r hh
            refine FSat.s pfT 25 (hE :: hE :: hE :: hT :: hE :: hT :: hE :: hE :: hE :: hX :: hE :: (z57i0 l v8) :: (hC (I (ref02_Wood ((at_ zXBox l v8).High)))) :: hE :: hT :: (hR 4 (hT :: hE :: hE :: hE :: hX :: hE :: (z57i1 l v8) :: (hC (I (ref02_Wood ((at_ zXBox l v8).Low)))) :: hE :: hT :: (hR 6 [])))) [.go, .st [0, 1, 4, 5, 6, 7, 8] [0, 10]] (pc h1 <| pc h2 <| pt (0 ≤ v8 ∧ v8 < ((l.length : Nat) : Int)) (of_decide_eq_true h3) <| pt (z57r2 l v8) (RowLd.partA cXBox_len _ (.inl ⟨_, rfl⟩) rfl _ _ (of_decide_eq_true h3) 4 [I (((at_ zXBox l v8).High).Age), I (((at_ zXBox l v8).High).Shoots), I (((at_ zXBox l v8).High).Height), I (((at_ zXBox l v8).High).Girth)] rfl (by decide) (fun m hm => by match m, hm with | 0, _ => rfl | 1, _ => rfl | 2, _ => rfl | 3, _ => rfl)) <| pc (ref02_Wood_fc ((at_ zXBox l v8).High)) <| pc h4 <| pc h5 <| pt (0 ≤ v8 ∧ v8 < ((l.length : Nat) : Int)) (of_decide_eq_true h3) <| pt (z57r3 l v8) (RowLd.partA cXBox_len _ (.inl ⟨_, rfl⟩) rfl _ _ (of_decide_eq_true h3) 0 [I (((at_ zXBox l v8).Low).Age), I (((at_ zXBox l v8).Low).Shoots), I (((at_ zXBox l v8).Low).Height), I (((at_ zXBox l v8).Low).Girth)] rfl (by decide) (fun m hm => by match m, hm with | 0, _ => rfl | 1, _ => rfl | 2, _ => rfl | 3, _ => rfl)) <| pc (ref02_Wood_fc ((at_ zXBox l v8).Low)) <| pc h6 <| pn) (by kernel_rfl) 100 (by kernel_rfl) ?_ nx
            exact ⟨PinL.lit (by kernel_rfl), PinL.pf (encL_pf cXBox_pf _), trivial⟩
           ·rw [h6, cF] at hh
            have nx := ih v8 v7 (W (v8 + 1)) r hh
            refine FSat.s pfT 25 (hE :: hE :: hE :: hT :: hE :: hT :: hE :: hE :: hE :: hX :: hE :: (z57i0 l v8) :: (hC (I (ref02_Wood ((at_ zXBox l v8).High)))) :: hE :: hT :: (hR 4 (hT :: hE :: hE :: hE :: hX :: hE :: (z57i1 l v8) :: (hC (I (ref02_Wood ((at_ zXBox l v8).Low)))) :: hE :: hF :: (hR 4 [])))) [.go, .st [0, 1, 4, 5, 6, 7, 8] [0, 10]] (pc h1 <| pc h2 <| pt (0 ≤ v8 ∧ v8 < ((l.length : Nat) : Int)) (of_decide_eq_true h3) <| pt (z57r2 l v8) (RowLd.partA cXBox_len _ (.inl ⟨_, rfl⟩) rfl _ _ (of_decide_eq_true h3) 4 [I (((at_ zXBox l v8).High).Age), I (((at_ zXBox l v8).High).Shoots), I (((at_ zXBox l v8).High).Height), I (((at_ zXBox l v8).High).Girth)] rfl (by decide) (fun m hm => by match m, hm with | 0, _ => rfl | 1, _ => rfl | 2, _ => rfl | 3, _ => rfl)) <| pc (ref02_Wood_fc ((at_ zXBox l v8).High)) <| pc h4 <| pc h5 <| pt (0 ≤ v8 ∧ v8 < ((l.length : Nat) : Int)) (of_decide_eq_true h3) <| pt (z57r3 l v8) (RowLd.partA cXBox_len _ (.inl ⟨_, rfl⟩) rfl _ _ (of_decide_eq_true h3) 0 [I (((at_ zXBox l v8).Low).Age), I (((at_ zXBox l v8).Low).Shoots), I (((at_ zXBox l v8).Low).Height), I (((at_ zXBox l v8).Low).Girth)] rfl (by decide) (fun m hm => by match m, hm with | 0, _ => rfl | 1, _ => rfl | 2, _ => rfl | 3, _ => rfl)) <| pc (ref02_Wood_fc ((at_ zXBox l v8).Low)) <| pc h6 <| pn) (by kernel_rfl) 100 (by kernel_rfl) ?_ nx
            exact ⟨PinL.lit (by kernel_rfl), PinL.pf (encL_pf cXBox_pf _), trivial⟩
          ·rw [h5, cF] at hh
           have nx := ih v8 v7 (W (v8 + 1)) r hh
           refine FSat.s pfT 25 (hE :: hE :: hE :: hT :: hE :: hT :: hE :: hE :: hE :: hX :: hE :: (z57i0 l v8) :: (hC (I (ref02_Wood ((at_ zXBox l v8).High)))) :: hE :: hT :: (hR 4 (hF :: (hR 5 [])))) [.go, .st [0, 1, 4, 5, 6, 7, 8] [0, 10]] (pc h1 <| pc h2 <| pt (0 ≤ v8 ∧ v8 < ((l.length : Nat) : Int)) (of_decide_eq_true h3) <| pt (z57r2 l v8) (RowLd.partA cXBox_len _ (.inl ⟨_, rfl⟩) rfl _ _ (of_decide_eq_true h3) 4 [I (((at_ zXBox l v8).High).Age), I (((at_ zXBox l v8).High).Shoots), I (((at_ zXBox l v8).High).Height), I (((at_ zXBox l v8).High).Girth)] rfl (by decide) (fun m hm => by match m, hm with | 0, _ => rfl | 1, _ => rfl | 2, _ => rfl | 3, _ => rfl)) <| pc (ref02_Wood_fc ((at_ zXBox l v8).High)) <| pc h4 <| pc h5 <| pn) (by kernel_rfl) 100 (by kernel_rfl) ?_ nx
           exact ⟨PinL.lit (by kernel_rfl), PinL.pf (encL_pf cXBox_pf _), trivial⟩
         ·rw [h4, cF] at hh
          rcases bb (decide (v7 < 0)) with h5 | h5
          ·rw [h5, cT] at hh
           rcases bb (decide ((ref02_Wood ((at_ zXBox l v8).Low)) ≥ liters)) with h6 | h6
           ·rw [h6, cT] at hh
            have nx := ih v6 v8 (W (v8 + 1)) r hh
            refine FSat.s pfT 25 (hE :: hE :: hE :: hT :: hE :: hT :: hE :: hE :: hE :: hX :: hE :: (z57i0 l v8) :: (hC (I (ref02_Wood ((at_ zXBox l v8).High)))) :: hE :: hF :: hE :: hE :: hT :: hE :: hE :: hE :: hX :: hE :: (z57i1 l v8) :: (hC (I (ref02_Wood ((at_ zXBox l v8).Low)))) :: hE :: hT :: (hR 6 [])) [.go, .st [0, 1, 4, 5, 6, 7, 8] [0, 10]] (pc h1 <| pc h2 <| pt (0 ≤ v8 ∧ v8 < ((l.length : Nat) : Int)) (of_decide_eq_true h3) <| pt (z57r2 l v8) (RowLd.partA cXBox_len _ (.inl ⟨_, rfl⟩) rfl _ _ (of_decide_eq_true h3) 4 [I (((at_ zXBox l v8).High).Age), I (((at_ zXBox l v8).High).Shoots), I (((at_ zXBox l v8).High).Height), I (((at_ zXBox l v8).High).Girth)] rfl (by decide) (fun m hm => by match m, hm with | 0, _ => rfl | 1, _ => rfl | 2, _ => rfl | 3, _ => rfl)) <| pc (ref02_Wood_fc ((at_ zXBox l v8).High)) <| pc h4 <| pc h5 <| pt (0 ≤ v8 ∧ v8 < ((l.length : Nat) : Int)) (of_decide_eq_true h3) <| pt (z57r3 l v8) (RowLd.partA cXBox_len _ (.inl ⟨_, rfl⟩) rfl _ _ (of_decide_eq_true h3) 0 [I (((at_ zXBox l v8).Low).Age), I (((at_ zXBox l v8).Low).Shoots), I (((at_ zXBox l v8).Low).Height), I (((at_ zXBox l v8).Low).Girth)] rfl (by decide) (fun m hm => by match m, hm with | 0, _ => rfl | 1, _ => rfl | 2, _ => rfl | 3, _ => rfl)) <| pc (ref02_Wood_fc ((at_ zXBox l v8).Low)) <| pc h6 <| pn) (by kernel_rfl) 100 (by kernel_rfl) ?_ nx
            exact ⟨PinL.lit (by kernel_rfl), PinL.pf (encL_pf cXBox_pf _), trivial⟩
           ·rw [h6, cF] at hh
            have nx := ih v6 v7 (W (v8 + 1)) r hh
            refine FSat.s pfT 25 (hE :: hE :: hE :: hT :: hE :: hT :: hE :: hE :: hE :: hX :: hE :: (z57i0 l v8) :: (hC (I (ref02_Wood ((at_ zXBox l v8).High)))) :: hE :: hF :: hE :: hE :: hT :: hE :: hE :: hE :: hX :: hE :: (z57i1 l v8) :: (hC (I (ref02_Wood ((at_ zXBox l v8).Low)))) :: hE :: hF :: (hR 4 [])) [.go, .st [0, 1, 4, 5, 6, 7, 8] [0, 10]] (pc h1 <| pc h2 <| pt (0 ≤ v8 ∧ v8 < ((l.length : Nat) : Int)) (of_decide_eq_true h3) <| pt (z57r2 l v8) (RowLd.partA cXBox_len _ (.inl ⟨_, rfl⟩) rfl _ _ (of_decide_eq_true h3) 4 [I (((at_ zXBox l v8).High).Age), I (((at_ zXBox l v8).High).Shoots), I (((at_ zXBox l v8).High).Height), I (((at_ zXBox l v8).High).Girth)] rfl (by decide) (fun m hm => by match m, hm with | 0, _ => rfl | 1, _ => rfl | 2, _ => rfl | 3, _ => rfl)) <| pc (ref02_Wood_fc ((at_ zXBox l v8).High)) <| pc h4 <| pc h5 <| pt (0 ≤ v8 ∧ v8 < ((l.length : Nat) : Int)) (of_decide_eq_true h3) <| pt (z57r3 l v8) (RowLd.partA cXBox_len _ (.inl ⟨_, rfl⟩) rfl _ _ (of_decide_eq_true h3) 0 [I (((at_ zXBox l v8).Low).Age), I (((at_ zXBox l v8).Low).Shoots), I (((at_ zXBox l v8).Low).Height), I (((at_ zXBox l v8).Low).Girth)] rfl (by decide) (fun m hm => by match m, hm with | 0, _ => rfl | 1, _ => rfl | 2, _ => rfl | 3, _ => rfl)) <| pc (ref02_Wood_fc ((at_ zXBox l v8).Low)) <| pc h6 <| pn) (by kernel_rfl) 100 (by kernel_rfl) ?_ nx
            exact ⟨PinL.lit (by kernel_rfl), PinL.pf (encL_pf cXBox_pf _), trivial⟩
          ·rw [h5, cF] at hh
           have nx := ih v6 v7 (W (v8 + 1)) r hh
           refine FSat.s pfT 25 (hE :: hE :: hE :: hT :: hE :: hT :: hE :: hE :: hE :: hX :: hE :: (z57i0 l v8) :: (hC (I (ref02_Wood ((at_ zXBox l v8).High)))) :: hE :: hF :: hE :: hE :: hF :: (hR 5 [])) [.go, .st [0, 1, 4, 5, 6, 7, 8] [0, 10]] (pc h1 <| pc h2 <| pt (0 ≤ v8 ∧ v8 < ((l.length : Nat) : Int)) (of_decide_eq_true h3) <| pt (z57r2 l v8) (RowLd.partA cXBox_len _ (.inl ⟨_, rfl⟩) rfl _ _ (of_decide_eq_true h3) 4 [I (((at_ zXBox l v8).High).Age), I (((at_ zXBox l v8).High).Shoots), I (((at_ zXBox l v8).High).Height), I (((at_ zXBox l v8).High).Girth)] rfl (by decide) (fun m hm => by match m, hm with | 0, _ => rfl | 1, _ => rfl | 2, _ => rfl | 3, _ => rfl)) <| pc (ref02_Wood_fc ((at_ zXBox l v8).High)) <| pc h4 <| pc h5 <| pn) (by kernel_rfl) 100 (by kernel_rfl) ?_ nx
           exact ⟨PinL.lit (by kernel_rfl), PinL.pf (encL_pf cXBox_pf _), trivial⟩
       ·rw [h2, cF] at hh
        rcases bb (decide (v7 < 0)) with h3 | h3
        ·rw [h3, cT] at hh
         rcases bb (decide (0 ≤ v8 ∧ v8 < ((l.length : Nat) : Int))) with h4 | h4
         rotate_left
         ·rw [h4, cF] at hh; cases hh
         ·rw [h4, cT] at hh
          rcases bb (decide ((ref02_Wood ((at_ zXBox l v8).Low)) ≥ liters)) with h5 | h5
          ·rw [h5, cT] at hh
           have nx := ih v6 v8 (W (v8 + 1)) r hh
           refine FSat.s pfT 25 (hE :: hE :: hE :: hT :: hE :: hF :: hE :: hE :: hE :: hT :: hE :: hE :: hE :: hX :: hE :: (z57i1 l v8) :: (hC (I (ref02_Wood ((at_ zXBox l v8).Low)))) :: hE :: hT :: (hR 6 [])) [.go, .st [0, 1, 4, 5, 6, 7, 8] [0, 10]] (pc h1 <| pc h2 <| pc h3 <| pt (0 ≤ v8 ∧ v8 < ((l.length : Nat) : Int)) (of_decide_eq_true h4) <| pt (z57r3 l v8) (RowLd.partA cXBox_len _ (.inl ⟨_, rfl⟩) rfl _ _ (of_decide_eq_true h4) 0 [I (((at_ zXBox l v8).Low).Age), I (((at_ zXBox l v8).Low).Shoots), I (((at_ zXBox l v8).Low).Height), I (((at_ zXBox l v8).Low).Girth)] rfl (by decide) (fun m hm => by match m, hm with | 0, _ => rfl | 1, _ => rfl | 2, _ => rfl | 3, _ => rfl)) <| pc (ref02_Wood_fc ((at_ zXBox l v8).Low)) <| pc h5 <| pn) (by kernel_rfl) 100 (by kernel_rfl) ?_ nx
           exact ⟨PinL.lit (by kernel_rfl), PinL.pf (encL_pf cXBox_pf _), trivial⟩
          ·rw [h5, cF] at hh
           have nx := ih v6 v7 (W (v8 + 1)) r hh
           refine FSat.s pfT 25 (hE :: hE :: hE :: hT :: hE :: hF :: hE :: hE :: hE :: hT :: hE :: hE :: hE :: hX :: hE :: (z57i1 l v8) :: (hC (I (ref02_Wood ((at_ zXBox l v8).Low)))) :: hE :: hF :: (hR 4 [])) [.go, .st [0, 1, 4, 5, 6, 7, 8] [0, 10]] (pc h1 <| pc h2 <| pc h3 <| pt (0 ≤ v8 ∧ v8 < ((l.length : Nat) : Int)) (of_decide_eq_true h4) <| pt (z57r3 l v8) (RowLd.partA cXBox_len _ (.inl ⟨_, rfl⟩) rfl _ _ (of_decide_eq_true h4) 0 [I (((at_ zXBox l v8).Low).Age), I (((at_ zXBox l v8).Low).Shoots), I (((at_ zXBox l v8).Low).Height), I (((at_ zXBox l v8).Low).Girth)] rfl (by decide) (fun m hm => by match m, hm with | 0, _ => rfl | 1, _ => rfl | 2, _ => rfl | 3, _ => rfl)) <| pc (ref02_Wood_fc ((at_ zXBox l v8).Low)) <| pc h5 <| pn) (by kernel_rfl) 100 (by kernel_rfl) ?_ nx
           exact ⟨PinL.lit (by kernel_rfl), PinL.pf (encL_pf cXBox_pf _), trivial⟩
        ·rw [h3, cF] at hh
         have nx := ih v6 v7 (W (v8 + 1)) r hh
         refine FSat.s pfT 25 (hE :: hE :: hE :: hT :: hE :: hF :: hE :: hE :: hE :: hF :: (hR 5 [])) [.go, .st [0, 1, 4, 5, 6, 7, 8] [0, 10]] (pc h1 <| pc h2 <| pc h3 <| pn) (by kernel_rfl) 100 (by kernel_rfl) ?_ nx
         exact ⟨PinL.lit (by kernel_rfl), PinL.pf (encL_pf cXBox_pf _), trivial⟩
      ·rw [h1, cF] at hh
       rw [← sI hh]
       exact FSat.d pfT 14 (hE :: hE :: hE :: hF :: (hR 4 [])) [.go] (pc h1 <| pn) (by kernel_rfl) (by kernel_rfl)
theorem ref02_Ready_fc (fu : Nat) (l : List XBox) (liters : Int) (q10 : Nat) (r : Int × Int) (hh : ref02_Ready fu l liters = some r) : FC P GG 43 (A_ref02_Ready l liters q10) (K_ref02_Ready l) (.tuple #[I (r.1), I (r.2)]) := by
  refine FC.of_fsat 43 100 Tryd.func43 (by kernel_rfl) (by kernel_rfl) (by kernel_rfl) ⟨PinL.pf (encL_pf cXBox_pf _), trivial⟩ ?_
  unfold ref02_Ready at hh
  have nx := ref02_Ready_L_fs fu l liters q10 fu (-1) (-1) 0 r hh
  refine FSat.s pfT 15 (hR 5 []) [.st [0, 1, 4, 5, 6, 7, 8] [0, 10]] (pn) (by kernel_rfl) 100 (by kernel_rfl) ?_ nx
  exact ⟨PinL.lit (by kernel_rfl), PinL.pf (encL_pf cXBox_pf _), trivial⟩

/- greenhew/greenhewlaw02.GrowthReady -/
noncomputable abbrev z1i0 (s : XSpecies) (q10 q11 q12 q13 : Nat) : Hint := (hB (hM (.bool (law02_short s)) (.bool (law02_short s)) (A_law02_short s q10 q11 q12 q13) (K_law02_short s) [(10, 10, 0), (11, 11, 0), (12, 12, 0), (13, 13, 0)]) true)
theorem z1p1 (s : XSpecies) (q10 q11 q12 q13 : Nat) : VRs (Ren.emb [(10, 10, 0), (11, 11, 0), (12, 12, 0), (13, 13, 0)]) (A_law02_short s q10 q11 q12 q13) [.agg #[.slice (some ⟨10, 0, none⟩) (s.Rise.length) (q10), .slice (some ⟨11, 0, none⟩) (s.Thick.length) (q11), I (s.Top), I (s.Stout), I (s.Shade), I (s.Reach), .slice (some ⟨12, 0, none⟩) (s.Ladder.length) (q12), .slice (some ⟨13, 0, none⟩) (s.Sprouts.length) (q13)]] := (.cons _ _ _ _ (.agg _ _ (.cons _ _ _ _ (.slc 10 0 _ _ _ ⟨10, 0, 0, 0⟩ rfl (.inl rfl)) (.cons _ _ _ _ (.slc 11 0 _ _ _ ⟨11, 0, 0, 0⟩ rfl (.inl rfl)) (.cons _ _ _ _ (VR.of_pf rfl) (.cons _ _ _ _ (VR.of_pf rfl) (.cons _ _ _ _ (VR.of_pf rfl) (.cons _ _ _ _ (VR.of_pf rfl) (.cons _ _ _ _ (.slc 12 0 _ _ _ ⟨12, 0, 0, 0⟩ rfl (.inl rfl)) (.cons _ _ _ _ (.slc 13 0 _ _ _ ⟨13, 0, 0, 0⟩ rfl (.inl rfl)) .nil))))))))) .nil)
theorem z1p2 (s : XSpecies) : MemAt (Ren.emb [(10, 10, 0), (11, 11, 0), (12, 12, 0), (13, 13, 0)]) (encL cInt s.Rise) 0 (encL cInt s.Rise) ∧ MemAt (Ren.emb [(10, 10, 0), (11, 11, 0), (12, 12, 0), (13, 13, 0)]) (encL cInt s.Thick) 0 (encL cInt s.Thick) ∧ MemAt (Ren.emb [(10, 10, 0), (11, 11, 0), (12, 12, 0), (13, 13, 0)]) (encL cXRung s.Ladder) 0 (encL cXRung s.Ladder) ∧ MemAt (Ren.emb [(10, 10, 0), (11, 11, 0), (12, 12, 0), (13, 13, 0)]) (encL cXSpan s.Sprouts) 0 (encL cXSpan s.Sprouts) ∧ True := ⟨MemAt.same _ (encL_pf cInt_pf _), MemAt.same _ (encL_pf cInt_pf _), MemAt.same _ (encL_pf cXRung_pf _), MemAt.same _ (encL_pf cXSpan_pf _), trivial⟩
abbrev z1r3 (s : XSpecies) : Prop := VR (Ren.emb [(10, 10, 0), (11, 11, 0), (12, 12, 0), (13, 13, 0)]) (.bool (law02_short s)) (.bool (law02_short s))
noncomputable abbrev z1i4 (b : XBox) : Hint := (hC (.tuple #[I ((growth_Woods b).1), I ((growth_Woods b).2.1), I ((growth_Woods b).2.2)]))
noncomputable abbrev z1i5 (s : XSpecies) (b : XBox) (l : List XSeason) (liters : Int) (q10 q11 q12 q13 q14 : Nat) (x2 : Int × Int × Int) : Hint := (hM (.tuple #[I (x2.1), I (x2.2.1), I (x2.2.2)]) (.tuple #[I (x2.1), I (x2.2.1), I (x2.2.2)]) (A_growth_Ready s b l liters q10 q11 q12 q13 q14) (K_growth_Ready s l) [(10, 10, 0), (11, 11, 0), (12, 12, 0), (13, 13, 0), (14, 14, 0)])
theorem z1p6 (s : XSpecies) (b : XBox) (l : List XSeason) (liters : Int) (q10 q11 q12 q13 q14 : Nat) : VRs (Ren.emb [(10, 10, 0), (11, 11, 0), (12, 12, 0), (13, 13, 0), (14, 14, 0)]) (A_growth_Ready s b l liters q10 q11 q12 q13 q14) [.agg #[.slice (some ⟨10, 0, none⟩) (s.Rise.length) (q10), .slice (some ⟨11, 0, none⟩) (s.Thick.length) (q11), I (s.Top), I (s.Stout), I (s.Shade), I (s.Reach), .slice (some ⟨12, 0, none⟩) (s.Ladder.length) (q12), .slice (some ⟨13, 0, none⟩) (s.Sprouts.length) (q13)], .agg #[I (b.Low.Age), I (b.Low.Shoots), I (b.Low.Height), I (b.Low.Girth), I (b.High.Age), I (b.High.Shoots), I (b.High.Height), I (b.High.Girth)], .slice (some ⟨14, 0, none⟩) (l.length) (q14), I (liters)] := (.cons _ _ _ _ (.agg _ _ (.cons _ _ _ _ (.slc 10 0 _ _ _ ⟨10, 0, 0, 0⟩ rfl (.inl rfl)) (.cons _ _ _ _ (.slc 11 0 _ _ _ ⟨11, 0, 0, 0⟩ rfl (.inl rfl)) (.cons _ _ _ _ (VR.of_pf rfl) (.cons _ _ _ _ (VR.of_pf rfl) (.cons _ _ _ _ (VR.of_pf rfl) (.cons _ _ _ _ (VR.of_pf rfl) (.cons _ _ _ _ (.slc 12 0 _ _ _ ⟨12, 0, 0, 0⟩ rfl (.inl rfl)) (.cons _ _ _ _ (.slc 13 0 _ _ _ ⟨13, 0, 0, 0⟩ rfl (.inl rfl)) .nil))))))))) (.cons _ _ _ _ (VR.of_pf rfl) (.cons _ _ _ _ (.slc 14 0 _ _ _ ⟨14, 0, 0, 0⟩ rfl (.inl rfl)) (.cons _ _ _ _ (VR.of_pf rfl) .nil))))
theorem z1p7 (s : XSpecies) (l : List XSeason) : MemAt (Ren.emb [(10, 10, 0), (11, 11, 0), (12, 12, 0), (13, 13, 0), (14, 14, 0)]) (encL cInt s.Rise) 0 (encL cInt s.Rise) ∧ MemAt (Ren.emb [(10, 10, 0), (11, 11, 0), (12, 12, 0), (13, 13, 0), (14, 14, 0)]) (encL cInt s.Thick) 0 (encL cInt s.Thick) ∧ MemAt (Ren.emb [(10, 10, 0), (11, 11, 0), (12, 12, 0), (13, 13, 0), (14, 14, 0)]) (encL cXRung s.Ladder) 0 (encL cXRung s.Ladder) ∧ MemAt (Ren.emb [(10, 10, 0), (11, 11, 0), (12, 12, 0), (13, 13, 0), (14, 14, 0)]) (encL cXSpan s.Sprouts) 0 (encL cXSpan s.Sprouts) ∧ MemAt (Ren.emb [(10, 10, 0), (11, 11, 0), (12, 12, 0), (13, 13, 0), (14, 14, 0)]) (encL cXSeason l) 0 (encL cXSeason l) ∧ True := ⟨MemAt.same _ (encL_pf cInt_pf _), MemAt.same _ (encL_pf cInt_pf _), MemAt.same _ (encL_pf cXRung_pf _), MemAt.same _ (encL_pf cXSpan_pf _), MemAt.same _ (encL_pf cXSeason_pf _), trivial⟩
abbrev z1r8 (x2 : Int × Int × Int) : Prop := VR (Ren.emb [(10, 10, 0), (11, 11, 0), (12, 12, 0), (13, 13, 0), (14, 14, 0)]) (.tuple #[I (x2.1), I (x2.2.1), I (x2.2.2)]) (.tuple #[I (x2.1), I (x2.2.1), I (x2.2.2)])
noncomputable abbrev z1i9 (s : XSpecies) (q10 q11 q12 q13 : Nat) (x3 : Bool) : Hint := (hB (hM (.bool (x3)) (.bool (x3)) (A_ref02_Species s q10 q11 q12 q13) (K_ref02_Species s) [(10, 10, 0), (11, 11, 0), (12, 12, 0), (13, 13, 0)]) true)
noncomputable abbrev z1i10 (l : List XSeason) (q14 : Nat) (x4 : Bool) : Hint := (hB (hM (.bool (x4)) (.bool (x4)) (A_ref02_Seasons l q14) (K_ref02_Seasons l) [(10, 14, 0)]) true)
noncomputable abbrev z1i11 (s : XSpecies) (b : XBox) (l : List XSeason) (q10 q11 q12 q13 q14 : Nat) (x5 : List XBox) : Hint := (hN (.slice (some ⟨77, 0, none⟩) (x5.length) (x5.length)) (.slice (some ⟨102, 0, none⟩) (x5.length) (x5.length)) [.agg #[.slice (some ⟨10, 0, none⟩) (s.Rise.length) (q10), .slice (some ⟨11, 0, none⟩) (s.Thick.length) (q11), I (s.Top), I (s.Stout), I (s.Shade), I (s.Reach), .slice (some ⟨12, 0, none⟩) (s.Ladder.length) (q12), .slice (some ⟨13, 0, none⟩) (s.Sprouts.length) (q13)], .agg #[I (b.Low.Age), I (b.Low.Shoots), I (b.Low.Height), I (b.Low.Girth), I (b.High.Age), I (b.High.Shoots), I (b.High.Height), I (b.High.Girth)], .slice (some ⟨14, 0, none⟩) (l.length) (q14)] [(10, encL cInt s.Rise), (11, encL cInt s.Thick), (12, encL cXRung s.Ladder), (13, encL cXSpan s.Sprouts), (14, encL cXSeason l)] [(10, 10, 0), (11, 11, 0), (12, 12, 0), (13, 13, 0), (14, 14, 0)] 77 (encL cXBox x5) 8)
noncomputable abbrev z1i12 (liters : Int) (x5 : List XBox) (x6 : Int × Int) : Hint := (hM (.tuple #[I (x6.1), I (x6.2)]) (.tuple #[I (x6.1), I (x6.2)]) (A_ref02_Ready x5 liters x5.length) (K_ref02_Ready x5) [(10, 102, 0)])
theorem z1p13 (s : XSpecies) (q10 q11 q12 q13 : Nat) : VRs (Ren.emb [(10, 10, 0), (11, 11, 0), (12, 12, 0), (13, 13, 0)]) (A_ref02_Species s q10 q11 q12 q13) [.agg #[.slice (some ⟨10, 0, none⟩) (s.Rise.length) (q10), .slice (some ⟨11, 0, none⟩) (s.Thick.length) (q11), I (s.Top), I (s.Stout), I (s.Shade), I (s.Reach), .slice (some ⟨12, 0, none⟩) (s.Ladder.length) (q12), .slice (some ⟨13, 0, none⟩) (s.Sprouts.length) (q13)]] := (.cons _ _ _ _ (.agg _ _ (.cons _ _ _ _ (.slc 10 0 _ _ _ ⟨10, 0, 0, 0⟩ rfl (.inl rfl)) (.cons _ _ _ _ (.slc 11 0 _ _ _ ⟨11, 0, 0, 0⟩ rfl (.inl rfl)) (.cons _ _ _ _ (VR.of_pf rfl) (.cons _ _ _ _ (VR.of_pf rfl) (.cons _ _ _ _ (VR.of_pf rfl) (.cons _ _ _ _ (VR.of_pf rfl) (.cons _ _ _ _ (.slc 12 0 _ _ _ ⟨12, 0, 0, 0⟩ rfl (.inl rfl)) (.cons _ _ _ _ (.slc 13 0 _ _ _ ⟨13, 0, 0, 0⟩ rfl (.inl rfl)) .nil))))))))) .nil)
theorem z1p14 (l : List XSeason) (q14 : Nat) : VRs (Ren.emb [(10, 14, 0)]) (A_ref02_Seasons l q14) [.slice (some ⟨14, 0, none⟩) (l.length) (q14)] := (.cons _ _ _ _ (.slc 10 0 _ _ _ ⟨14, 0, 0, 0⟩ rfl (.inl rfl)) .nil)
theorem z1p15 (s : XSpecies) (b : XBox) (l : List XSeason) (q10 q11 q12 q13 q14 : Nat) : VRs (Ren.emb [(10, 10, 0), (11, 11, 0), (12, 12, 0), (13, 13, 0), (14, 14, 0)]) [.agg #[.slice (some ⟨10, 0, none⟩) (s.Rise.length) (q10), .slice (some ⟨11, 0, none⟩) (s.Thick.length) (q11), I (s.Top), I (s.Stout), I (s.Shade), I (s.Reach), .slice (some ⟨12, 0, none⟩) (s.Ladder.length) (q12), .slice (some ⟨13, 0, none⟩) (s.Sprouts.length) (q13)], .agg #[I (b.Low.Age), I (b.Low.Shoots), I (b.Low.Height), I (b.Low.Girth), I (b.High.Age), I (b.High.Shoots), I (b.High.Height), I (b.High.Girth)], .slice (some ⟨14, 0, none⟩) (l.length) (q14)] [.agg #[.slice (some ⟨10, 0, none⟩) (s.Rise.length) (q10), .slice (some ⟨11, 0, none⟩) (s.Thick.length) (q11), I (s.Top), I (s.Stout), I (s.Shade), I (s.Reach), .slice (some ⟨12, 0, none⟩) (s.Ladder.length) (q12), .slice (some ⟨13, 0, none⟩) (s.Sprouts.length) (q13)], .agg #[I (b.Low.Age), I (b.Low.Shoots), I (b.Low.Height), I (b.Low.Girth), I (b.High.Age), I (b.High.Shoots), I (b.High.Height), I (b.High.Girth)], .slice (some ⟨14, 0, none⟩) (l.length) (q14)] := (.cons _ _ _ _ (.agg _ _ (.cons _ _ _ _ (.slc 10 0 _ _ _ ⟨10, 0, 0, 0⟩ rfl (.inl rfl)) (.cons _ _ _ _ (.slc 11 0 _ _ _ ⟨11, 0, 0, 0⟩ rfl (.inl rfl)) (.cons _ _ _ _ (VR.of_pf rfl) (.cons _ _ _ _ (VR.of_pf rfl) (.cons _ _ _ _ (VR.of_pf rfl) (.cons _ _ _ _ (VR.of_pf rfl) (.cons _ _ _ _ (.slc 12 0 _ _ _ ⟨12, 0, 0, 0⟩ rfl (.inl rfl)) (.cons _ _ _ _ (.slc 13 0 _ _ _ ⟨13, 0, 0, 0⟩ rfl (.inl rfl)) .nil))))))))) (.cons _ _ _ _ (VR.of_pf rfl) (.cons _ _ _ _ (.slc 14 0 _ _ _ ⟨14, 0, 0, 0⟩ rfl (.inl rfl)) .nil)))
theorem z1p16 (liters : Int) (x5 : List XBox) : VRs (Ren.emb [(10, 102, 0)]) (A_ref02_Ready x5 liters x5.length) [.slice (some ⟨102, 0, none⟩) (x5.length) (x5.length), I (liters)] := (.cons _ _ _ _ (.slc 10 0 _ _ _ ⟨102, 0, 0, 0⟩ rfl (.inl rfl)) (.cons _ _ _ _ (VR.of_pf rfl) .nil))
abbrev z1r17 (x3 : Bool) : Prop := VR (Ren.emb [(10, 10, 0), (11, 11, 0), (12, 12, 0), (13, 13, 0)]) (.bool (x3)) (.bool (x3))
abbrev z1r18 (l : List XSeason) : Prop := MemAt (Ren.emb [(10, 14, 0)]) (encL cXSeason l) 0 (encL cXSeason l) ∧ True
abbrev z1r19 (s : XSpecies) (b : XBox) (l : List XSeason) (q10 q11 q12 q13 q14 : Nat) (x5 : List XBox) : Prop := FCN P GG 36 [.agg #[.slice (some ⟨10, 0, none⟩) (s.Rise.length) (q10), .slice (some ⟨11, 0, none⟩) (s.Thick.length) (q11), I (s.Top), I (s.Stout), I (s.Shade), I (s.Reach), .slice (some ⟨12, 0, none⟩) (s.Ladder.length) (q12), .slice (some ⟨13, 0, none⟩) (s.Sprouts.length) (q13)], .agg #[I (b.Low.Age), I (b.Low.Shoots), I (b.Low.Height), I (b.Low.Girth), I (b.High.Age), I (b.High.Shoots), I (b.High.Height), I (b.High.Girth)], .slice (some ⟨14, 0, none⟩) (l.length) (q14)] [(10, encL cInt s.Rise), (11, encL cInt s.Thick), (12, encL cXRung s.Ladder), (13, encL cXSpan s.Sprouts), (14, encL cXSeason l)] (.slice (some ⟨77, 0, none⟩) (x5.length) (x5.length)) 77 (encL cXBox x5) 8
abbrev z1r20 (x5 : List XBox) : Prop := VR (Ren.emb ((77, 102, 0) :: [(10, 10, 0), (11, 11, 0), (12, 12, 0), (13, 13, 0), (14, 14, 0)])) (.slice (some ⟨77, 0, none⟩) (x5.length) (x5.length)) (.slice (some ⟨102, 0, none⟩) (x5.length) (x5.length))
abbrev z1r21 (x5 : List XBox) : Prop := MemAt (Ren.emb [(10, 102, 0)]) (encL cXBox x5) 0 (encL cXBox x5) ∧ True
abbrev z1r22 (x6 : Int × Int) : Prop := VR (Ren.emb [(10, 102, 0)]) (.tuple #[I (x6.1), I (x6.2)]) (.tuple #[I (x6.1), I (x6.2)])
noncomputable abbrev z1i23 (s : XSpecies) (b : XBox) (l : List XSeason) (q10 q11 q12 q13 q14 : Nat) : Hint := (hN (.slice (some ⟨77, 0, none⟩) (1) (1)) (.slice (some ⟨102, 0, none⟩) (1) (1)) [.agg #[.slice (some ⟨10, 0, none⟩) (s.Rise.length) (q10), .slice (some ⟨11, 0, none⟩) (s.Thick.length) (q11), I (s.Top), I (s.Stout), I (s.Shade), I (s.Reach), .slice (some ⟨12, 0, none⟩) (s.Ladder.length) (q12), .slice (some ⟨13, 0, none⟩) (s.Sprouts.length) (q13)], .agg #[I (b.Low.Age), I (b.Low.Shoots), I (b.Low.Height), I (b.Low.Girth), I (b.High.Age), I (b.High.Shoots), I (b.High.Height), I (b.High.Girth)], .slice (some ⟨14, 0, none⟩) (l.length) (q14)] [(10, encL cInt s.Rise), (11, encL cInt s.Thick), (12, encL cXRung s.Ladder), (13, encL cXSpan s.Sprouts), (14, encL cXSeason l)] [(10, 10, 0), (11, 11, 0), (12, 12, 0), (13, 13, 0), (14, 14, 0)] 77 (encL cXBox ([b])) 0)
noncomputable abbrev z1i24 (b : XBox) (liters : Int) (x7 : Int × Int) : Hint := (hM (.tuple #[I (x7.1), I (x7.2)]) (.tuple #[I (x7.1), I (x7.2)]) (A_ref02_Ready ([b]) liters 1) (K_ref02_Ready ([b])) [(10, 102, 0)])
theorem z1p25 (b : XBox) (liters : Int) : VRs (Ren.emb [(10, 102, 0)]) (A_ref02_Ready ([b]) liters 1) [.slice (some ⟨102, 0, none⟩) (1) (1), I (liters)] := (.cons _ _ _ _ (.slc 10 0 _ _ _ ⟨102, 0, 0, 0⟩ rfl (.inl rfl)) (.cons _ _ _ _ (VR.of_pf rfl) .nil))
abbrev z1r26 (s : XSpecies) (b : XBox) (l : List XSeason) (q10 q11 q12 q13 q14 : Nat) : Prop := FCN P GG 36 [.agg #[.slice (some ⟨10, 0, none⟩) (s.Rise.length) (q10), .slice (some ⟨11, 0, none⟩) (s.Thick.length) (q11), I (s.Top), I (s.Stout), I (s.Shade), I (s.Reach), .slice (some ⟨12, 0, none⟩) (s.Ladder.length) (q12), .slice (some ⟨13, 0, none⟩) (s.Sprouts.length) (q13)], .agg #[I (b.Low.Age), I (b.Low.Shoots), I (b.Low.Height), I (b.Low.Girth), I (b.High.Age), I (b.High.Shoots), I (b.High.Height), I (b.High.Girth)], .slice (some ⟨14, 0, none⟩) (l.length) (q14)] [(10, encL cInt s.Rise), (11, encL cInt s.Thick), (12, encL cXRung s.Ladder), (13, encL cXSpan s.Sprouts), (14, encL cXSeason l)] (.slice (some ⟨77, 0, none⟩) (1) (1)) 77 (encL cXBox ([b])) 0
abbrev z1r27 : Prop := VR (Ren.emb ((77, 102, 0) :: [(10, 10, 0), (11, 11, 0), (12, 12, 0), (13, 13, 0), (14, 14, 0)])) (.slice (some ⟨77, 0, none⟩) (1) (1)) (.slice (some ⟨102, 0, none⟩) (1) (1))
abbrev z1r28 (b : XBox) : Prop := MemAt (Ren.emb [(10, 102, 0)]) (encL cXBox ([b])) 0 ([I (b.Low.Age), I (b.Low.Shoots), I (b.Low.Height), I (b.Low.Girth), I (b.High.Age), I (b.High.Shoots), I (b.High.Height), I (b.High.Girth)]) ∧ True
abbrev z1r29 (x7 : Int × Int) : Prop := VR (Ren.emb [(10, 102, 0)]) (.tuple #[I (x7.1), I (x7.2)]) (.tuple #[I (x7.1), I (x7.2)])
noncomputable abbrev z1i30 (l : List XSeason) (q14 : Nat) (x4 : Bool) : Hint := (hB (hM (.bool (x4)) (.bool (x4)) (A_ref02_Seasons l q14) (K_ref02_Seasons l) [(10, 14, 0)]) false)
noncomputable abbrev z1i31 (s : XSpecies) (q10 q11 q12 q13 : Nat) (x3 : Bool) : Hint := (hB (hM (.bool (x3)) (.bool (x3)) (A_ref02_Species s q10 q11 q12 q13) (K_ref02_Species s) [(10, 10, 0), (11, 11, 0), (12, 12, 0), (13, 13, 0)]) false)
noncomputable abbrev z1i32 (s : XSpecies) (q10 q11 q12 q13 : Nat) : Hint := (hB (hM (.bool (law02_short s)) (.bool (law02_short s)) (A_law02_short s q10 q11 q12 q13) (K_law02_short s) [(10, 10, 0), (11, 11, 0), (12, 12, 0), (13, 13, 0)]) false)
abbrev A_law02_GrowthReady (s : XSpecies) (b : XBox) (l : List XSeason) (liters : Int) (q10 q11 q12 q13 q14 : Nat) : List Value := [.agg #[.slice (some ⟨10, 0, none⟩) (s.Rise.length) (q10), .slice (some ⟨11, 0, none⟩) (s.Thick.length) (q11), I (s.Top), I (s.Stout), I (s.Shade), I (s.Reach), .slice (some ⟨12, 0, none⟩) (s.Ladder.length) (q12), .slice (some ⟨13, 0, none⟩) (s.Sprouts.length) (q13)], .agg #[I (b.Low.Age), I (b.Low.Shoots), I (b.Low.Height), I (b.Low.Girth), I (b.High.Age), I (b.High.Shoots), I (b.High.Height), I (b.High.Girth)], .slice (some ⟨14, 0, none⟩) (l.length) (q14), I (liters)]
abbrev K_law02_GrowthReady (s : XSpecies) (l : List XSeason) : List (Nat × List Value) := [(10, encL cInt s.Rise), (11, encL cInt s.Thick), (12, encL cXRung s.Ladder), (13, encL cXSpan s.Sprouts), (14, encL cXSeason l)]
noncomputable def law02_GrowthReady (fu : Nat) (s : XSpecies) (b : XBox) (l : List XSeason) (liters : Int) : Option Bool :=
  bif law02_short s then (bif decide (((l.length : Nat) : Int) > 12) then (bif decide (((l.length : Nat) : Int) ≤ 100) then (Option.bind (law02_known fu) fun x1 =>
        some x1)
      else (bif decide (((l.length : Nat) : Int) > 200) then (Option.bind (law02_known fu) fun x1 =>
          some x1)
        else (bif ref02_Box b then (bif ((growth_Woods b).2.2) != 0 then some false
            else (bif ((growth_Woods b).1) != (ref02_Wood b.Low) then some false
              else (bif ((growth_Woods b).2.1) != (ref02_Wood b.High) then some false
                else (Option.bind (growth_Ready fu s b l liters) fun x2 =>
                  bif decide (((l.length : Nat) : Int) > 100) then (bif x2.2.2 == 3 then (bif x2.1 == 0 then (bif x2.2.1 == 0 then (Option.bind (law02_known fu) fun x1 =>
                          some x1)
                        else some false)
                      else some false)
                    else some false)
                  else (Option.bind (ref02_Species fu s) fun x3 =>
                    bif x3 then (Option.bind (ref02_Seasons fu l) fun x4 =>
                      bif x4 then (bif decide (1 ≤ l.length) then (bif decide (l.length ≤ 12) then (Option.bind (ref02_hist fu s b l) fun x5 =>
                          Option.bind (ref02_Ready fu x5 liters) fun x6 =>
                          bif x2.2.2 == 0 then (bif x2.1 == x6.1 then (bif x2.2.1 == x6.2 then (Option.bind (law02_known fu) fun x1 =>
                                some x1)
                              else some false)
                            else some false)
                          else some false) else none)
                        else (Option.bind (ref02_Ready fu ([b]) liters) fun x7 =>
                          bif x2.2.2 == 0 then (bif x2.1 == x7.1 then (bif x2.2.1 == x7.2 then (Option.bind (law02_known fu) fun x1 =>
                                some x1)
                              else some false)
                            else some false)
                          else some false))
                      else (bif x2.2.2 == 2 then (bif x2.1 == 0 then (bif x2.2.1 == 0 then (Option.bind (law02_known fu) fun x1 =>
                              some x1)
                            else some false)
                          else some false)
                        else some false))
                    else (bif x2.2.2 == 2 then (bif x2.1 == 0 then (bif x2.2.1 == 0 then (Option.bind (law02_known fu) fun x1 =>
                            some x1)
                          else some false)
                        else some false)
                      else some false))))))
          else (bif ((growth_Woods b).2.2) != 2 then some false
            else (bif ((growth_Woods b).1) != 0 then some false
              else (bif ((growth_Woods b).2.1) != 0 then some false
                else (Option.bind (growth_Ready fu s b l liters) fun x2 =>
                  bif decide (((l.length : Nat) : Int) > 100) then (bif x2.2.2 == 3 then (bif x2.1 == 0 then (bif x2.2.1 == 0 then (Option.bind (law02_known fu) fun x1 =>
                          some x1)
                        else some false)
                      else some false)
                    else some false)
                  else (Option.bind (ref02_Species fu s) fun x3 =>
                    bif x3 then (bif x2.2.2 == 2 then (bif x2.1 == 0 then (bif x2.2.1 == 0 then (Option.bind (law02_known fu) fun x1 =>
                            some x1)
                          else some false)
                        else some false)
                      else some false)
                    else (bif x2.2.2 == 2 then (bif x2.1 == 0 then (bif x2.2.1 == 0 then (Option.bind (law02_known fu) fun x1 =>
                            some x1)
                          else some false)
                        else some false)
                      else some false)))))))))
    else (bif decide (((l.length : Nat) : Int) > 200) then (Option.bind (law02_known fu) fun x1 =>
        some x1)
      else (bif ref02_Box b then (bif ((growth_Woods b).2.2) != 0 then some false
          else (bif ((growth_Woods b).1) != (ref02_Wood b.Low) then some false
            else (bif ((growth_Woods b).2.1) != (ref02_Wood b.High) then some false
              else (Option.bind (growth_Ready fu s b l liters) fun x2 =>
                bif decide (((l.length : Nat) : Int) > 100) then (bif x2.2.2 == 3 then (bif x2.1 == 0 then (bif x2.2.1 == 0 then (Option.bind (law02_known fu) fun x1 =>
                        some x1)
                      else some false)
                    else some false)
                  else some false)
                else (Option.bind (ref02_Species fu s) fun x3 =>
                  bif x3 then (Option.bind (ref02_Seasons fu l) fun x4 =>
                    bif x4 then (bif decide (1 ≤ l.length) then (bif decide (l.length ≤ 12) then (Option.bind (ref02_hist fu s b l) fun x5 =>
                        Option.bind (ref02_Ready fu x5 liters) fun x6 =>
                        bif x2.2.2 == 0 then (bif x2.1 == x6.1 then (bif x2.2.1 == x6.2 then (Option.bind (law02_known fu) fun x1 =>
                              some x1)
                            else some false)
                          else some false)
                        else some false) else none)
                      else (Option.bind (ref02_Ready fu ([b]) liters) fun x7 =>
                        bif x2.2.2 == 0 then (bif x2.1 == x7.1 then (bif x2.2.1 == x7.2 then (Option.bind (law02_known fu) fun x1 =>
                              some x1)
                            else some false)
                          else some false)
                        else some false))
                    else (bif x2.2.2 == 2 then (bif x2.1 == 0 then (bif x2.2.1 == 0 then (Option.bind (law02_known fu) fun x1 =>
                            some x1)
                          else some false)
                        else some false)
                      else some false))
                  else (bif x2.2.2 == 2 then (bif x2.1 == 0 then (bif x2.2.1 == 0 then (Option.bind (law02_known fu) fun x1 =>
                          some x1)
                        else some false)
                      else some false)
                    else some false))))))
        else (bif ((growth_Woods b).2.2) != 2 then some false
          else (bif ((growth_Woods b).1) != 0 then some false
            else (bif ((growth_Woods b).2.1) != 0 then some false
              else (Option.bind (growth_Ready fu s b l liters) fun x2 =>
                bif decide (((l.length : Nat) : Int) > 100) then (bif x2.2.2 == 3 then (bif x2.1 == 0 then (bif x2.2.1 == 0 then (Option.bind (law02_known fu) fun x1 =>
                        some x1)
                      else some false)
                    else some false)
                  else some false)
                else (Option.bind (ref02_Species fu s) fun x3 =>
                  bif x3 then (bif x2.2.2 == 2 then (bif x2.1 == 0 then (bif x2.2.1 == 0 then (Option.bind (law02_known fu) fun x1 =>
                          some x1)
                        else some false)
                      else some false)
                    else some false)
                  else (bif x2.2.2 == 2 then (bif x2.1 == 0 then (bif x2.2.1 == 0 then (Option.bind (law02_known fu) fun x1 =>
                          some x1)
                        else some false)
                      else some false)
                    else some false)))))))))
  else (Option.bind (law02_known fu) fun x1 =>
    some x1)
theorem law02_GrowthReady_fc (fu : Nat) (s : XSpecies) (b : XBox) (l : List XSeason) (liters : Int) (q10 q11 q12 q13 q14 : Nat) (r : Bool) (hh : law02_GrowthReady fu s b l liters = some r) : FC P GG 8 (A_law02_GrowthReady s b l liters q10 q11 q12 q13 q14) (K_law02_GrowthReady s l) (.bool (r)) := by
  refine FC.of_fsat 146 100 Tryd.func8 (by kernel_rfl) (by kernel_rfl) (by kernel_rfl) ⟨PinL.pf (encL_pf cInt_pf _), PinL.pf (encL_pf cInt_pf _), PinL.pf (encL_pf cXRung_pf _), PinL.pf (encL_pf cXSpan_pf _), PinL.pf (encL_pf cXSeason_pf _), trivial⟩ ?_
  unfold law02_GrowthReady at hh
  rcases bb (law02_short s) with h1 | h1
  ·rw [h1, cT] at hh
   rcases bb (decide (((l.length : Nat) : Int) > 12)) with h2 | h2
   ·rw [h2, cT] at hh
    rcases bb (decide (((l.length : Nat) : Int) ≤ 100)) with h3 | h3
    ·rw [h3, cT] at hh
     cases h4 : law02_known fu with
     | none => rw [h4, oN] at hh; cases hh
     | some x1 =>
      rw [h4, oS] at hh
      rw [← sI hh]
      exact FSat.d pfT 14 (hR 4 ((z1i0 s q10 q11 q12 q13) :: (hR 4 (hT :: hE :: hE :: hE :: hT :: (hR 4 [(hC (.bool (x1))), hE]))))) [] (pc (law02_short_fc s q10 q11 q12 q13) <| pc (z1p1 s q10 q11 q12 q13) <| pc (z1p2 s) <| pt (z1r3 s) (selfB_self 9 _ rfl _) <| pc h1 <| pc h2 <| pc h3 <| pc (law02_known_fc fu  x1 h4) <| pn) (by kernel_rfl) (by kernel_rfl)
    ·rw [h3, cF] at hh
     rcases bb (decide (((l.length : Nat) : Int) > 200)) with h4 | h4
     ·rw [h4, cT] at hh
      cases h5 : law02_known fu with
      | none => rw [h5, oN] at hh; cases hh
      | some x1 =>
       rw [h5, oS] at hh
       rw [← sI hh]
       exact FSat.d pfT 14 (hR 4 ((z1i0 s q10 q11 q12 q13) :: (hR 4 (hT :: hE :: hE :: hE :: hF :: (hR 5 [hT, hE, (hC (.bool (x1))), hE]))))) [] (pc (law02_short_fc s q10 q11 q12 q13) <| pc (z1p1 s q10 q11 q12 q13) <| pc (z1p2 s) <| pt (z1r3 s) (selfB_self 9 _ rfl _) <| pc h1 <| pc h2 <| pc h3 <| pc h4 <| pc (law02_known_fc fu  x1 h5) <| pn) (by kernel_rfl) (by kernel_rfl)
     ·rw [h4, cF] at hh
      rcases bb (ref02_Box b) with h5 | h5
      ·rw [h5, cT] at hh
       rcases bb (((growth_Woods b).2.2) != 0) with h6 | h6
       ·rw [h6, cT] at hh
        rw [← sI hh]
        exact FSat.d pfT 24 (hR 4 ((z1i0 s q10 q11 q12 q13) :: (hR 4 (hT :: hE :: hE :: hE :: hF :: (hR 5 (hF :: hE :: hE :: (z1i4 b) :: (hR 8 ((hB (hC (.bool (ref02_Box b))) true) :: hE :: hE :: hT :: (hR 5 []))))))))) [] (pc (law02_short_fc s q10 q11 q12 q13) <| pc (z1p1 s q10 q11 q12 q13) <| pc (z1p2 s) <| pt (z1r3 s) (selfB_self 9 _ rfl _) <| pc h1 <| pc h2 <| pc h3 <| pc h4 <| pc (growth_Woods_fc b) <| pc (ref02_Box_fc b) <| pc h5 <| pc h6 <| pn) (by kernel_rfl) (by kernel_rfl)
       ·rw [h6, cF] at hh
        rcases bb (((growth_Woods b).1) != (ref02_Wood b.Low)) with h7 | h7
        ·rw [h7, cT] at hh
         rw [← sI hh]
         exact FSat.d pfT 24 (hR 4 ((z1i0 s q10 q11 q12 q13) :: (hR 4 (hT :: hE :: hE :: hE :: hF :: (hR 5 (hF :: hE :: hE :: (z1i4 b) :: (hR 8 ((hB (hC (.bool (ref02_Box b))) true) :: hE :: hE :: hF :: (hR 4 ((hC (I (ref02_Wood b.Low))) :: hT :: (hR 4 []))))))))))) [] (pc (law02_short_fc s q10 q11 q12 q13) <| pc (z1p1 s q10 q11 q12 q13) <| pc (z1p2 s) <| pt (z1r3 s) (selfB_self 9 _ rfl _) <| pc h1 <| pc h2 <| pc h3 <| pc h4 <| pc (growth_Woods_fc b) <| pc (ref02_Box_fc b) <| pc h5 <| pc h6 <| pc (ref02_Wood_fc b.Low) <| pc h7 <| pn) (by kernel_rfl) (by kernel_rfl)
        ·rw [h7, cF] at hh
         rcases bb (((growth_Woods b).2.1) != (ref02_Wood b.High)) with h8 | h8
         ·rw [h8, cT] at hh
          rw [← sI hh]
          exact FSat.d pfT 24 (hR 4 ((z1i0 s q10 q11 q12 q13) :: (hR 4 (hT :: hE :: hE :: hE :: hF :: (hR 5 (hF :: hE :: hE :: (z1i4 b) :: (hR 8 ((hB (hC (.bool (ref02_Box b))) true) :: hE :: hE :: hF :: (hR 4 ((hC (I (ref02_Wood b.Low))) :: hF :: (hR 5 [(hC (I (ref02_Wood b.High))), hT, hE, hE]))))))))))) [] (pc (law02_short_fc s q10 q11 q12 q13) <| pc (z1p1 s q10 q11 q12 q13) <| pc (z1p2 s) <| pt (z1r3 s) (selfB_self 9 _ rfl _) <| pc h1 <| pc h2 <| pc h3 <| pc h4 <| pc (growth_Woods_fc b) <| pc (ref02_Box_fc b) <| pc h5 <| pc h6 <| pc (ref02_Wood_fc b.Low) <| pc h7 <| pc (ref02_Wood_fc b.High) <| pc h8 <| pn) (by kernel_rfl) (by kernel_rfl)
         ·rw [h8, cF] at hh
          cases h9 : growth_Ready fu s b l liters with
          | none => rw [h9, oN] at hh; cases hh
          | some x2 =>
           rw [h9, oS] at hh
           rcases bb (decide (((l.length : Nat) : Int) > 100)) with h10 | h10
           ·rw [h10, cT] at hh
            rcases bb (x2.2.2 == 3) with h11 | h11
            ·rw [h11, cT] at hh
             rcases bb (x2.1 == 0) with h12 | h12
             ·rw [h12, cT] at hh
              rcases bb (x2.2.1 == 0) with h13 | h13
              ·rw [h13, cT] at hh
               cases h14 : law02_known fu with
               | none => rw [h14, oN] at hh; cases hh
               | some x1 =>
                rw [h14, oS] at hh
                rw [← sI hh]
                exact FSat.d pfT 31 (hR 4 ((z1i0 s q10 q11 q12 q13) :: (hR 4 (hT :: hE :: hE :: hE :: hF :: (hR 5 (hF :: hE :: hE :: (z1i4 b) :: (hR 8 ((hB (hC (.bool (ref02_Box b))) true) :: hE :: hE :: hF :: (hR 4 ((hC (I (ref02_Wood b.Low))) :: hF :: (hR 5 ((hC (I (ref02_Wood b.High))) :: hF :: (hR 5 ((z1i5 s b l liters q10 q11 q12 q13 q14 x2) :: (hR 9 [hT, hE, hT, hE, hE, hT, hE, hE, hE, hT, hE, hE, (hC (.bool (x1))), hE, hE]))))))))))))))) [] (pc (law02_short_fc s q10 q11 q12 q13) <| pc (z1p1 s q10 q11 q12 q13) <| pc (z1p2 s) <| pt (z1r3 s) (selfB_self 9 _ rfl _) <| pc h1 <| pc h2 <| pc h3 <| pc h4 <| pc (growth_Woods_fc b) <| pc (ref02_Box_fc b) <| pc h5 <| pc h6 <| pc (ref02_Wood_fc b.Low) <| pc h7 <| pc (ref02_Wood_fc b.High) <| pc h8 <| pc (growth_Ready_fc fu s b l liters q10 q11 q12 q13 q14 x2 h9) <| pc (z1p6 s b l liters q10 q11 q12 q13 q14) <| pc (z1p7 s l) <| pt (z1r8 x2) (selfB_self 9 _ rfl _) <| pc h10 <| pc h11 <| pc h12 <| pc h13 <| pc (law02_known_fc fu  x1 h14) <| pn) (by kernel_rfl) (by kernel_rfl)
              ·rw [h13, cF] at hh
               rw [← sI hh]
               exact FSat.d pfT 31 (hR 4 ((z1i0 s q10 q11 q12 q13) :: (hR 4 (hT :: hE :: hE :: hE :: hF :: (hR 5 (hF :: hE :: hE :: (z1i4 b) :: (hR 8 ((hB (hC (.bool (ref02_Box b))) true) :: hE :: hE :: hF :: (hR 4 ((hC (I (ref02_Wood b.Low))) :: hF :: (hR 5 ((hC (I (ref02_Wood b.High))) :: hF :: (hR 5 ((z1i5 s b l liters q10 q11 q12 q13 q14 x2) :: (hR 9 (hT :: hE :: hT :: hE :: hE :: hT :: hE :: hE :: hE :: hF :: (hR 4 []))))))))))))))))) [] (pc (law02_short_fc s q10 q11 q12 q13) <| pc (z1p1 s q10 q11 q12 q13) <| pc (z1p2 s) <| pt (z1r3 s) (selfB_self 9 _ rfl _) <| pc h1 <| pc h2 <| pc h3 <| pc h4 <| pc (growth_Woods_fc b) <| pc (ref02_Box_fc b) <| pc h5 <| pc h6 <| pc (ref02_Wood_fc b.Low) <| pc h7 <| pc (ref02_Wood_fc b.High) <| pc h8 <| pc (growth_Ready_fc fu s b l liters q10 q11 q12 q13 q14 x2 h9) <| pc (z1p6 s b l liters q10 q11 q12 q13 q14) <| pc (z1p7 s l) <| pt (z1r8 x2) (selfB_self 9 _ rfl _) <| pc h10 <| pc h11 <| pc h12 <| pc h13 <| pn) (by kernel_rfl) (by kernel_rfl)
             ·rw [h12, cF] at hh
              rw [← sI hh]
              exact FSat.d pfT 31 (hR 4 ((z1i0 s q10 q11 q12 q13) :: (hR 4 (hT :: hE :: hE :: hE :: hF :: (hR 5 (hF :: hE :: hE :: (z1i4 b) :: (hR 8 ((hB (hC (.bool (ref02_Box b))) true) :: hE :: hE :: hF :: (hR 4 ((hC (I (ref02_Wood b.Low))) :: hF :: (hR 5 ((hC (I (ref02_Wood b.High))) :: hF :: (hR 5 ((z1i5 s b l liters q10 q11 q12 q13 q14 x2) :: (hR 9 (hT :: hE :: hT :: hE :: hE :: hF :: (hR 6 []))))))))))))))))) [] (pc (law02_short_fc s q10 q11 q12 q13) <| pc (z1p1 s q10 q11 q12 q13) <| pc (z1p2 s) <| pt (z1r3 s) (selfB_self 9 _ rfl _) <| pc h1 <| pc h2 <| pc h3 <| pc h4 <| pc (growth_Woods_fc b) <| pc (ref02_Box_fc b) <| pc h5 <| pc h6 <| pc (ref02_Wood_fc b.Low) <| pc h7 <| pc (ref02_Wood_fc b.High) <| pc h8 <| pc (growth_Ready_fc fu s b l liters q10 q11 q12 q13 q14 x2 h9) <| pc (z1p6 s b l liters q10 q11 q12 q13 q14) <| pc (z1p7 s l) <| pt (z1r8 x2) (selfB_self 9 _ rfl _) <| pc h10 <| pc h11 <| pc h12 <| pn) (by kernel_rfl) (by kernel_rfl)
            ·rw [h11, cF] at hh
             rw [← sI hh]
             exact FSat.d pfT 31 (hR 4 ((z1i0 s q10 q11 q12 q13) :: (hR 4 (hT :: hE :: hE :: hE :: hF :: (hR 5 (hF :: hE :: hE :: (z1i4 b) :: (hR 8 ((hB (hC (.bool (ref02_Box b))) true) :: hE :: hE :: hF :: (hR 4 ((hC (I (ref02_Wood b.Low))) :: hF :: (hR 5 ((hC (I (ref02_Wood b.High))) :: hF :: (hR 5 ((z1i5 s b l liters q10 q11 q12 q13 q14 x2) :: (hR 9 (hT :: hE :: hF :: (hR 7 []))))))))))))))))) [] (pc (law02_short_fc s q10 q11 q12 q13) <| pc (z1p1 s q10 q11 q12 q13) <| pc (z1p2 s) <| pt (z1r3 s) (selfB_self 9 _ rfl _) <| pc h1 <| pc h2 <| pc h3 <| pc h4 <| pc (growth_Woods_fc b) <| pc (ref02_Box_fc b) <| pc h5 <| pc h6 <| pc (ref02_Wood_fc b.Low) <| pc h7 <| pc (ref02_Wood_fc b.High) <| pc h8 <| pc (growth_Ready_fc fu s b l liters q10 q11 q12 q13 q14 x2 h9) <| pc (z1p6 s b l liters q10 q11 q12 q13 q14) <| pc (z1p7 s l) <| pt (z1r8 x2) (selfB_self 9 _ rfl _) <| pc h10 <| pc h11 <| pn) (by kernel_rfl) (by kernel_rfl)
           ·rw [h10, cF] at hh
            cases h11 : ref02_Species fu s with
            | none => rw [h11, oN] at hh; cases hh
            | some x3 =>
             rw [h11, oS] at hh
             rcases bb (x3) with h12 | h12
             ·rw [h12, cT] at hh
              cases h13 : ref02_Seasons fu l with
              | none => rw [h13, oN] at hh; cases hh
              | some x4 =>
               rw [h13, oS] at hh
               rcases bb (x4) with h14 | h14
               ·rw [h14, cT] at hh
                rcases bb (decide (1 ≤ l.length)) with h15 | h15
                ·rw [h15, cT] at hh
                 rcases bb (decide (l.length ≤ 12)) with h16 | h16
                 rotate_left
                 ·rw [h16, cF] at hh; cases hh
                 ·rw [h16, cT] at hh
                  cases h17 : ref02_hist fu s b l with
                  | none => rw [h17, oN] at hh; cases hh
                  | some x5 =>
                   rw [h17, oS] at hh
                   cases h18 : ref02_Ready fu x5 liters with
                   | none => rw [h18, oN] at hh; cases hh
                   | some x6 =>
                    rw [h18, oS] at hh
                    rcases bb (x2.2.2 == 0) with h19 | h19
                    ·rw [h19, cT] at hh
                     rcases bb (x2.1 == x6.1) with h20 | h20
                     ·rw [h20, cT] at hh
                      rcases bb (x2.2.1 == x6.2) with h21 | h21
                      ·rw [h21, cT] at hh
                       cases h22 : law02_known fu with
                       | none => rw [h22, oN] at hh; cases hh
                       | some x1 =>
                        rw [h22, oS] at hh
                        rw [← sI hh]
                        exact FSat.d pfT 39 (hR 4 ((z1i0 s q10 q11 q12 q13) :: (hR 4 (hT :: hE :: hE :: hE :: hF :: (hR 5 (hF :: hE :: hE :: (z1i4 b) :: (hR 8 ((hB (hC (.bool (ref02_Box b))) true) :: hE :: hE :: hF :: (hR 4 ((hC (I (ref02_Wood b.Low))) :: hF :: (hR 5 ((hC (I (ref02_Wood b.High))) :: hF :: (hR 5 ((z1i5 s b l liters q10 q11 q12 q13 q14 x2) :: (hR 9 (hF :: hE :: (z1i9 s q10 q11 q12 q13 x3) :: hE :: hE :: hE :: (hB (hC (.bool (ref02_Box b))) true) :: (hR 4 ((z1i10 l q14 x4) :: (hR 5 ((z1i11 s b l q10 q11 q12 q13 q14 x5) :: hE :: (z1i12 liters x5 x6) :: (hR 6 (hT :: hE :: hE :: hE :: hT :: (hR 4 [hT, hE, hE, (hC (.bool (x1))), hE, hE]))))))))))))))))))))))) [] (pc (law02_short_fc s q10 q11 q12 q13) <| pc (z1p1 s q10 q11 q12 q13) <| pc (z1p2 s) <| pt (z1r3 s) (selfB_self 9 _ rfl _) <| pc h1 <| pc h2 <| pc h3 <| pc h4 <| pc (growth_Woods_fc b) <| pc (ref02_Box_fc b) <| pc h5 <| pc h6 <| pc (ref02_Wood_fc b.Low) <| pc h7 <| pc (ref02_Wood_fc b.High) <| pc h8 <| pc (growth_Ready_fc fu s b l liters q10 q11 q12 q13 q14 x2 h9) <| pc (z1p6 s b l liters q10 q11 q12 q13 q14) <| pc (z1p7 s l) <| pt (z1r8 x2) (selfB_self 9 _ rfl _) <| pc h10 <| pc (ref02_Species_fc fu s q10 q11 q12 q13 x3 h11) <| pc (z1p13 s q10 q11 q12 q13) <| pc (z1p2 s) <| pt (z1r17 x3) (selfB_self 9 _ rfl _) <| pc h12 <| pc (ref02_Box_fc b) <| pc h5 <| pc (ref02_Seasons_fc fu l q14 x4 h13) <| pc (z1p14 l q14) <| pt (z1r18 l) (⟨MemAt.same _ (encL_pf cXSeason_pf _), trivial⟩) <| pt (VR (Ren.emb [(10, 14, 0)]) (.bool (x4)) (.bool (x4))) (selfB_self 9 _ rfl _) <| pc h14 <| pt (z1r19 s b l q10 q11 q12 q13 q14 x5) (ref02_History_fcn fu s b l q10 q11 q12 q13 q14 x5 (of_decide_eq_true h15) (of_decide_eq_true h16) h17) <| pc (z1p15 s b l q10 q11 q12 q13 q14) <| pc (z1p7 s l) <| pt (z1r20 x5) (.slc 77 0 _ _ _ ⟨102, 0, 0, 0⟩ rfl (.inl rfl)) <| pc (ref02_Ready_fc fu x5 liters x5.length x6 h18) <| pc (z1p16 liters x5) <| pt (z1r21 x5) (⟨MemAt.same _ (encL_pf cXBox_pf _), trivial⟩) <| pt (z1r22 x6) (selfB_self 9 _ rfl _) <| pc h19 <| pc h20 <| pc h21 <| pc (law02_known_fc fu  x1 h22) <| pn) (by kernel_rfl) (by kernel_rfl)
                      ·rw [h21, cF] at hh
                       rw [← sI hh]
                       exact FSat.d pfT 39 (hR 4 ((z1i0 s q10 q11 q12 q13) :: (hR 4 (hT :: hE :: hE :: hE :: hF :: (hR 5 (hF :: hE :: hE :: (z1i4 b) :: (hR 8 ((hB (hC (.bool (ref02_Box b))) true) :: hE :: hE :: hF :: (hR 4 ((hC (I (ref02_Wood b.Low))) :: hF :: (hR 5 ((hC (I (ref02_Wood b.High))) :: hF :: (hR 5 ((z1i5 s b l liters q10 q11 q12 q13 q14 x2) :: (hR 9 (hF :: hE :: (z1i9 s q10 q11 q12 q13 x3) :: hE :: hE :: hE :: (hB (hC (.bool (ref02_Box b))) true) :: (hR 4 ((z1i10 l q14 x4) :: (hR 5 ((z1i11 s b l q10 q11 q12 q13 q14 x5) :: hE :: (z1i12 liters x5 x6) :: (hR 6 (hT :: hE :: hE :: hE :: hT :: (hR 4 (hF :: (hR 4 []))))))))))))))))))))))))) [] (pc (law02_short_fc s q10 q11 q12 q13) <| pc (z1p1 s q10 q11 q12 q13) <| pc (z1p2 s) <| pt (z1r3 s) (selfB_self 9 _ rfl _) <| pc h1 <| pc h2 <| pc h3 <| pc h4 <| pc (growth_Woods_fc b) <| pc (ref02_Box_fc b) <| pc h5 <| pc h6 <| pc (ref02_Wood_fc b.Low) <| pc h7 <| pc (ref02_Wood_fc b.High) <| pc h8 <| pc (growth_Ready_fc fu s b l liters q10 q11 q12 q13 q14 x2 h9) <| pc (z1p6 s b l liters q10 q11 q12 q13 q14) <| pc (z1p7 s l) <| pt (z1r8 x2) (selfB_self 9 _ rfl _) <| pc h10 <| pc (ref02_Species_fc fu s q10 q11 q12 q13 x3 h11) <| pc (z1p13 s q10 q11 q12 q13) <| pc (z1p2 s) <| pt (z1r17 x3) (selfB_self 9 _ rfl _) <| pc h12 <| pc (ref02_Box_fc b) <| pc h5 <| pc (ref02_Seasons_fc fu l q14 x4 h13) <| pc (z1p14 l q14) <| pt (z1r18 l) (⟨MemAt.same _ (encL_pf cXSeason_pf _), trivial⟩) <| pt (VR (Ren.emb [(10, 14, 0)]) (.bool (x4)) (.bool (x4))) (selfB_self 9 _ rfl _) <| pc h14 <| pt (z1r19 s b l q10 q11 q12 q13 q14 x5) (ref02_History_fcn fu s b l q10 q11 q12 q13 q14 x5 (of_decide_eq_true h15) (of_decide_eq_true h16) h17) <| pc (z1p15 s b l q10 q11 q12 q13 q14) <| pc (z1p7 s l) <| pt (z1r20 x5) (.slc 77 0 _ _ _ ⟨102, 0, 0, 0⟩ rfl (.inl rfl)) <| pc (ref02_Ready_fc fu x5 liters x5.length x6 h18) <| pc (z1p16 liters x5) <| pt (z1r21 x5) (⟨MemAt.same _ (encL_pf cXBox_pf _), trivial⟩) <| pt (z1r22 x6) (selfB_self 9 _ rfl _) <| pc h19 <| pc h20 <| pc h21 <| pn) (by kernel_rfl) (by kernel_rfl)
                     ·rw [h20, cF] at hh
                      rw [← sI hh]
                      exact FSat.d pfT 39 (hR 4 ((z1i0 s q10 q11 q12 q13) :: (hR 4 (hT :: hE :: hE :: hE :: hF :: (hR 5 (hF :: hE :: hE :: (z1i4 b) :: (hR 8 ((hB (hC (.bool (ref02_Box b))) true) :: hE :: hE :: hF :: (hR 4 ((hC (I (ref02_Wood b.Low))) :: hF :: (hR 5 ((hC (I (ref02_Wood b.High))) :: hF :: (hR 5 ((z1i5 s b l liters q10 q11 q12 q13 q14 x2) :: (hR 9 (hF :: hE :: (z1i9 s q10 q11 q12 q13 x3) :: hE :: hE :: hE :: (hB (hC (.bool (ref02_Box b))) true) :: (hR 4 ((z1i10 l q14 x4) :: (hR 5 ((z1i11 s b l q10 q11 q12 q13 q14 x5) :: hE :: (z1i12 liters x5 x6) :: (hR 6 (hT :: hE :: hE :: hE :: hF :: (hR 6 []))))))))))))))))))))))) [] (pc (law02_short_fc s q10 q11 q12 q13) <| pc (z1p1 s q10 q11 q12 q13) <| pc (z1p2 s) <| pt (z1r3 s) (selfB_self 9 _ rfl _) <| pc h1 <| pc h2 <| pc h3 <| pc h4 <| pc (growth_Woods_fc b) <| pc (ref02_Box_fc b) <| pc h5 <| pc h6 <| pc (ref02_Wood_fc b.Low) <| pc h7 <| pc (ref02_Wood_fc b.High) <| pc h8 <| pc (growth_Ready_fc fu s b l liters q10 q11 q12 q13 q14 x2 h9) <| pc (z1p6 s b l liters q10 q11 q12 q13 q14) <| pc (z1p7 s l) <| pt (z1r8 x2) (selfB_self 9 _ rfl _) <| pc h10 <| pc (ref02_Species_fc fu s q10 q11 q12 q13 x3 h11) <| pc (z1p13 s q10 q11 q12 q13) <| pc (z1p2 s) <| pt (z1r17 x3) (selfB_self 9 _ rfl _) <| pc h12 <| pc (ref02_Box_fc b) <| pc h5 <| pc (ref02_Seasons_fc fu l q14 x4 h13) <| pc (z1p14 l q14) <| pt (z1r18 l) (⟨MemAt.same _ (encL_pf cXSeason_pf _), trivial⟩) <| pt (VR (Ren.emb [(10, 14, 0)]) (.bool (x4)) (.bool (x4))) (selfB_self 9 _ rfl _) <| pc h14 <| pt (z1r19 s b l q10 q11 q12 q13 q14 x5) (ref02_History_fcn fu s b l q10 q11 q12 q13 q14 x5 (of_decide_eq_true h15) (of_decide_eq_true h16) h17) <| pc (z1p15 s b l q10 q11 q12 q13 q14) <| pc (z1p7 s l) <| pt (z1r20 x5) (.slc 77 0 _ _ _ ⟨102, 0, 0, 0⟩ rfl (.inl rfl)) <| pc (ref02_Ready_fc fu x5 liters x5.length x6 h18) <| pc (z1p16 liters x5) <| pt (z1r21 x5) (⟨MemAt.same _ (encL_pf cXBox_pf _), trivial⟩) <| pt (z1r22 x6) (selfB_self 9 _ rfl _) <| pc h19 <| pc h20 <| pn) (by kernel_rfl) (by kernel_rfl)
                    ·rw [h19, cF] at hh
                     rw [← sI hh]
                     exact FSat.d pfT 39 (hR 4 ((z1i0 s q10 q11 q12 q13) :: (hR 4 (hT :: hE :: hE :: hE :: hF :: (hR 5 (hF :: hE :: hE :: (z1i4 b) :: (hR 8 ((hB (hC (.bool (ref02_Box b))) true) :: hE :: hE :: hF :: (hR 4 ((hC (I (ref02_Wood b.Low))) :: hF :: (hR 5 ((hC (I (ref02_Wood b.High))) :: hF :: (hR 5 ((z1i5 s b l liters q10 q11 q12 q13 q14 x2) :: (hR 9 (hF :: hE :: (z1i9 s q10 q11 q12 q13 x3) :: hE :: hE :: hE :: (hB (hC (.bool (ref02_Box b))) true) :: (hR 4 ((z1i10 l q14 x4) :: (hR 5 ((z1i11 s b l q10 q11 q12 q13 q14 x5) :: hE :: (z1i12 liters x5 x6) :: (hR 6 (hF :: (hR 7 []))))))))))))))))))))))) [] (pc (law02_short_fc s q10 q11 q12 q13) <| pc (z1p1 s q10 q11 q12 q13) <| pc (z1p2 s) <| pt (z1r3 s) (selfB_self 9 _ rfl _) <| pc h1 <| pc h2 <| pc h3 <| pc h4 <| pc (growth_Woods_fc b) <| pc (ref02_Box_fc b) <| pc h5 <| pc h6 <| pc (ref02_Wood_fc b.Low) <| pc h7 <| pc (ref02_Wood_fc b.High) <| pc h8 <| pc (growth_Ready_fc fu s b l liters q10 q11 q12 q13 q14 x2 h9) <| pc (z1p6 s b l liters q10 q11 q12 q13 q14) <| pc (z1p7 s l) <| pt (z1r8 x2) (selfB_self 9 _ rfl _) <| pc h10 <| pc (ref02_Species_fc fu s q10 q11 q12 q13 x3 h11) <| pc (z1p13 s q10 q11 q12 q13) <| pc (z1p2 s) <| pt (z1r17 x3) (selfB_self 9 _ rfl _) <| pc h12 <| pc (ref02_Box_fc b) <| pc h5 <| pc (ref02_Seasons_fc fu l q14 x4 h13) <| pc (z1p14 l q14) <| pt (z1r18 l) (⟨MemAt.same _ (encL_pf cXSeason_pf _), trivial⟩) <| pt (VR (Ren.emb [(10, 14, 0)]) (.bool (x4)) (.bool (x4))) (selfB_self 9 _ rfl _) <| pc h14 <| pt (z1r19 s b l q10 q11 q12 q13 q14 x5) (ref02_History_fcn fu s b l q10 q11 q12 q13 q14 x5 (of_decide_eq_true h15) (of_decide_eq_true h16) h17) <| pc (z1p15 s b l q10 q11 q12 q13 q14) <| pc (z1p7 s l) <| pt (z1r20 x5) (.slc 77 0 _ _ _ ⟨102, 0, 0, 0⟩ rfl (.inl rfl)) <| pc (ref02_Ready_fc fu x5 liters x5.length x6 h18) <| pc (z1p16 liters x5) <| pt (z1r21 x5) (⟨MemAt.same _ (encL_pf cXBox_pf _), trivial⟩) <| pt (z1r22 x6) (selfB_self 9 _ rfl _) <| pc h19 <| pn) (by kernel_rfl) (by kernel_rfl)
                ·rw [h15, cF] at hh
                 cases h16 : ref02_Ready fu ([b]) liters with
                 | none => rw [h16, oN] at hh; cases hh
                 | some x7 =>
                  rw [h16, oS] at hh
                  rcases bb (x2.2.2 == 0) with h17 | h17
                  ·rw [h17, cT] at hh
                   rcases bb (x2.1 == x7.1) with h18 | h18
                   ·rw [h18, cT] at hh
                    rcases bb (x2.2.1 == x7.2) with h19 | h19
                    ·rw [h19, cT] at hh
                     cases h20 : law02_known fu with
                     | none => rw [h20, oN] at hh; cases hh
                     | some x1 =>
                      rw [h20, oS] at hh
                      rw [← sI hh]
                      exact FSat.d pfT 39 (hR 4 ((z1i0 s q10 q11 q12 q13) :: (hR 4 (hT :: hE :: hE :: hE :: hF :: (hR 5 (hF :: hE :: hE :: (z1i4 b) :: (hR 8 ((hB (hC (.bool (ref02_Box b))) true) :: hE :: hE :: hF :: (hR 4 ((hC (I (ref02_Wood b.Low))) :: hF :: (hR 5 ((hC (I (ref02_Wood b.High))) :: hF :: (hR 5 ((z1i5 s b l liters q10 q11 q12 q13 q14 x2) :: (hR 9 (hF :: hE :: (z1i9 s q10 q11 q12 q13 x3) :: hE :: hE :: hE :: (hB (hC (.bool (ref02_Box b))) true) :: (hR 4 ((z1i10 l q14 x4) :: (hR 5 ((z1i23 s b l q10 q11 q12 q13 q14) :: hE :: (z1i24 b liters x7) :: (hR 6 (hT :: hE :: hE :: hE :: hT :: (hR 4 [hT, hE, hE, (hC (.bool (x1))), hE, hE]))))))))))))))))))))))) [] (pc (law02_short_fc s q10 q11 q12 q13) <| pc (z1p1 s q10 q11 q12 q13) <| pc (z1p2 s) <| pt (z1r3 s) (selfB_self 9 _ rfl _) <| pc h1 <| pc h2 <| pc h3 <| pc h4 <| pc (growth_Woods_fc b) <| pc (ref02_Box_fc b) <| pc h5 <| pc h6 <| pc (ref02_Wood_fc b.Low) <| pc h7 <| pc (ref02_Wood_fc b.High) <| pc h8 <| pc (growth_Ready_fc fu s b l liters q10 q11 q12 q13 q14 x2 h9) <| pc (z1p6 s b l liters q10 q11 q12 q13 q14) <| pc (z1p7 s l) <| pt (z1r8 x2) (selfB_self 9 _ rfl _) <| pc h10 <| pc (ref02_Species_fc fu s q10 q11 q12 q13 x3 h11) <| pc (z1p13 s q10 q11 q12 q13) <| pc (z1p2 s) <| pt (z1r17 x3) (selfB_self 9 _ rfl _) <| pc h12 <| pc (ref02_Box_fc b) <| pc h5 <| pc (ref02_Seasons_fc fu l q14 x4 h13) <| pc (z1p14 l q14) <| pt (z1r18 l) (⟨MemAt.same _ (encL_pf cXSeason_pf _), trivial⟩) <| pt (VR (Ren.emb [(10, 14, 0)]) (.bool (x4)) (.bool (x4))) (selfB_self 9 _ rfl _) <| pc h14 <| pt (z1r26 s b l q10 q11 q12 q13 q14) (ref02_History_none fu s b l q10 q11 q12 q13 q14 h15) <| pc (z1p15 s b l q10 q11 q12 q13 q14) <| pc (z1p7 s l) <| pt z1r27 (.slc 77 0 _ _ _ ⟨102, 0, 0, 0⟩ rfl (.inl rfl)) <| pc (ref02_Ready_fc fu ([b]) liters 1 x7 h16) <| pc (z1p25 b liters) <| pt (z1r28 b) (⟨MemAt.same _ (encL_pf cXBox_pf _), trivial⟩) <| pt (z1r29 x7) (selfB_self 9 _ rfl _) <| pc h17 <| pc h18 <| pc h19 <| pc (law02_known_fc fu  x1 h20) <| pn) (by kernel_rfl) (by kernel_rfl)
                    ·rw [h19, cF] at hh
                     rw [← sI hh]
                     exact FSat.d pfT 39 (hR 4 ((z1i0 s q10 q11 q12 q13) :: (hR 4 (hT :: hE :: hE :: hE :: hF :: (hR 5 (hF :: hE :: hE :: (z1i4 b) :: (hR 8 ((hB (hC (.bool (ref02_Box b))) true) :: hE :: hE :: hF :: (hR 4 ((hC (I (ref02_Wood b.Low))) :: hF :: (hR 5 ((hC (I (ref02_Wood b.High))) :: hF :: (hR 5 ((z1i5 s b l liters q10 q11 q12 q13 q14 x2) :: (hR 9 (hF :: hE :: (z1i9 s q10 q11 q12 q13 x3) :: hE :: hE :: hE :: (hB (hC (.bool (ref02_Box b))) true) :: (hR 4 ((z1i10 l q14 x4) :: (hR 5 ((z1i23 s b l q10 q11 q12 q13 q14) :: hE :: (z1i24 b liters x7) :: (hR 6 (hT :: hE :: hE :: hE :: hT :: (hR 4 (hF :: (hR 4 []))))))))))))))))))))))))) [] (pc (law02_short_fc s q10 q11 q12 q13) <| pc (z1p1 s q10 q11 q12 q13) <| pc (z1p2 s) <| pt (z1r3 s) (selfB_self 9 _ rfl _) <| pc h1 <| pc h2 <| pc h3 <| pc h4 <| pc (growth_Woods_fc b) <| pc (ref02_Box_fc b) <| pc h5 <| pc h6 <| pc (ref02_Wood_fc b.Low) <| pc h7 <| pc (ref02_Wood_fc b.High) <| pc h8 <| pc (growth_Ready_fc fu s b l liters q10 q11 q12 q13 q14 x2 h9) <| pc (z1p6 s b l liters q10 q11 q12 q13 q14) <| pc (z1p7 s l) <| pt (z1r8 x2) (selfB_self 9 _ rfl _) <| pc h10 <| pc (ref02_Species_fc fu s q10 q11 q12 q13 x3 h11) <| pc (z1p13 s q10 q11 q12 q13) <| pc (z1p2 s) <| pt (z1r17 x3) (selfB_self 9 _ rfl _) <| pc h12 <| pc (ref02_Box_fc b) <| pc h5 <| pc (ref02_Seasons_fc fu l q14 x4 h13) <| pc (z1p14 l q14) <| pt (z1r18 l) (⟨MemAt.same _ (encL_pf cXSeason_pf _), trivial⟩) <| pt (VR (Ren.emb [(10, 14, 0)]) (.bool (x4)) (.bool (x4))) (selfB_self 9 _ rfl _) <| pc h14 <| pt (z1r26 s b l q10 q11 q12 q13 q14) (ref02_History_none fu s b l q10 q11 q12 q13 q14 h15) <| pc (z1p15 s b l q10 q11 q12 q13 q14) <| pc (z1p7 s l) <| pt z1r27 (.slc 77 0 _ _ _ ⟨102, 0, 0, 0⟩ rfl (.inl rfl)) <| pc (ref02_Ready_fc fu ([b]) liters 1 x7 h16) <| pc (z1p25 b liters) <| pt (z1r28 b) (⟨MemAt.same _ (encL_pf cXBox_pf _), trivial⟩) <| pt (z1r29 x7) (selfB_self 9 _ rfl _) <| pc h17 <| pc h18 <| pc h19 <| pn) (by kernel_rfl) (by kernel_rfl)
                   ·rw [h18, cF] at hh
                    rw [← sI hh]
                    exact FSat.d pfT 39 (hR 4 ((z1i0 s q10 q11 q12 q13) :: (hR 4 (hT :: hE :: hE :: hE :: hF :: (hR 5 (hF :: hE :: hE :: (z1i4 b) :: (hR 8 ((hB (hC (.bool (ref02_Box b))) true) :: hE :: hE :: hF :: (hR 4 ((hC (I (ref02_Wood b.Low))) :: hF :: (hR 5 ((hC (I (ref02_Wood b.High))) :: hF :: (hR 5 ((z1i5 s b l liters q10 q11 q12 q13 q14 x2) :: (hR 9 (hF :: hE :: (z1i9 s q10 q11 q12 q13 x3) :: hE :: hE :: hE :: (hB (hC (.bool (ref02_Box b))) true) :: (hR 4 ((z1i10 l q14 x4) :: (hR 5 ((z1i23 s b l q10 q11 q12 q13 q14) :: hE :: (z1i24 b liters x7) :: (hR 6 (hT :: hE :: hE :: hE :: hF :: (hR 6 []))))))))))))))))))))))) [] (pc (law02_short_fc s q10 q11 q12 q13) <| pc (z1p1 s q10 q11 q12 q13) <| pc (z1p2 s) <| pt (z1r3 s) (selfB_self 9 _ rfl _) <| pc h1 <| pc h2 <| pc h3 <| pc h4 <| pc (growth_Woods_fc b) <| pc (ref02_Box_fc b) <| pc h5 <| pc h6 <| pc (ref02_Wood_fc b.Low) <| pc h7 <| pc (ref02_Wood_fc b.High) <| pc h8 <| pc (growth_Ready_fc fu s b l liters q10 q11 q12 q13 q14 x2 h9) <| pc (z1p6 s b l liters q10 q11 q12 q13 q14) <| pc (z1p7 s l) <| pt (z1r8 x2) (selfB_self 9 _ rfl _) <| pc h10 <| pc (ref02_Species_fc fu s q10 q11 q12 q13 x3 h11) <| pc (z1p13 s q10 q11 q12 q13) <| pc (z1p2 s) <| pt (z1r17 x3) (selfB_self 9 _ rfl _) <| pc h12 <| pc (ref02_Box_fc b) <| pc h5 <| pc (ref02_Seasons_fc fu l q14 x4 h13) <| pc (z1p14 l q14) <| pt (z1r18 l) (⟨MemAt.same _ (encL_pf cXSeason_pf _), trivial⟩) <| pt (VR (Ren.emb [(10, 14, 0)]) (.bool (x4)) (.bool (x4))) (selfB_self 9 _ rfl _) <| pc h14 <| pt (z1r26 s b l q10 q11 q12 q13 q14) (ref02_History_none fu s b l q10 q11 q12 q13 q14 h15) <| pc (z1p15 s b l q10 q11 q12 q13 q14) <| pc (z1p7 s l) <| pt z1r27 (.slc 77 0 _ _ _ ⟨102, 0, 0, 0⟩ rfl (.inl rfl)) <| pc (ref02_Ready_fc fu ([b]) liters 1 x7 h16) <| pc (z1p25 b liters) <| pt (z1r28 b) (⟨MemAt.same _ (encL_pf cXBox_pf _), trivial⟩) <| pt (z1r29 x7) (selfB_self 9 _ rfl _) <| pc h17 <| pc h18 <| pn) (by kernel_rfl) (by kernel_rfl)
                  ·rw [h17, cF] at hh
                   rw [← sI hh]
                   exact FSat.d pfT 39 (hR 4 ((z1i0 s q10 q11 q12 q13) :: (hR 4 (hT :: hE :: hE :: hE :: hF :: (hR 5 (hF :: hE :: hE :: (z1i4 b) :: (hR 8 ((hB (hC (.bool (ref02_Box b))) true) :: hE :: hE :: hF :: (hR 4 ((hC (I (ref02_Wood b.Low))) :: hF :: (hR 5 ((hC (I (ref02_Wood b.High))) :: hF :: (hR 5 ((z1i5 s b l liters q10 q11 q12 q13 q14 x2) :: (hR 9 (hF :: hE :: (z1i9 s q10 q11 q12 q13 x3) :: hE :: hE :: hE :: (hB (hC (.bool (ref02_Box b))) true) :: (hR 4 ((z1i10 l q14 x4) :: (hR 5 ((z1i23 s b l q10 q11 q12 q13 q14) :: hE :: (z1i24 b liters x7) :: (hR 6 (hF :: (hR 7 []))))))))))))))))))))))) [] (pc (law02_short_fc s q10 q11 q12 q13) <| pc (z1p1 s q10 q11 q12 q13) <| pc (z1p2 s) <| pt (z1r3 s) (selfB_self 9 _ rfl _) <| pc h1 <| pc h2 <| pc h3 <| pc h4 <| pc (growth_Woods_fc b) <| pc (ref02_Box_fc b) <| pc h5 <| pc h6 <| pc (ref02_Wood_fc b.Low) <| pc h7 <| pc (ref02_Wood_fc b.High) <| pc h8 <| pc (growth_Ready_fc fu s b l liters q10 q11 q12 q13 q14 x2 h9) <| pc (z1p6 s b l liters q10 q11 q12 q13 q14) <| pc (z1p7 s l) <| pt (z1r8 x2) (selfB_self 9 _ rfl _) <| pc h10 <| pc (ref02_Species_fc fu s q10 q11 q12 q13 x3 h11) <| pc (z1p13 s q10 q11 q12 q13) <| pc (z1p2 s) <| pt (z1r17 x3) (selfB_self 9 _ rfl _) <| pc h12 <| pc (ref02_Box_fc b) <| pc h5 <| pc (ref02_Seasons_fc fu l q14 x4 h13) <| pc (z1p14 l q14) <| pt (z1r18 l) (⟨MemAt.same _ (encL_pf cXSeason_pf _), trivial⟩) <| pt (VR (Ren.emb [(10, 14, 0)]) (.bool (x4)) (.bool (x4))) (selfB_self 9 _ rfl _) <| pc h14 <| pt (z1r26 s b l q10 q11 q12 q13 q14) (ref02_History_none fu s b l q10 q11 q12 q13 q14 h15) <| pc (z1p15 s b l q10 q11 q12 q13 q14) <| pc (z1p7 s l) <| pt z1r27 (.slc 77 0 _ _ _ ⟨102, 0, 0, 0⟩ rfl (.inl rfl)) <| pc (ref02_Ready_fc fu ([b]) liters 1 x7 h16) <| pc (z1p25 b liters) <| pt (z1r28 b) (⟨MemAt.same _ (encL_pf cXBox_pf _), trivial⟩) <| pt (z1r29 x7) (selfB_self 9 _ rfl _) <| pc h17 <| pn) (by kernel_rfl) (by kernel_rfl)
               ·rw [h14, cF] at hh
                rcases bb (x2.2.2 == 2) with h15 | h15
                ·rw [h15, cT] at hh
                 rcases bb (x2.1 == 0) with h16 | h16
                 ·rw [h16, cT] at hh
                  rcases bb (x2.2.1 == 0) with h17 | h17
                  ·rw [h17, cT] at hh
                   cases h18 : law02_known fu with
                   | none => rw [h18, oN] at hh; cases hh
                   | some x1 =>
                    rw [h18, oS] at hh
                    rw [← sI hh]
                    exact FSat.d pfT 36 (hR 4 ((z1i0 s q10 q11 q12 q13) :: (hR 4 (hT :: hE :: hE :: hE :: hF :: (hR 5 (hF :: hE :: hE :: (z1i4 b) :: (hR 8 ((hB (hC (.bool (ref02_Box b))) true) :: hE :: hE :: hF :: (hR 4 ((hC (I (ref02_Wood b.Low))) :: hF :: (hR 5 ((hC (I (ref02_Wood b.High))) :: hF :: (hR 5 ((z1i5 s b l liters q10 q11 q12 q13 q14 x2) :: (hR 9 (hF :: hE :: (z1i9 s q10 q11 q12 q13 x3) :: hE :: hE :: hE :: (hB (hC (.bool (ref02_Box b))) true) :: (hR 4 [(z1i30 l q14 x4), hE, hE, hE, hT, hE, hE, hT, hE, hE, hE, hT, hE, hE, (hC (.bool (x1))), hE, hE]))))))))))))))))) [] (pc (law02_short_fc s q10 q11 q12 q13) <| pc (z1p1 s q10 q11 q12 q13) <| pc (z1p2 s) <| pt (z1r3 s) (selfB_self 9 _ rfl _) <| pc h1 <| pc h2 <| pc h3 <| pc h4 <| pc (growth_Woods_fc b) <| pc (ref02_Box_fc b) <| pc h5 <| pc h6 <| pc (ref02_Wood_fc b.Low) <| pc h7 <| pc (ref02_Wood_fc b.High) <| pc h8 <| pc (growth_Ready_fc fu s b l liters q10 q11 q12 q13 q14 x2 h9) <| pc (z1p6 s b l liters q10 q11 q12 q13 q14) <| pc (z1p7 s l) <| pt (z1r8 x2) (selfB_self 9 _ rfl _) <| pc h10 <| pc (ref02_Species_fc fu s q10 q11 q12 q13 x3 h11) <| pc (z1p13 s q10 q11 q12 q13) <| pc (z1p2 s) <| pt (z1r17 x3) (selfB_self 9 _ rfl _) <| pc h12 <| pc (ref02_Box_fc b) <| pc h5 <| pc (ref02_Seasons_fc fu l q14 x4 h13) <| pc (z1p14 l q14) <| pt (z1r18 l) (⟨MemAt.same _ (encL_pf cXSeason_pf _), trivial⟩) <| pt (VR (Ren.emb [(10, 14, 0)]) (.bool (x4)) (.bool (x4))) (selfB_self 9 _ rfl _) <| pc h14 <| pc h15 <| pc h16 <| pc h17 <| pc (law02_known_fc fu  x1 h18) <| pn) (by kernel_rfl) (by kernel_rfl)
                  ·rw [h17, cF] at hh
                   rw [← sI hh]
                   exact FSat.d pfT 36 (hR 4 ((z1i0 s q10 q11 q12 q13) :: (hR 4 (hT :: hE :: hE :: hE :: hF :: (hR 5 (hF :: hE :: hE :: (z1i4 b) :: (hR 8 ((hB (hC (.bool (ref02_Box b))) true) :: hE :: hE :: hF :: (hR 4 ((hC (I (ref02_Wood b.Low))) :: hF :: (hR 5 ((hC (I (ref02_Wood b.High))) :: hF :: (hR 5 ((z1i5 s b l liters q10 q11 q12 q13 q14 x2) :: (hR 9 (hF :: hE :: (z1i9 s q10 q11 q12 q13 x3) :: hE :: hE :: hE :: (hB (hC (.bool (ref02_Box b))) true) :: (hR 4 ((z1i30 l q14 x4) :: hE :: hE :: hE :: hT :: hE :: hE :: hT :: hE :: hE :: hE :: hF :: (hR 4 []))))))))))))))))))) [] (pc (law02_short_fc s q10 q11 q12 q13) <| pc (z1p1 s q10 q11 q12 q13) <| pc (z1p2 s) <| pt (z1r3 s) (selfB_self 9 _ rfl _) <| pc h1 <| pc h2 <| pc h3 <| pc h4 <| pc (growth_Woods_fc b) <| pc (ref02_Box_fc b) <| pc h5 <| pc h6 <| pc (ref02_Wood_fc b.Low) <| pc h7 <| pc (ref02_Wood_fc b.High) <| pc h8 <| pc (growth_Ready_fc fu s b l liters q10 q11 q12 q13 q14 x2 h9) <| pc (z1p6 s b l liters q10 q11 q12 q13 q14) <| pc (z1p7 s l) <| pt (z1r8 x2) (selfB_self 9 _ rfl _) <| pc h10 <| pc (ref02_Species_fc fu s q10 q11 q12 q13 x3 h11) <| pc (z1p13 s q10 q11 q12 q13) <| pc (z1p2 s) <| pt (z1r17 x3) (selfB_self 9 _ rfl _) <| pc h12 <| pc (ref02_Box_fc b) <| pc h5 <| pc (ref02_Seasons_fc fu l q14 x4 h13) <| pc (z1p14 l q14) <| pt (z1r18 l) (⟨MemAt.same _ (encL_pf cXSeason_pf _), trivial⟩) <| pt (VR (Ren.emb [(10, 14, 0)]) (.bool (x4)) (.bool (x4))) (selfB_self 9 _ rfl _) <| pc h14 <| pc h15 <| pc h16 <| pc h17 <| pn) (by kernel_rfl) (by kernel_rfl)
                 ·rw [h16, cF] at hh
                  rw [← sI hh]
                  exact FSat.d pfT 36 (hR 4 ((z1i0 s q10 q11 q12 q13) :: (hR 4 (hT :: hE :: hE :: hE :: hF :: (hR 5 (hF :: hE :: hE :: (z1i4 b) :: (hR 8 ((hB (hC (.bool (ref02_Box b))) true) :: hE :: hE :: hF :: (hR 4 ((hC (I (ref02_Wood b.Low))) :: hF :: (hR 5 ((hC (I (ref02_Wood b.High))) :: hF :: (hR 5 ((z1i5 s b l liters q10 q11 q12 q13 q14 x2) :: (hR 9 (hF :: hE :: (z1i9 s q10 q11 q12 q13 x3) :: hE :: hE :: hE :: (hB (hC (.bool (ref02_Box b))) true) :: (hR 4 ((z1i30 l q14 x4) :: hE :: hE :: hE :: hT :: hE :: hE :: hF :: (hR 6 []))))))))))))))))))) [] (pc (law02_short_fc s q10 q11 q12 q13) <| pc (z1p1 s q10 q11 q12 q13) <| pc (z1p2 s) <| pt (z1r3 s) (selfB_self 9 _ rfl _) <| pc h1 <| pc h2 <| pc h3 <| pc h4 <| pc (growth_Woods_fc b) <| pc (ref02_Box_fc b) <| pc h5 <| pc h6 <| pc (ref02_Wood_fc b.Low) <| pc h7 <| pc (ref02_Wood_fc b.High) <| pc h8 <| pc (growth_Ready_fc fu s b l liters q10 q11 q12 q13 q14 x2 h9) <| pc (z1p6 s b l liters q10 q11 q12 q13 q14) <| pc (z1p7 s l) <| pt (z1r8 x2) (selfB_self 9 _ rfl _) <| pc h10 <| pc (ref02_Species_fc fu s q10 q11 q12 q13 x3 h11) <| pc (z1p13 s q10 q11 q12 q13) <| pc (z1p2 s) <| pt (z1r17 x3) (selfB_self 9 _ rfl _) <| pc h12 <| pc (ref02_Box_fc b) <| pc h5 <| pc (ref02_Seasons_fc fu l q14 x4 h13) <| pc (z1p14 l q14) <| pt (z1r18 l) (⟨MemAt.same _ (encL_pf cXSeason_pf _), trivial⟩) <| pt (VR (Ren.emb [(10, 14, 0)]) (.bool (x4)) (.bool (x4))) (selfB_self 9 _ rfl _) <| pc h14 <| pc h15 <| pc h16 <| pn) (by kernel_rfl) (by kernel_rfl)
                ·rw [h15, cF] at hh
                 rw [← sI hh]
                 exact FSat.d pfT 36 (hR 4 ((z1i0 s q10 q11 q12 q13) :: (hR 4 (hT :: hE :: hE :: hE :: hF :: (hR 5 (hF :: hE :: hE :: (z1i4 b) :: (hR 8 ((hB (hC (.bool (ref02_Box b))) true) :: hE :: hE :: hF :: (hR 4 ((hC (I (ref02_Wood b.Low))) :: hF :: (hR 5 ((hC (I (ref02_Wood b.High))) :: hF :: (hR 5 ((z1i5 s b l liters q10 q11 q12 q13 q14 x2) :: (hR 9 (hF :: hE :: (z1i9 s q10 q11 q12 q13 x3) :: hE :: hE :: hE :: (hB (hC (.bool (ref02_Box b))) true) :: (hR 4 ((z1i30 l q14 x4) :: hE :: hE :: hE :: hF :: (hR 7 []))))))))))))))))))) [] (pc (law02_short_fc s q10 q11 q12 q13) <| pc (z1p1 s q10 q11 q12 q13) <| pc (z1p2 s) <| pt (z1r3 s) (selfB_self 9 _ rfl _) <| pc h1 <| pc h2 <| pc h3 <| pc h4 <| pc (growth_Woods_fc b) <| pc (ref02_Box_fc b) <| pc h5 <| pc h6 <| pc (ref02_Wood_fc b.Low) <| pc h7 <| pc (ref02_Wood_fc b.High) <| pc h8 <| pc (growth_Ready_fc fu s b l liters q10 q11 q12 q13 q14 x2 h9) <| pc (z1p6 s b l liters q10 q11 q12 q13 q14) <| pc (z1p7 s l) <| pt (z1r8 x2) (selfB_self 9 _ rfl _) <| pc h10 <| pc (ref02_Species_fc fu s q10 q11 q12 q13 x3 h11) <| pc (z1p13 s q10 q11 q12 q13) <| pc (z1p2 s) <| pt (z1r17 x3) (selfB_self 9 _ rfl _) <| pc h12 <| pc (ref02_Box_fc b) <| pc h5 <| pc (ref02_Seasons_fc fu l q14 x4 h13) <| pc (z1p14 l q14) <| pt (z1r18 l) (⟨MemAt.same _ (encL_pf cXSeason_pf _), trivial⟩) <| pt (VR (Ren.emb [(10, 14, 0)]) (.bool (x4)) (.bool (x4))) (selfB_self 9 _ rfl _) <| pc h14 <| pc h15 <| pn) (by kernel_rfl) (by kernel_rfl)
             ·rw [h12, cF] at hh
              rcases bb (x2.2.2 == 2) with h13 | h13
              ·rw [h13, cT] at hh
               rcases bb (x2.1 == 0) with h14 | h14
               ·rw [h14, cT] at hh
                rcases bb (x2.2.1 == 0) with h15 | h15
                ·rw [h15, cT] at hh
                 cases h16 : law02_known fu with
                 | none => rw [h16, oN] at hh; cases hh
                 | some x1 =>
                  rw [h16, oS] at hh
                  rw [← sI hh]
                  exact FSat.d pfT 36 (hR 4 ((z1i0 s q10 q11 q12 q13) :: (hR 4 (hT :: hE :: hE :: hE :: hF :: (hR 5 (hF :: hE :: hE :: (z1i4 b) :: (hR 8 ((hB (hC (.bool (ref02_Box b))) true) :: hE :: hE :: hF :: (hR 4 ((hC (I (ref02_Wood b.Low))) :: hF :: (hR 5 ((hC (I (ref02_Wood b.High))) :: hF :: (hR 5 ((z1i5 s b l liters q10 q11 q12 q13 q14 x2) :: (hR 9 (hF :: hE :: (z1i31 s q10 q11 q12 q13 x3) :: (hR 6 [hT, hE, hE, hT, hE, hE, hE, hT, hE, hE, (hC (.bool (x1))), hE, hE]))))))))))))))))) [] (pc (law02_short_fc s q10 q11 q12 q13) <| pc (z1p1 s q10 q11 q12 q13) <| pc (z1p2 s) <| pt (z1r3 s) (selfB_self 9 _ rfl _) <| pc h1 <| pc h2 <| pc h3 <| pc h4 <| pc (growth_Woods_fc b) <| pc (ref02_Box_fc b) <| pc h5 <| pc h6 <| pc (ref02_Wood_fc b.Low) <| pc h7 <| pc (ref02_Wood_fc b.High) <| pc h8 <| pc (growth_Ready_fc fu s b l liters q10 q11 q12 q13 q14 x2 h9) <| pc (z1p6 s b l liters q10 q11 q12 q13 q14) <| pc (z1p7 s l) <| pt (z1r8 x2) (selfB_self 9 _ rfl _) <| pc h10 <| pc (ref02_Species_fc fu s q10 q11 q12 q13 x3 h11) <| pc (z1p13 s q10 q11 q12 q13) <| pc (z1p2 s) <| pt (z1r17 x3) (selfB_self 9 _ rfl _) <| pc h12 <| pc h13 <| pc h14 <| pc h15 <| pc (law02_known_fc fu  x1 h16) <| pn) (by kernel_rfl) (by kernel_rfl)
                ·rw [h15, cF] at hh
                 rw [← sI hh]
                 exact FSat.d pfT 36 (hR 4 ((z1i0 s q10 q11 q12 q13) :: (hR 4 (hT :: hE :: hE :: hE :: hF :: (hR 5 (hF :: hE :: hE :: (z1i4 b) :: (hR 8 ((hB (hC (.bool (ref02_Box b))) true) :: hE :: hE :: hF :: (hR 4 ((hC (I (ref02_Wood b.Low))) :: hF :: (hR 5 ((hC (I (ref02_Wood b.High))) :: hF :: (hR 5 ((z1i5 s b l liters q10 q11 q12 q13 q14 x2) :: (hR 9 (hF :: hE :: (z1i31 s q10 q11 q12 q13 x3) :: (hR 6 (hT :: hE :: hE :: hT :: hE :: hE :: hE :: hF :: (hR 4 []))))))))))))))))))) [] (pc (law02_short_fc s q10 q11 q12 q13) <| pc (z1p1 s q10 q11 q12 q13) <| pc (z1p2 s) <| pt (z1r3 s) (selfB_self 9 _ rfl _) <| pc h1 <| pc h2 <| pc h3 <| pc h4 <| pc (growth_Woods_fc b) <| pc (ref02_Box_fc b) <| pc h5 <| pc h6 <| pc (ref02_Wood_fc b.Low) <| pc h7 <| pc (ref02_Wood_fc b.High) <| pc h8 <| pc (growth_Ready_fc fu s b l liters q10 q11 q12 q13 q14 x2 h9) <| pc (z1p6 s b l liters q10 q11 q12 q13 q14) <| pc (z1p7 s l) <| pt (z1r8 x2) (selfB_self 9 _ rfl _) <| pc h10 <| pc (ref02_Species_fc fu s q10 q11 q12 q13 x3 h11) <| pc (z1p13 s q10 q11 q12 q13) <| pc (z1p2 s) <| pt (z1r17 x3) (selfB_self 9 _ rfl _) <| pc h12 <| pc h13 <| pc h14 <| pc h15 <| pn) (by kernel_rfl) (by kernel_rfl)
               ·rw [h14, cF] at hh
                rw [← sI hh]
                exact FSat.d pfT 36 (hR 4 ((z1i0 s q10 q11 q12 q13) :: (hR 4 (hT :: hE :: hE :: hE :: hF :: (hR 5 (hF :: hE :: hE :: (z1i4 b) :: (hR 8 ((hB (hC (.bool (ref02_Box b))) true) :: hE :: hE :: hF :: (hR 4 ((hC (I (ref02_Wood b.Low))) :: hF :: (hR 5 ((hC (I (ref02_Wood b.High))) :: hF :: (hR 5 ((z1i5 s b l liters q10 q11 q12 q13 q14 x2) :: (hR 9 (hF :: hE :: (z1i31 s q10 q11 q12 q13 x3) :: (hR 6 (hT :: hE :: hE :: hF :: (hR 6 []))))))))))))))))))) [] (pc (law02_short_fc s q10 q11 q12 q13) <| pc (z1p1 s q10 q11 q12 q13) <| pc (z1p2 s) <| pt (z1r3 s) (selfB_self 9 _ rfl _) <| pc h1 <| pc h2 <| pc h3 <| pc h4 <| pc (growth_Woods_fc b) <| pc (ref02_Box_fc b) <| pc h5 <| pc h6 <| pc (ref02_Wood_fc b.Low) <| pc h7 <| pc (ref02_Wood_fc b.High) <| pc h8 <| pc (growth_Ready_fc fu s b l liters q10 q11 q12 q13 q14 x2 h9) <| pc (z1p6 s b l liters q10 q11 q12 q13 q14) <| pc (z1p7 s l) <| pt (z1r8 x2) (selfB_self 9 _ rfl _) <| pc h10 <| pc (ref02_Species_fc fu s q10 q11 q12 q13 x3 h11) <| pc (z1p13 s q10 q11 q12 q13) <| pc (z1p2 s) <| pt (z1r17 x3) (selfB_self 9 _ rfl _) <| pc h12 <| pc h13 <| pc h14 <| pn) (by kernel_rfl) (by kernel_rfl)
              ·rw [h13, cF] at hh
               rw [← sI hh]
               exact FSat.d pfT 36 (hR 4 ((z1i0 s q10 q11 q12 q13) :: (hR 4 (hT :: hE :: hE :: hE :: hF :: (hR 5 (hF :: hE :: hE :: (z1i4 b) :: (hR 8 ((hB (hC (.bool (ref02_Box b))) true) :: hE :: hE :: hF :: (hR 4 ((hC (I (ref02_Wood b.Low))) :: hF :: (hR 5 ((hC (I (ref02_Wood b.High))) :: hF :: (hR 5 ((z1i5 s b l liters q10 q11 q12 q13 q14 x2) :: (hR 9 (hF :: hE :: (z1i31 s q10 q11 q12 q13 x3) :: (hR 6 (hF :: (hR 7 []))))))))))))))))))) [] (pc (law02_short_fc s q10 q11 q12 q13) <| pc (z1p1 s q10 q11 q12 q13) <| pc (z1p2 s) <| pt (z1r3 s) (selfB_self 9 _ rfl _) <| pc h1 <| pc h2 <| pc h3 <| pc h4 <| pc (growth_Woods_fc b) <| pc (ref02_Box_fc b) <| pc h5 <| pc h6 <| pc (ref02_Wood_fc b.Low) <| pc h7 <| pc (ref02_Wood_fc b.High) <| pc h8 <| pc (growth_Ready_fc fu s b l liters q10 q11 q12 q13 q14 x2 h9) <| pc (z1p6 s b l liters q10 q11 q12 q13 q14) <| pc (z1p7 s l) <| pt (z1r8 x2) (selfB_self 9 _ rfl _) <| pc h10 <| pc (ref02_Species_fc fu s q10 q11 q12 q13 x3 h11) <| pc (z1p13 s q10 q11 q12 q13) <| pc (z1p2 s) <| pt (z1r17 x3) (selfB_self 9 _ rfl _) <| pc h12 <| pc h13 <| pn) (by kernel_rfl) (by kernel_rfl)
      ·rw [h5, cF] at hh
       rcases bb (((growth_Woods b).2.2) != 2) with h6 | h6
       ·rw [h6, cT] at hh
        rw [← sI hh]
        exact FSat.d pfT 24 (hR 4 ((z1i0 s q10 q11 q12 q13) :: (hR 4 (hT :: hE :: hE :: hE :: hF :: (hR 5 (hF :: hE :: hE :: (z1i4 b) :: (hR 8 ((hB (hC (.bool (ref02_Box b))) false) :: hE :: hE :: hT :: (hR 5 []))))))))) [] (pc (law02_short_fc s q10 q11 q12 q13) <| pc (z1p1 s q10 q11 q12 q13) <| pc (z1p2 s) <| pt (z1r3 s) (selfB_self 9 _ rfl _) <| pc h1 <| pc h2 <| pc h3 <| pc h4 <| pc (growth_Woods_fc b) <| pc (ref02_Box_fc b) <| pc h5 <| pc h6 <| pn) (by kernel_rfl) (by kernel_rfl)
       ·rw [h6, cF] at hh
        rcases bb (((growth_Woods b).1) != 0) with h7 | h7
        ·rw [h7, cT] at hh
         rw [← sI hh]
         exact FSat.d pfT 24 (hR 4 ((z1i0 s q10 q11 q12 q13) :: (hR 4 (hT :: hE :: hE :: hE :: hF :: (hR 5 (hF :: hE :: hE :: (z1i4 b) :: (hR 8 ((hB (hC (.bool (ref02_Box b))) false) :: hE :: hE :: hF :: hE :: hE :: hT :: (hR 4 []))))))))) [] (pc (law02_short_fc s q10 q11 q12 q13) <| pc (z1p1 s q10 q11 q12 q13) <| pc (z1p2 s) <| pt (z1r3 s) (selfB_self 9 _ rfl _) <| pc h1 <| pc h2 <| pc h3 <| pc h4 <| pc (growth_Woods_fc b) <| pc (ref02_Box_fc b) <| pc h5 <| pc h6 <| pc h7 <| pn) (by kernel_rfl) (by kernel_rfl)
        ·rw [h7, cF] at hh
         rcases bb (((growth_Woods b).2.1) != 0) with h8 | h8
         ·rw [h8, cT] at hh
          rw [← sI hh]
          exact FSat.d pfT 24 (hR 4 ((z1i0 s q10 q11 q12 q13) :: (hR 4 (hT :: hE :: hE :: hE :: hF :: (hR 5 (hF :: hE :: hE :: (z1i4 b) :: (hR 8 [(hB (hC (.bool (ref02_Box b))) false), hE, hE, hF, hE, hE, hF, hE, hE, hE, hT, hE, hE]))))))) [] (pc (law02_short_fc s q10 q11 q12 q13) <| pc (z1p1 s q10 q11 q12 q13) <| pc (z1p2 s) <| pt (z1r3 s) (selfB_self 9 _ rfl _) <| pc h1 <| pc h2 <| pc h3 <| pc h4 <| pc (growth_Woods_fc b) <| pc (ref02_Box_fc b) <| pc h5 <| pc h6 <| pc h7 <| pc h8 <| pn) (by kernel_rfl) (by kernel_rfl)
         ·rw [h8, cF] at hh
          cases h9 : growth_Ready fu s b l liters with
          | none => rw [h9, oN] at hh; cases hh
          | some x2 =>
           rw [h9, oS] at hh
           rcases bb (decide (((l.length : Nat) : Int) > 100)) with h10 | h10
           ·rw [h10, cT] at hh
            rcases bb (x2.2.2 == 3) with h11 | h11
            ·rw [h11, cT] at hh
             rcases bb (x2.1 == 0) with h12 | h12
             ·rw [h12, cT] at hh
              rcases bb (x2.2.1 == 0) with h13 | h13
              ·rw [h13, cT] at hh
               cases h14 : law02_known fu with
               | none => rw [h14, oN] at hh; cases hh
               | some x1 =>
                rw [h14, oS] at hh
                rw [← sI hh]
                exact FSat.d pfT 31 (hR 4 ((z1i0 s q10 q11 q12 q13) :: (hR 4 (hT :: hE :: hE :: hE :: hF :: (hR 5 (hF :: hE :: hE :: (z1i4 b) :: (hR 8 ((hB (hC (.bool (ref02_Box b))) false) :: hE :: hE :: hF :: hE :: hE :: hF :: hE :: hE :: hE :: hF :: (hR 5 ((z1i5 s b l liters q10 q11 q12 q13 q14 x2) :: (hR 9 [hT, hE, hT, hE, hE, hT, hE, hE, hE, hT, hE, hE, (hC (.bool (x1))), hE, hE]))))))))))) [] (pc (law02_short_fc s q10 q11 q12 q13) <| pc (z1p1 s q10 q11 q12 q13) <| pc (z1p2 s) <| pt (z1r3 s) (selfB_self 9 _ rfl _) <| pc h1 <| pc h2 <| pc h3 <| pc h4 <| pc (growth_Woods_fc b) <| pc (ref02_Box_fc b) <| pc h5 <| pc h6 <| pc h7 <| pc h8 <| pc (growth_Ready_fc fu s b l liters q10 q11 q12 q13 q14 x2 h9) <| pc (z1p6 s b l liters q10 q11 q12 q13 q14) <| pc (z1p7 s l) <| pt (z1r8 x2) (selfB_self 9 _ rfl _) <| pc h10 <| pc h11 <| pc h12 <| pc h13 <| pc (law02_known_fc fu  x1 h14) <| pn) (by kernel_rfl) (by kernel_rfl)
              ·rw [h13, cF] at hh
               rw [← sI hh]
               exact FSat.d pfT 31 (hR 4 ((z1i0 s q10 q11 q12 q13) :: (hR 4 (hT :: hE :: hE :: hE :: hF :: (hR 5 (hF :: hE :: hE :: (z1i4 b) :: (hR 8 ((hB (hC (.bool (ref02_Box b))) false) :: hE :: hE :: hF :: hE :: hE :: hF :: hE :: hE :: hE :: hF :: (hR 5 ((z1i5 s b l liters q10 q11 q12 q13 q14 x2) :: (hR 9 (hT :: hE :: hT :: hE :: hE :: hT :: hE :: hE :: hE :: hF :: (hR 4 []))))))))))))) [] (pc (law02_short_fc s q10 q11 q12 q13) <| pc (z1p1 s q10 q11 q12 q13) <| pc (z1p2 s) <| pt (z1r3 s) (selfB_self 9 _ rfl _) <| pc h1 <| pc h2 <| pc h3 <| pc h4 <| pc (growth_Woods_fc b) <| pc (ref02_Box_fc b) <| pc h5 <| pc h6 <| pc h7 <| pc h8 <| pc (growth_Ready_fc fu s b l liters q10 q11 q12 q13 q14 x2 h9) <| pc (z1p6 s b l liters q10 q11 q12 q13 q14) <| pc (z1p7 s l) <| pt (z1r8 x2) (selfB_self 9 _ rfl _) <| pc h10 <| pc h11 <| pc h12 <| pc h13 <| pn) (by kernel_rfl) (by kernel_rfl)
             ·rw [h12, cF] at hh
              rw [← sI hh]
              exact FSat.d pfT 31 (hR 4 ((z1i0 s q10 q11 q12 q13) :: (hR 4 (hT :: hE :: hE :: hE :: hF :: (hR 5 (hF :: hE :: hE :: (z1i4 b) :: (hR 8 ((hB (hC (.bool (ref02_Box b))) false) :: hE :: hE :: hF :: hE :: hE :: hF :: hE :: hE :: hE :: hF :: (hR 5 ((z1i5 s b l liters q10 q11 q12 q13 q14 x2) :: (hR 9 (hT :: hE :: hT :: hE :: hE :: hF :: (hR 6 []))))))))))))) [] (pc (law02_short_fc s q10 q11 q12 q13) <| pc (z1p1 s q10 q11 q12 q13) <| pc (z1p2 s) <| pt (z1r3 s) (selfB_self 9 _ rfl _) <| pc h1 <| pc h2 <| pc h3 <| pc h4 <| pc (growth_Woods_fc b) <| pc (ref02_Box_fc b) <| pc h5 <| pc h6 <| pc h7 <| pc h8 <| pc (growth_Ready_fc fu s b l liters q10 q11 q12 q13 q14 x2 h9) <| pc (z1p6 s b l liters q10 q11 q12 q13 q14) <| pc (z1p7 s l) <| pt (z1r8 x2) (selfB_self 9 _ rfl _) <| pc h10 <| pc h11 <| pc h12 <| pn) (by kernel_rfl) (by kernel_rfl)
            ·rw [h11, cF] at hh
             rw [← sI hh]
             exact FSat.d pfT 31 (hR 4 ((z1i0 s q10 q11 q12 q13) :: (hR 4 (hT :: hE :: hE :: hE :: hF :: (hR 5 (hF :: hE :: hE :: (z1i4 b) :: (hR 8 ((hB (hC (.bool (ref02_Box b))) false) :: hE :: hE :: hF :: hE :: hE :: hF :: hE :: hE :: hE :: hF :: (hR 5 ((z1i5 s b l liters q10 q11 q12 q13 q14 x2) :: (hR 9 (hT :: hE :: hF :: (hR 7 []))))))))))))) [] (pc (law02_short_fc s q10 q11 q12 q13) <| pc (z1p1 s q10 q11 q12 q13) <| pc (z1p2 s) <| pt (z1r3 s) (selfB_self 9 _ rfl _) <| pc h1 <| pc h2 <| pc h3 <| pc h4 <| pc (growth_Woods_fc b) <| pc (ref02_Box_fc b) <| pc h5 <| pc h6 <| pc h7 <| pc h8 <| pc (growth_Ready_fc fu s b l liters q10 q11 q12 q13 q14 x2 h9) <| pc (z1p6 s b l liters q10 q11 q12 q13 q14) <| pc (z1p7 s l) <| pt (z1r8 x2) (selfB_self 9 _ rfl _) <| pc h10 <| pc h11 <| pn) (by kernel_rfl) (by kernel_rfl)
           ·rw [h10, cF] at hh
            cases h11 : ref02_Species fu s with
            | none => rw [h11, oN] at hh; cases hh
            | some x3 =>
             rw [h11, oS] at hh
             rcases bb (x3) with h12 | h12
             ·rw [h12, cT] at hh
              rcases bb (x2.2.2 == 2) with h13 | h13
              ·rw [h13, cT] at hh
               rcases bb (x2.1 == 0) with h14 | h14
               ·rw [h14, cT] at hh
                rcases bb (x2.2.1 == 0) with h15 | h15
                ·rw [h15, cT] at hh
                 cases h16 : law02_known fu with
                 | none => rw [h16, oN] at hh; cases hh
                 | some x1 =>
                  rw [h16, oS] at hh
                  rw [← sI hh]
                  exact FSat.d pfT 36 (hR 4 ((z1i0 s q10 q11 q12 q13) :: (hR 4 (hT :: hE :: hE :: hE :: hF :: (hR 5 (hF :: hE :: hE :: (z1i4 b) :: (hR 8 ((hB (hC (.bool (ref02_Box b))) false) :: hE :: hE :: hF :: hE :: hE :: hF :: hE :: hE :: hE :: hF :: (hR 5 ((z1i5 s b l liters q10 q11 q12 q13 q14 x2) :: (hR 9 (hF :: hE :: (z1i9 s q10 q11 q12 q13 x3) :: hE :: hE :: hE :: (hB (hC (.bool (ref02_Box b))) false) :: (hR 5 [hT, hE, hE, hT, hE, hE, hE, hT, hE, hE, (hC (.bool (x1))), hE, hE]))))))))))))) [] (pc (law02_short_fc s q10 q11 q12 q13) <| pc (z1p1 s q10 q11 q12 q13) <| pc (z1p2 s) <| pt (z1r3 s) (selfB_self 9 _ rfl _) <| pc h1 <| pc h2 <| pc h3 <| pc h4 <| pc (growth_Woods_fc b) <| pc (ref02_Box_fc b) <| pc h5 <| pc h6 <| pc h7 <| pc h8 <| pc (growth_Ready_fc fu s b l liters q10 q11 q12 q13 q14 x2 h9) <| pc (z1p6 s b l liters q10 q11 q12 q13 q14) <| pc (z1p7 s l) <| pt (z1r8 x2) (selfB_self 9 _ rfl _) <| pc h10 <| pc (ref02_Species_fc fu s q10 q11 q12 q13 x3 h11) <| pc (z1p13 s q10 q11 q12 q13) <| pc (z1p2 s) <| pt (z1r17 x3) (selfB_self 9 _ rfl _) <| pc h12 <| pc (ref02_Box_fc b) <| pc h5 <| pc h13 <| pc h14 <| pc h15 <| pc (law02_known_fc fu  x1 h16) <| pn) (by kernel_rfl) (by kernel_rfl)
                ·rw [h15, cF] at hh
                 rw [← sI hh]
                 exact FSat.d pfT 36 (hR 4 ((z1i0 s q10 q11 q12 q13) :: (hR 4 (hT :: hE :: hE :: hE :: hF :: (hR 5 (hF :: hE :: hE :: (z1i4 b) :: (hR 8 ((hB (hC (.bool (ref02_Box b))) false) :: hE :: hE :: hF :: hE :: hE :: hF :: hE :: hE :: hE :: hF :: (hR 5 ((z1i5 s b l liters q10 q11 q12 q13 q14 x2) :: (hR 9 (hF :: hE :: (z1i9 s q10 q11 q12 q13 x3) :: hE :: hE :: hE :: (hB (hC (.bool (ref02_Box b))) false) :: (hR 5 (hT :: hE :: hE :: hT :: hE :: hE :: hE :: hF :: (hR 4 []))))))))))))))) [] (pc (law02_short_fc s q10 q11 q12 q13) <| pc (z1p1 s q10 q11 q12 q13) <| pc (z1p2 s) <| pt (z1r3 s) (selfB_self 9 _ rfl _) <| pc h1 <| pc h2 <| pc h3 <| pc h4 <| pc (growth_Woods_fc b) <| pc (ref02_Box_fc b) <| pc h5 <| pc h6 <| pc h7 <| pc h8 <| pc (growth_Ready_fc fu s b l liters q10 q11 q12 q13 q14 x2 h9) <| pc (z1p6 s b l liters q10 q11 q12 q13 q14) <| pc (z1p7 s l) <| pt (z1r8 x2) (selfB_self 9 _ rfl _) <| pc h10 <| pc (ref02_Species_fc fu s q10 q11 q12 q13 x3 h11) <| pc (z1p13 s q10 q11 q12 q13) <| pc (z1p2 s) <| pt (z1r17 x3) (selfB_self 9 _ rfl _) <| pc h12 <| pc (ref02_Box_fc b) <| pc h5 <| pc h13 <| pc h14 <| pc h15 <| pn) (by kernel_rfl) (by kernel_rfl)
               ·rw [h14, cF] at hh
                rw [← sI hh]
                exact FSat.d pfT 36 (hR 4 ((z1i0 s q10 q11 q12 q13) :: (hR 4 (hT :: hE :: hE :: hE :: hF :: (hR 5 (hF :: hE :: hE :: (z1i4 b) :: (hR 8 ((hB (hC (.bool (ref02_Box b))) false) :: hE :: hE :: hF :: hE :: hE :: hF :: hE :: hE :: hE :: hF :: (hR 5 ((z1i5 s b l liters q10 q11 q12 q13 q14 x2) :: (hR 9 (hF :: hE :: (z1i9 s q10 q11 q12 q13 x3) :: hE :: hE :: hE :: (hB (hC (.bool (ref02_Box b))) false) :: (hR 5 (hT :: hE :: hE :: hF :: (hR 6 []))))))))))))))) [] (pc (law02_short_fc s q10 q11 q12 q13) <| pc (z1p1 s q10 q11 q12 q13) <| pc (z1p2 s) <| pt (z1r3 s) (selfB_self 9 _ rfl _) <| pc h1 <| pc h2 <| pc h3 <| pc h4 <| pc (growth_Woods_fc b) <| pc (ref02_Box_fc b) <| pc h5 <| pc h6 <| pc h7 <| pc h8 <| pc (growth_Ready_fc fu s b l liters q10 q11 q12 q13 q14 x2 h9) <| pc (z1p6 s b l liters q10 q11 q12 q13 q14) <| pc (z1p7 s l) <| pt (z1r8 x2) (selfB_self 9 _ rfl _) <| pc h10 <| pc (ref02_Species_fc fu s q10 q11 q12 q13 x3 h11) <| pc (z1p13 s q10 q11 q12 q13) <| pc (z1p2 s) <| pt (z1r17 x3) (selfB_self 9 _ rfl _) <| pc h12 <| pc (ref02_Box_fc b) <| pc h5 <| pc h13 <| pc h14 <| pn) (by kernel_rfl) (by kernel_rfl)
              ·rw [h13, cF] at hh
               rw [← sI hh]
               exact FSat.d pfT 36 (hR 4 ((z1i0 s q10 q11 q12 q13) :: (hR 4 (hT :: hE :: hE :: hE :: hF :: (hR 5 (hF :: hE :: hE :: (z1i4 b) :: (hR 8 ((hB (hC (.bool (ref02_Box b))) false) :: hE :: hE :: hF :: hE :: hE :: hF :: hE :: hE :: hE :: hF :: (hR 5 ((z1i5 s b l liters q10 q11 q12 q13 q14 x2) :: (hR 9 (hF :: hE :: (z1i9 s q10 q11 q12 q13 x3) :: hE :: hE :: hE :: (hB (hC (.bool (ref02_Box b))) false) :: (hR 5 (hF :: (hR 7 []))))))))))))))) [] (pc (law02_short_fc s q10 q11 q12 q13) <| pc (z1p1 s q10 q11 q12 q13) <| pc (z1p2 s) <| pt (z1r3 s) (selfB_self 9 _ rfl _) <| pc h1 <| pc h2 <| pc h3 <| pc h4 <| pc (growth_Woods_fc b) <| pc (ref02_Box_fc b) <| pc h5 <| pc h6 <| pc h7 <| pc h8 <| pc (growth_Ready_fc fu s b l liters q10 q11 q12 q13 q14 x2 h9) <| pc (z1p6 s b l liters q10 q11 q12 q13 q14) <| pc (z1p7 s l) <| pt (z1r8 x2) (selfB_self 9 _ rfl _) <| pc h10 <| pc (ref02_Species_fc fu s q10 q11 q12 q13 x3 h11) <| pc (z1p13 s q10 q11 q12 q13) <| pc (z1p2 s) <| pt (z1r17 x3) (selfB_self 9 _ rfl _) <| pc h12 <| pc (ref02_Box_fc b) <| pc h5 <| pc h13 <| pn) (by kernel_rfl) (by kernel_rfl)
             ·rw [h12, cF] at hh
              rcases bb (x2.2.2 == 2) with h13 | h13
              ·rw [h13, cT] at hh
               rcases bb (x2.1 == 0) with h14 | h14
               ·rw [h14, cT] at hh
                rcases bb (x2.2.1 == 0) with h15 | h15
                ·rw [h15, cT] at hh
                 cases h16 : law02_known fu with
                 | none => rw [h16, oN] at hh; cases hh
                 | some x1 =>
                  rw [h16, oS] at hh
                  rw [← sI hh]
                  exact FSat.d pfT 36 (hR 4 ((z1i0 s q10 q11 q12 q13) :: (hR 4 (hT :: hE :: hE :: hE :: hF :: (hR 5 (hF :: hE :: hE :: (z1i4 b) :: (hR 8 ((hB (hC (.bool (ref02_Box b))) false) :: hE :: hE :: hF :: hE :: hE :: hF :: hE :: hE :: hE :: hF :: (hR 5 ((z1i5 s b l liters q10 q11 q12 q13 q14 x2) :: (hR 9 (hF :: hE :: (z1i31 s q10 q11 q12 q13 x3) :: (hR 6 [hT, hE, hE, hT, hE, hE, hE, hT, hE, hE, (hC (.bool (x1))), hE, hE]))))))))))))) [] (pc (law02_short_fc s q10 q11 q12 q13) <| pc (z1p1 s q10 q11 q12 q13) <| pc (z1p2 s) <| pt (z1r3 s) (selfB_self 9 _ rfl _) <| pc h1 <| pc h2 <| pc h3 <| pc h4 <| pc (growth_Woods_fc b) <| pc (ref02_Box_fc b) <| pc h5 <| pc h6 <| pc h7 <| pc h8 <| pc (growth_Ready_fc fu s b l liters q10 q11 q12 q13 q14 x2 h9) <| pc (z1p6 s b l liters q10 q11 q12 q13 q14) <| pc (z1p7 s l) <| pt (z1r8 x2) (selfB_self 9 _ rfl _) <| pc h10 <| pc (ref02_Species_fc fu s q10 q11 q12 q13 x3 h11) <| pc (z1p13 s q10 q11 q12 q13) <| pc (z1p2 s) <| pt (z1r17 x3) (selfB_self 9 _ rfl _) <| pc h12 <| pc h13 <| pc h14 <| pc h15 <| pc (law02_known_fc fu  x1 h16) <| pn) (by kernel_rfl) (by kernel_rfl)
                ·rw [h15, cF] at hh
                 rw [← sI hh]
                 exact FSat.d pfT 36 (hR 4 ((z1i0 s q10 q11 q12 q13) :: (hR 4 (hT :: hE :: hE :: hE :: hF :: (hR 5 (hF :: hE :: hE :: (z1i4 b) :: (hR 8 ((hB (hC (.bool (ref02_Box b))) false) :: hE :: hE :: hF :: hE :: hE :: hF :: hE :: hE :: hE :: hF :: (hR 5 ((z1i5 s b l liters q10 q11 q12 q13 q14 x2) :: (hR 9 (hF :: hE :: (z1i31 s q10 q11 q12 q13 x3) :: (hR 6 (hT :: hE :: hE :: hT :: hE :: hE :: hE :: hF :: (hR 4 []))))))))))))))) [] (pc (law02_short_fc s q10 q11 q12 q13) <| pc (z1p1 s q10 q11 q12 q13) <| pc (z1p2 s) <| pt (z1r3 s) (selfB_self 9 _ rfl _) <| pc h1 <| pc h2 <| pc h3 <| pc h4 <| pc (growth_Woods_fc b) <| pc (ref02_Box_fc b) <| pc h5 <| pc h6 <| pc h7 <| pc h8 <| pc (growth_Ready_fc fu s b l liters q10 q11 q12 q13 q14 x2 h9) <| pc (z1p6 s b l liters q10 q11 q12 q13 q14) <| pc (z1p7 s l) <| pt (z1r8 x2) (selfB_self 9 _ rfl _) <| pc h10 <| pc (ref02_Species_fc fu s q10 q11 q12 q13 x3 h11) <| pc (z1p13 s q10 q11 q12 q13) <| pc (z1p2 s) <| pt (z1r17 x3) (selfB_self 9 _ rfl _) <| pc h12 <| pc h13 <| pc h14 <| pc h15 <| pn) (by kernel_rfl) (by kernel_rfl)
               ·rw [h14, cF] at hh
                rw [← sI hh]
                exact FSat.d pfT 36 (hR 4 ((z1i0 s q10 q11 q12 q13) :: (hR 4 (hT :: hE :: hE :: hE :: hF :: (hR 5 (hF :: hE :: hE :: (z1i4 b) :: (hR 8 ((hB (hC (.bool (ref02_Box b))) false) :: hE :: hE :: hF :: hE :: hE :: hF :: hE :: hE :: hE :: hF :: (hR 5 ((z1i5 s b l liters q10 q11 q12 q13 q14 x2) :: (hR 9 (hF :: hE :: (z1i31 s q10 q11 q12 q13 x3) :: (hR 6 (hT :: hE :: hE :: hF :: (hR 6 []))))))))))))))) [] (pc (law02_short_fc s q10 q11 q12 q13) <| pc (z1p1 s q10 q11 q12 q13) <| pc (z1p2 s) <| pt (z1r3 s) (selfB_self 9 _ rfl _) <| pc h1 <| pc h2 <| pc h3 <| pc h4 <| pc (growth_Woods_fc b) <| pc (ref02_Box_fc b) <| pc h5 <| pc h6 <| pc h7 <| pc h8 <| pc (growth_Ready_fc fu s b l liters q10 q11 q12 q13 q14 x2 h9) <| pc (z1p6 s b l liters q10 q11 q12 q13 q14) <| pc (z1p7 s l) <| pt (z1r8 x2) (selfB_self 9 _ rfl _) <| pc h10 <| pc (ref02_Species_fc fu s q10 q11 q12 q13 x3 h11) <| pc (z1p13 s q10 q11 q12 q13) <| pc (z1p2 s) <| pt (z1r17 x3) (selfB_self 9 _ rfl _) <| pc h12 <| pc h13 <| pc h14 <| pn) (by kernel_rfl) (by kernel_rfl)
              ·rw [h13, cF] at hh
               rw [← sI hh]
               exact FSat.d pfT 36 (hR 4 ((z1i0 s q10 q11 q12 q13) :: (hR 4 (hT :: hE :: hE :: hE :: hF :: (hR 5 (hF :: hE :: hE :: (z1i4 b) :: (hR 8 ((hB (hC (.bool (ref02_Box b))) false) :: hE :: hE :: hF :: hE :: hE :: hF :: hE :: hE :: hE :: hF :: (hR 5 ((z1i5 s b l liters q10 q11 q12 q13 q14 x2) :: (hR 9 (hF :: hE :: (z1i31 s q10 q11 q12 q13 x3) :: (hR 6 (hF :: (hR 7 []))))))))))))))) [] (pc (law02_short_fc s q10 q11 q12 q13) <| pc (z1p1 s q10 q11 q12 q13) <| pc (z1p2 s) <| pt (z1r3 s) (selfB_self 9 _ rfl _) <| pc h1 <| pc h2 <| pc h3 <| pc h4 <| pc (growth_Woods_fc b) <| pc (ref02_Box_fc b) <| pc h5 <| pc h6 <| pc h7 <| pc h8 <| pc (growth_Ready_fc fu s b l liters q10 q11 q12 q13 q14 x2 h9) <| pc (z1p6 s b l liters q10 q11 q12 q13 q14) <| pc (z1p7 s l) <| pt (z1r8 x2) (selfB_self 9 _ rfl _) <| pc h10 <| pc (ref02_Species_fc fu s q10 q11 q12 q13 x3 h11) <| pc (z1p13 s q10 q11 q12 q13) <| pc (z1p2 s) <| pt (z1r17 x3) (selfB_self 9 _ rfl _) <| pc h12 <| pc h13 <| pn) (by kernel_rfl) (by kernel_rfl)
   ·rw [h2, cF] at hh
    rcases bb (decide (((l.length : Nat) : Int) > 200)) with h3 | h3
    ·rw [h3, cT] at hh
     cases h4 : law02_known fu with
     | none => rw [h4, oN] at hh; cases hh
     | some x1 =>
      rw [h4, oS] at hh
      rw [← sI hh]
      exact FSat.d pfT 14 (hR 4 ((z1i0 s q10 q11 q12 q13) :: (hR 4 (hF :: (hR 6 [hT, hE, (hC (.bool (x1))), hE]))))) [] (pc (law02_short_fc s q10 q11 q12 q13) <| pc (z1p1 s q10 q11 q12 q13) <| pc (z1p2 s) <| pt (z1r3 s) (selfB_self 9 _ rfl _) <| pc h1 <| pc h2 <| pc h3 <| pc (law02_known_fc fu  x1 h4) <| pn) (by kernel_rfl) (by kernel_rfl)
    ·rw [h3, cF] at hh
     rcases bb (ref02_Box b) with h4 | h4
     ·rw [h4, cT] at hh
      rcases bb (((growth_Woods b).2.2) != 0) with h5 | h5
      ·rw [h5, cT] at hh
       rw [← sI hh]
       exact FSat.d pfT 24 (hR 4 ((z1i0 s q10 q11 q12 q13) :: (hR 4 (hF :: (hR 6 (hF :: hE :: hE :: (z1i4 b) :: (hR 8 ((hB (hC (.bool (ref02_Box b))) true) :: hE :: hE :: hT :: (hR 5 []))))))))) [] (pc (law02_short_fc s q10 q11 q12 q13) <| pc (z1p1 s q10 q11 q12 q13) <| pc (z1p2 s) <| pt (z1r3 s) (selfB_self 9 _ rfl _) <| pc h1 <| pc h2 <| pc h3 <| pc (growth_Woods_fc b) <| pc (ref02_Box_fc b) <| pc h4 <| pc h5 <| pn) (by kernel_rfl) (by kernel_rfl)
      ·rw [h5, cF] at hh
       rcases bb (((growth_Woods b).1) != (ref02_Wood b.Low)) with h6 | h6
       ·rw [h6, cT] at hh
        rw [← sI hh]
        exact FSat.d pfT 24 (hR 4 ((z1i0 s q10 q11 q12 q13) :: (hR 4 (hF :: (hR 6 (hF :: hE :: hE :: (z1i4 b) :: (hR 8 ((hB (hC (.bool (ref02_Box b))) true) :: hE :: hE :: hF :: (hR 4 ((hC (I (ref02_Wood b.Low))) :: hT :: (hR 4 []))))))))))) [] (pc (law02_short_fc s q10 q11 q12 q13) <| pc (z1p1 s q10 q11 q12 q13) <| pc (z1p2 s) <| pt (z1r3 s) (selfB_self 9 _ rfl _) <| pc h1 <| pc h2 <| pc h3 <| pc (growth_Woods_fc b) <| pc (ref02_Box_fc b) <| pc h4 <| pc h5 <| pc (ref02_Wood_fc b.Low) <| pc h6 <| pn) (by kernel_rfl) (by kernel_rfl)
       ·rw [h6, cF] at hh
        rcases bb (((growth_Woods b).2.1) != (ref02_Wood b.High)) with h7 | h7
        ·rw [h7, cT] at hh
         rw [← sI hh]
         exact FSat.d pfT 24 (hR 4 ((z1i0 s q10 q11 q12 q13) :: (hR 4 (hF :: (hR 6 (hF :: hE :: hE :: (z1i4 b) :: (hR 8 ((hB (hC (.bool (ref02_Box b))) true) :: hE :: hE :: hF :: (hR 4 ((hC (I (ref02_Wood b.Low))) :: hF :: (hR 5 [(hC (I (ref02_Wood b.High))), hT, hE, hE]))))))))))) [] (pc (law02_short_fc s q10 q11 q12 q13) <| pc (z1p1 s q10 q11 q12 q13) <| pc (z1p2 s) <| pt (z1r3 s) (selfB_self 9 _ rfl _) <| pc h1 <| pc h2 <| pc h3 <| pc (growth_Woods_fc b) <| pc (ref02_Box_fc b) <| pc h4 <| pc h5 <| pc (ref02_Wood_fc b.Low) <| pc h6 <| pc (ref02_Wood_fc b.High) <| pc h7 <| pn) (by kernel_rfl) (by kernel_rfl)
        ·rw [h7, cF] at hh
         cases h8 : growth_Ready fu s b l liters with
         | none => rw [h8, oN] at hh; cases hh
         | some x2 =>
          rw [h8, oS] at hh
          rcases bb (decide (((l.length : Nat) : Int) > 100)) with h9 | h9
          ·rw [h9, cT] at hh
           rcases bb (x2.2.2 == 3) with h10 | h10
           ·rw [h10, cT] at hh
            rcases bb (x2.1 == 0) with h11 | h11
            ·rw [h11, cT] at hh
             rcases bb (x2.2.1 == 0) with h12 | h12
             ·rw [h12, cT] at hh
              cases h13 : law02_known fu with
              | none => rw [h13, oN] at hh; cases hh
              | some x1 =>
               rw [h13, oS] at hh
               rw [← sI hh]
               exact FSat.d pfT 31 (hR 4 ((z1i0 s q10 q11 q12 q13) :: (hR 4 (hF :: (hR 6 (hF :: hE :: hE :: (z1i4 b) :: (hR 8 ((hB (hC (.bool (ref02_Box b))) true) :: hE :: hE :: hF :: (hR 4 ((hC (I (ref02_Wood b.Low))) :: hF :: (hR 5 ((hC (I (ref02_Wood b.High))) :: hF :: (hR 5 ((z1i5 s b l liters q10 q11 q12 q13 q14 x2) :: (hR 9 [hT, hE, hT, hE, hE, hT, hE, hE, hE, hT, hE, hE, (hC (.bool (x1))), hE, hE]))))))))))))))) [] (pc (law02_short_fc s q10 q11 q12 q13) <| pc (z1p1 s q10 q11 q12 q13) <| pc (z1p2 s) <| pt (z1r3 s) (selfB_self 9 _ rfl _) <| pc h1 <| pc h2 <| pc h3 <| pc (growth_Woods_fc b) <| pc (ref02_Box_fc b) <| pc h4 <| pc h5 <| pc (ref02_Wood_fc b.Low) <| pc h6 <| pc (ref02_Wood_fc b.High) <| pc h7 <| pc (growth_Ready_fc fu s b l liters q10 q11 q12 q13 q14 x2 h8) <| pc (z1p6 s b l liters q10 q11 q12 q13 q14) <| pc (z1p7 s l) <| pt (z1r8 x2) (selfB_self 9 _ rfl _) <| pc h9 <| pc h10 <| pc h11 <| pc h12 <| pc (law02_known_fc fu  x1 h13) <| pn) (by kernel_rfl) (by kernel_rfl)
             ·rw [h12, cF] at hh
              rw [← sI hh]
              exact FSat.d pfT 31 (hR 4 ((z1i0 s q10 q11 q12 q13) :: (hR 4 (hF :: (hR 6 (hF :: hE :: hE :: (z1i4 b) :: (hR 8 ((hB (hC (.bool (ref02_Box b))) true) :: hE :: hE :: hF :: (hR 4 ((hC (I (ref02_Wood b.Low))) :: hF :: (hR 5 ((hC (I (ref02_Wood b.High))) :: hF :: (hR 5 ((z1i5 s b l liters q10 q11 q12 q13 q14 x2) :: (hR 9 (hT :: hE :: hT :: hE :: hE :: hT :: hE :: hE :: hE :: hF :: (hR 4 []))))))))))))))))) [] (pc (law02_short_fc s q10 q11 q12 q13) <| pc (z1p1 s q10 q11 q12 q13) <| pc (z1p2 s) <| pt (z1r3 s) (selfB_self 9 _ rfl _) <| pc h1 <| pc h2 <| pc h3 <| pc (growth_Woods_fc b) <| pc (ref02_Box_fc b) <| pc h4 <| pc h5 <| pc (ref02_Wood_fc b.Low) <| pc h6 <| pc (ref02_Wood_fc b.High) <| pc h7 <| pc (growth_Ready_fc fu s b l liters q10 q11 q12 q13 q14 x2 h8) <| pc (z1p6 s b l liters q10 q11 q12 q13 q14) <| pc (z1p7 s l) <| pt (z1r8 x2) (selfB_self 9 _ rfl _) <| pc h9 <| pc h10 <| pc h11 <| pc h12 <| pn) (by kernel_rfl) (by kernel_rfl)
            ·rw [h11, cF] at hh
             rw [← sI hh]
             exact FSat.d pfT 31 (hR 4 ((z1i0 s q10 q11 q12 q13) :: (hR 4 (hF :: (hR 6 (hF :: hE :: hE :: (z1i4 b) :: (hR 8 ((hB (hC (.bool (ref02_Box b))) true) :: hE :: hE :: hF :: (hR 4 ((hC (I (ref02_Wood b.Low))) :: hF :: (hR 5 ((hC (I (ref02_Wood b.High))) :: hF :: (hR 5 ((z1i5 s b l liters q10 q11 q12 q13 q14 x2) :: (hR 9 (hT :: hE :: hT :: hE :: hE :: hF :: (hR 6 []))))))))))))))))) [] (pc (law02_short_fc s q10 q11 q12 q13) <| pc (z1p1 s q10 q11 q12 q13) <| pc (z1p2 s) <| pt (z1r3 s) (selfB_self 9 _ rfl _) <| pc h1 <| pc h2 <| pc h3 <| pc (growth_Woods_fc b) <| pc (ref02_Box_fc b) <| pc h4 <| pc h5 <| pc (ref02_Wood_fc b.Low) <| pc h6 <| pc (ref02_Wood_fc b.High) <| pc h7 <| pc (growth_Ready_fc fu s b l liters q10 q11 q12 q13 q14 x2 h8) <| pc (z1p6 s b l liters q10 q11 q12 q13 q14) <| pc (z1p7 s l) <| pt (z1r8 x2) (selfB_self 9 _ rfl _) <| pc h9 <| pc h10 <| pc h11 <| pn) (by kernel_rfl) (by kernel_rfl)
           ·rw [h10, cF] at hh
            rw [← sI hh]
            exact FSat.d pfT 31 (hR 4 ((z1i0 s q10 q11 q12 q13) :: (hR 4 (hF :: (hR 6 (hF :: hE :: hE :: (z1i4 b) :: (hR 8 ((hB (hC (.bool (ref02_Box b))) true) :: hE :: hE :: hF :: (hR 4 ((hC (I (ref02_Wood b.Low))) :: hF :: (hR 5 ((hC (I (ref02_Wood b.High))) :: hF :: (hR 5 ((z1i5 s b l liters q10 q11 q12 q13 q14 x2) :: (hR 9 (hT :: hE :: hF :: (hR 7 []))))))))))))))))) [] (pc (law02_short_fc s q10 q11 q12 q13) <| pc (z1p1 s q10 q11 q12 q13) <| pc (z1p2 s) <| pt (z1r3 s) (selfB_self 9 _ rfl _) <| pc h1 <| pc h2 <| pc h3 <| pc (growth_Woods_fc b) <| pc (ref02_Box_fc b) <| pc h4 <| pc h5 <| pc (ref02_Wood_fc b.Low) <| pc h6 <| pc (ref02_Wood_fc b.High) <| pc h7 <| pc (growth_Ready_fc fu s b l liters q10 q11 q12 q13 q14 x2 h8) <| pc (z1p6 s b l liters q10 q11 q12 q13 q14) <| pc (z1p7 s l) <| pt (z1r8 x2) (selfB_self 9 _ rfl _) <| pc h9 <| pc h10 <| pn) (by kernel_rfl) (by kernel_rfl)
          ·rw [h9, cF] at hh
           cases h10 : ref02_Species fu s with
           | none => rw [h10, oN] at hh; cases hh
           | some x3 =>
            rw [h10, oS] at hh
            rcases bb (x3) with h11 | h11
            ·rw [h11, cT] at hh
             cases h12 : ref02_Seasons fu l with
             | none => rw [h12, oN] at hh; cases hh
             | some x4 =>
              rw [h12, oS] at hh
              rcases bb (x4) with h13 | h13
              ·rw [h13, cT] at hh
               rcases bb (decide (1 ≤ l.length)) with h14 | h14
               ·rw [h14, cT] at hh
                rcases bb (decide (l.length ≤ 12)) with h15 | h15
                rotate_left
                ·rw [h15, cF] at hh; cases hh
                ·rw [h15, cT] at hh
                 cases h16 : ref02_hist fu s b l with
                 | none => rw [h16, oN] at hh; cases hh
                 | some x5 =>
                  rw [h16, oS] at hh
                  cases h17 : ref02_Ready fu x5 liters with
                  | none => rw [h17, oN] at hh; cases hh
                  | some x6 =>
                   rw [h17, oS] at hh
                   rcases bb (x2.2.2 == 0) with h18 | h18
                   ·rw [h18, cT] at hh
                    rcases bb (x2.1 == x6.1) with h19 | h19
                    ·rw [h19, cT] at hh
                     rcases bb (x2.2.1 == x6.2) with h20 | h20
                     ·rw [h20, cT] at hh
                      cases h21 : law02_known fu with
                      | none => rw [h21, oN] at hh; cases hh
                      | some x1 =>
                       rw [h21, oS] at hh
                       rw [← sI hh]
                       exact FSat.d pfT 39 (hR 4 ((z1i0 s q10 q11 q12 q13) :: (hR 4 (hF :: (hR 6 (hF :: hE :: hE :: (z1i4 b) :: (hR 8 ((hB (hC (.bool (ref02_Box b))) true) :: hE :: hE :: hF :: (hR 4 ((hC (I (ref02_Wood b.Low))) :: hF :: (hR 5 ((hC (I (ref02_Wood b.High))) :: hF :: (hR 5 ((z1i5 s b l liters q10 q11 q12 q13 q14 x2) :: (hR 9 (hF :: hE :: (z1i9 s q10 q11 q12 q13 x3) :: hE :: hE :: hE :: (hB (hC (.bool (ref02_Box b))) true) :: (hR 4 ((z1i10 l q14 x4) :: (hR 5 ((z1i11 s b l q10 q11 q12 q13 q14 x5) :: hE :: (z1i12 liters x5 x6) :: (hR 6 (hT :: hE :: hE :: hE :: hT :: (hR 4 [hT, hE, hE, (hC (.bool (x1))), hE, hE]))))))))))))))))))))))) [] (pc (law02_short_fc s q10 q11 q12 q13) <| pc (z1p1 s q10 q11 q12 q13) <| pc (z1p2 s) <| pt (z1r3 s) (selfB_self 9 _ rfl _) <| pc h1 <| pc h2 <| pc h3 <| pc (growth_Woods_fc b) <| pc (ref02_Box_fc b) <| pc h4 <| pc h5 <| pc (ref02_Wood_fc b.Low) <| pc h6 <| pc (ref02_Wood_fc b.High) <| pc h7 <| pc (growth_Ready_fc fu s b l liters q10 q11 q12 q13 q14 x2 h8) <| pc (z1p6 s b l liters q10 q11 q12 q13 q14) <| pc (z1p7 s l) <| pt (z1r8 x2) (selfB_self 9 _ rfl _) <| pc h9 <| pc (ref02_Species_fc fu s q10 q11 q12 q13 x3 h10) <| pc (z1p13 s q10 q11 q12 q13) <| pc (z1p2 s) <| pt (z1r17 x3) (selfB_self 9 _ rfl _) <| pc h11 <| pc (ref02_Box_fc b) <| pc h4 <| pc (ref02_Seasons_fc fu l q14 x4 h12) <| pc (z1p14 l q14) <| pt (z1r18 l) (⟨MemAt.same _ (encL_pf cXSeason_pf _), trivial⟩) <| pt (VR (Ren.emb [(10, 14, 0)]) (.bool (x4)) (.bool (x4))) (selfB_self 9 _ rfl _) <| pc h13 <| pt (z1r19 s b l q10 q11 q12 q13 q14 x5) (ref02_History_fcn fu s b l q10 q11 q12 q13 q14 x5 (of_decide_eq_true h14) (of_decide_eq_true h15) h16) <| pc (z1p15 s b l q10 q11 q12 q13 q14) <| pc (z1p7 s l) <| pt (z1r20 x5) (.slc 77 0 _ _ _ ⟨102, 0, 0, 0⟩ rfl (.inl rfl)) <| pc (ref02_Ready_fc fu x5 liters x5.length x6 h17) <| pc (z1p16 liters x5) <| pt (z1r21 x5) (⟨MemAt.same _ (encL_pf cXBox_pf _), trivial⟩) <| pt (z1r22 x6) (selfB_self 9 _ rfl _) <| pc h18 <| pc h19 <| pc h20 <| pc (law02_known_fc fu  x1 h21) <| pn) (by kernel_rfl) (by kernel_rfl)
                     ·rw [h20, cF] at hh
                      rw [← sI hh]
                      exact FSat.d pfT 39 (hR 4 ((z1i0 s q10 q11 q12 q13) :: (hR 4 (hF :: (hR 6 (hF :: hE :: hE :: (z1i4 b) :: (hR 8 ((hB (hC (.bool (ref02_Box b))) true) :: hE :: hE :: hF :: (hR 4 ((hC (I (ref02_Wood b.Low))) :: hF :: (hR 5 ((hC (I (ref02_Wood b.High))) :: hF :: (hR 5 ((z1i5 s b l liters q10 q11 q12 q13 q14 x2) :: (hR 9 (hF :: hE :: (z1i9 s q10 q11 q12 q13 x3) :: hE :: hE :: hE :: (hB (hC (.bool (ref02_Box b))) true) :: (hR 4 ((z1i10 l q14 x4) :: (hR 5 ((z1i11 s b l q10 q11 q12 q13 q14 x5) :: hE :: (z1i12 liters x5 x6) :: (hR 6 (hT :: hE :: hE :: hE :: hT :: (hR 4 (hF :: (hR 4 []))))))))))))))))))))))))) [] (pc (law02_short_fc s q10 q11 q12 q13) <| pc (z1p1 s q10 q11 q12 q13) <| pc (z1p2 s) <| pt (z1r3 s) (selfB_self 9 _ rfl _) <| pc h1 <| pc h2 <| pc h3 <| pc (growth_Woods_fc b) <| pc (ref02_Box_fc b) <| pc h4 <| pc h5 <| pc (ref02_Wood_fc b.Low) <| pc h6 <| pc (ref02_Wood_fc b.High) <| pc h7 <| pc (growth_Ready_fc fu s b l liters q10 q11 q12 q13 q14 x2 h8) <| pc (z1p6 s b l liters q10 q11 q12 q13 q14) <| pc (z1p7 s l) <| pt (z1r8 x2) (selfB_self 9 _ rfl _) <| pc h9 <| pc (ref02_Species_fc fu s q10 q11 q12 q13 x3 h10) <| pc (z1p13 s q10 q11 q12 q13) <| pc (z1p2 s) <| pt (z1r17 x3) (selfB_self 9 _ rfl _) <| pc h11 <| pc (ref02_Box_fc b) <| pc h4 <| pc (ref02_Seasons_fc fu l q14 x4 h12) <| pc (z1p14 l q14) <| pt (z1r18 l) (⟨MemAt.same _ (encL_pf cXSeason_pf _), trivial⟩) <| pt (VR (Ren.emb [(10, 14, 0)]) (.bool (x4)) (.bool (x4))) (selfB_self 9 _ rfl _) <| pc h13 <| pt (z1r19 s b l q10 q11 q12 q13 q14 x5) (ref02_History_fcn fu s b l q10 q11 q12 q13 q14 x5 (of_decide_eq_true h14) (of_decide_eq_true h15) h16) <| pc (z1p15 s b l q10 q11 q12 q13 q14) <| pc (z1p7 s l) <| pt (z1r20 x5) (.slc 77 0 _ _ _ ⟨102, 0, 0, 0⟩ rfl (.inl rfl)) <| pc (ref02_Ready_fc fu x5 liters x5.length x6 h17) <| pc (z1p16 liters x5) <| pt (z1r21 x5) (⟨MemAt.same _ (encL_pf cXBox_pf _), trivial⟩) <| pt (z1r22 x6) (selfB_self 9 _ rfl _) <| pc h18 <| pc h19 <| pc h20 <| pn) (by kernel_rfl) (by kernel_rfl)
                    ·rw [h19, cF] at hh
                     rw [← sI hh]
                     exact FSat.d pfT 39 (hR 4 ((z1i0 s q10 q11 q12 q13) :: (hR 4 (hF :: (hR 6 (hF :: hE :: hE :: (z1i4 b) :: (hR 8 ((hB (hC (.bool (ref02_Box b))) true) :: hE :: hE :: hF :: (hR 4 ((hC (I (ref02_Wood b.Low))) :: hF :: (hR 5 ((hC (I (ref02_Wood b.High))) :: hF :: (hR 5 ((z1i5 s b l liters q10 q11 q12 q13 q14 x2) :: (hR 9 (hF :: hE :: (z1i9 s q10 q11 q12 q13 x3) :: hE :: hE :: hE :: (hB (hC (.bool (ref02_Box b))) true) :: (hR 4 ((z1i10 l q14 x4) :: (hR 5 ((z1i11 s b l q10 q11 q12 q13 q14 x5) :: hE :: (z1i12 liters x5 x6) :: (hR 6 (hT :: hE :: hE :: hE :: hF :: (hR 6 []))))))))))))))))))))))) [] (pc (law02_short_fc s q10 q11 q12 q13) <| pc (z1p1 s q10 q11 q12 q13) <| pc (z1p2 s) <| pt (z1r3 s) (selfB_self 9 _ rfl _) <| pc h1 <| pc h2 <| pc h3 <| pc (growth_Woods_fc b) <| pc (ref02_Box_fc b) <| pc h4 <| pc h5 <| pc (ref02_Wood_fc b.Low) <| pc h6 <| pc (ref02_Wood_fc b.High) <| pc h7 <| pc (growth_Ready_fc fu s b l liters q10 q11 q12 q13 q14 x2 h8) <| pc (z1p6 s b l liters q10 q11 q12 q13 q14) <| pc (z1p7 s l) <| pt (z1r8 x2) (selfB_self 9 _ rfl _) <| pc h9 <| pc (ref02_Species_fc fu s q10 q11 q12 q13 x3 h10) <| pc (z1p13 s q10 q11 q12 q13) <| pc (z1p2 s) <| pt (z1r17 x3) (selfB_self 9 _ rfl _) <| pc h11 <| pc (ref02_Box_fc b) <| pc h4 <| pc (ref02_Seasons_fc fu l q14 x4 h12) <| pc (z1p14 l q14) <| pt (z1r18 l) (⟨MemAt.same _ (encL_pf cXSeason_pf _), trivial⟩) <| pt (VR (Ren.emb [(10, 14, 0)]) (.bool (x4)) (.bool (x4))) (selfB_self 9 _ rfl _) <| pc h13 <| pt (z1r19 s b l q10 q11 q12 q13 q14 x5) (ref02_History_fcn fu s b l q10 q11 q12 q13 q14 x5 (of_decide_eq_true h14) (of_decide_eq_true h15) h16) <| pc (z1p15 s b l q10 q11 q12 q13 q14) <| pc (z1p7 s l) <| pt (z1r20 x5) (.slc 77 0 _ _ _ ⟨102, 0, 0, 0⟩ rfl (.inl rfl)) <| pc (ref02_Ready_fc fu x5 liters x5.length x6 h17) <| pc (z1p16 liters x5) <| pt (z1r21 x5) (⟨MemAt.same _ (encL_pf cXBox_pf _), trivial⟩) <| pt (z1r22 x6) (selfB_self 9 _ rfl _) <| pc h18 <| pc h19 <| pn) (by kernel_rfl) (by kernel_rfl)
                   ·rw [h18, cF] at hh
                    rw [← sI hh]
                    exact FSat.d pfT 39 (hR 4 ((z1i0 s q10 q11 q12 q13) :: (hR 4 (hF :: (hR 6 (hF :: hE :: hE :: (z1i4 b) :: (hR 8 ((hB (hC (.bool (ref02_Box b))) true) :: hE :: hE :: hF :: (hR 4 ((hC (I (ref02_Wood b.Low))) :: hF :: (hR 5 ((hC (I (ref02_Wood b.High))) :: hF :: (hR 5 ((z1i5 s b l liters q10 q11 q12 q13 q14 x2) :: (hR 9 (hF :: hE :: (z1i9 s q10 q11 q12 q13 x3) :: hE :: hE :: hE :: (hB (hC (.bool (ref02_Box b))) true) :: (hR 4 ((z1i10 l q14 x4) :: (hR 5 ((z1i11 s b l q10 q11 q12 q13 q14 x5) :: hE :: (z1i12 liters x5 x6) :: (hR 6 (hF :: (hR 7 []))))))))))))))))))))))) [] (pc (law02_short_fc s q10 q11 q12 q13) <| pc (z1p1 s q10 q11 q12 q13) <| pc (z1p2 s) <| pt (z1r3 s) (selfB_self 9 _ rfl _) <| pc h1 <| pc h2 <| pc h3 <| pc (growth_Woods_fc b) <| pc (ref02_Box_fc b) <| pc h4 <| pc h5 <| pc (ref02_Wood_fc b.Low) <| pc h6 <| pc (ref02_Wood_fc b.High) <| pc h7 <| pc (growth_Ready_fc fu s b l liters q10 q11 q12 q13 q14 x2 h8) <| pc (z1p6 s b l liters q10 q11 q12 q13 q14) <| pc (z1p7 s l) <| pt (z1r8 x2) (selfB_self 9 _ rfl _) <| pc h9 <| pc (ref02_Species_fc fu s q10 q11 q12 q13 x3 h10) <| pc (z1p13 s q10 q11 q12 q13) <| pc (z1p2 s) <| pt (z1r17 x3) (selfB_self 9 _ rfl _) <| pc h11 <| pc (ref02_Box_fc b) <| pc h4 <| pc (ref02_Seasons_fc fu l q14 x4 h12) <| pc (z1p14 l q14) <| pt (z1r18 l) (⟨MemAt.same _ (encL_pf cXSeason_pf _), trivial⟩) <| pt (VR (Ren.emb [(10, 14, 0)]) (.bool (x4)) (.bool (x4))) (selfB_self 9 _ rfl _) <| pc h13 <| pt (z1r19 s b l q10 q11 q12 q13 q14 x5) (ref02_History_fcn fu s b l q10 q11 q12 q13 q14 x5 (of_decide_eq_true h14) (of_decide_eq_true h15) h16) <| pc (z1p15 s b l q10 q11 q12 q13 q14) <| pc (z1p7 s l) <| pt (z1r20 x5) (.slc 77 0 _ _ _ ⟨102, 0, 0, 0⟩ rfl (.inl rfl)) <| pc (ref02_Ready_fc fu x5 liters x5.length x6 h17) <| pc (z1p16 liters x5) <| pt (z1r21 x5) (⟨MemAt.same _ (encL_pf cXBox_pf _), trivial⟩) <| pt (z1r22 x6) (selfB_self 9 _ rfl _) <| pc h18 <| pn) (by kernel_rfl) (by kernel_rfl)
               ·rw [h14, cF] at hh
                cases h15 : ref02_Ready fu ([b]) liters with
                | none => rw [h15, oN] at hh; cases hh
                | some x7 =>
                 rw [h15, oS] at hh
                 rcases bb (x2.2.2 == 0) with h16 | h16
                 ·rw [h16, cT] at hh
                  rcases bb (x2.1 == x7.1) with h17 | h17
                  ·rw [h17, cT] at hh
                   rcases bb (x2.2.1 == x7.2) with h18 | h18
                   ·rw [h18, cT] at hh
                    cases h19 : law02_known fu with
                    | none => rw [h19, oN] at hh; cases hh
                    | some x1 =>
                     rw [h19, oS] at hh
                     rw [← sI hh]
                     exact FSat.d pfT 39 (hR 4 ((z1i0 s q10 q11 q12 q13) :: (hR 4 (hF :: (hR 6 (hF :: hE :: hE :: (z1i4 b) :: (hR 8 ((hB (hC (.bool (ref02_Box b))) true) :: hE :: hE :: hF :: (hR 4 ((hC (I (ref02_Wood b.Low))) :: hF :: (hR 5 ((hC (I (ref02_Wood b.High))) :: hF :: (hR 5 ((z1i5 s b l liters q10 q11 q12 q13 q14 x2) :: (hR 9 (hF :: hE :: (z1i9 s q10 q11 q12 q13 x3) :: hE :: hE :: hE :: (hB (hC (.bool (ref02_Box b))) true) :: (hR 4 ((z1i10 l q14 x4) :: (hR 5 ((z1i23 s b l q10 q11 q12 q13 q14) :: hE :: (z1i24 b liters x7) :: (hR 6 (hT :: hE :: hE :: hE :: hT :: (hR 4 [hT, hE, hE, (hC (.bool (x1))), hE, hE]))))))))))))))))))))))) [] (pc (law02_short_fc s q10 q11 q12 q13) <| pc (z1p1 s q10 q11 q12 q13) <| pc (z1p2 s) <| pt (z1r3 s) (selfB_self 9 _ rfl _) <| pc h1 <| pc h2 <| pc h3 <| pc (growth_Woods_fc b) <| pc (ref02_Box_fc b) <| pc h4 <| pc h5 <| pc (ref02_Wood_fc b.Low) <| pc h6 <| pc (ref02_Wood_fc b.High) <| pc h7 <| pc (growth_Ready_fc fu s b l liters q10 q11 q12 q13 q14 x2 h8) <| pc (z1p6 s b l liters q10 q11 q12 q13 q14) <| pc (z1p7 s l) <| pt (z1r8 x2) (selfB_self 9 _ rfl _) <| pc h9 <| pc (ref02_Species_fc fu s q10 q11 q12 q13 x3 h10) <| pc (z1p13 s q10 q11 q12 q13) <| pc (z1p2 s) <| pt (z1r17 x3) (selfB_self 9 _ rfl _) <| pc h11 <| pc (ref02_Box_fc b) <| pc h4 <| pc (ref02_Seasons_fc fu l q14 x4 h12) <| pc (z1p14 l q14) <| pt (z1r18 l) (⟨MemAt.same _ (encL_pf cXSeason_pf _), trivial⟩) <| pt (VR (Ren.emb [(10, 14, 0)]) (.bool (x4)) (.bool (x4))) (selfB_self 9 _ rfl _) <| pc h13 <| pt (z1r26 s b l q10 q11 q12 q13 q14) (ref02_History_none fu s b l q10 q11 q12 q13 q14 h14) <| pc (z1p15 s b l q10 q11 q12 q13 q14) <| pc (z1p7 s l) <| pt z1r27 (.slc 77 0 _ _ _ ⟨102, 0, 0, 0⟩ rfl (.inl rfl)) <| pc (ref02_Ready_fc fu ([b]) liters 1 x7 h15) <| pc (z1p25 b liters) <| pt (z1r28 b) (⟨MemAt.same _ (encL_pf cXBox_pf _), trivial⟩) <| pt (z1r29 x7) (selfB_self 9 _ rfl _) <| pc h16 <| pc h17 <| pc h18 <| pc (law02_known_fc fu  x1 h19) <| pn) (by kernel_rfl) (by kernel_rfl)
                   ·rw [h18, cF] at hh
                    rw [← sI hh]
                    exact FSat.d pfT 39 (hR 4 ((z1i0 s q10 q11 q12 q13) :: (hR 4 (hF :: (hR 6 (hF :: hE :: hE :: (z1i4 b) :: (hR 8 ((hB (hC (.bool (ref02_Box b))) true) :: hE :: hE :: hF :: (hR 4 ((hC (I (ref02_Wood b.Low))) :: hF :: (hR 5 ((hC (I (ref02_Wood b.High))) :: hF :: (hR 5 ((z1i5 s b l liters q10 q11 q12 q13 q14 x2) :: (hR 9 (hF :: hE :: (z1i9 s q10 q11 q12 q13 x3) :: hE :: hE :: hE :: (hB (hC (.bool (ref02_Box b))) true) :: (hR 4 ((z1i10 l q14 x4) :: (hR 5 ((z1i23 s b l q10 q11 q12 q13 q14) :: hE :: (z1i24 b liters x7) :: (hR 6 (hT :: hE :: hE :: hE :: hT :: (hR 4 (hF :: (hR 4 []))))))))))))))))))))))))) [] (pc (law02_short_fc s q10 q11 q12 q13) <| pc (z1p1 s q10 q11 q12 q13) <| pc (z1p2 s) <| pt (z1r3 s) (selfB_self 9 _ rfl _) <| pc h1 <| pc h2 <| pc h3 <| pc (growth_Woods_fc b) <| pc (ref02_Box_fc b) <| pc h4 <| pc h5 <| pc (ref02_Wood_fc b.Low) <| pc h6 <| pc (ref02_Wood_fc b.High) <| pc h7 <| pc (growth_Ready_fc fu s b l liters q10 q11 q12 q13 q14 x2 h8) <| pc (z1p6 s b l liters q10 q11 q12 q13 q14) <| pc (z1p7 s l) <| pt (z1r8 x2) (selfB_self 9 _ rfl _) <| pc h9 <| pc (ref02_Species_fc fu s q10 q11 q12 q13 x3 h10) <| pc (z1p13 s q10 q11 q12 q13) <| pc (z1p2 s) <| pt (z1r17 x3) (selfB_self 9 _ rfl _) <| pc h11 <| pc (ref02_Box_fc b) <| pc h4 <| pc (ref02_Seasons_fc fu l q14 x4 h12) <| pc (z1p14 l q14) <| pt (z1r18 l) (⟨MemAt.same _ (encL_pf cXSeason_pf _), trivial⟩) <| pt (VR (Ren.emb [(10, 14, 0)]) (.bool (x4)) (.bool (x4))) (selfB_self 9 _ rfl _) <| pc h13 <| pt (z1r26 s b l q10 q11 q12 q13 q14) (ref02_History_none fu s b l q10 q11 q12 q13 q14 h14) <| pc (z1p15 s b l q10 q11 q12 q13 q14) <| pc (z1p7 s l) <| pt z1r27 (.slc 77 0 _ _ _ ⟨102, 0, 0, 0⟩ rfl (.inl rfl)) <| pc (ref02_Ready_fc fu ([b]) liters 1 x7 h15) <| pc (z1p25 b liters) <| pt (z1r28 b) (⟨MemAt.same _ (encL_pf cXBox_pf _), trivial⟩) <| pt (z1r29 x7) (selfB_self 9 _ rfl _) <| pc h16 <| pc h17 <| pc h18 <| pn) (by kernel_rfl) (by kernel_rfl)
                  ·rw [h17, cF] at hh
                   rw [← sI hh]
                   exact FSat.d pfT 39 (hR 4 ((z1i0 s q10 q11 q12 q13) :: (hR 4 (hF :: (hR 6 (hF :: hE :: hE :: (z1i4 b) :: (hR 8 ((hB (hC (.bool (ref02_Box b))) true) :: hE :: hE :: hF :: (hR 4 ((hC (I (ref02_Wood b.Low))) :: hF :: (hR 5 ((hC (I (ref02_Wood b.High))) :: hF :: (hR 5 ((z1i5 s b l liters q10 q11 q12 q13 q14 x2) :: (hR 9 (hF :: hE :: (z1i9 s q10 q11 q12 q13 x3) :: hE :: hE :: hE :: (hB (hC (.bool (ref02_Box b))) true) :: (hR 4 ((z1i10 l q14 x4) :: (hR 5 ((z1i23 s b l q10 q11 q12 q13 q14) :: hE :: (z1i24 b liters x7) :: (hR 6 (hT :: hE :: hE :: hE :: hF :: (hR 6 []))))))))))))))))))))))) [] (pc (law02_short_fc s q10 q11 q12 q13) <| pc (z1p1 s q10 q11 q12 q13) <| pc (z1p2 s) <| pt (z1r3 s) (selfB_self 9 _ rfl _) <| pc h1 <| pc h2 <| pc h3 <| pc (growth_Woods_fc b) <| pc (ref02_Box_fc b) <| pc h4 <| pc h5 <| pc (ref02_Wood_fc b.Low) <| pc h6 <| pc (ref02_Wood_fc b.High) <| pc h7 <| pc (growth_Ready_fc fu s b l liters q10 q11 q12 q13 q14 x2 h8) <| pc (z1p6 s b l liters q10 q11 q12 q13 q14) <| pc (z1p7 s l) <| pt (z1r8 x2) (selfB_self 9 _ rfl _) <| pc h9 <| pc (ref02_Species_fc fu s q10 q11 q12 q13 x3 h10) <| pc (z1p13 s q10 q11 q12 q13) <| pc (z1p2 s) <| pt (z1r17 x3) (selfB_self 9 _ rfl _) <| pc h11 <| pc (ref02_Box_fc b) <| pc h4 <| pc (ref02_Seasons_fc fu l q14 x4 h12) <| pc (z1p14 l q14) <| pt (z1r18 l) (⟨MemAt.same _ (encL_pf cXSeason_pf _), trivial⟩) <| pt (VR (Ren.emb [(10, 14, 0)]) (.bool (x4)) (.bool (x4))) (selfB_self 9 _ rfl _) <| pc h13 <| pt (z1r26 s b l q10 q11 q12 q13 q14) (ref02_History_none fu s b l q10 q11 q12 q13 q14 h14) <| pc (z1p15 s b l q10 q11 q12 q13 q14) <| pc (z1p7 s l) <| pt z1r27 (.slc 77 0 _ _ _ ⟨102, 0, 0, 0⟩ rfl (.inl rfl)) <| pc (ref02_Ready_fc fu ([b]) liters 1 x7 h15) <| pc (z1p25 b liters) <| pt (z1r28 b) (⟨MemAt.same _ (encL_pf cXBox_pf _), trivial⟩) <| pt (z1r29 x7) (selfB_self 9 _ rfl _) <| pc h16 <| pc h17 <| pn) (by kernel_rfl) (by kernel_rfl)
                 ·rw [h16, cF] at hh
                  rw [← sI hh]
                  exact FSat.d pfT 39 (hR 4 ((z1i0 s q10 q11 q12 q13) :: (hR 4 (hF :: (hR 6 (hF :: hE :: hE :: (z1i4 b) :: (hR 8 ((hB (hC (.bool (ref02_Box b))) true) :: hE :: hE :: hF :: (hR 4 ((hC (I (ref02_Wood b.Low))) :: hF :: (hR 5 ((hC (I (ref02_Wood b.High))) :: hF :: (hR 5 ((z1i5 s b l liters q10 q11 q12 q13 q14 x2) :: (hR 9 (hF :: hE :: (z1i9 s q10 q11 q12 q13 x3) :: hE :: hE :: hE :: (hB (hC (.bool (ref02_Box b))) true) :: (hR 4 ((z1i10 l q14 x4) :: (hR 5 ((z1i23 s b l q10 q11 q12 q13 q14) :: hE :: (z1i24 b liters x7) :: (hR 6 (hF :: (hR 7 []))))))))))))))))))))))) [] (pc (law02_short_fc s q10 q11 q12 q13) <| pc (z1p1 s q10 q11 q12 q13) <| pc (z1p2 s) <| pt (z1r3 s) (selfB_self 9 _ rfl _) <| pc h1 <| pc h2 <| pc h3 <| pc (growth_Woods_fc b) <| pc (ref02_Box_fc b) <| pc h4 <| pc h5 <| pc (ref02_Wood_fc b.Low) <| pc h6 <| pc (ref02_Wood_fc b.High) <| pc h7 <| pc (growth_Ready_fc fu s b l liters q10 q11 q12 q13 q14 x2 h8) <| pc (z1p6 s b l liters q10 q11 q12 q13 q14) <| pc (z1p7 s l) <| pt (z1r8 x2) (selfB_self 9 _ rfl _) <| pc h9 <| pc (ref02_Species_fc fu s q10 q11 q12 q13 x3 h10) <| pc (z1p13 s q10 q11 q12 q13) <| pc (z1p2 s) <| pt (z1r17 x3) (selfB_self 9 _ rfl _) <| pc h11 <| pc (ref02_Box_fc b) <| pc h4 <| pc (ref02_Seasons_fc fu l q14 x4 h12) <| pc (z1p14 l q14) <| pt (z1r18 l) (⟨MemAt.same _ (encL_pf cXSeason_pf _), trivial⟩) <| pt (VR (Ren.emb [(10, 14, 0)]) (.bool (x4)) (.bool (x4))) (selfB_self 9 _ rfl _) <| pc h13 <| pt (z1r26 s b l q10 q11 q12 q13 q14) (ref02_History_none fu s b l q10 q11 q12 q13 q14 h14) <| pc (z1p15 s b l q10 q11 q12 q13 q14) <| pc (z1p7 s l) <| pt z1r27 (.slc 77 0 _ _ _ ⟨102, 0, 0, 0⟩ rfl (.inl rfl)) <| pc (ref02_Ready_fc fu ([b]) liters 1 x7 h15) <| pc (z1p25 b liters) <| pt (z1r28 b) (⟨MemAt.same _ (encL_pf cXBox_pf _), trivial⟩) <| pt (z1r29 x7) (selfB_self 9 _ rfl _) <| pc h16 <| pn) (by kernel_rfl) (by kernel_rfl)
              ·rw [h13, cF] at hh
               rcases bb (x2.2.2 == 2) with h14 | h14
               ·rw [h14, cT] at hh
                rcases bb (x2.1 == 0) with h15 | h15
                ·rw [h15, cT] at hh
                 rcases bb (x2.2.1 == 0) with h16 | h16
                 ·rw [h16, cT] at hh
                  cases h17 : law02_known fu with
                  | none => rw [h17, oN] at hh; cases hh
                  | some x1 =>
                   rw [h17, oS] at hh
                   rw [← sI hh]
                   exact FSat.d pfT 36 (hR 4 ((z1i0 s q10 q11 q12 q13) :: (hR 4 (hF :: (hR 6 (hF :: hE :: hE :: (z1i4 b) :: (hR 8 ((hB (hC (.bool (ref02_Box b))) true) :: hE :: hE :: hF :: (hR 4 ((hC (I (ref02_Wood b.Low))) :: hF :: (hR 5 ((hC (I (ref02_Wood b.High))) :: hF :: (hR 5 ((z1i5 s b l liters q10 q11 q12 q13 q14 x2) :: (hR 9 (hF :: hE :: (z1i9 s q10 q11 q12 q13 x3) :: hE :: hE :: hE :: (hB (hC (.bool (ref02_Box b))) true) :: (hR 4 [(z1i30 l q14 x4), hE, hE, hE, hT, hE, hE, hT, hE, hE, hE, hT, hE, hE, (hC (.bool (x1))), hE, hE]))))))))))))))))) [] (pc (law02_short_fc s q10 q11 q12 q13) <| pc (z1p1 s q10 q11 q12 q13) <| pc (z1p2 s) <| pt (z1r3 s) (selfB_self 9 _ rfl _) <| pc h1 <| pc h2 <| pc h3 <| pc (growth_Woods_fc b) <| pc (ref02_Box_fc b) <| pc h4 <| pc h5 <| pc (ref02_Wood_fc b.Low) <| pc h6 <| pc (ref02_Wood_fc b.High) <| pc h7 <| pc (growth_Ready_fc fu s b l liters q10 q11 q12 q13 q14 x2 h8) <| pc (z1p6 s b l liters q10 q11 q12 q13 q14) <| pc (z1p7 s l) <| pt (z1r8 x2) (selfB_self 9 _ rfl _) <| pc h9 <| pc (ref02_Species_fc fu s q10 q11 q12 q13 x3 h10) <| pc (z1p13 s q10 q11 q12 q13) <| pc (z1p2 s) <| pt (z1r17 x3) (selfB_self 9 _ rfl _) <| pc h11 <| pc (ref02_Box_fc b) <| pc h4 <| pc (ref02_Seasons_fc fu l q14 x4 h12) <| pc (z1p14 l q14) <| pt (z1r18 l) (⟨MemAt.same _ (encL_pf cXSeason_pf _), trivial⟩) <| pt (VR (Ren.emb [(10, 14, 0)]) (.bool (x4)) (.bool (x4))) (selfB_self 9 _ rfl _) <| pc h13 <| pc h14 <| pc h15 <| pc h16 <| pc (law02_known_fc fu  x1 h17) <| pn) (by kernel_rfl) (by kernel_rfl)
                 ·rw [h16, cF] at hh
                  rw [← sI hh]
                  exact FSat.d pfT 36 (hR 4 ((z1i0 s q10 q11 q12 q13) :: (hR 4 (hF :: (hR 6 (hF :: hE :: hE :: (z1i4 b) :: (hR 8 ((hB (hC (.bool (ref02_Box b))) true) :: hE :: hE :: hF :: (hR 4 ((hC (I (ref02_Wood b.Low))) :: hF :: (hR 5 ((hC (I (ref02_Wood b.High))) :: hF :: (hR 5 ((z1i5 s b l liters q10 q11 q12 q13 q14 x2) :: (hR 9 (hF :: hE :: (z1i9 s q10 q11 q12 q13 x3) :: hE :: hE :: hE :: (hB (hC (.bool (ref02_Box b))) true) :: (hR 4 ((z1i30 l q14 x4) :: hE :: hE :: hE :: hT :: hE :: hE :: hT :: hE :: hE :: hE :: hF :: (hR 4 []))))))))))))))))))) [] (pc (law02_short_fc s q10 q11 q12 q13) <| pc (z1p1 s q10 q11 q12 q13) <| pc (z1p2 s) <| pt (z1r3 s) (selfB_self 9 _ rfl _) <| pc h1 <| pc h2 <| pc h3 <| pc (growth_Woods_fc b) <| pc (ref02_Box_fc b) <| pc h4 <| pc h5 <| pc (ref02_Wood_fc b.Low) <| pc h6 <| pc (ref02_Wood_fc b.High) <| pc h7 <| pc (growth_Ready_fc fu s b l liters q10 q11 q12 q13 q14 x2 h8) <| pc (z1p6 s b l liters q10 q11 q12 q13 q14) <| pc (z1p7 s l) <| pt (z1r8 x2) (selfB_self 9 _ rfl _) <| pc h9 <| pc (ref02_Species_fc fu s q10 q11 q12 q13 x3 h10) <| pc (z1p13 s q10 q11 q12 q13) <| pc (z1p2 s) <| pt (z1r17 x3) (selfB_self 9 _ rfl _) <| pc h11 <| pc (ref02_Box_fc b) <| pc h4 <| pc (ref02_Seasons_fc fu l q14 x4 h12) <| pc (z1p14 l q14) <| pt (z1r18 l) (⟨MemAt.same _ (encL_pf cXSeason_pf _), trivial⟩) <| pt (VR (Ren.emb [(10, 14, 0)]) (.bool (x4)) (.bool (x4))) (selfB_self 9 _ rfl _) <| pc h13 <| pc h14 <| pc h15 <| pc h16 <| pn) (by kernel_rfl) (by kernel_rfl)
                ·rw [h15, cF] at hh
                 rw [← sI hh]
                 exact FSat.d pfT 36 (hR 4 ((z1i0 s q10 q11 q12 q13) :: (hR 4 (hF :: (hR 6 (hF :: hE :: hE :: (z1i4 b) :: (hR 8 ((hB (hC (.bool (ref02_Box b))) true) :: hE :: hE :: hF :: (hR 4 ((hC (I (ref02_Wood b.Low))) :: hF :: (hR 5 ((hC (I (ref02_Wood b.High))) :: hF :: (hR 5 ((z1i5 s b l liters q10 q11 q12 q13 q14 x2) :: (hR 9 (hF :: hE :: (z1i9 s q10 q11 q12 q13 x3) :: hE :: hE :: hE :: (hB (hC (.bool (ref02_Box b))) true) :: (hR 4 ((z1i30 l q14 x4) :: hE :: hE :: hE :: hT :: hE :: hE :: hF :: (hR 6 []))))))))))))))))))) [] (pc (law02_short_fc s q10 q11 q12 q13) <| pc (z1p1 s q10 q11 q12 q13) <| pc (z1p2 s) <| pt (z1r3 s) (selfB_self 9 _ rfl _) <| pc h1 <| pc h2 <| pc h3 <| pc (growth_Woods_fc b) <| pc (ref02_Box_fc b) <| pc h4 <| pc h5 <| pc (ref02_Wood_fc b.Low) <| pc h6 <| pc (ref02_Wood_fc b.High) <| pc h7 <| pc (growth_Ready_fc fu s b l liters q10 q11 q12 q13 q14 x2 h8) <| pc (z1p6 s b l liters q10 q11 q12 q13 q14) <| pc (z1p7 s l) <| pt (z1r8 x2) (selfB_self 9 _ rfl _) <| pc h9 <| pc (ref02_Species_fc fu s q10 q11 q12 q13 x3 h10) <| pc (z1p13 s q10 q11 q12 q13) <| pc (z1p2 s) <| pt (z1r17 x3) (selfB_self 9 _ rfl _) <| pc h11 <| pc (ref02_Box_fc b) <| pc h4 <| pc (ref02_Seasons_fc fu l q14 x4 h12) <| pc (z1p14 l q14) <| pt (z1r18 l) (⟨MemAt.same _ (encL_pf cXSeason_pf _), trivial⟩) <| pt (VR (Ren.emb [(10, 14, 0)]) (.bool (x4)) (.bool (x4))) (selfB_self 9 _ rfl _) <| pc h13 <| pc h14 <| pc h15 <| pn) (by kernel_rfl) (by kernel_rfl)
               ·rw [h14, cF] at hh
                rw [← sI hh]
                exact FSat.d pfT 36 (hR 4 ((z1i0 s q10 q11 q12 q13) :: (hR 4 (hF :: (hR 6 (hF :: hE :: hE :: (z1i4 b) :: (hR 8 ((hB (hC (.bool (ref02_Box b))) true) :: hE :: hE :: hF :: (hR 4 ((hC (I (ref02_Wood b.Low))) :: hF :: (hR 5 ((hC (I (ref02_Wood b.High))) :: hF :: (hR 5 ((z1i5 s b l liters q10 q11 q12 q13 q14 x2) :: (hR 9 (hF :: hE :: (z1i9 s q10 q11 q12 q13 x3) :: hE :: hE :: hE :: (hB (hC (.bool (ref02_Box b))) true) :: (hR 4 ((z1i30 l q14 x4) :: hE :: hE :: hE :: hF :: (hR 7 []))))))))))))))))))) [] (pc (law02_short_fc s q10 q11 q12 q13) <| pc (z1p1 s q10 q11 q12 q13) <| pc (z1p2 s) <| pt (z1r3 s) (selfB_self 9 _ rfl _) <| pc h1 <| pc h2 <| pc h3 <| pc (growth_Woods_fc b) <| pc (ref02_Box_fc b) <| pc h4 <| pc h5 <| pc (ref02_Wood_fc b.Low) <| pc h6 <| pc (ref02_Wood_fc b.High) <| pc h7 <| pc (growth_Ready_fc fu s b l liters q10 q11 q12 q13 q14 x2 h8) <| pc (z1p6 s b l liters q10 q11 q12 q13 q14) <| pc (z1p7 s l) <| pt (z1r8 x2) (selfB_self 9 _ rfl _) <| pc h9 <| pc (ref02_Species_fc fu s q10 q11 q12 q13 x3 h10) <| pc (z1p13 s q10 q11 q12 q13) <| pc (z1p2 s) <| pt (z1r17 x3) (selfB_self 9 _ rfl _) <| pc h11 <| pc (ref02_Box_fc b) <| pc h4 <| pc (ref02_Seasons_fc fu l q14 x4 h12) <| pc (z1p14 l q14) <| pt (z1r18 l) (⟨MemAt.same _ (encL_pf cXSeason_pf _), trivial⟩) <| pt (VR (Ren.emb [(10, 14, 0)]) (.bool (x4)) (.bool (x4))) (selfB_self 9 _ rfl _) <| pc h13 <| pc h14 <| pn) (by kernel_rfl) (by kernel_rfl)
            ·rw [h11, cF] at hh
             rcases bb (x2.2.2 == 2) with h12 | h12
             ·rw [h12, cT] at hh
              rcases bb (x2.1 == 0) with h13 | h13
              ·rw [h13, cT] at hh
               rcases bb (x2.2.1 == 0) with h14 | h14
               ·rw [h14, cT] at hh
                cases h15 : law02_known fu with
                | none => rw [h15, oN] at hh; cases hh
                | some x1 =>
                 rw [h15, oS] at hh
                 rw [← sI hh]
                 exact FSat.d pfT 36 (hR 4 ((z1i0 s q10 q11 q12 q13) :: (hR 4 (hF :: (hR 6 (hF :: hE :: hE :: (z1i4 b) :: (hR 8 ((hB (hC (.bool (ref02_Box b))) true) :: hE :: hE :: hF :: (hR 4 ((hC (I (ref02_Wood b.Low))) :: hF :: (hR 5 ((hC (I (ref02_Wood b.High))) :: hF :: (hR 5 ((z1i5 s b l liters q10 q11 q12 q13 q14 x2) :: (hR 9 (hF :: hE :: (z1i31 s q10 q11 q12 q13 x3) :: (hR 6 [hT, hE, hE, hT, hE, hE, hE, hT, hE, hE, (hC (.bool (x1))), hE, hE]))))))))))))))))) [] (pc (law02_short_fc s q10 q11 q12 q13) <| pc (z1p1 s q10 q11 q12 q13) <| pc (z1p2 s) <| pt (z1r3 s) (selfB_self 9 _ rfl _) <| pc h1 <| pc h2 <| pc h3 <| pc (growth_Woods_fc b) <| pc (ref02_Box_fc b) <| pc h4 <| pc h5 <| pc (ref02_Wood_fc b.Low) <| pc h6 <| pc (ref02_Wood_fc b.High) <| pc h7 <| pc (growth_Ready_fc fu s b l liters q10 q11 q12 q13 q14 x2 h8) <| pc (z1p6 s b l liters q10 q11 q12 q13 q14) <| pc (z1p7 s l) <| pt (z1r8 x2) (selfB_self 9 _ rfl _) <| pc h9 <| pc (ref02_Species_fc fu s q10 q11 q12 q13 x3 h10) <| pc (z1p13 s q10 q11 q12 q13) <| pc (z1p2 s) <| pt (z1r17 x3) (selfB_self 9 _ rfl _) <| pc h11 <| pc h12 <| pc h13 <| pc h14 <| pc (law02_known_fc fu  x1 h15) <| pn) (by kernel_rfl) (by kernel_rfl)
               ·rw [h14, cF] at hh
                rw [← sI hh]
                exact FSat.d pfT 36 (hR 4 ((z1i0 s q10 q11 q12 q13) :: (hR 4 (hF :: (hR 6 (hF :: hE :: hE :: (z1i4 b) :: (hR 8 ((hB (hC (.bool (ref02_Box b))) true) :: hE :: hE :: hF :: (hR 4 ((hC (I (ref02_Wood b.Low))) :: hF :: (hR 5 ((hC (I (ref02_Wood b.High))) :: hF :: (hR 5 ((z1i5 s b l liters q10 q11 q12 q13 q14 x2) :: (hR 9 (hF :: hE :: (z1i31 s q10 q11 q12 q13 x3) :: (hR 6 (hT :: hE :: hE :: hT :: hE :: hE :: hE :: hF :: (hR 4 []))))))))))))))))))) [] (pc (law02_short_fc s q10 q11 q12 q13) <| pc (z1p1 s q10 q11 q12 q13) <| pc (z1p2 s) <| pt (z1r3 s) (selfB_self 9 _ rfl _) <| pc h1 <| pc h2 <| pc h3 <| pc (growth_Woods_fc b) <| pc (ref02_Box_fc b) <| pc h4 <| pc h5 <| pc (ref02_Wood_fc b.Low) <| pc h6 <| pc (ref02_Wood_fc b.High) <| pc h7 <| pc (growth_Ready_fc fu s b l liters q10 q11 q12 q13 q14 x2 h8) <| pc (z1p6 s b l liters q10 q11 q12 q13 q14) <| pc (z1p7 s l) <| pt (z1r8 x2) (selfB_self 9 _ rfl _) <| pc h9 <| pc (ref02_Species_fc fu s q10 q11 q12 q13 x3 h10) <| pc (z1p13 s q10 q11 q12 q13) <| pc (z1p2 s) <| pt (z1r17 x3) (selfB_self 9 _ rfl _) <| pc h11 <| pc h12 <| pc h13 <| pc h14 <| pn) (by kernel_rfl) (by kernel_rfl)
              ·rw [h13, cF] at hh
               rw [← sI hh]
               exact FSat.d pfT 36 (hR 4 ((z1i0 s q10 q11 q12 q13) :: (hR 4 (hF :: (hR 6 (hF :: hE :: hE :: (z1i4 b) :: (hR 8 ((hB (hC (.bool (ref02_Box b))) true) :: hE :: hE :: hF :: (hR 4 ((hC (I (ref02_Wood b.Low))) :: hF :: (hR 5 ((hC (I (ref02_Wood b.High))) :: hF :: (hR 5 ((z1i5 s b l liters q10 q11 q12 q13 q14 x2) :: (hR 9 (hF :: hE :: (z1i31 s q10 q11 q12 q13 x3) :: (hR 6 (hT :: hE :: hE :: hF :: (hR 6 []))))))))))))))))))) [] (pc (law02_short_fc s q10 q11 q12 q13) <| pc (z1p1 s q10 q11 q12 q13) <| pc (z1p2 s) <| pt (z1r3 s) (selfB_self 9 _ rfl _) <| pc h1 <| pc h2 <| pc h3 <| pc (growth_Woods_fc b) <| pc (ref02_Box_fc b) <| pc h4 <| pc h5 <| pc (ref02_Wood_fc b.Low) <| pc h6 <| pc (ref02_Wood_fc b.High) <| pc h7 <| pc (growth_Ready_fc fu s b l liters q10 q11 q12 q13 q14 x2 h8) <| pc (z1p6 s b l liters q10 q11 q12 q13 q14) <| pc (z1p7 s l) <| pt (z1r8 x2) (selfB_self 9 _ rfl _) <| pc h9 <| pc (ref02_Species_fc fu s q10 q11 q12 q13 x3 h10) <| pc (z1p13 s q10 q11 q12 q13) <| pc (z1p2 s) <| pt (z1r17 x3) (selfB_self 9 _ rfl _) <| pc h11 <| pc h12 <| pc h13 <| pn) (by kernel_rfl) (by kernel_rfl)
             ·rw [h12, cF] at hh
              rw [← sI hh]
              exact FSat.d pfT 36 (hR 4 ((z1i0 s q10 q11 q12 q13) :: (hR 4 (hF :: (hR 6 (hF :: hE :: hE :: (z1i4 b) :: (hR 8 ((hB (hC (.bool (ref02_Box b))) true) :: hE :: hE :: hF :: (hR 4 ((hC (I (ref02_Wood b.Low))) :: hF :: (hR 5 ((hC (I (ref02_Wood b.High))) :: hF :: (hR 5 ((z1i5 s b l liters q10 q11 q12 q13 q14 x2) :: (hR 9 (hF :: hE :: (z1i31 s q10 q11 q12 q13 x3) :: (hR 6 (hF :: (hR 7 []))))))))))))))))))) [] (pc (law02_short_fc s q10 q11 q12 q13) <| pc (z1p1 s q10 q11 q12 q13) <| pc (z1p2 s) <| pt (z1r3 s) (selfB_self 9 _ rfl _) <| pc h1 <| pc h2 <| pc h3 <| pc (growth_Woods_fc b) <| pc (ref02_Box_fc b) <| pc h4 <| pc h5 <| pc (ref02_Wood_fc b.Low) <| pc h6 <| pc (ref02_Wood_fc b.High) <| pc h7 <| pc (growth_Ready_fc fu s b l liters q10 q11 q12 q13 q14 x2 h8) <| pc (z1p6 s b l liters q10 q11 q12 q13 q14) <| pc (z1p7 s l) <| pt (z1r8 x2) (selfB_self 9 _ rfl _) <| pc h9 <| pc (ref02_Species_fc fu s q10 q11 q12 q13 x3 h10) <| pc (z1p13 s q10 q11 q12 q13) <| pc (z1p2 s) <| pt (z1r17 x3) (selfB_self 9 _ rfl _) <| pc h11 <| pc h12 <| pn) (by kernel_rfl) (by kernel_rfl)
     ·rw [h4, cF] at hh
      rcases bb (((growth_Woods b).2.2) != 2) with h5 | h5
      ·rw [h5, cT] at hh
       rw [← sI hh]
       exact FSat.d pfT 24 (hR 4 ((z1i0 s q10 q11 q12 q13) :: (hR 4 (hF :: (hR 6 (hF :: hE :: hE :: (z1i4 b) :: (hR 8 ((hB (hC (.bool (ref02_Box b))) false) :: hE :: hE :: hT :: (hR 5 []))))))))) [] (pc (law02_short_fc s q10 q11 q12 q13) <| pc (z1p1 s q10 q11 q12 q13) <| pc (z1p2 s) <| pt (z1r3 s) (selfB_self 9 _ rfl _) <| pc h1 <| pc h2 <| pc h3 <| pc (growth_Woods_fc b) <| pc (ref02_Box_fc b) <| pc h4 <| pc h5 <| pn) (by kernel_rfl) (by kernel_rfl)
      ·rw [h5, cF] at hh
       rcases bb (((growth_Woods b).1) != 0) with h6 | h6
       ·rw [h6, cT] at hh
        rw [← sI hh]
        exact FSat.d pfT 24 (hR 4 ((z1i0 s q10 q11 q12 q13) :: (hR 4 (hF :: (hR 6 (hF :: hE :: hE :: (z1i4 b) :: (hR 8 ((hB (hC (.bool (ref02_Box b))) false) :: hE :: hE :: hF :: hE :: hE :: hT :: (hR 4 []))))))))) [] (pc (law02_short_fc s q10 q11 q12 q13) <| pc (z1p1 s q10 q11 q12 q13) <| pc (z1p2 s) <| pt (z1r3 s) (selfB_self 9 _ rfl _) <| pc h1 <| pc h2 <| pc h3 <| pc (growth_Woods_fc b) <| pc (ref02_Box_fc b) <| pc h4 <| pc h5 <| pc h6 <| pn) (by kernel_rfl) (by kernel_rfl)
       ·rw [h6, cF] at hh
        rcases bb (((growth_Woods b).2.1) != 0) with h7 | h7
        ·rw [h7, cT] at hh
         rw [← sI hh]
         exact FSat.d pfT 24 (hR 4 ((z1i0 s q10 q11 q12 q13) :: (hR 4 (hF :: (hR 6 (hF :: hE :: hE :: (z1i4 b) :: (hR 8 [(hB (hC (.bool (ref02_Box b))) false), hE, hE, hF, hE, hE, hF, hE, hE, hE, hT, hE, hE]))))))) [] (pc (law02_short_fc s q10 q11 q12 q13) <| pc (z1p1 s q10 q11 q12 q13) <| pc (z1p2 s) <| pt (z1r3 s) (selfB_self 9 _ rfl _) <| pc h1 <| pc h2 <| pc h3 <| pc (growth_Woods_fc b) <| pc (ref02_Box_fc b) <| pc h4 <| pc h5 <| pc h6 <| pc h7 <| pn) (by kernel_rfl) (by kernel_rfl)
        ·rw [h7, cF] at hh
         cases h8 : growth_Ready fu s b l liters with
         | none => rw [h8, oN] at hh; cases hh
         | some x2 =>
          rw [h8, oS] at hh
          rcases bb (decide (((l.length : Nat) : Int) > 100)) with h9 | h9
          ·rw [h9, cT] at hh
           rcases bb (x2.2.2 == 3) with h10 | h10
           ·rw [h10, cT] at hh
            rcases bb (x2.1 == 0) with h11 | h11
            ·rw [h11, cT] at hh
             rcases bb (x2.2.1 == 0) with h12 | h12
             ·rw [h12, cT] at hh
              cases h13 : law02_known fu with
              | none => rw [h13, oN] at hh; cases hh
              | some x1 =>
               rw [h13, oS] at hh
               rw [← sI hh]
               exact FSat.d pfT 31 (hR 4 ((z1i0 s q10 q11 q12 q13) :: (hR 4 (hF :: (hR 6 (hF :: hE :: hE :: (z1i4 b) :: (hR 8 ((hB (hC (.bool (ref02_Box b))) false) :: hE :: hE :: hF :: hE :: hE :: hF :: hE :: hE :: hE :: hF :: (hR 5 ((z1i5 s b l liters q10 q11 q12 q13 q14 x2) :: (hR 9 [hT, hE, hT, hE, hE, hT, hE, hE, hE, hT, hE, hE, (hC (.bool (x1))), hE, hE]))))))))))) [] (pc (law02_short_fc s q10 q11 q12 q13) <| pc (z1p1 s q10 q11 q12 q13) <| pc (z1p2 s) <| pt (z1r3 s) (selfB_self 9 _ rfl _) <| pc h1 <| pc h2 <| pc h3 <| pc (growth_Woods_fc b) <| pc (ref02_Box_fc b) <| pc h4 <| pc h5 <| pc h6 <| pc h7 <| pc (growth_Ready_fc fu s b l liters q10 q11 q12 q13 q14 x2 h8) <| pc (z1p6 s b l liters q10 q11 q12 q13 q14) <| pc (z1p7 s l) <| pt (z1r8 x2) (selfB_self 9 _ rfl _) <| pc h9 <| pc h10 <| pc h11 <| pc h12 <| pc (law02_known_fc fu  x1 h13) <| pn) (by kernel_rfl) (by kernel_rfl)
             ·rw [h12, cF] at hh
              rw [← sI hh]
              exact FSat.d pfT 31 (hR 4 ((z1i0 s q10 q11 q12 q13) :: (hR 4 (hF :: (hR 6 (hF :: hE :: hE :: (z1i4 b) :: (hR 8 ((hB (hC (.bool (ref02_Box b))) false) :: hE :: hE :: hF :: hE :: hE :: hF :: hE :: hE :: hE :: hF :: (hR 5 ((z1i5 s b l liters q10 q11 q12 q13 q14 x2) :: (hR 9 (hT :: hE :: hT :: hE :: hE :: hT :: hE :: hE :: hE :: hF :: (hR 4 []))))))))))))) [] (pc (law02_short_fc s q10 q11 q12 q13) <| pc (z1p1 s q10 q11 q12 q13) <| pc (z1p2 s) <| pt (z1r3 s) (selfB_self 9 _ rfl _) <| pc h1 <| pc h2 <| pc h3 <| pc (growth_Woods_fc b) <| pc (ref02_Box_fc b) <| pc h4 <| pc h5 <| pc h6 <| pc h7 <| pc (growth_Ready_fc fu s b l liters q10 q11 q12 q13 q14 x2 h8) <| pc (z1p6 s b l liters q10 q11 q12 q13 q14) <| pc (z1p7 s l) <| pt (z1r8 x2) (selfB_self 9 _ rfl _) <| pc h9 <| pc h10 <| pc h11 <| pc h12 <| pn) (by kernel_rfl) (by kernel_rfl)
            ·rw [h11, cF] at hh
             rw [← sI hh]
             exact FSat.d pfT 31 (hR 4 ((z1i0 s q10 q11 q12 q13) :: (hR 4 (hF :: (hR 6 (hF :: hE :: hE :: (z1i4 b) :: (hR 8 ((hB (hC (.bool (ref02_Box b))) false) :: hE :: hE :: hF :: hE :: hE :: hF :: hE :: hE :: hE :: hF :: (hR 5 ((z1i5 s b l liters q10 q11 q12 q13 q14 x2) :: (hR 9 (hT :: hE :: hT :: hE :: hE :: hF :: (hR 6 []))))))))))))) [] (pc (law02_short_fc s q10 q11 q12 q13) <| pc (z1p1 s q10 q11 q12 q13) <| pc (z1p2 s) <| pt (z1r3 s) (selfB_self 9 _ rfl _) <| pc h1 <| pc h2 <| pc h3 <| pc (growth_Woods_fc b) <| pc (ref02_Box_fc b) <| pc h4 <| pc h5 <| pc h6 <| pc h7 <| pc (growth_Ready_fc fu s b l liters q10 q11 q12 q13 q14 x2 h8) <| pc (z1p6 s b l liters q10 q11 q12 q13 q14) <| pc (z1p7 s l) <| pt (z1r8 x2) (selfB_self 9 _ rfl _) <| pc h9 <| pc h10 <| pc h11 <| pn) (by kernel_rfl) (by kernel_rfl)
           ·rw [h10, cF] at hh
            rw [← sI hh]
            exact FSat.d pfT 31 (hR 4 ((z1i0 s q10 q11 q12 q13) :: (hR 4 (hF :: (hR 6 (hF :: hE :: hE :: (z1i4 b) :: (hR 8 ((hB (hC (.bool (ref02_Box b))) false) :: hE :: hE :: hF :: hE :: hE :: hF :: hE :: hE :: hE :: hF :: (hR 5 ((z1i5 s b l liters q10 q11 q12 q13 q14 x2) :: (hR 9 (hT :: hE :: hF :: (hR 7 []))))))))))))) [] (pc (law02_short_fc s q10 q11 q12 q13) <| pc (z1p1 s q10 q11 q12 q13) <| pc (z1p2 s) <| pt (z1r3 s) (selfB_self 9 _ rfl _) <| pc h1 <| pc h2 <| pc h3 <| pc (growth_Woods_fc b) <| pc (ref02_Box_fc b) <| pc h4 <| pc h5 <| pc h6 <| pc h7 <| pc (growth_Ready_fc fu s b l liters q10 q11 q12 q13 q14 x2 h8) <| pc (z1p6 s b l liters q10 q11 q12 q13 q14) <| pc (z1p7 s l) <| pt (z1r8 x2) (selfB_self 9 _ rfl _) <| pc h9 <| pc h10 <| pn) (by kernel_rfl) (by kernel_rfl)
          ·rw [h9, cF] at hh
           cases h10 : ref02_Species fu s with
           | none => rw [h10, oN] at hh; cases hh
           | some x3 =>
            rw [h10, oS] at hh
            rcases bb (x3) with h11 | h11
            ·rw [h11, cT] at hh
             rcases bb (x2.2.2 == 2) with h12 | h12
             ·rw [h12, cT] at hh
              rcases bb (x2.1 == 0) with h13 | h13
              ·rw [h13, cT] at hh
               rcases bb (x2.2.1 == 0) with h14 | h14
               ·rw [h14, cT] at hh
                cases h15 : law02_known fu with
                | none => rw [h15, oN] at hh; cases hh
                | some x1 =>
                 rw [h15, oS] at hh
                 rw [← sI hh]
                 exact FSat.d pfT 36 (hR 4 ((z1i0 s q10 q11 q12 q13) :: (hR 4 (hF :: (hR 6 (hF :: hE :: hE :: (z1i4 b) :: (hR 8 ((hB (hC (.bool (ref02_Box b))) false) :: hE :: hE :: hF :: hE :: hE :: hF :: hE :: hE :: hE :: hF :: (hR 5 ((z1i5 s b l liters q10 q11 q12 q13 q14 x2) :: (hR 9 (hF :: hE :: (z1i9 s q10 q11 q12 q13 x3) :: hE :: hE :: hE :: (hB (hC (.bool (ref02_Box b))) false) :: (hR 5 [hT, hE, hE, hT, hE, hE, hE, hT, hE, hE, (hC (.bool (x1))), hE, hE]))))))))))))) [] (pc (law02_short_fc s q10 q11 q12 q13) <| pc (z1p1 s q10 q11 q12 q13) <| pc (z1p2 s) <| pt (z1r3 s) (selfB_self 9 _ rfl _) <| pc h1 <| pc h2 <| pc h3 <| pc (growth_Woods_fc b) <| pc (ref02_Box_fc b) <| pc h4 <| pc h5 <| pc h6 <| pc h7 <| pc (growth_Ready_fc fu s b l liters q10 q11 q12 q13 q14 x2 h8) <| pc (z1p6 s b l liters q10 q11 q12 q13 q14) <| pc (z1p7 s l) <| pt (z1r8 x2) (selfB_self 9 _ rfl _) <| pc h9 <| pc (ref02_Species_fc fu s q10 q11 q12 q13 x3 h10) <| pc (z1p13 s q10 q11 q12 q13) <| pc (z1p2 s) <| pt (z1r17 x3) (selfB_self 9 _ rfl _) <| pc h11 <| pc (ref02_Box_fc b) <| pc h4 <| pc h12 <| pc h13 <| pc h14 <| pc (law02_known_fc fu  x1 h15) <| pn) (by kernel_rfl) (by kernel_rfl)
               ·rw [h14, cF] at hh
                rw [← sI hh]
                exact FSat.d pfT 36 (hR 4 ((z1i0 s q10 q11 q12 q13) :: (hR 4 (hF :: (hR 6 (hF :: hE :: hE :: (z1i4 b) :: (hR 8 ((hB (hC (.bool (ref02_Box b))) false) :: hE :: hE :: hF :: hE :: hE :: hF :: hE :: hE :: hE :: hF :: (hR 5 ((z1i5 s b l liters q10 q11 q12 q13 q14 x2) :: (hR 9 (hF :: hE :: (z1i9 s q10 q11 q12 q13 x3) :: hE :: hE :: hE :: (hB (hC (.bool (ref02_Box b))) false) :: (hR 5 (hT :: hE :: hE :: hT :: hE :: hE :: hE :: hF :: (hR 4 []))))))))))))))) [] (pc (law02_short_fc s q10 q11 q12 q13) <| pc (z1p1 s q10 q11 q12 q13) <| pc (z1p2 s) <| pt (z1r3 s) (selfB_self 9 _ rfl _) <| pc h1 <| pc h2 <| pc h3 <| pc (growth_Woods_fc b) <| pc (ref02_Box_fc b) <| pc h4 <| pc h5 <| pc h6 <| pc h7 <| pc (growth_Ready_fc fu s b l liters q10 q11 q12 q13 q14 x2 h8) <| pc (z1p6 s b l liters q10 q11 q12 q13 q14) <| pc (z1p7 s l) <| pt (z1r8 x2) (selfB_self 9 _ rfl _) <| pc h9 <| pc (ref02_Species_fc fu s q10 q11 q12 q13 x3 h10) <| pc (z1p13 s q10 q11 q12 q13) <| pc (z1p2 s) <| pt (z1r17 x3) (selfB_self 9 _ rfl _) <| pc h11 <| pc (ref02_Box_fc b) <| pc h4 <| pc h12 <| pc h13 <| pc h14 <| pn) (by kernel_rfl) (by kernel_rfl)
              ·rw [h13, cF] at hh
               rw [← sI hh]
               exact FSat.d pfT 36 (hR 4 ((z1i0 s q10 q11 q12 q13) :: (hR 4 (hF :: (hR 6 (hF :: hE :: hE :: (z1i4 b) :: (hR 8 ((hB (hC (.bool (ref02_Box b))) false) :: hE :: hE :: hF :: hE :: hE :: hF :: hE :: hE :: hE :: hF :: (hR 5 ((z1i5 s b l liters q10 q11 q12 q13 q14 x2) :: (hR 9 (hF :: hE :: (z1i9 s q10 q11 q12 q13 x3) :: hE :: hE :: hE :: (hB (hC (.bool (ref02_Box b))) false) :: (hR 5 (hT :: hE :: hE :: hF :: (hR 6 []))))))))))))))) [] (pc (law02_short_fc s q10 q11 q12 q13) <| pc (z1p1 s q10 q11 q12 q13) <| pc (z1p2 s) <| pt (z1r3 s) (selfB_self 9 _ rfl _) <| pc h1 <| pc h2 <| pc h3 <| pc (growth_Woods_fc b) <| pc (ref02_Box_fc b) <| pc h4 <| pc h5 <| pc h6 <| pc h7 <| pc (growth_Ready_fc fu s b l liters q10 q11 q12 q13 q14 x2 h8) <| pc (z1p6 s b l liters q10 q11 q12 q13 q14) <| pc (z1p7 s l) <| pt (z1r8 x2) (selfB_self 9 _ rfl _) <| pc h9 <| pc (ref02_Species_fc fu s q10 q11 q12 q13 x3 h10) <| pc (z1p13 s q10 q11 q12 q13) <| pc (z1p2 s) <| pt (z1r17 x3) (selfB_self 9 _ rfl _) <| pc h11 <| pc (ref02_Box_fc b) <| pc h4 <| pc h12 <| pc h13 <| pn) (by kernel_rfl) (by kernel_rfl)
             ·rw [h12, cF] at hh
              rw [← sI hh]
              exact FSat.d pfT 36 (hR 4 ((z1i0 s q10 q11 q12 q13) :: (hR 4 (hF :: (hR 6 (hF :: hE :: hE :: (z1i4 b) :: (hR 8 ((hB (hC (.bool (ref02_Box b))) false) :: hE :: hE :: hF :: hE :: hE :: hF :: hE :: hE :: hE :: hF :: (hR 5 ((z1i5 s b l liters q10 q11 q12 q13 q14 x2) :: (hR 9 (hF :: hE :: (z1i9 s q10 q11 q12 q13 x3) :: hE :: hE :: hE :: (hB (hC (.bool (ref02_Box b))) false) :: (hR 5 (hF :: (hR 7 []))))))))))))))) [] (pc (law02_short_fc s q10 q11 q12 q13) <| pc (z1p1 s q10 q11 q12 q13) <| pc (z1p2 s) <| pt (z1r3 s) (selfB_self 9 _ rfl _) <| pc h1 <| pc h2 <| pc h3 <| pc (growth_Woods_fc b) <| pc (ref02_Box_fc b) <| pc h4 <| pc h5 <| pc h6 <| pc h7 <| pc (growth_Ready_fc fu s b l liters q10 q11 q12 q13 q14 x2 h8) <| pc (z1p6 s b l liters q10 q11 q12 q13 q14) <| pc (z1p7 s l) <| pt (z1r8 x2) (selfB_self 9 _ rfl _) <| pc h9 <| pc (ref02_Species_fc fu s q10 q11 q12 q13 x3 h10) <| pc (z1p13 s q10 q11 q12 q13) <| pc (z1p2 s) <| pt (z1r17 x3) (selfB_self 9 _ rfl _) <| pc h11 <| pc (ref02_Box_fc b) <| pc h4 <| pc h12 <| pn) (by kernel_rfl) (by kernel_rfl)
            ·rw [h11, cF] at hh
             rcases bb (x2.2.2 == 2) with h12 | h12
             ·rw [h12, cT] at hh
              rcases bb (x2.1 == 0) with h13 | h13
              ·rw [h13, cT] at hh
               rcases bb (x2.2.1 == 0) with h14 | h14
               ·rw [h14, cT] at hh
                cases h15 : law02_known fu with
                | none => rw [h15, oN] at hh; cases hh
                | some x1 =>
                 rw [h15, oS] at hh
                 rw [← sI hh]
                 exact FSat.d pfT 36 (hR 4 ((z1i0 s q10 q11 q12 q13) :: (hR 4 (hF :: (hR 6 (hF :: hE :: hE :: (z1i4 b) :: (hR 8 ((hB (hC (.bool (ref02_Box b))) false) :: hE :: hE :: hF :: hE :: hE :: hF :: hE :: hE :: hE :: hF :: (hR 5 ((z1i5 s b l liters q10 q11 q12 q13 q14 x2) :: (hR 9 (hF :: hE :: (z1i31 s q10 q11 q12 q13 x3) :: (hR 6 [hT, hE, hE, hT, hE, hE, hE, hT, hE, hE, (hC (.bool (x1))), hE, hE]))))))))))))) [] (pc (law02_short_fc s q10 q11 q12 q13) <| pc (z1p1 s q10 q11 q12 q13) <| pc (z1p2 s) <| pt (z1r3 s) (selfB_self 9 _ rfl _) <| pc h1 <| pc h2 <| pc h3 <| pc (growth_Woods_fc b) <| pc (ref02_Box_fc b) <| pc h4 <| pc h5 <| pc h6 <| pc h7 <| pc (growth_Ready_fc fu s b l liters q10 q11 q12 q13 q14 x2 h8) <| pc (z1p6 s b l liters q10 q11 q12 q13 q14) <| pc (z1p7 s l) <| pt (z1r8 x2) (selfB_self 9 _ rfl _) <| pc h9 <| pc (ref02_Species_fc fu s q10 q11 q12 q13 x3 h10) <| pc (z1p13 s q10 q11 q12 q13) <| pc (z1p2 s) <| pt (z1r17 x3) (selfB_self 9 _ rfl _) <| pc h11 <| pc h12 <| pc h13 <| pc h14 <| pc (law02_known_fc fu  x1 h15) <| pn) (by kernel_rfl) (by kernel_rfl)
               ·rw [h14, cF] at hh
                rw [← sI hh]
                exact FSat.d pfT 36 (hR 4 ((z1i0 s q10 q11 q12 q13) :: (hR 4 (hF :: (hR 6 (hF :: hE :: hE :: (z1i4 b) :: (hR 8 ((hB (hC (.bool (ref02_Box b))) false) :: hE :: hE :: hF :: hE :: hE :: hF :: hE :: hE :: hE :: hF :: (hR 5 ((z1i5 s b l liters q10 q11 q12 q13 q14 x2) :: (hR 9 (hF :: hE :: (z1i31 s q10 q11 q12 q13 x3) :: (hR 6 (hT :: hE :: hE :: hT :: hE :: hE :: hE :: hF :: (hR 4 []))))))))))))))) [] (pc (law02_short_fc s q10 q11 q12 q13) <| pc (z1p1 s q10 q11 q12 q13) <| pc (z1p2 s) <| pt (z1r3 s) (selfB_self 9 _ rfl _) <| pc h1 <| pc h2 <| pc h3 <| pc (growth_Woods_fc b) <| pc (ref02_Box_fc b) <| pc h4 <| pc h5 <| pc h6 <| pc h7 <| pc (growth_Ready_fc fu s b l liters q10 q11 q12 q13 q14 x2 h8) <| pc (z1p6 s b l liters q10 q11 q12 q13 q14) <| pc (z1p7 s l) <| pt (z1r8 x2) (selfB_self 9 _ rfl _) <| pc h9 <| pc (ref02_Species_fc fu s q10 q11 q12 q13 x3 h10) <| pc (z1p13 s q10 q11 q12 q13) <| pc (z1p2 s) <| pt (z1r17 x3) (selfB_self 9 _ rfl _) <| pc h11 <| pc h12 <| pc h13 <| pc h14 <| pn) (by kernel_rfl) (by kernel_rfl)
              ·rw [h13, cF] at hh
               rw [← sI hh]
               exact FSat.d pfT 36 (hR 4 ((z1i0 s q10 q11 q12 q13) :: (hR 4 (hF :: (hR 6 (hF :: hE :: hE :: (z1i4 b) :: (hR 8 ((hB (hC (.bool (ref02_Box b))) false) :: hE :: hE :: hF :: hE :: hE :: hF :: hE :: hE :: hE :: hF :: (hR 5 ((z1i5 s b l liters q10 q11 q12 q13 q14 x2) :: (hR 9 (hF :: hE :: (z1i31 s q10 q11 q12 q13 x3) :: (hR 6 (hT :: hE :: hE :: hF :: (hR 6 []))))))))))))))) [] (pc (law02_short_fc s q10 q11 q12 q13) <| pc (z1p1 s q10 q11 q12 q13) <| pc (z1p2 s) <| pt (z1r3 s) (selfB_self 9 _ rfl _) <| pc h1 <| pc h2 <| pc h3 <| pc (growth_Woods_fc b) <| pc (ref02_Box_fc b) <| pc h4 <| pc h5 <| pc h6 <| pc h7 <| pc (growth_Ready_fc fu s b l liters q10 q11 q12 q13 q14 x2 h8) <| pc (z1p6 s b l liters q10 q11 q12 q13 q14) <| pc (z1p7 s l) <| pt (z1r8 x2) (selfB_self 9 _ rfl _) <| pc h9 <| pc (ref02_Species_fc fu s q10 q11 q12 q13 x3 h10) <| pc (z1p13 s q10 q11 q12 q13) <| pc (z1p2 s) <| pt (z1r17 x3) (selfB_self 9 _ rfl _) <| pc h11 <| pc h12 <| pc h13 <| pn) (by kernel_rfl) (by kernel_rfl)
             ·rw [h12, cF] at hh
              rw [← sI hh]
              exact FSat.d pfT 36 (hR 4 ((z1i0 s q10 q11 q12 q13) :: (hR 4 (hF :: (hR 6 (hF :: hE :: hE :: (z1i4 b) :: (hR 8 ((hB (hC (.bool (ref02_Box b))) false) :: hE :: hE :: hF :: hE :: hE :: hF :: hE :: hE :: hE :: hF :: (hR 5 ((z1i5 s b l liters q10 q11 q12 q13 q14 x2) :: (hR 9 (hF :: hE :: (z1i31 s q10 q11 q12 q13 x3) :: (hR 6 (hF :: (hR 7 []))))))))))))))) [] (pc (law02_short_fc s q10 q11 q12 q13) <| pc (z1p1 s q10 q11 q12 q13) <| pc (z1p2 s) <| pt (z1r3 s) (selfB_self 9 _ rfl _) <| pc h1 <| pc h2 <| pc h3 <| pc (growth_Woods_fc b) <| pc (ref02_Box_fc b) <| pc h4 <| pc h5 <| pc h6 <| pc h7 <| pc (growth_Ready_fc fu s b l liters q10 q11 q12 q13 q14 x2 h8) <| pc (z1p6 s b l liters q10 q11 q12 q13 q14) <| pc (z1p7 s l) <| pt (z1r8 x2) (selfB_self 9 _ rfl _) <| pc h9 <| pc (ref02_Species_fc fu s q10 q11 q12 q13 x3 h10) <| pc (z1p13 s q10 q11 q12 q13) <| pc (z1p2 s) <| pt (z1r17 x3) (selfB_self 9 _ rfl _) <| pc h11 <| pc h12 <| pn) (by kernel_rfl) (by kernel_rfl)
  ·rw [h1, cF] at hh
   cases h2 : law02_known fu with
   | none => rw [h2, oN] at hh; cases hh
   | some x1 =>
    rw [h2, oS] at hh
    rw [← sI hh]
    exact FSat.d pfT 14 (hR 4 ((z1i32 s q10 q11 q12 q13) :: (hR 5 [(hC (.bool (x1))), hE]))) [] (pc (law02_short_fc s q10 q11 q12 q13) <| pc (z1p1 s q10 q11 q12 q13) <| pc (z1p2 s) <| pt (z1r3 s) (selfB_self 9 _ rfl _) <| pc h1 <| pc (law02_known_fc fu  x1 h2) <| pn) (by kernel_rfl) (by kernel_rfl)

/- greenhew/growth.common -/
noncomputable abbrev z59i0 (b : XBox) : Hint := (hC (.agg #[I ((growth_spanOf b 1).Low), I ((growth_spanOf b 1).High)]))
noncomputable abbrev z59i1 (a b : XBox) : Hint := (hC (.tuple #[.agg #[I ((((growth_keep a 1 (growth_spanOf b 1)).1).Low).Age), I ((((growth_keep a 1 (growth_spanOf b 1)).1).Low).Shoots), I ((((growth_keep a 1 (growth_spanOf b 1)).1).Low).Height), I ((((growth_keep a 1 (growth_spanOf b 1)).1).Low).Girth), I ((((growth_keep a 1 (growth_spanOf b 1)).1).High).Age), I ((((growth_keep a 1 (growth_spanOf b 1)).1).High).Shoots), I ((((growth_keep a 1 (growth_spanOf b 1)).1).High).Height), I ((((growth_keep a 1 (growth_spanOf b 1)).1).High).Girth)], .bool ((growth_keep a 1 (growth_spanOf b 1)).2)]))
noncomputable abbrev z59i2 (b : XBox) : Hint := (hC (.agg #[I ((growth_spanOf b 2).Low), I ((growth_spanOf b 2).High)]))
noncomputable abbrev z59i3 (a b : XBox) : Hint := (hC (.tuple #[.agg #[I ((((growth_keep (⟨(((growth_keep a 1 (growth_spanOf b 1)).1).Low), (((growth_keep a 1 (growth_spanOf b 1)).1).High)⟩ : XBox) 2 (growth_spanOf b 2)).1).Low).Age), I ((((growth_keep (⟨(((growth_keep a 1 (growth_spanOf b 1)).1).Low), (((growth_keep a 1 (growth_spanOf b 1)).1).High)⟩ : XBox) 2 (growth_spanOf b 2)).1).Low).Shoots), I ((((growth_keep (⟨(((growth_keep a 1 (growth_spanOf b 1)).1).Low), (((growth_keep a 1 (growth_spanOf b 1)).1).High)⟩ : XBox) 2 (growth_spanOf b 2)).1).Low).Height), I ((((growth_keep (⟨(((growth_keep a 1 (growth_spanOf b 1)).1).Low), (((growth_keep a 1 (growth_spanOf b 1)).1).High)⟩ : XBox) 2 (growth_spanOf b 2)).1).Low).Girth), I ((((growth_keep (⟨(((growth_keep a 1 (growth_spanOf b 1)).1).Low), (((growth_keep a 1 (growth_spanOf b 1)).1).High)⟩ : XBox) 2 (growth_spanOf b 2)).1).High).Age), I ((((growth_keep (⟨(((growth_keep a 1 (growth_spanOf b 1)).1).Low), (((growth_keep a 1 (growth_spanOf b 1)).1).High)⟩ : XBox) 2 (growth_spanOf b 2)).1).High).Shoots), I ((((growth_keep (⟨(((growth_keep a 1 (growth_spanOf b 1)).1).Low), (((growth_keep a 1 (growth_spanOf b 1)).1).High)⟩ : XBox) 2 (growth_spanOf b 2)).1).High).Height), I ((((growth_keep (⟨(((growth_keep a 1 (growth_spanOf b 1)).1).Low), (((growth_keep a 1 (growth_spanOf b 1)).1).High)⟩ : XBox) 2 (growth_spanOf b 2)).1).High).Girth)], .bool ((growth_keep (⟨(((growth_keep a 1 (growth_spanOf b 1)).1).Low), (((growth_keep a 1 (growth_spanOf b 1)).1).High)⟩ : XBox) 2 (growth_spanOf b 2)).2)]))
noncomputable abbrev z59i4 (b : XBox) : Hint := (hC (.agg #[I ((growth_spanOf b 3).Low), I ((growth_spanOf b 3).High)]))
noncomputable abbrev z59i5 (a b : XBox) : Hint := (hC (.tuple #[.agg #[I ((((growth_keep (⟨(((growth_keep (⟨(((growth_keep a 1 (growth_spanOf b 1)).1).Low), (((growth_keep a 1 (growth_spanOf b 1)).1).High)⟩ : XBox) 2 (growth_spanOf b 2)).1).Low), (((growth_keep (⟨(((growth_keep a 1 (growth_spanOf b 1)).1).Low), (((growth_keep a 1 (growth_spanOf b 1)).1).High)⟩ : XBox) 2 (growth_spanOf b 2)).1).High)⟩ : XBox) 3 (growth_spanOf b 3)).1).Low).Age), I ((((growth_keep (⟨(((growth_keep (⟨(((growth_keep a 1 (growth_spanOf b 1)).1).Low), (((growth_keep a 1 (growth_spanOf b 1)).1).High)⟩ : XBox) 2 (growth_spanOf b 2)).1).Low), (((growth_keep (⟨(((growth_keep a 1 (growth_spanOf b 1)).1).Low), (((growth_keep a 1 (growth_spanOf b 1)).1).High)⟩ : XBox) 2 (growth_spanOf b 2)).1).High)⟩ : XBox) 3 (growth_spanOf b 3)).1).Low).Shoots), I ((((growth_keep (⟨(((growth_keep (⟨(((growth_keep a 1 (growth_spanOf b 1)).1).Low), (((growth_keep a 1 (growth_spanOf b 1)).1).High)⟩ : XBox) 2 (growth_spanOf b 2)).1).Low), (((growth_keep (⟨(((growth_keep a 1 (growth_spanOf b 1)).1).Low), (((growth_keep a 1 (growth_spanOf b 1)).1).High)⟩ : XBox) 2 (growth_spanOf b 2)).1).High)⟩ : XBox) 3 (growth_spanOf b 3)).1).Low).Height), I ((((growth_keep (⟨(((growth_keep (⟨(((growth_keep a 1 (growth_spanOf b 1)).1).Low), (((growth_keep a 1 (growth_spanOf b 1)).1).High)⟩ : XBox) 2 (growth_spanOf b 2)).1).Low), (((growth_keep (⟨(((growth_keep a 1 (growth_spanOf b 1)).1).Low), (((growth_keep a 1 (growth_spanOf b 1)).1).High)⟩ : XBox) 2 (growth_spanOf b 2)).1).High)⟩ : XBox) 3 (growth_spanOf b 3)).1).Low).Girth), I ((((growth_keep (⟨(((growth_keep (⟨(((growth_keep a 1 (growth_spanOf b 1)).1).Low), (((growth_keep a 1 (growth_spanOf b 1)).1).High)⟩ : XBox) 2 (growth_spanOf b 2)).1).Low), (((growth_keep (⟨(((growth_keep a 1 (growth_spanOf b 1)).1).Low), (((growth_keep a 1 (growth_spanOf b 1)).1).High)⟩ : XBox) 2 (growth_spanOf b 2)).1).High)⟩ : XBox) 3 (growth_spanOf b 3)).1).High).Age), I ((((growth_keep (⟨(((growth_keep (⟨(((growth_keep a 1 (growth_spanOf b 1)).1).Low), (((growth_keep a 1 (growth_spanOf b 1)).1).High)⟩ : XBox) 2 (growth_spanOf b 2)).1).Low), (((growth_keep (⟨(((growth_keep a 1 (growth_spanOf b 1)).1).Low), (((growth_keep a 1 (growth_spanOf b 1)).1).High)⟩ : XBox) 2 (growth_spanOf b 2)).1).High)⟩ : XBox) 3 (growth_spanOf b 3)).1).High).Shoots), I ((((growth_keep (⟨(((growth_keep (⟨(((growth_keep a 1 (growth_spanOf b 1)).1).Low), (((growth_keep a 1 (growth_spanOf b 1)).1).High)⟩ : XBox) 2 (growth_spanOf b 2)).1).Low), (((growth_keep (⟨(((growth_keep a 1 (growth_spanOf b 1)).1).Low), (((growth_keep a 1 (growth_spanOf b 1)).1).High)⟩ : XBox) 2 (growth_spanOf b 2)).1).High)⟩ : XBox) 3 (growth_spanOf b 3)).1).High).Height), I ((((growth_keep (⟨(((growth_keep (⟨(((growth_keep a 1 (growth_spanOf b 1)).1).Low), (((growth_keep a 1 (growth_spanOf b 1)).1).High)⟩ : XBox) 2 (growth_spanOf b 2)).1).Low), (((growth_keep (⟨(((growth_keep a 1 (growth_spanOf b 1)).1).Low), (((growth_keep a 1 (growth_spanOf b 1)).1).High)⟩ : XBox) 2 (growth_spanOf b 2)).1).High)⟩ : XBox) 3 (growth_spanOf b 3)).1).High).Girth)], .bool ((growth_keep (⟨(((growth_keep (⟨(((growth_keep a 1 (growth_spanOf b 1)).1).Low), (((growth_keep a 1 (growth_spanOf b 1)).1).High)⟩ : XBox) 2 (growth_spanOf b 2)).1).Low), (((growth_keep (⟨(((growth_keep a 1 (growth_spanOf b 1)).1).Low), (((growth_keep a 1 (growth_spanOf b 1)).1).High)⟩ : XBox) 2 (growth_spanOf b 2)).1).High)⟩ : XBox) 3 (growth_spanOf b 3)).2)]))
theorem z59p6 (a b : XBox) : FC P GG 103 (A_growth_keep (⟨(((growth_keep a 1 (growth_spanOf b 1)).1).Low), (((growth_keep a 1 (growth_spanOf b 1)).1).High)⟩ : XBox) 2 (growth_spanOf b 2)) [] (.tuple #[.agg #[I ((((growth_keep (⟨(((growth_keep a 1 (growth_spanOf b 1)).1).Low), (((growth_keep a 1 (growth_spanOf b 1)).1).High)⟩ : XBox) 2 (growth_spanOf b 2)).1).Low).Age), I ((((growth_keep (⟨(((growth_keep a 1 (growth_spanOf b 1)).1).Low), (((growth_keep a 1 (growth_spanOf b 1)).1).High)⟩ : XBox) 2 (growth_spanOf b 2)).1).Low).Shoots), I ((((growth_keep (⟨(((growth_keep a 1 (growth_spanOf b 1)).1).Low), (((growth_keep a 1 (growth_spanOf b 1)).1).High)⟩ : XBox) 2 (growth_spanOf b 2)).1).Low).Height), I ((((growth_keep (⟨(((growth_keep a 1 (growth_spanOf b 1)).1).Low), (((growth_keep a 1 (growth_spanOf b 1)).1).High)⟩ : XBox) 2 (growth_spanOf b 2)).1).Low).Girth), I ((((growth_keep (⟨(((growth_keep a 1 (growth_spanOf b 1)).1).Low), (((growth_keep a 1 (growth_spanOf b 1)).1).High)⟩ : XBox) 2 (growth_spanOf b 2)).1).High).Age), I ((((growth_keep (⟨(((growth_keep a 1 (growth_spanOf b 1)).1).Low), (((growth_keep a 1 (growth_spanOf b 1)).1).High)⟩ : XBox) 2 (growth_spanOf b 2)).1).High).Shoots), I ((((growth_keep (⟨(((growth_keep a 1 (growth_spanOf b 1)).1).Low), (((growth_keep a 1 (growth_spanOf b 1)).1).High)⟩ : XBox) 2 (growth_spanOf b 2)).1).High).Height), I ((((growth_keep (⟨(((growth_keep a 1 (growth_spanOf b 1)).1).Low), (((growth_keep a 1 (growth_spanOf b 1)).1).High)⟩ : XBox) 2 (growth_spanOf b 2)).1).High).Girth)], .bool ((growth_keep (⟨(((growth_keep a 1 (growth_spanOf b 1)).1).Low), (((growth_keep a 1 (growth_spanOf b 1)).1).High)⟩ : XBox) 2 (growth_spanOf b 2)).2)]) := growth_keep_fc (⟨(((growth_keep a 1 (growth_spanOf b 1)).1).Low), (((growth_keep a 1 (growth_spanOf b 1)).1).High)⟩ : XBox) 2 (growth_spanOf b 2)
theorem z59p7 (a b : XBox) : FC P GG 103 (A_growth_keep (⟨(((growth_keep (⟨(((growth_keep a 1 (growth_spanOf b 1)).1).Low), (((growth_keep a 1 (growth_spanOf b 1)).1).High)⟩ : XBox) 2 (growth_spanOf b 2)).1).Low), (((growth_keep (⟨(((growth_keep a 1 (growth_spanOf b 1)).1).Low), (((growth_keep a 1 (growth_spanOf b 1)).1).High)⟩ : XBox) 2 (growth_spanOf b 2)).1).High)⟩ : XBox) 3 (growth_spanOf b 3)) [] (.tuple #[.agg #[I ((((growth_keep (⟨(((growth_keep (⟨(((growth_keep a 1 (growth_spanOf b 1)).1).Low), (((growth_keep a 1 (growth_spanOf b 1)).1).High)⟩ : XBox) 2 (growth_spanOf b 2)).1).Low), (((growth_keep (⟨(((growth_keep a 1 (growth_spanOf b 1)).1).Low), (((growth_keep a 1 (growth_spanOf b 1)).1).High)⟩ : XBox) 2 (growth_spanOf b 2)).1).High)⟩ : XBox) 3 (growth_spanOf b 3)).1).Low).Age), I ((((growth_keep (⟨(((growth_keep (⟨(((growth_keep a 1 (growth_spanOf b 1)).1).Low), (((growth_keep a 1 (growth_spanOf b 1)).1).High)⟩ : XBox) 2 (growth_spanOf b 2)).1).Low), (((growth_keep (⟨(((growth_keep a 1 (growth_spanOf b 1)).1).Low), (((growth_keep a 1 (growth_spanOf b 1)).1).High)⟩ : XBox) 2 (growth_spanOf b 2)).1).High)⟩ : XBox) 3 (growth_spanOf b 3)).1).Low).Shoots), I ((((growth_keep (⟨(((growth_keep (⟨(((growth_keep a 1 (growth_spanOf b 1)).1).Low), (((growth_keep a 1 (growth_spanOf b 1)).1).High)⟩ : XBox) 2 (growth_spanOf b 2)).1).Low), (((growth_keep (⟨(((growth_keep a 1 (growth_spanOf b 1)).1).Low), (((growth_keep a 1 (growth_spanOf b 1)).1).High)⟩ : XBox) 2 (growth_spanOf b 2)).1).High)⟩ : XBox) 3 (growth_spanOf b 3)).1).Low).Height), I ((((growth_keep (⟨(((growth_keep (⟨(((growth_keep a 1 (growth_spanOf b 1)).1).Low), (((growth_keep a 1 (growth_spanOf b 1)).1).High)⟩ : XBox) 2 (growth_spanOf b 2)).1).Low), (((growth_keep (⟨(((growth_keep a 1 (growth_spanOf b 1)).1).Low), (((growth_keep a 1 (growth_spanOf b 1)).1).High)⟩ : XBox) 2 (growth_spanOf b 2)).1).High)⟩ : XBox) 3 (growth_spanOf b 3)).1).Low).Girth), I ((((growth_keep (⟨(((growth_keep (⟨(((growth_keep a 1 (growth_spanOf b 1)).1).Low), (((growth_keep a 1 (growth_spanOf b 1)).1).High)⟩ : XBox) 2 (growth_spanOf b 2)).1).Low), (((growth_keep (⟨(((growth_keep a 1 (growth_spanOf b 1)).1).Low), (((growth_keep a 1 (growth_spanOf b 1)).1).High)⟩ : XBox) 2 (growth_spanOf b 2)).1).High)⟩ : XBox) 3 (growth_spanOf b 3)).1).High).Age), I ((((growth_keep (⟨(((growth_keep (⟨(((growth_keep a 1 (growth_spanOf b 1)).1).Low), (((growth_keep a 1 (growth_spanOf b 1)).1).High)⟩ : XBox) 2 (growth_spanOf b 2)).1).Low), (((growth_keep (⟨(((growth_keep a 1 (growth_spanOf b 1)).1).Low), (((growth_keep a 1 (growth_spanOf b 1)).1).High)⟩ : XBox) 2 (growth_spanOf b 2)).1).High)⟩ : XBox) 3 (growth_spanOf b 3)).1).High).Shoots), I ((((growth_keep (⟨(((growth_keep (⟨(((growth_keep a 1 (growth_spanOf b 1)).1).Low), (((growth_keep a 1 (growth_spanOf b 1)).1).High)⟩ : XBox) 2 (growth_spanOf b 2)).1).Low), (((growth_keep (⟨(((growth_keep a 1 (growth_spanOf b 1)).1).Low), (((growth_keep a 1 (growth_spanOf b 1)).1).High)⟩ : XBox) 2 (growth_spanOf b 2)).1).High)⟩ : XBox) 3 (growth_spanOf b 3)).1).High).Height), I ((((growth_keep (⟨(((growth_keep (⟨(((growth_keep a 1 (growth_spanOf b 1)).1).Low), (((growth_keep a 1 (growth_spanOf b 1)).1).High)⟩ : XBox) 2 (growth_spanOf b 2)).1).Low), (((growth_keep (⟨(((growth_keep a 1 (growth_spanOf b 1)).1).Low), (((growth_keep a 1 (growth_spanOf b 1)).1).High)⟩ : XBox) 2 (growth_spanOf b 2)).1).High)⟩ : XBox) 3 (growth_spanOf b 3)).1).High).Girth)], .bool ((growth_keep (⟨(((growth_keep (⟨(((growth_keep a 1 (growth_spanOf b 1)).1).Low), (((growth_keep a 1 (growth_spanOf b 1)).1).High)⟩ : XBox) 2 (growth_spanOf b 2)).1).Low), (((growth_keep (⟨(((growth_keep a 1 (growth_spanOf b 1)).1).Low), (((growth_keep a 1 (growth_spanOf b 1)).1).High)⟩ : XBox) 2 (growth_spanOf b 2)).1).High)⟩ : XBox) 3 (growth_spanOf b 3)).2)]) := growth_keep_fc (⟨(((growth_keep (⟨(((growth_keep a 1 (growth_spanOf b 1)).1).Low), (((growth_keep a 1 (growth_spanOf b 1)).1).High)⟩ : XBox) 2 (growth_spanOf b 2)).1).Low), (((growth_keep (⟨(((growth_keep a 1 (growth_spanOf b 1)).1).Low), (((growth_keep a 1 (growth_spanOf b 1)).1).High)⟩ : XBox) 2 (growth_spanOf b 2)).1).High)⟩ : XBox) 3 (growth_spanOf b 3)
abbrev A_growth_common (a b : XBox) : List Value := [.agg #[I (a.Low.Age), I (a.Low.Shoots), I (a.Low.Height), I (a.Low.Girth), I (a.High.Age), I (a.High.Shoots), I (a.High.Height), I (a.High.Girth)], .agg #[I (b.Low.Age), I (b.Low.Shoots), I (b.Low.Height), I (b.Low.Girth), I (b.High.Age), I (b.High.Shoots), I (b.High.Height), I (b.High.Girth)]]
noncomputable def growth_common (a b : XBox) : XBox × Bool :=
  bif a.Low.Age == b.Low.Age then (bif (growth_keep a 1 (growth_spanOf b 1)).2 then (bif (growth_keep (⟨(((growth_keep a 1 (growth_spanOf b 1)).1).Low), (((growth_keep a 1 (growth_spanOf b 1)).1).High)⟩ : XBox) 2 (growth_spanOf b 2)).2 then (bif (growth_keep (⟨(((growth_keep (⟨(((growth_keep a 1 (growth_spanOf b 1)).1).Low), (((growth_keep a 1 (growth_spanOf b 1)).1).High)⟩ : XBox) 2 (growth_spanOf b 2)).1).Low), (((growth_keep (⟨(((growth_keep a 1 (growth_spanOf b 1)).1).Low), (((growth_keep a 1 (growth_spanOf b 1)).1).High)⟩ : XBox) 2 (growth_spanOf b 2)).1).High)⟩ : XBox) 3 (growth_spanOf b 3)).2 then ((⟨(((growth_keep (⟨(((growth_keep (⟨(((growth_keep a 1 (growth_spanOf b 1)).1).Low), (((growth_keep a 1 (growth_spanOf b 1)).1).High)⟩ : XBox) 2 (growth_spanOf b 2)).1).Low), (((growth_keep (⟨(((growth_keep a 1 (growth_spanOf b 1)).1).Low), (((growth_keep a 1 (growth_spanOf b 1)).1).High)⟩ : XBox) 2 (growth_spanOf b 2)).1).High)⟩ : XBox) 3 (growth_spanOf b 3)).1).Low), (((growth_keep (⟨(((growth_keep (⟨(((growth_keep a 1 (growth_spanOf b 1)).1).Low), (((growth_keep a 1 (growth_spanOf b 1)).1).High)⟩ : XBox) 2 (growth_spanOf b 2)).1).Low), (((growth_keep (⟨(((growth_keep a 1 (growth_spanOf b 1)).1).Low), (((growth_keep a 1 (growth_spanOf b 1)).1).High)⟩ : XBox) 2 (growth_spanOf b 2)).1).High)⟩ : XBox) 3 (growth_spanOf b 3)).1).High)⟩ : XBox), true)
        else ((⟨(((growth_keep (⟨(((growth_keep (⟨(((growth_keep a 1 (growth_spanOf b 1)).1).Low), (((growth_keep a 1 (growth_spanOf b 1)).1).High)⟩ : XBox) 2 (growth_spanOf b 2)).1).Low), (((growth_keep (⟨(((growth_keep a 1 (growth_spanOf b 1)).1).Low), (((growth_keep a 1 (growth_spanOf b 1)).1).High)⟩ : XBox) 2 (growth_spanOf b 2)).1).High)⟩ : XBox) 3 (growth_spanOf b 3)).1).Low), (((growth_keep (⟨(((growth_keep (⟨(((growth_keep a 1 (growth_spanOf b 1)).1).Low), (((growth_keep a 1 (growth_spanOf b 1)).1).High)⟩ : XBox) 2 (growth_spanOf b 2)).1).Low), (((growth_keep (⟨(((growth_keep a 1 (growth_spanOf b 1)).1).Low), (((growth_keep a 1 (growth_spanOf b 1)).1).High)⟩ : XBox) 2 (growth_spanOf b 2)).1).High)⟩ : XBox) 3 (growth_spanOf b 3)).1).High)⟩ : XBox), false))
      else ((⟨(⟨0, 0, 0, 0⟩ : XStand), (⟨0, 0, 0, 0⟩ : XStand)⟩ : XBox), false))
    else ((⟨(⟨0, 0, 0, 0⟩ : XStand), (⟨0, 0, 0, 0⟩ : XStand)⟩ : XBox), false))
  else ((⟨(⟨0, 0, 0, 0⟩ : XStand), (⟨0, 0, 0, 0⟩ : XStand)⟩ : XBox), false)
theorem growth_common_fc (a b : XBox) : FC P GG 69 (A_growth_common a b) [] (.tuple #[.agg #[I ((((growth_common a b).1).Low).Age), I ((((growth_common a b).1).Low).Shoots), I ((((growth_common a b).1).Low).Height), I ((((growth_common a b).1).Low).Girth), I ((((growth_common a b).1).High).Age), I ((((growth_common a b).1).High).Shoots), I ((((growth_common a b).1).High).Height), I ((((growth_common a b).1).High).Girth)], .bool ((growth_common a b).2)]) := by
  refine FC.of_fsat 35 100 Tryd.func69 (by kernel_rfl) (by kernel_rfl) (by kernel_rfl) trivial ?_
  rcases bb (a.Low.Age == b.Low.Age) with h1 | h1
  ·rcases bb ((growth_keep a 1 (growth_spanOf b 1)).2) with h2 | h2
   ·rcases bb ((growth_keep (⟨(((growth_keep a 1 (growth_spanOf b 1)).1).Low), (((growth_keep a 1 (growth_spanOf b 1)).1).High)⟩ : XBox) 2 (growth_spanOf b 2)).2) with h3 | h3
    ·rcases bb ((growth_keep (⟨(((growth_keep (⟨(((growth_keep a 1 (growth_spanOf b 1)).1).Low), (((growth_keep a 1 (growth_spanOf b 1)).1).High)⟩ : XBox) 2 (growth_spanOf b 2)).1).Low), (((growth_keep (⟨(((growth_keep a 1 (growth_spanOf b 1)).1).Low), (((growth_keep a 1 (growth_spanOf b 1)).1).High)⟩ : XBox) 2 (growth_spanOf b 2)).1).High)⟩ : XBox) 3 (growth_spanOf b 3)).2) with h4 | h4
     ·have e : growth_common a b = ((⟨(((growth_keep (⟨(((growth_keep (⟨(((growth_keep a 1 (growth_spanOf b 1)).1).Low), (((growth_keep a 1 (growth_spanOf b 1)).1).High)⟩ : XBox) 2 (growth_spanOf b 2)).1).Low), (((growth_keep (⟨(((growth_keep a 1 (growth_spanOf b 1)).1).Low), (((growth_keep a 1 (growth_spanOf b 1)).1).High)⟩ : XBox) 2 (growth_spanOf b 2)).1).High)⟩ : XBox) 3 (growth_spanOf b 3)).1).Low), (((growth_keep (⟨(((growth_keep (⟨(((growth_keep a 1 (growth_spanOf b 1)).1).Low), (((growth_keep a 1 (growth_spanOf b 1)).1).High)⟩ : XBox) 2 (growth_spanOf b 2)).1).Low), (((growth_keep (⟨(((growth_keep a 1 (growth_spanOf b 1)).1).Low), (((growth_keep a 1 (growth_spanOf b 1)).1).High)⟩ : XBox) 2 (growth_spanOf b 2)).1).High)⟩ : XBox) 3 (growth_spanOf b 3)).1).High)⟩ : XBox), true) := by unfold growth_common; rw [h1, cT, h2, cT, h3, cT, h4, cT]; first | done | rfl
      rw [e]
      exact FSat.d pfT 77 (hR 10 (hT :: (hR 12 ((z59i0 b) :: (z59i1 a b) :: hE :: hE :: hT :: (hR 13 ((z59i2 b) :: (z59i3 a b) :: hE :: hE :: hT :: (hR 13 ((z59i4 b) :: (z59i5 a b) :: hE :: hE :: hT :: (hR 9 []))))))))) [.go, .go, .go, .go] (pc h1 <| pc (growth_spanOf_fc b 1) <| pc (growth_keep_fc a 1 (growth_spanOf b 1)) <| pc h2 <| pc h2 <| pt ((.bool (true) : Value) = .bool (true)) rfl <| pc (growth_spanOf_fc b 2) <| pc (z59p6 a b) <| pc h3 <| pc h3 <| pt ((.bool (true) : Value) = .bool (true)) rfl <| pc (growth_spanOf_fc b 3) <| pc (z59p7 a b) <| pc h4 <| pc h4 <| pt ((.bool (true) : Value) = .bool (true)) rfl <| pn) (by kernel_rfl) (by kernel_rfl)
     ·have e : growth_common a b = ((⟨(((growth_keep (⟨(((growth_keep (⟨(((growth_keep a 1 (growth_spanOf b 1)).1).Low), (((growth_keep a 1 (growth_spanOf b 1)).1).High)⟩ : XBox) 2 (growth_spanOf b 2)).1).Low), (((growth_keep (⟨(((growth_keep a 1 (growth_spanOf b 1)).1).Low), (((growth_keep a 1 (growth_spanOf b 1)).1).High)⟩ : XBox) 2 (growth_spanOf b 2)).1).High)⟩ : XBox) 3 (growth_spanOf b 3)).1).Low), (((growth_keep (⟨(((growth_keep (⟨(((growth_keep a 1 (growth_spanOf b 1)).1).Low), (((growth_keep a 1 (growth_spanOf b 1)).1).High)⟩ : XBox) 2 (growth_spanOf b 2)).1).Low), (((growth_keep (⟨(((growth_keep a 1 (growth_spanOf b 1)).1).Low), (((growth_keep a 1 (growth_spanOf b 1)).1).High)⟩ : XBox) 2 (growth_spanOf b 2)).1).High)⟩ : XBox) 3 (growth_spanOf b 3)).1).High)⟩ : XBox), false) := by unfold growth_common; rw [h1, cT, h2, cT, h3, cT, h4, cF]; first | done | rfl
      rw [e]
      exact FSat.d pfT 77 (hR 10 (hT :: (hR 12 ((z59i0 b) :: (z59i1 a b) :: hE :: hE :: hT :: (hR 13 ((z59i2 b) :: (z59i3 a b) :: hE :: hE :: hT :: (hR 13 ((z59i4 b) :: (z59i5 a b) :: hE :: hE :: hF :: (hR 9 []))))))))) [.go, .go, .go, .go] (pc h1 <| pc (growth_spanOf_fc b 1) <| pc (growth_keep_fc a 1 (growth_spanOf b 1)) <| pc h2 <| pc h2 <| pt ((.bool (true) : Value) = .bool (true)) rfl <| pc (growth_spanOf_fc b 2) <| pc (z59p6 a b) <| pc h3 <| pc h3 <| pt ((.bool (true) : Value) = .bool (true)) rfl <| pc (growth_spanOf_fc b 3) <| pc (z59p7 a b) <| pc h4 <| pc h4 <| pt ((.bool (false) : Value) = .bool (false)) rfl <| pn) (by kernel_rfl) (by kernel_rfl)
    ·have e : growth_common a b = ((⟨(⟨0, 0, 0, 0⟩ : XStand), (⟨0, 0, 0, 0⟩ : XStand)⟩ : XBox), false) := by unfold growth_common; rw [h1, cT, h2, cT, h3, cF]; first | done | rfl
     rw [e]
     exact FSat.d pfT 67 (hR 10 (hT :: (hR 12 ((z59i0 b) :: (z59i1 a b) :: hE :: hE :: hT :: (hR 13 ((z59i2 b) :: (z59i3 a b) :: hE :: hE :: hF :: (hR 12 []))))))) [.go, .go, .go] (pc h1 <| pc (growth_spanOf_fc b 1) <| pc (growth_keep_fc a 1 (growth_spanOf b 1)) <| pc h2 <| pc h2 <| pt ((.bool (true) : Value) = .bool (true)) rfl <| pc (growth_spanOf_fc b 2) <| pc (z59p6 a b) <| pc h3 <| pc h3 <| pt ((.bool (false) : Value) = .bool (false)) rfl <| pn) (by kernel_rfl) (by kernel_rfl)
   ·have e : growth_common a b = ((⟨(⟨0, 0, 0, 0⟩ : XStand), (⟨0, 0, 0, 0⟩ : XStand)⟩ : XBox), false) := by unfold growth_common; rw [h1, cT, h2, cF]; first | done | rfl
    rw [e]
    exact FSat.d pfT 49 (hR 10 (hT :: (hR 12 ((z59i0 b) :: (z59i1 a b) :: hE :: hE :: hF :: (hR 12 []))))) [.go, .go] (pc h1 <| pc (growth_spanOf_fc b 1) <| pc (growth_keep_fc a 1 (growth_spanOf b 1)) <| pc h2 <| pc h2 <| pt ((.bool (false) : Value) = .bool (false)) rfl <| pn) (by kernel_rfl) (by kernel_rfl)
  ·have e : growth_common a b = ((⟨(⟨0, 0, 0, 0⟩ : XStand), (⟨0, 0, 0, 0⟩ : XStand)⟩ : XBox), false) := by unfold growth_common; rw [h1, cF]; first | done | rfl
   rw [e]
   exact FSat.d pfT 31 (hR 10 (hF :: (hR 11 []))) [.go] (pc h1 <| pn) (by kernel_rfl) (by kernel_rfl)

/- greenhew/growth.Inside -/
noncomputable abbrev z58i0 (b : XBox) (x_1 : XStand) : Hint := (hC (.tuple #[.agg #[I ((((growth_common b (⟨x_1, x_1⟩ : XBox)).1).Low).Age), I ((((growth_common b (⟨x_1, x_1⟩ : XBox)).1).Low).Shoots), I ((((growth_common b (⟨x_1, x_1⟩ : XBox)).1).Low).Height), I ((((growth_common b (⟨x_1, x_1⟩ : XBox)).1).Low).Girth), I ((((growth_common b (⟨x_1, x_1⟩ : XBox)).1).High).Age), I ((((growth_common b (⟨x_1, x_1⟩ : XBox)).1).High).Shoots), I ((((growth_common b (⟨x_1, x_1⟩ : XBox)).1).High).Height), I ((((growth_common b (⟨x_1, x_1⟩ : XBox)).1).High).Girth)], .bool ((growth_common b (⟨x_1, x_1⟩ : XBox)).2)]))
abbrev A_growth_Inside (b : XBox) (x_1 : XStand) : List Value := [.agg #[I (b.Low.Age), I (b.Low.Shoots), I (b.Low.Height), I (b.Low.Girth), I (b.High.Age), I (b.High.Shoots), I (b.High.Height), I (b.High.Girth)], .agg #[I (x_1.Age), I (x_1.Shoots), I (x_1.Height), I (x_1.Girth)]]
noncomputable def growth_Inside (b : XBox) (x_1 : XStand) : Bool :=
  bif growth_boxIsDefined b then (bif growth_standIsDefined x_1 then (growth_common b (⟨x_1, x_1⟩ : XBox)).2
    else false)
  else false
theorem growth_Inside_fc (b : XBox) (x_1 : XStand) : FC P GG 27 (A_growth_Inside b x_1) [] (.bool (growth_Inside b x_1)) := by
  refine FC.of_fsat 24 100 Tryd.func27 (by kernel_rfl) (by kernel_rfl) (by kernel_rfl) trivial ?_
  rcases bb (growth_boxIsDefined b) with h1 | h1
  ·rcases bb (growth_standIsDefined x_1) with h2 | h2
   ·have e : growth_Inside b x_1 = (growth_common b (⟨x_1, x_1⟩ : XBox)).2 := by unfold growth_Inside; rw [h1, cT, h2, cT]; first | done | rfl
    rw [e]
    exact FSat.d pfT 17 (hR 4 ((hB (hC (.bool (growth_boxIsDefined b))) true) :: hE :: hE :: hE :: (hB (hC (.bool (growth_standIsDefined x_1))) true) :: (hR 6 ((z58i0 b x_1) :: (hR 8 []))))) [] (pc (growth_boxIsDefined_fc b) <| pc h1 <| pc (growth_standIsDefined_fc x_1) <| pc h2 <| pc (growth_common_fc b (⟨x_1, x_1⟩ : XBox)) <| pn) (by kernel_rfl) (by kernel_rfl)
   ·have e : growth_Inside b x_1 = false := by unfold growth_Inside; rw [h1, cT, h2, cF]; first | done | rfl
    rw [e]
    exact FSat.d pfT 14 (hR 4 [(hB (hC (.bool (growth_boxIsDefined b))) true), hE, hE, hE, (hB (hC (.bool (growth_standIsDefined x_1))) false), hE, hE, hE]) [] (pc (growth_boxIsDefined_fc b) <| pc h1 <| pc (growth_standIsDefined_fc x_1) <| pc h2 <| pn) (by kernel_rfl) (by kernel_rfl)
  ·have e : growth_Inside b x_1 = false := by unfold growth_Inside; rw [h1, cF]; first | done | rfl
   rw [e]
   exact FSat.d pfT 14 (hR 4 ((hB (hC (.bool (growth_boxIsDefined b))) false) :: (hR 4 []))) [] (pc (growth_boxIsDefined_fc b) <| pc h1 <| pn) (by kernel_rfl) (by kernel_rfl)



end Go.Proofs.G2
