/- Contracts of the functions that the law runs, part 3: made by a program, checked by the kernel. No conditions. -/
import Derived.Test.YtfgdbanigkfjlaaDoorGb
namespace Go.Proofs.G2
open Go.Sim Go.Proofs
set_option maxRecDepth 20000
set_option maxHeartbeats 1000000
noncomputable def sg9H (_fu : Nat) (s : XSpecies) (q10 : Nat) (q11 : Nat) (q12 : Nat) (q13 : Nat) (p0 : XBox) (p1 : XBox) (p2 : XSeason) (_p3 : Nat) : List Hint := (hR 14 ((hM (.agg #[I (p0.Low.Age), I (p0.Low.Shoots), I (p0.Low.Height), I (p0.Low.Girth), I (p0.High.Age), I (p0.High.Shoots), I (p0.High.Height), I (p0.High.Girth)]) (.agg #[I (p0.Low.Age), I (p0.Low.Shoots), I (p0.Low.Height), I (p0.Low.Girth), I (p0.High.Age), I (p0.High.Shoots), I (p0.High.Height), I (p0.High.Girth)]) (A_ref02_Step s p1 p2 q10 q11 q12 q13) (K_ref02_Step s) [(10, 10, 0), (11, 11, 0), (12, 12, 0), (13, 13, 0)]) :: (hR 6 [])))
def sg9R (_fu : Nat) (s : XSpecies) (q10 : Nat) (q11 : Nat) (q12 : Nat) (q13 : Nat) (p0 : XBox) (p1 : XBox) (p2 : XSeason) (p3 : Nat) : List Prop := [FC P GG 33 (A_ref02_Step s p1 p2 q10 q11 q12 q13) (K_ref02_Step s) (.agg #[I (p0.Low.Age), I (p0.Low.Shoots), I (p0.Low.Height), I (p0.Low.Girth), I (p0.High.Age), I (p0.High.Shoots), I (p0.High.Height), I (p0.High.Girth)]), VRs (Ren.emb [(10, 10, 0), (11, 11, 0), (12, 12, 0), (13, 13, 0)]) (A_ref02_Step s p1 p2 q10 q11 q12 q13) [.agg #[.slice (some ⟨10, 0, none⟩) (s.Rise.length) (q10), .slice (some ⟨11, 0, none⟩) (s.Thick.length) (q11), I (s.Top), I (s.Stout), I (s.Shade), I (s.Reach), .slice (some ⟨12, 0, none⟩) (s.Ladder.length) (q12), .slice (some ⟨13, 0, none⟩) (s.Sprouts.length) (q13)], .agg #[I (p1.Low.Age), I (p1.Low.Shoots), I (p1.Low.Height), I (p1.Low.Girth), I (p1.High.Age), I (p1.High.Shoots), I (p1.High.Height), I (p1.High.Girth)], .agg #[I (p2.Light.Low), I (p2.Light.High), I (p2.Browse.Low), I (p2.Browse.High), I (p2.Mild.Low), I (p2.Mild.High), .bool (p2.Cut)]], MemAt (Ren.emb [(10, 10, 0), (11, 11, 0), (12, 12, 0), (13, 13, 0)]) (encL cInt s.Rise) 0 (encL cInt s.Rise) ∧ MemAt (Ren.emb [(10, 10, 0), (11, 11, 0), (12, 12, 0), (13, 13, 0)]) (encL cInt s.Thick) 0 (encL cInt s.Thick) ∧ MemAt (Ren.emb [(10, 10, 0), (11, 11, 0), (12, 12, 0), (13, 13, 0)]) (encL cXRung s.Ladder) 0 (encL cXRung s.Ladder) ∧ MemAt (Ren.emb [(10, 10, 0), (11, 11, 0), (12, 12, 0), (13, 13, 0)]) (encL cXSpan s.Sprouts) 0 (encL cXSpan s.Sprouts) ∧ True, VR (Ren.emb [(10, 10, 0), (11, 11, 0), (12, 12, 0), (13, 13, 0)]) (.agg #[I (p0.Low.Age), I (p0.Low.Shoots), I (p0.Low.Height), I (p0.Low.Girth), I (p0.High.Age), I (p0.High.Shoots), I (p0.High.Height), I (p0.High.Girth)]) (.agg #[I (p0.Low.Age), I (p0.Low.Shoots), I (p0.Low.Height), I (p0.Low.Girth), I (p0.High.Age), I (p0.High.Shoots), I (p0.High.Height), I (p0.High.Girth)]), (.slice (some ⟨p3, 0, none⟩) (9) (9) : Value) = .slice (some ⟨p3, 0, none⟩) (9) (9)]
theorem sg9P (fu : Nat) (s : XSpecies) (q10 : Nat) (q11 : Nat) (q12 : Nat) (q13 : Nat) (p0 : XBox) (p1 : XBox) (p2 : XSeason) (p3 : Nat) (p4 : (ref02_Step fu s p1 p2) = some p0) : All (sg9R fu s q10 q11 q12 q13 p0 p1 p2 p3) := ⟨ref02_Step_fc fu s p1 p2 q10 q11 q12 q13 p0 p4, (.cons _ _ _ _ (.agg _ _ (.cons _ _ _ _ (.slc 10 0 _ _ _ ⟨10, 0, 0, 0⟩ rfl (.inl rfl)) (.cons _ _ _ _ (.slc 11 0 _ _ _ ⟨11, 0, 0, 0⟩ rfl (.inl rfl)) (.cons _ _ _ _ (VR.of_pf rfl) (.cons _ _ _ _ (VR.of_pf rfl) (.cons _ _ _ _ (VR.of_pf rfl) (.cons _ _ _ _ (VR.of_pf rfl) (.cons _ _ _ _ (.slc 12 0 _ _ _ ⟨12, 0, 0, 0⟩ rfl (.inl rfl)) (.cons _ _ _ _ (.slc 13 0 _ _ _ ⟨13, 0, 0, 0⟩ rfl (.inl rfl)) .nil))))))))) (.cons _ _ _ _ (VR.of_pf rfl) (.cons _ _ _ _ (VR.of_pf rfl) .nil))), ⟨MemAt.same _ (encL_pf cInt_pf _), MemAt.same _ (encL_pf cInt_pf _), MemAt.same _ (encL_pf cXRung_pf _), MemAt.same _ (encL_pf cXSpan_pf _), trivial⟩, selfB_self 9 _ rfl _, rfl, trivial⟩
theorem ref02_History_9_ex (fu : Nat) (s : XSpecies) (b : XBox) (l_0 : XSeason) (l_1 : XSeason) (l_2 : XSeason) (l_3 : XSeason) (l_4 : XSeason) (l_5 : XSeason) (l_6 : XSeason) (l_7 : XSeason) (l_8 : XSeason) (q10 q11 q12 q13 q14 : Nat) (x1 : XBox) (x2 : XBox) (x3 : XBox) (x4 : XBox) (x5 : XBox) (x6 : XBox) (x7 : XBox) (x8 : XBox) (x9 : XBox) (h1 : (ref02_Step fu s b l_0) = some x1) (h2 : (ref02_Step fu s x1 l_1) = some x2) (h3 : (ref02_Step fu s x2 l_2) = some x3) (h4 : (ref02_Step fu s x3 l_3) = some x4) (h5 : (ref02_Step fu s x4 l_4) = some x5) (h6 : (ref02_Step fu s x5 l_5) = some x6) (h7 : (ref02_Step fu s x6 l_6) = some x7) (h8 : (ref02_Step fu s x7 l_7) = some x8) (h9 : (ref02_Step fu s x8 l_8) = some x9) : FCN P GG 36 [.agg #[.slice (some ⟨10, 0, none⟩) (s.Rise.length) (q10), .slice (some ⟨11, 0, none⟩) (s.Thick.length) (q11), I (s.Top), I (s.Stout), I (s.Shade), I (s.Reach), .slice (some ⟨12, 0, none⟩) (s.Ladder.length) (q12), .slice (some ⟨13, 0, none⟩) (s.Sprouts.length) (q13)], .agg #[I (b.Low.Age), I (b.Low.Shoots), I (b.Low.Height), I (b.Low.Girth), I (b.High.Age), I (b.High.Shoots), I (b.High.Height), I (b.High.Girth)], .slice (some ⟨14, 0, none⟩) (9) (q14)] [(10, encL cInt s.Rise), (11, encL cInt s.Thick), (12, encL cXRung s.Ladder), (13, encL cXSpan s.Sprouts), (14, encL cXSeason [l_0, l_1, l_2, l_3, l_4, l_5, l_6, l_7, l_8])] (.slice (some ⟨77, 0, none⟩) (10) (10)) 77 (encL cXBox ([b, x1, x2, x3, x4, x5, x6, x7, x8, x9])) 8 :=
  FCN.of_exec pfT 100 60 (b := 120) (v := (.slice (some ⟨120, 0, none⟩) (10) (10))) (hs := (((hR 7 [])) ++ ((sg1H fu s q10 q11 q12 q13 x1 b l_0 102) ++ ((sg2H fu s q10 q11 q12 q13 x2 x1 l_1 104) ++ ((sg3H fu s q10 q11 q12 q13 x3 x2 l_2 106) ++ ((sg4H fu s q10 q11 q12 q13 x4 x3 l_3 108) ++ ((sg5H fu s q10 q11 q12 q13 x5 x4 l_4 110) ++ ((sg6H fu s q10 q11 q12 q13 x6 x5 l_5 112) ++ ((sg7H fu s q10 q11 q12 q13 x7 x6 l_6 114) ++ ((sg8H fu s q10 q11 q12 q13 x8 x7 l_7 116) ++ ((sg9H fu s q10 q11 q12 q13 x9 x8 l_8 118) ++ (((hR 4 [])) ++ [hE, hE])))))))))))) (R := (([]) ++ ((sg1R fu s q10 q11 q12 q13 x1 b l_0 102) ++ ((sg2R fu s q10 q11 q12 q13 x2 x1 l_1 104) ++ ((sg3R fu s q10 q11 q12 q13 x3 x2 l_2 106) ++ ((sg4R fu s q10 q11 q12 q13 x4 x3 l_3 108) ++ ((sg5R fu s q10 q11 q12 q13 x5 x4 l_4 110) ++ ((sg6R fu s q10 q11 q12 q13 x6 x5 l_5 112) ++ ((sg7R fu s q10 q11 q12 q13 x7 x6 l_6 114) ++ ((sg8R fu s q10 q11 q12 q13 x8 x7 l_7 116) ++ ((sg9R fu s q10 q11 q12 q13 x9 x8 l_8 118) ++ (([]) ++ [])))))))))))) (by kernel_rfl) (All.append.2 ⟨trivial, (All.append.2 ⟨sg1P fu s q10 q11 q12 q13 x1 b l_0 102 h1, (All.append.2 ⟨sg2P fu s q10 q11 q12 q13 x2 x1 l_1 104 h2, (All.append.2 ⟨sg3P fu s q10 q11 q12 q13 x3 x2 l_2 106 h3, (All.append.2 ⟨sg4P fu s q10 q11 q12 q13 x4 x3 l_3 108 h4, (All.append.2 ⟨sg5P fu s q10 q11 q12 q13 x5 x4 l_4 110 h5, (All.append.2 ⟨sg6P fu s q10 q11 q12 q13 x6 x5 l_5 112 h6, (All.append.2 ⟨sg7P fu s q10 q11 q12 q13 x7 x6 l_6 114 h7, (All.append.2 ⟨sg8P fu s q10 q11 q12 q13 x8 x7 l_7 116 h8, (All.append.2 ⟨sg9P fu s q10 q11 q12 q13 x9 x8 l_8 118 h9, (All.append.2 ⟨trivial, trivial⟩)⟩)⟩)⟩)⟩)⟩)⟩)⟩)⟩)⟩)⟩) (by kernel_rfl) ⟨PinL.pf (encL_pf cInt_pf _), PinL.pf (encL_pf cInt_pf _), PinL.pf (encL_pf cXRung_pf _), PinL.pf (encL_pf cXSpan_pf _), PinL.pf (encL_pf cXSeason_pf _), trivial⟩ (by kernel_rfl) (by kernel_rfl) (by kernel_rfl) (by kernel_rfl) (.slc 77 0 _ _ _ ⟨120, 0, 0, 0⟩ rfl (.inl rfl))

noncomputable def sg10H (_fu : Nat) (s : XSpecies) (q10 : Nat) (q11 : Nat) (q12 : Nat) (q13 : Nat) (p0 : XBox) (p1 : XBox) (p2 : XSeason) (_p3 : Nat) : List Hint := (hR 14 ((hM (.agg #[I (p0.Low.Age), I (p0.Low.Shoots), I (p0.Low.Height), I (p0.Low.Girth), I (p0.High.Age), I (p0.High.Shoots), I (p0.High.Height), I (p0.High.Girth)]) (.agg #[I (p0.Low.Age), I (p0.Low.Shoots), I (p0.Low.Height), I (p0.Low.Girth), I (p0.High.Age), I (p0.High.Shoots), I (p0.High.Height), I (p0.High.Girth)]) (A_ref02_Step s p1 p2 q10 q11 q12 q13) (K_ref02_Step s) [(10, 10, 0), (11, 11, 0), (12, 12, 0), (13, 13, 0)]) :: (hR 6 [])))
def sg10R (_fu : Nat) (s : XSpecies) (q10 : Nat) (q11 : Nat) (q12 : Nat) (q13 : Nat) (p0 : XBox) (p1 : XBox) (p2 : XSeason) (p3 : Nat) : List Prop := [FC P GG 33 (A_ref02_Step s p1 p2 q10 q11 q12 q13) (K_ref02_Step s) (.agg #[I (p0.Low.Age), I (p0.Low.Shoots), I (p0.Low.Height), I (p0.Low.Girth), I (p0.High.Age), I (p0.High.Shoots), I (p0.High.Height), I (p0.High.Girth)]), VRs (Ren.emb [(10, 10, 0), (11, 11, 0), (12, 12, 0), (13, 13, 0)]) (A_ref02_Step s p1 p2 q10 q11 q12 q13) [.agg #[.slice (some ⟨10, 0, none⟩) (s.Rise.length) (q10), .slice (some ⟨11, 0, none⟩) (s.Thick.length) (q11), I (s.Top), I (s.Stout), I (s.Shade), I (s.Reach), .slice (some ⟨12, 0, none⟩) (s.Ladder.length) (q12), .slice (some ⟨13, 0, none⟩) (s.Sprouts.length) (q13)], .agg #[I (p1.Low.Age), I (p1.Low.Shoots), I (p1.Low.Height), I (p1.Low.Girth), I (p1.High.Age), I (p1.High.Shoots), I (p1.High.Height), I (p1.High.Girth)], .agg #[I (p2.Light.Low), I (p2.Light.High), I (p2.Browse.Low), I (p2.Browse.High), I (p2.Mild.Low), I (p2.Mild.High), .bool (p2.Cut)]], MemAt (Ren.emb [(10, 10, 0), (11, 11, 0), (12, 12, 0), (13, 13, 0)]) (encL cInt s.Rise) 0 (encL cInt s.Rise) ∧ MemAt (Ren.emb [(10, 10, 0), (11, 11, 0), (12, 12, 0), (13, 13, 0)]) (encL cInt s.Thick) 0 (encL cInt s.Thick) ∧ MemAt (Ren.emb [(10, 10, 0), (11, 11, 0), (12, 12, 0), (13, 13, 0)]) (encL cXRung s.Ladder) 0 (encL cXRung s.Ladder) ∧ MemAt (Ren.emb [(10, 10, 0), (11, 11, 0), (12, 12, 0), (13, 13, 0)]) (encL cXSpan s.Sprouts) 0 (encL cXSpan s.Sprouts) ∧ True, VR (Ren.emb [(10, 10, 0), (11, 11, 0), (12, 12, 0), (13, 13, 0)]) (.agg #[I (p0.Low.Age), I (p0.Low.Shoots), I (p0.Low.Height), I (p0.Low.Girth), I (p0.High.Age), I (p0.High.Shoots), I (p0.High.Height), I (p0.High.Girth)]) (.agg #[I (p0.Low.Age), I (p0.Low.Shoots), I (p0.Low.Height), I (p0.Low.Girth), I (p0.High.Age), I (p0.High.Shoots), I (p0.High.Height), I (p0.High.Girth)]), (.slice (some ⟨p3, 0, none⟩) (10) (10) : Value) = .slice (some ⟨p3, 0, none⟩) (10) (10)]
theorem sg10P (fu : Nat) (s : XSpecies) (q10 : Nat) (q11 : Nat) (q12 : Nat) (q13 : Nat) (p0 : XBox) (p1 : XBox) (p2 : XSeason) (p3 : Nat) (p4 : (ref02_Step fu s p1 p2) = some p0) : All (sg10R fu s q10 q11 q12 q13 p0 p1 p2 p3) := ⟨ref02_Step_fc fu s p1 p2 q10 q11 q12 q13 p0 p4, (.cons _ _ _ _ (.agg _ _ (.cons _ _ _ _ (.slc 10 0 _ _ _ ⟨10, 0, 0, 0⟩ rfl (.inl rfl)) (.cons _ _ _ _ (.slc 11 0 _ _ _ ⟨11, 0, 0, 0⟩ rfl (.inl rfl)) (.cons _ _ _ _ (VR.of_pf rfl) (.cons _ _ _ _ (VR.of_pf rfl) (.cons _ _ _ _ (VR.of_pf rfl) (.cons _ _ _ _ (VR.of_pf rfl) (.cons _ _ _ _ (.slc 12 0 _ _ _ ⟨12, 0, 0, 0⟩ rfl (.inl rfl)) (.cons _ _ _ _ (.slc 13 0 _ _ _ ⟨13, 0, 0, 0⟩ rfl (.inl rfl)) .nil))))))))) (.cons _ _ _ _ (VR.of_pf rfl) (.cons _ _ _ _ (VR.of_pf rfl) .nil))), ⟨MemAt.same _ (encL_pf cInt_pf _), MemAt.same _ (encL_pf cInt_pf _), MemAt.same _ (encL_pf cXRung_pf _), MemAt.same _ (encL_pf cXSpan_pf _), trivial⟩, selfB_self 9 _ rfl _, rfl, trivial⟩
theorem ref02_History_10_ex (fu : Nat) (s : XSpecies) (b : XBox) (l_0 : XSeason) (l_1 : XSeason) (l_2 : XSeason) (l_3 : XSeason) (l_4 : XSeason) (l_5 : XSeason) (l_6 : XSeason) (l_7 : XSeason) (l_8 : XSeason) (l_9 : XSeason) (q10 q11 q12 q13 q14 : Nat) (x1 : XBox) (x2 : XBox) (x3 : XBox) (x4 : XBox) (x5 : XBox) (x6 : XBox) (x7 : XBox) (x8 : XBox) (x9 : XBox) (x10 : XBox) (h1 : (ref02_Step fu s b l_0) = some x1) (h2 : (ref02_Step fu s x1 l_1) = some x2) (h3 : (ref02_Step fu s x2 l_2) = some x3) (h4 : (ref02_Step fu s x3 l_3) = some x4) (h5 : (ref02_Step fu s x4 l_4) = some x5) (h6 : (ref02_Step fu s x5 l_5) = some x6) (h7 : (ref02_Step fu s x6 l_6) = some x7) (h8 : (ref02_Step fu s x7 l_7) = some x8) (h9 : (ref02_Step fu s x8 l_8) = some x9) (h10 : (ref02_Step fu s x9 l_9) = some x10) : FCN P GG 36 [.agg #[.slice (some ⟨10, 0, none⟩) (s.Rise.length) (q10), .slice (some ⟨11, 0, none⟩) (s.Thick.length) (q11), I (s.Top), I (s.Stout), I (s.Shade), I (s.Reach), .slice (some ⟨12, 0, none⟩) (s.Ladder.length) (q12), .slice (some ⟨13, 0, none⟩) (s.Sprouts.length) (q13)], .agg #[I (b.Low.Age), I (b.Low.Shoots), I (b.Low.Height), I (b.Low.Girth), I (b.High.Age), I (b.High.Shoots), I (b.High.Height), I (b.High.Girth)], .slice (some ⟨14, 0, none⟩) (10) (q14)] [(10, encL cInt s.Rise), (11, encL cInt s.Thick), (12, encL cXRung s.Ladder), (13, encL cXSpan s.Sprouts), (14, encL cXSeason [l_0, l_1, l_2, l_3, l_4, l_5, l_6, l_7, l_8, l_9])] (.slice (some ⟨77, 0, none⟩) (11) (11)) 77 (encL cXBox ([b, x1, x2, x3, x4, x5, x6, x7, x8, x9, x10])) 8 :=
  FCN.of_exec pfT 100 60 (b := 122) (v := (.slice (some ⟨122, 0, none⟩) (11) (11))) (hs := (((hR 7 [])) ++ ((sg1H fu s q10 q11 q12 q13 x1 b l_0 102) ++ ((sg2H fu s q10 q11 q12 q13 x2 x1 l_1 104) ++ ((sg3H fu s q10 q11 q12 q13 x3 x2 l_2 106) ++ ((sg4H fu s q10 q11 q12 q13 x4 x3 l_3 108) ++ ((sg5H fu s q10 q11 q12 q13 x5 x4 l_4 110) ++ ((sg6H fu s q10 q11 q12 q13 x6 x5 l_5 112) ++ ((sg7H fu s q10 q11 q12 q13 x7 x6 l_6 114) ++ ((sg8H fu s q10 q11 q12 q13 x8 x7 l_7 116) ++ ((sg9H fu s q10 q11 q12 q13 x9 x8 l_8 118) ++ ((sg10H fu s q10 q11 q12 q13 x10 x9 l_9 120) ++ (((hR 4 [])) ++ [hE, hE]))))))))))))) (R := (([]) ++ ((sg1R fu s q10 q11 q12 q13 x1 b l_0 102) ++ ((sg2R fu s q10 q11 q12 q13 x2 x1 l_1 104) ++ ((sg3R fu s q10 q11 q12 q13 x3 x2 l_2 106) ++ ((sg4R fu s q10 q11 q12 q13 x4 x3 l_3 108) ++ ((sg5R fu s q10 q11 q12 q13 x5 x4 l_4 110) ++ ((sg6R fu s q10 q11 q12 q13 x6 x5 l_5 112) ++ ((sg7R fu s q10 q11 q12 q13 x7 x6 l_6 114) ++ ((sg8R fu s q10 q11 q12 q13 x8 x7 l_7 116) ++ ((sg9R fu s q10 q11 q12 q13 x9 x8 l_8 118) ++ ((sg10R fu s q10 q11 q12 q13 x10 x9 l_9 120) ++ (([]) ++ []))))))))))))) (by kernel_rfl) (All.append.2 ⟨trivial, (All.append.2 ⟨sg1P fu s q10 q11 q12 q13 x1 b l_0 102 h1, (All.append.2 ⟨sg2P fu s q10 q11 q12 q13 x2 x1 l_1 104 h2, (All.append.2 ⟨sg3P fu s q10 q11 q12 q13 x3 x2 l_2 106 h3, (All.append.2 ⟨sg4P fu s q10 q11 q12 q13 x4 x3 l_3 108 h4, (All.append.2 ⟨sg5P fu s q10 q11 q12 q13 x5 x4 l_4 110 h5, (All.append.2 ⟨sg6P fu s q10 q11 q12 q13 x6 x5 l_5 112 h6, (All.append.2 ⟨sg7P fu s q10 q11 q12 q13 x7 x6 l_6 114 h7, (All.append.2 ⟨sg8P fu s q10 q11 q12 q13 x8 x7 l_7 116 h8, (All.append.2 ⟨sg9P fu s q10 q11 q12 q13 x9 x8 l_8 118 h9, (All.append.2 ⟨sg10P fu s q10 q11 q12 q13 x10 x9 l_9 120 h10, (All.append.2 ⟨trivial, trivial⟩)⟩)⟩)⟩)⟩)⟩)⟩)⟩)⟩)⟩)⟩)⟩) (by kernel_rfl) ⟨PinL.pf (encL_pf cInt_pf _), PinL.pf (encL_pf cInt_pf _), PinL.pf (encL_pf cXRung_pf _), PinL.pf (encL_pf cXSpan_pf _), PinL.pf (encL_pf cXSeason_pf _), trivial⟩ (by kernel_rfl) (by kernel_rfl) (by kernel_rfl) (by kernel_rfl) (.slc 77 0 _ _ _ ⟨122, 0, 0, 0⟩ rfl (.inl rfl))

noncomputable def sg11H (_fu : Nat) (s : XSpecies) (q10 : Nat) (q11 : Nat) (q12 : Nat) (q13 : Nat) (p0 : XBox) (p1 : XBox) (p2 : XSeason) (_p3 : Nat) : List Hint := (hR 14 ((hM (.agg #[I (p0.Low.Age), I (p0.Low.Shoots), I (p0.Low.Height), I (p0.Low.Girth), I (p0.High.Age), I (p0.High.Shoots), I (p0.High.Height), I (p0.High.Girth)]) (.agg #[I (p0.Low.Age), I (p0.Low.Shoots), I (p0.Low.Height), I (p0.Low.Girth), I (p0.High.Age), I (p0.High.Shoots), I (p0.High.Height), I (p0.High.Girth)]) (A_ref02_Step s p1 p2 q10 q11 q12 q13) (K_ref02_Step s) [(10, 10, 0), (11, 11, 0), (12, 12, 0), (13, 13, 0)]) :: (hR 6 [])))
def sg11R (_fu : Nat) (s : XSpecies) (q10 : Nat) (q11 : Nat) (q12 : Nat) (q13 : Nat) (p0 : XBox) (p1 : XBox) (p2 : XSeason) (p3 : Nat) : List Prop := [FC P GG 33 (A_ref02_Step s p1 p2 q10 q11 q12 q13) (K_ref02_Step s) (.agg #[I (p0.Low.Age), I (p0.Low.Shoots), I (p0.Low.Height), I (p0.Low.Girth), I (p0.High.Age), I (p0.High.Shoots), I (p0.High.Height), I (p0.High.Girth)]), VRs (Ren.emb [(10, 10, 0), (11, 11, 0), (12, 12, 0), (13, 13, 0)]) (A_ref02_Step s p1 p2 q10 q11 q12 q13) [.agg #[.slice (some ⟨10, 0, none⟩) (s.Rise.length) (q10), .slice (some ⟨11, 0, none⟩) (s.Thick.length) (q11), I (s.Top), I (s.Stout), I (s.Shade), I (s.Reach), .slice (some ⟨12, 0, none⟩) (s.Ladder.length) (q12), .slice (some ⟨13, 0, none⟩) (s.Sprouts.length) (q13)], .agg #[I (p1.Low.Age), I (p1.Low.Shoots), I (p1.Low.Height), I (p1.Low.Girth), I (p1.High.Age), I (p1.High.Shoots), I (p1.High.Height), I (p1.High.Girth)], .agg #[I (p2.Light.Low), I (p2.Light.High), I (p2.Browse.Low), I (p2.Browse.High), I (p2.Mild.Low), I (p2.Mild.High), .bool (p2.Cut)]], MemAt (Ren.emb [(10, 10, 0), (11, 11, 0), (12, 12, 0), (13, 13, 0)]) (encL cInt s.Rise) 0 (encL cInt s.Rise) ∧ MemAt (Ren.emb [(10, 10, 0), (11, 11, 0), (12, 12, 0), (13, 13, 0)]) (encL cInt s.Thick) 0 (encL cInt s.Thick) ∧ MemAt (Ren.emb [(10, 10, 0), (11, 11, 0), (12, 12, 0), (13, 13, 0)]) (encL cXRung s.Ladder) 0 (encL cXRung s.Ladder) ∧ MemAt (Ren.emb [(10, 10, 0), (11, 11, 0), (12, 12, 0), (13, 13, 0)]) (encL cXSpan s.Sprouts) 0 (encL cXSpan s.Sprouts) ∧ True, VR (Ren.emb [(10, 10, 0), (11, 11, 0), (12, 12, 0), (13, 13, 0)]) (.agg #[I (p0.Low.Age), I (p0.Low.Shoots), I (p0.Low.Height), I (p0.Low.Girth), I (p0.High.Age), I (p0.High.Shoots), I (p0.High.Height), I (p0.High.Girth)]) (.agg #[I (p0.Low.Age), I (p0.Low.Shoots), I (p0.Low.Height), I (p0.Low.Girth), I (p0.High.Age), I (p0.High.Shoots), I (p0.High.Height), I (p0.High.Girth)]), (.slice (some ⟨p3, 0, none⟩) (11) (11) : Value) = .slice (some ⟨p3, 0, none⟩) (11) (11)]
theorem sg11P (fu : Nat) (s : XSpecies) (q10 : Nat) (q11 : Nat) (q12 : Nat) (q13 : Nat) (p0 : XBox) (p1 : XBox) (p2 : XSeason) (p3 : Nat) (p4 : (ref02_Step fu s p1 p2) = some p0) : All (sg11R fu s q10 q11 q12 q13 p0 p1 p2 p3) := ⟨ref02_Step_fc fu s p1 p2 q10 q11 q12 q13 p0 p4, (.cons _ _ _ _ (.agg _ _ (.cons _ _ _ _ (.slc 10 0 _ _ _ ⟨10, 0, 0, 0⟩ rfl (.inl rfl)) (.cons _ _ _ _ (.slc 11 0 _ _ _ ⟨11, 0, 0, 0⟩ rfl (.inl rfl)) (.cons _ _ _ _ (VR.of_pf rfl) (.cons _ _ _ _ (VR.of_pf rfl) (.cons _ _ _ _ (VR.of_pf rfl) (.cons _ _ _ _ (VR.of_pf rfl) (.cons _ _ _ _ (.slc 12 0 _ _ _ ⟨12, 0, 0, 0⟩ rfl (.inl rfl)) (.cons _ _ _ _ (.slc 13 0 _ _ _ ⟨13, 0, 0, 0⟩ rfl (.inl rfl)) .nil))))))))) (.cons _ _ _ _ (VR.of_pf rfl) (.cons _ _ _ _ (VR.of_pf rfl) .nil))), ⟨MemAt.same _ (encL_pf cInt_pf _), MemAt.same _ (encL_pf cInt_pf _), MemAt.same _ (encL_pf cXRung_pf _), MemAt.same _ (encL_pf cXSpan_pf _), trivial⟩, selfB_self 9 _ rfl _, rfl, trivial⟩
theorem ref02_History_11_ex (fu : Nat) (s : XSpecies) (b : XBox) (l_0 : XSeason) (l_1 : XSeason) (l_2 : XSeason) (l_3 : XSeason) (l_4 : XSeason) (l_5 : XSeason) (l_6 : XSeason) (l_7 : XSeason) (l_8 : XSeason) (l_9 : XSeason) (l_10 : XSeason) (q10 q11 q12 q13 q14 : Nat) (x1 : XBox) (x2 : XBox) (x3 : XBox) (x4 : XBox) (x5 : XBox) (x6 : XBox) (x7 : XBox) (x8 : XBox) (x9 : XBox) (x10 : XBox) (x11 : XBox) (h1 : (ref02_Step fu s b l_0) = some x1) (h2 : (ref02_Step fu s x1 l_1) = some x2) (h3 : (ref02_Step fu s x2 l_2) = some x3) (h4 : (ref02_Step fu s x3 l_3) = some x4) (h5 : (ref02_Step fu s x4 l_4) = some x5) (h6 : (ref02_Step fu s x5 l_5) = some x6) (h7 : (ref02_Step fu s x6 l_6) = some x7) (h8 : (ref02_Step fu s x7 l_7) = some x8) (h9 : (ref02_Step fu s x8 l_8) = some x9) (h10 : (ref02_Step fu s x9 l_9) = some x10) (h11 : (ref02_Step fu s x10 l_10) = some x11) : FCN P GG 36 [.agg #[.slice (some ⟨10, 0, none⟩) (s.Rise.length) (q10), .slice (some ⟨11, 0, none⟩) (s.Thick.length) (q11), I (s.Top), I (s.Stout), I (s.Shade), I (s.Reach), .slice (some ⟨12, 0, none⟩) (s.Ladder.length) (q12), .slice (some ⟨13, 0, none⟩) (s.Sprouts.length) (q13)], .agg #[I (b.Low.Age), I (b.Low.Shoots), I (b.Low.Height), I (b.Low.Girth), I (b.High.Age), I (b.High.Shoots), I (b.High.Height), I (b.High.Girth)], .slice (some ⟨14, 0, none⟩) (11) (q14)] [(10, encL cInt s.Rise), (11, encL cInt s.Thick), (12, encL cXRung s.Ladder), (13, encL cXSpan s.Sprouts), (14, encL cXSeason [l_0, l_1, l_2, l_3, l_4, l_5, l_6, l_7, l_8, l_9, l_10])] (.slice (some ⟨77, 0, none⟩) (12) (12)) 77 (encL cXBox ([b, x1, x2, x3, x4, x5, x6, x7, x8, x9, x10, x11])) 8 :=
  FCN.of_exec pfT 100 60 (b := 124) (v := (.slice (some ⟨124, 0, none⟩) (12) (12))) (hs := (((hR 7 [])) ++ ((sg1H fu s q10 q11 q12 q13 x1 b l_0 102) ++ ((sg2H fu s q10 q11 q12 q13 x2 x1 l_1 104) ++ ((sg3H fu s q10 q11 q12 q13 x3 x2 l_2 106) ++ ((sg4H fu s q10 q11 q12 q13 x4 x3 l_3 108) ++ ((sg5H fu s q10 q11 q12 q13 x5 x4 l_4 110) ++ ((sg6H fu s q10 q11 q12 q13 x6 x5 l_5 112) ++ ((sg7H fu s q10 q11 q12 q13 x7 x6 l_6 114) ++ ((sg8H fu s q10 q11 q12 q13 x8 x7 l_7 116) ++ ((sg9H fu s q10 q11 q12 q13 x9 x8 l_8 118) ++ ((sg10H fu s q10 q11 q12 q13 x10 x9 l_9 120) ++ ((sg11H fu s q10 q11 q12 q13 x11 x10 l_10 122) ++ (((hR 4 [])) ++ [hE, hE])))))))))))))) (R := (([]) ++ ((sg1R fu s q10 q11 q12 q13 x1 b l_0 102) ++ ((sg2R fu s q10 q11 q12 q13 x2 x1 l_1 104) ++ ((sg3R fu s q10 q11 q12 q13 x3 x2 l_2 106) ++ ((sg4R fu s q10 q11 q12 q13 x4 x3 l_3 108) ++ ((sg5R fu s q10 q11 q12 q13 x5 x4 l_4 110) ++ ((sg6R fu s q10 q11 q12 q13 x6 x5 l_5 112) ++ ((sg7R fu s q10 q11 q12 q13 x7 x6 l_6 114) ++ ((sg8R fu s q10 q11 q12 q13 x8 x7 l_7 116) ++ ((sg9R fu s q10 q11 q12 q13 x9 x8 l_8 118) ++ ((sg10R fu s q10 q11 q12 q13 x10 x9 l_9 120) ++ ((sg11R fu s q10 q11 q12 q13 x11 x10 l_10 122) ++ (([]) ++ [])))))))))))))) (by kernel_rfl) (All.append.2 ⟨trivial, (All.append.2 ⟨sg1P fu s q10 q11 q12 q13 x1 b l_0 102 h1, (All.append.2 ⟨sg2P fu s q10 q11 q12 q13 x2 x1 l_1 104 h2, (All.append.2 ⟨sg3P fu s q10 q11 q12 q13 x3 x2 l_2 106 h3, (All.append.2 ⟨sg4P fu s q10 q11 q12 q13 x4 x3 l_3 108 h4, (All.append.2 ⟨sg5P fu s q10 q11 q12 q13 x5 x4 l_4 110 h5, (All.append.2 ⟨sg6P fu s q10 q11 q12 q13 x6 x5 l_5 112 h6, (All.append.2 ⟨sg7P fu s q10 q11 q12 q13 x7 x6 l_6 114 h7, (All.append.2 ⟨sg8P fu s q10 q11 q12 q13 x8 x7 l_7 116 h8, (All.append.2 ⟨sg9P fu s q10 q11 q12 q13 x9 x8 l_8 118 h9, (All.append.2 ⟨sg10P fu s q10 q11 q12 q13 x10 x9 l_9 120 h10, (All.append.2 ⟨sg11P fu s q10 q11 q12 q13 x11 x10 l_10 122 h11, (All.append.2 ⟨trivial, trivial⟩)⟩)⟩)⟩)⟩)⟩)⟩)⟩)⟩)⟩)⟩)⟩)⟩) (by kernel_rfl) ⟨PinL.pf (encL_pf cInt_pf _), PinL.pf (encL_pf cInt_pf _), PinL.pf (encL_pf cXRung_pf _), PinL.pf (encL_pf cXSpan_pf _), PinL.pf (encL_pf cXSeason_pf _), trivial⟩ (by kernel_rfl) (by kernel_rfl) (by kernel_rfl) (by kernel_rfl) (.slc 77 0 _ _ _ ⟨124, 0, 0, 0⟩ rfl (.inl rfl))

noncomputable def sg12H (_fu : Nat) (s : XSpecies) (q10 : Nat) (q11 : Nat) (q12 : Nat) (q13 : Nat) (p0 : XBox) (p1 : XBox) (p2 : XSeason) (_p3 : Nat) : List Hint := (hR 14 ((hM (.agg #[I (p0.Low.Age), I (p0.Low.Shoots), I (p0.Low.Height), I (p0.Low.Girth), I (p0.High.Age), I (p0.High.Shoots), I (p0.High.Height), I (p0.High.Girth)]) (.agg #[I (p0.Low.Age), I (p0.Low.Shoots), I (p0.Low.Height), I (p0.Low.Girth), I (p0.High.Age), I (p0.High.Shoots), I (p0.High.Height), I (p0.High.Girth)]) (A_ref02_Step s p1 p2 q10 q11 q12 q13) (K_ref02_Step s) [(10, 10, 0), (11, 11, 0), (12, 12, 0), (13, 13, 0)]) :: (hR 6 [])))
def sg12R (_fu : Nat) (s : XSpecies) (q10 : Nat) (q11 : Nat) (q12 : Nat) (q13 : Nat) (p0 : XBox) (p1 : XBox) (p2 : XSeason) (p3 : Nat) : List Prop := [FC P GG 33 (A_ref02_Step s p1 p2 q10 q11 q12 q13) (K_ref02_Step s) (.agg #[I (p0.Low.Age), I (p0.Low.Shoots), I (p0.Low.Height), I (p0.Low.Girth), I (p0.High.Age), I (p0.High.Shoots), I (p0.High.Height), I (p0.High.Girth)]), VRs (Ren.emb [(10, 10, 0), (11, 11, 0), (12, 12, 0), (13, 13, 0)]) (A_ref02_Step s p1 p2 q10 q11 q12 q13) [.agg #[.slice (some ⟨10, 0, none⟩) (s.Rise.length) (q10), .slice (some ⟨11, 0, none⟩) (s.Thick.length) (q11), I (s.Top), I (s.Stout), I (s.Shade), I (s.Reach), .slice (some ⟨12, 0, none⟩) (s.Ladder.length) (q12), .slice (some ⟨13, 0, none⟩) (s.Sprouts.length) (q13)], .agg #[I (p1.Low.Age), I (p1.Low.Shoots), I (p1.Low.Height), I (p1.Low.Girth), I (p1.High.Age), I (p1.High.Shoots), I (p1.High.Height), I (p1.High.Girth)], .agg #[I (p2.Light.Low), I (p2.Light.High), I (p2.Browse.Low), I (p2.Browse.High), I (p2.Mild.Low), I (p2.Mild.High), .bool (p2.Cut)]], MemAt (Ren.emb [(10, 10, 0), (11, 11, 0), (12, 12, 0), (13, 13, 0)]) (encL cInt s.Rise) 0 (encL cInt s.Rise) ∧ MemAt (Ren.emb [(10, 10, 0), (11, 11, 0), (12, 12, 0), (13, 13, 0)]) (encL cInt s.Thick) 0 (encL cInt s.Thick) ∧ MemAt (Ren.emb [(10, 10, 0), (11, 11, 0), (12, 12, 0), (13, 13, 0)]) (encL cXRung s.Ladder) 0 (encL cXRung s.Ladder) ∧ MemAt (Ren.emb [(10, 10, 0), (11, 11, 0), (12, 12, 0), (13, 13, 0)]) (encL cXSpan s.Sprouts) 0 (encL cXSpan s.Sprouts) ∧ True, VR (Ren.emb [(10, 10, 0), (11, 11, 0), (12, 12, 0), (13, 13, 0)]) (.agg #[I (p0.Low.Age), I (p0.Low.Shoots), I (p0.Low.Height), I (p0.Low.Girth), I (p0.High.Age), I (p0.High.Shoots), I (p0.High.Height), I (p0.High.Girth)]) (.agg #[I (p0.Low.Age), I (p0.Low.Shoots), I (p0.Low.Height), I (p0.Low.Girth), I (p0.High.Age), I (p0.High.Shoots), I (p0.High.Height), I (p0.High.Girth)]), (.slice (some ⟨p3, 0, none⟩) (12) (12) : Value) = .slice (some ⟨p3, 0, none⟩) (12) (12)]
theorem sg12P (fu : Nat) (s : XSpecies) (q10 : Nat) (q11 : Nat) (q12 : Nat) (q13 : Nat) (p0 : XBox) (p1 : XBox) (p2 : XSeason) (p3 : Nat) (p4 : (ref02_Step fu s p1 p2) = some p0) : All (sg12R fu s q10 q11 q12 q13 p0 p1 p2 p3) := ⟨ref02_Step_fc fu s p1 p2 q10 q11 q12 q13 p0 p4, (.cons _ _ _ _ (.agg _ _ (.cons _ _ _ _ (.slc 10 0 _ _ _ ⟨10, 0, 0, 0⟩ rfl (.inl rfl)) (.cons _ _ _ _ (.slc 11 0 _ _ _ ⟨11, 0, 0, 0⟩ rfl (.inl rfl)) (.cons _ _ _ _ (VR.of_pf rfl) (.cons _ _ _ _ (VR.of_pf rfl) (.cons _ _ _ _ (VR.of_pf rfl) (.cons _ _ _ _ (VR.of_pf rfl) (.cons _ _ _ _ (.slc 12 0 _ _ _ ⟨12, 0, 0, 0⟩ rfl (.inl rfl)) (.cons _ _ _ _ (.slc 13 0 _ _ _ ⟨13, 0, 0, 0⟩ rfl (.inl rfl)) .nil))))))))) (.cons _ _ _ _ (VR.of_pf rfl) (.cons _ _ _ _ (VR.of_pf rfl) .nil))), ⟨MemAt.same _ (encL_pf cInt_pf _), MemAt.same _ (encL_pf cInt_pf _), MemAt.same _ (encL_pf cXRung_pf _), MemAt.same _ (encL_pf cXSpan_pf _), trivial⟩, selfB_self 9 _ rfl _, rfl, trivial⟩
theorem ref02_History_12_ex (fu : Nat) (s : XSpecies) (b : XBox) (l_0 : XSeason) (l_1 : XSeason) (l_2 : XSeason) (l_3 : XSeason) (l_4 : XSeason) (l_5 : XSeason) (l_6 : XSeason) (l_7 : XSeason) (l_8 : XSeason) (l_9 : XSeason) (l_10 : XSeason) (l_11 : XSeason) (q10 q11 q12 q13 q14 : Nat) (x1 : XBox) (x2 : XBox) (x3 : XBox) (x4 : XBox) (x5 : XBox) (x6 : XBox) (x7 : XBox) (x8 : XBox) (x9 : XBox) (x10 : XBox) (x11 : XBox) (x12 : XBox) (h1 : (ref02_Step fu s b l_0) = some x1) (h2 : (ref02_Step fu s x1 l_1) = some x2) (h3 : (ref02_Step fu s x2 l_2) = some x3) (h4 : (ref02_Step fu s x3 l_3) = some x4) (h5 : (ref02_Step fu s x4 l_4) = some x5) (h6 : (ref02_Step fu s x5 l_5) = some x6) (h7 : (ref02_Step fu s x6 l_6) = some x7) (h8 : (ref02_Step fu s x7 l_7) = some x8) (h9 : (ref02_Step fu s x8 l_8) = some x9) (h10 : (ref02_Step fu s x9 l_9) = some x10) (h11 : (ref02_Step fu s x10 l_10) = some x11) (h12 : (ref02_Step fu s x11 l_11) = some x12) : FCN P GG 36 [.agg #[.slice (some ⟨10, 0, none⟩) (s.Rise.length) (q10), .slice (some ⟨11, 0, none⟩) (s.Thick.length) (q11), I (s.Top), I (s.Stout), I (s.Shade), I (s.Reach), .slice (some ⟨12, 0, none⟩) (s.Ladder.length) (q12), .slice (some ⟨13, 0, none⟩) (s.Sprouts.length) (q13)], .agg #[I (b.Low.Age), I (b.Low.Shoots), I (b.Low.Height), I (b.Low.Girth), I (b.High.Age), I (b.High.Shoots), I (b.High.Height), I (b.High.Girth)], .slice (some ⟨14, 0, none⟩) (12) (q14)] [(10, encL cInt s.Rise), (11, encL cInt s.Thick), (12, encL cXRung s.Ladder), (13, encL cXSpan s.Sprouts), (14, encL cXSeason [l_0, l_1, l_2, l_3, l_4, l_5, l_6, l_7, l_8, l_9, l_10, l_11])] (.slice (some ⟨77, 0, none⟩) (13) (13)) 77 (encL cXBox ([b, x1, x2, x3, x4, x5, x6, x7, x8, x9, x10, x11, x12])) 8 :=
  FCN.of_exec pfT 100 60 (b := 126) (v := (.slice (some ⟨126, 0, none⟩) (13) (13))) (hs := (((hR 7 [])) ++ ((sg1H fu s q10 q11 q12 q13 x1 b l_0 102) ++ ((sg2H fu s q10 q11 q12 q13 x2 x1 l_1 104) ++ ((sg3H fu s q10 q11 q12 q13 x3 x2 l_2 106) ++ ((sg4H fu s q10 q11 q12 q13 x4 x3 l_3 108) ++ ((sg5H fu s q10 q11 q12 q13 x5 x4 l_4 110) ++ ((sg6H fu s q10 q11 q12 q13 x6 x5 l_5 112) ++ ((sg7H fu s q10 q11 q12 q13 x7 x6 l_6 114) ++ ((sg8H fu s q10 q11 q12 q13 x8 x7 l_7 116) ++ ((sg9H fu s q10 q11 q12 q13 x9 x8 l_8 118) ++ ((sg10H fu s q10 q11 q12 q13 x10 x9 l_9 120) ++ ((sg11H fu s q10 q11 q12 q13 x11 x10 l_10 122) ++ ((sg12H fu s q10 q11 q12 q13 x12 x11 l_11 124) ++ (((hR 4 [])) ++ [hE, hE]))))))))))))))) (R := (([]) ++ ((sg1R fu s q10 q11 q12 q13 x1 b l_0 102) ++ ((sg2R fu s q10 q11 q12 q13 x2 x1 l_1 104) ++ ((sg3R fu s q10 q11 q12 q13 x3 x2 l_2 106) ++ ((sg4R fu s q10 q11 q12 q13 x4 x3 l_3 108) ++ ((sg5R fu s q10 q11 q12 q13 x5 x4 l_4 110) ++ ((sg6R fu s q10 q11 q12 q13 x6 x5 l_5 112) ++ ((sg7R fu s q10 q11 q12 q13 x7 x6 l_6 114) ++ ((sg8R fu s q10 q11 q12 q13 x8 x7 l_7 116) ++ ((sg9R fu s q10 q11 q12 q13 x9 x8 l_8 118) ++ ((sg10R fu s q10 q11 q12 q13 x10 x9 l_9 120) ++ ((sg11R fu s q10 q11 q12 q13 x11 x10 l_10 122) ++ ((sg12R fu s q10 q11 q12 q13 x12 x11 l_11 124) ++ (([]) ++ []))))))))))))))) (by kernel_rfl) (All.append.2 ⟨trivial, (All.append.2 ⟨sg1P fu s q10 q11 q12 q13 x1 b l_0 102 h1, (All.append.2 ⟨sg2P fu s q10 q11 q12 q13 x2 x1 l_1 104 h2, (All.append.2 ⟨sg3P fu s q10 q11 q12 q13 x3 x2 l_2 106 h3, (All.append.2 ⟨sg4P fu s q10 q11 q12 q13 x4 x3 l_3 108 h4, (All.append.2 ⟨sg5P fu s q10 q11 q12 q13 x5 x4 l_4 110 h5, (All.append.2 ⟨sg6P fu s q10 q11 q12 q13 x6 x5 l_5 112 h6, (All.append.2 ⟨sg7P fu s q10 q11 q12 q13 x7 x6 l_6 114 h7, (All.append.2 ⟨sg8P fu s q10 q11 q12 q13 x8 x7 l_7 116 h8, (All.append.2 ⟨sg9P fu s q10 q11 q12 q13 x9 x8 l_8 118 h9, (All.append.2 ⟨sg10P fu s q10 q11 q12 q13 x10 x9 l_9 120 h10, (All.append.2 ⟨sg11P fu s q10 q11 q12 q13 x11 x10 l_10 122 h11, (All.append.2 ⟨sg12P fu s q10 q11 q12 q13 x12 x11 l_11 124 h12, (All.append.2 ⟨trivial, trivial⟩)⟩)⟩)⟩)⟩)⟩)⟩)⟩)⟩)⟩)⟩)⟩)⟩)⟩) (by kernel_rfl) ⟨PinL.pf (encL_pf cInt_pf _), PinL.pf (encL_pf cInt_pf _), PinL.pf (encL_pf cXRung_pf _), PinL.pf (encL_pf cXSpan_pf _), PinL.pf (encL_pf cXSeason_pf _), trivial⟩ (by kernel_rfl) (by kernel_rfl) (by kernel_rfl) (by kernel_rfl) (.slc 77 0 _ _ _ ⟨126, 0, 0, 0⟩ rfl (.inl rfl))

theorem ref02_History_none (fu : Nat) (s : XSpecies) (b : XBox) (l : List XSeason) (q10 q11 q12 q13 q14 : Nat) (h : decide (1 ≤ l.length) = false) : FCN P GG 36 [.agg #[.slice (some ⟨10, 0, none⟩) (s.Rise.length) (q10), .slice (some ⟨11, 0, none⟩) (s.Thick.length) (q11), I (s.Top), I (s.Stout), I (s.Shade), I (s.Reach), .slice (some ⟨12, 0, none⟩) (s.Ladder.length) (q12), .slice (some ⟨13, 0, none⟩) (s.Sprouts.length) (q13)], .agg #[I (b.Low.Age), I (b.Low.Shoots), I (b.Low.Height), I (b.Low.Girth), I (b.High.Age), I (b.High.Shoots), I (b.High.Height), I (b.High.Girth)], .slice (some ⟨14, 0, none⟩) (l.length) (q14)] [(10, encL cInt s.Rise), (11, encL cInt s.Thick), (12, encL cXRung s.Ladder), (13, encL cXSpan s.Sprouts), (14, encL cXSeason l)] (.slice (some ⟨77, 0, none⟩) (1) (1)) 77 (encL cXBox [b]) 0 := by
  cases l with
  | nil => exact ref02_History_0_ex fu s b q10 q11 q12 q13 q14
  | cons q l => exact absurd (of_decide_eq_false h) (by simp)

noncomputable def ref02_hist (fu : Nat) (s : XSpecies) : XBox → List XSeason → Option (List XBox)
  | b, [] => some [b]
  | b, q :: l => Option.bind (ref02_Step fu s b q) fun x => Option.bind (ref02_hist fu s x l) fun r => some (b :: r)
theorem ref02_hist_cons {fu : Nat} {s : XSpecies} {b : XBox} {q : XSeason} {l : List XSeason} {r : List XBox} (h : ref02_hist fu s b (q :: l) = some r) : ∃ x r2, ref02_Step fu s b q = some x ∧ ref02_hist fu s x l = some r2 ∧ b :: r2 = r := by
  unfold ref02_hist at h
  cases h1 : ref02_Step fu s b q with
  | none => rw [h1] at h; cases h
  | some x =>
    rw [h1, Option.bind_some] at h
    cases h2 : ref02_hist fu s x l with
    | none => rw [h2] at h; cases h
    | some r2 => rw [h2, Option.bind_some] at h; exact ⟨x, r2, rfl, h2, Option.some.inj h⟩
theorem ref02_History_fcn (fu : Nat) (s : XSpecies) (b : XBox) (l : List XSeason) (q10 q11 q12 q13 q14 : Nat) (r : List XBox) (hlo : 1 ≤ l.length) (hl : l.length ≤ 12) (hh : ref02_hist fu s b l = some r) : FCN P GG 36 [.agg #[.slice (some ⟨10, 0, none⟩) (s.Rise.length) (q10), .slice (some ⟨11, 0, none⟩) (s.Thick.length) (q11), I (s.Top), I (s.Stout), I (s.Shade), I (s.Reach), .slice (some ⟨12, 0, none⟩) (s.Ladder.length) (q12), .slice (some ⟨13, 0, none⟩) (s.Sprouts.length) (q13)], .agg #[I (b.Low.Age), I (b.Low.Shoots), I (b.Low.Height), I (b.Low.Girth), I (b.High.Age), I (b.High.Shoots), I (b.High.Height), I (b.High.Girth)], .slice (some ⟨14, 0, none⟩) (l.length) (q14)] [(10, encL cInt s.Rise), (11, encL cInt s.Thick), (12, encL cXRung s.Ladder), (13, encL cXSpan s.Sprouts), (14, encL cXSeason l)] (.slice (some ⟨77, 0, none⟩) (r.length) (r.length)) 77 (encL cXBox r) 8 := by
  match l, hlo, hl with
  | [l_0], _, _ =>
    obtain ⟨y0, r0, e0, g0, rfl⟩ := ref02_hist_cons hh
    cases g0
    exact ref02_History_1_ex fu s b l_0 q10 q11 q12 q13 q14  y0  e0
  | [l_0, l_1], _, _ =>
    obtain ⟨y0, r0, e0, g0, rfl⟩ := ref02_hist_cons hh
    obtain ⟨y1, r1, e1, g1, rfl⟩ := ref02_hist_cons g0
    cases g1
    exact ref02_History_2_ex fu s b l_0 l_1 q10 q11 q12 q13 q14  y0 y1  e0 e1
  | [l_0, l_1, l_2], _, _ =>
    obtain ⟨y0, r0, e0, g0, rfl⟩ := ref02_hist_cons hh
    obtain ⟨y1, r1, e1, g1, rfl⟩ := ref02_hist_cons g0
    obtain ⟨y2, r2, e2, g2, rfl⟩ := ref02_hist_cons g1
    cases g2
    exact ref02_History_3_ex fu s b l_0 l_1 l_2 q10 q11 q12 q13 q14  y0 y1 y2  e0 e1 e2
  | [l_0, l_1, l_2, l_3], _, _ =>
    obtain ⟨y0, r0, e0, g0, rfl⟩ := ref02_hist_cons hh
    obtain ⟨y1, r1, e1, g1, rfl⟩ := ref02_hist_cons g0
    obtain ⟨y2, r2, e2, g2, rfl⟩ := ref02_hist_cons g1
    obtain ⟨y3, r3, e3, g3, rfl⟩ := ref02_hist_cons g2
    cases g3
    exact ref02_History_4_ex fu s b l_0 l_1 l_2 l_3 q10 q11 q12 q13 q14  y0 y1 y2 y3  e0 e1 e2 e3
  | [l_0, l_1, l_2, l_3, l_4], _, _ =>
    obtain ⟨y0, r0, e0, g0, rfl⟩ := ref02_hist_cons hh
    obtain ⟨y1, r1, e1, g1, rfl⟩ := ref02_hist_cons g0
    obtain ⟨y2, r2, e2, g2, rfl⟩ := ref02_hist_cons g1
    obtain ⟨y3, r3, e3, g3, rfl⟩ := ref02_hist_cons g2
    obtain ⟨y4, r4, e4, g4, rfl⟩ := ref02_hist_cons g3
    cases g4
    exact ref02_History_5_ex fu s b l_0 l_1 l_2 l_3 l_4 q10 q11 q12 q13 q14  y0 y1 y2 y3 y4  e0 e1 e2 e3 e4
  | [l_0, l_1, l_2, l_3, l_4, l_5], _, _ =>
    obtain ⟨y0, r0, e0, g0, rfl⟩ := ref02_hist_cons hh
    obtain ⟨y1, r1, e1, g1, rfl⟩ := ref02_hist_cons g0
    obtain ⟨y2, r2, e2, g2, rfl⟩ := ref02_hist_cons g1
    obtain ⟨y3, r3, e3, g3, rfl⟩ := ref02_hist_cons g2
    obtain ⟨y4, r4, e4, g4, rfl⟩ := ref02_hist_cons g3
    obtain ⟨y5, r5, e5, g5, rfl⟩ := ref02_hist_cons g4
    cases g5
    exact ref02_History_6_ex fu s b l_0 l_1 l_2 l_3 l_4 l_5 q10 q11 q12 q13 q14  y0 y1 y2 y3 y4 y5  e0 e1 e2 e3 e4 e5
  | [l_0, l_1, l_2, l_3, l_4, l_5, l_6], _, _ =>
    obtain ⟨y0, r0, e0, g0, rfl⟩ := ref02_hist_cons hh
    obtain ⟨y1, r1, e1, g1, rfl⟩ := ref02_hist_cons g0
    obtain ⟨y2, r2, e2, g2, rfl⟩ := ref02_hist_cons g1
    obtain ⟨y3, r3, e3, g3, rfl⟩ := ref02_hist_cons g2
    obtain ⟨y4, r4, e4, g4, rfl⟩ := ref02_hist_cons g3
    obtain ⟨y5, r5, e5, g5, rfl⟩ := ref02_hist_cons g4
    obtain ⟨y6, r6, e6, g6, rfl⟩ := ref02_hist_cons g5
    cases g6
    exact ref02_History_7_ex fu s b l_0 l_1 l_2 l_3 l_4 l_5 l_6 q10 q11 q12 q13 q14  y0 y1 y2 y3 y4 y5 y6  e0 e1 e2 e3 e4 e5 e6
  | [l_0, l_1, l_2, l_3, l_4, l_5, l_6, l_7], _, _ =>
    obtain ⟨y0, r0, e0, g0, rfl⟩ := ref02_hist_cons hh
    obtain ⟨y1, r1, e1, g1, rfl⟩ := ref02_hist_cons g0
    obtain ⟨y2, r2, e2, g2, rfl⟩ := ref02_hist_cons g1
    obtain ⟨y3, r3, e3, g3, rfl⟩ := ref02_hist_cons g2
    obtain ⟨y4, r4, e4, g4, rfl⟩ := ref02_hist_cons g3
    obtain ⟨y5, r5, e5, g5, rfl⟩ := ref02_hist_cons g4
    obtain ⟨y6, r6, e6, g6, rfl⟩ := ref02_hist_cons g5
    obtain ⟨y7, r7, e7, g7, rfl⟩ := ref02_hist_cons g6
    cases g7
    exact ref02_History_8_ex fu s b l_0 l_1 l_2 l_3 l_4 l_5 l_6 l_7 q10 q11 q12 q13 q14  y0 y1 y2 y3 y4 y5 y6 y7  e0 e1 e2 e3 e4 e5 e6 e7
  | [l_0, l_1, l_2, l_3, l_4, l_5, l_6, l_7, l_8], _, _ =>
    obtain ⟨y0, r0, e0, g0, rfl⟩ := ref02_hist_cons hh
    obtain ⟨y1, r1, e1, g1, rfl⟩ := ref02_hist_cons g0
    obtain ⟨y2, r2, e2, g2, rfl⟩ := ref02_hist_cons g1
    obtain ⟨y3, r3, e3, g3, rfl⟩ := ref02_hist_cons g2
    obtain ⟨y4, r4, e4, g4, rfl⟩ := ref02_hist_cons g3
    obtain ⟨y5, r5, e5, g5, rfl⟩ := ref02_hist_cons g4
    obtain ⟨y6, r6, e6, g6, rfl⟩ := ref02_hist_cons g5
    obtain ⟨y7, r7, e7, g7, rfl⟩ := ref02_hist_cons g6
    obtain ⟨y8, r8, e8, g8, rfl⟩ := ref02_hist_cons g7
    cases g8
    exact ref02_History_9_ex fu s b l_0 l_1 l_2 l_3 l_4 l_5 l_6 l_7 l_8 q10 q11 q12 q13 q14  y0 y1 y2 y3 y4 y5 y6 y7 y8  e0 e1 e2 e3 e4 e5 e6 e7 e8
  | [l_0, l_1, l_2, l_3, l_4, l_5, l_6, l_7, l_8, l_9], _, _ =>
    obtain ⟨y0, r0, e0, g0, rfl⟩ := ref02_hist_cons hh
    obtain ⟨y1, r1, e1, g1, rfl⟩ := ref02_hist_cons g0
    obtain ⟨y2, r2, e2, g2, rfl⟩ := ref02_hist_cons g1
    obtain ⟨y3, r3, e3, g3, rfl⟩ := ref02_hist_cons g2
    obtain ⟨y4, r4, e4, g4, rfl⟩ := ref02_hist_cons g3
    obtain ⟨y5, r5, e5, g5, rfl⟩ := ref02_hist_cons g4
    obtain ⟨y6, r6, e6, g6, rfl⟩ := ref02_hist_cons g5
    obtain ⟨y7, r7, e7, g7, rfl⟩ := ref02_hist_cons g6
    obtain ⟨y8, r8, e8, g8, rfl⟩ := ref02_hist_cons g7
    obtain ⟨y9, r9, e9, g9, rfl⟩ := ref02_hist_cons g8
    cases g9
    exact ref02_History_10_ex fu s b l_0 l_1 l_2 l_3 l_4 l_5 l_6 l_7 l_8 l_9 q10 q11 q12 q13 q14  y0 y1 y2 y3 y4 y5 y6 y7 y8 y9  e0 e1 e2 e3 e4 e5 e6 e7 e8 e9
  | [l_0, l_1, l_2, l_3, l_4, l_5, l_6, l_7, l_8, l_9, l_10], _, _ =>
    obtain ⟨y0, r0, e0, g0, rfl⟩ := ref02_hist_cons hh
    obtain ⟨y1, r1, e1, g1, rfl⟩ := ref02_hist_cons g0
    obtain ⟨y2, r2, e2, g2, rfl⟩ := ref02_hist_cons g1
    obtain ⟨y3, r3, e3, g3, rfl⟩ := ref02_hist_cons g2
    obtain ⟨y4, r4, e4, g4, rfl⟩ := ref02_hist_cons g3
    obtain ⟨y5, r5, e5, g5, rfl⟩ := ref02_hist_cons g4
    obtain ⟨y6, r6, e6, g6, rfl⟩ := ref02_hist_cons g5
    obtain ⟨y7, r7, e7, g7, rfl⟩ := ref02_hist_cons g6
    obtain ⟨y8, r8, e8, g8, rfl⟩ := ref02_hist_cons g7
    obtain ⟨y9, r9, e9, g9, rfl⟩ := ref02_hist_cons g8
    obtain ⟨y10, r10, e10, g10, rfl⟩ := ref02_hist_cons g9
    cases g10
    exact ref02_History_11_ex fu s b l_0 l_1 l_2 l_3 l_4 l_5 l_6 l_7 l_8 l_9 l_10 q10 q11 q12 q13 q14  y0 y1 y2 y3 y4 y5 y6 y7 y8 y9 y10  e0 e1 e2 e3 e4 e5 e6 e7 e8 e9 e10
  | [l_0, l_1, l_2, l_3, l_4, l_5, l_6, l_7, l_8, l_9, l_10, l_11], _, _ =>
    obtain ⟨y0, r0, e0, g0, rfl⟩ := ref02_hist_cons hh
    obtain ⟨y1, r1, e1, g1, rfl⟩ := ref02_hist_cons g0
    obtain ⟨y2, r2, e2, g2, rfl⟩ := ref02_hist_cons g1
    obtain ⟨y3, r3, e3, g3, rfl⟩ := ref02_hist_cons g2
    obtain ⟨y4, r4, e4, g4, rfl⟩ := ref02_hist_cons g3
    obtain ⟨y5, r5, e5, g5, rfl⟩ := ref02_hist_cons g4
    obtain ⟨y6, r6, e6, g6, rfl⟩ := ref02_hist_cons g5
    obtain ⟨y7, r7, e7, g7, rfl⟩ := ref02_hist_cons g6
    obtain ⟨y8, r8, e8, g8, rfl⟩ := ref02_hist_cons g7
    obtain ⟨y9, r9, e9, g9, rfl⟩ := ref02_hist_cons g8
    obtain ⟨y10, r10, e10, g10, rfl⟩ := ref02_hist_cons g9
    obtain ⟨y11, r11, e11, g11, rfl⟩ := ref02_hist_cons g10
    cases g11
    exact ref02_History_12_ex fu s b l_0 l_1 l_2 l_3 l_4 l_5 l_6 l_7 l_8 l_9 l_10 l_11 q10 q11 q12 q13 q14  y0 y1 y2 y3 y4 y5 y6 y7 y8 y9 y10 y11  e0 e1 e2 e3 e4 e5 e6 e7 e8 e9 e10 e11
  | [], h, _ => exact absurd h (by simp)
  | _ :: _ :: _ :: _ :: _ :: _ :: _ :: _ :: _ :: _ :: _ :: _ :: _ :: _, _, h => exact absurd h (by simp only [List.length_cons]; omega)

/- greenhew/greenhewref02.Same -/
abbrev A_ref02_Same (b : List XBox) (q10 : Nat) : List Value := [.slice none 0 0, .slice (some ⟨10, 0, none⟩) (b.length) (q10)]
abbrev K_ref02_Same (b : List XBox) : List (Nat × List Value) := [(10, encL cXBox b)]
noncomputable def ref02_Same_L (_fu : Nat) (_b : List XBox) : Nat → (Bool → Int → Option Bool)
  | 0 => (fun _ _ => none)
  | _ + 1 => (fun _ v5 => bif decide (v5 < 0) then none
      else some true)
theorem ref02_Same_L_s0 (fu : Nat) (b : List XBox) (fk : Nat) (v4 : Bool) (v5 : Int) : ref02_Same_L fu b (fk + 1) v4 v5 = (bif decide (v5 < 0) then none
      else some true) := rfl
noncomputable def ref02_Same (fu : Nat) (b : List XBox) : Option Bool :=
  bif 0 != ((b.length : Nat) : Int) then some false
  else ref02_Same_L fu b fu false 0
theorem ref02_Same_L_fs (fu : Nat) (b : List XBox) (q10 : Nat) : ∀ fk, (∀ (v4 : Bool) (v5 : Int) (r : Bool), ref02_Same_L fu b fk v4 v5 = some r → FSat P GG Tryd.f35 (.bool (r)) (ids (looses (K_ref02_Same b))) 26 [.lp (cA (bodyOf Tryd.f35) [1, 1, 0, 1, 0, 0]), .blk 0, .code (cA (bodyOf Tryd.f35) [1, 1, 1])] (tOf 26 [(0, .slice none 0 0), (1, .slice (some ⟨10, 0, none⟩) (b.length) (q10)), (4, .bool (v4)), (5, I (v5))]) (mOf 100 [(0, .rom [I (1), I (2), I (3)] .glob), (10, .rom (encL cXBox b) .loose)])) := by
  intro fk
  induction fk with
  | zero => exact fun _ _ r hh => by cases hh
  | succ fk ih =>
    · intro v4 v5 r hh
      rw [ref02_Same_L_s0] at hh
      rcases bb (decide (v5 < 0)) with h1 | h1
      ·rw [h1, cT] at hh
       cases hh
      ·rw [h1, cF] at hh
       rw [← sI hh]
       exact FSat.d pfT 14 [hE, hE, hE, hF, hE] [.go] (pc h1 <| pn) (by kernel_rfl) (by kernel_rfl)
theorem ref02_Same_fc (fu : Nat) (b : List XBox) (q10 : Nat) (r : Bool) (hh : ref02_Same fu b = some r) : FC P GG 35 (A_ref02_Same b q10) (K_ref02_Same b) (.bool (r)) := by
  refine FC.of_fsat 26 100 Tryd.func35 (by kernel_rfl) (by kernel_rfl) (by kernel_rfl) ⟨PinL.pf (encL_pf cXBox_pf _), trivial⟩ ?_
  unfold ref02_Same at hh
  rcases bb (0 != ((b.length : Nat) : Int)) with h1 | h1
  ·rw [h1, cT] at hh
   rw [← sI hh]
   exact FSat.d pfT 14 (hR 5 [hT, hE]) [] (pc h1 <| pn) (by kernel_rfl) (by kernel_rfl)
  ·rw [h1, cF] at hh
   have nx := ref02_Same_L_fs fu b q10 fu false 0 r hh
   refine FSat.s pfT 18 (hR 5 [hF, hE]) [.st [0, 1, 4, 5] [0, 10]] (pc h1 <| pn) (by kernel_rfl) 100 (by kernel_rfl) ?_ nx
   exact ⟨PinL.lit (by kernel_rfl), PinL.pf (encL_pf cXBox_pf _), trivial⟩

/- greenhew/greenhewref02.Same -/
noncomputable abbrev z59i0 (a : List XBox) (v5 : Int) : Hint := (hL (.agg #[I (((at_ zXBox a v5).Low).Age), I (((at_ zXBox a v5).Low).Shoots), I (((at_ zXBox a v5).Low).Height), I (((at_ zXBox a v5).Low).Girth), I (((at_ zXBox a v5).High).Age), I (((at_ zXBox a v5).High).Shoots), I (((at_ zXBox a v5).High).Height), I (((at_ zXBox a v5).High).Girth)]))
noncomputable abbrev z59i1 (b : List XBox) (v5 : Int) : Hint := (hL (.agg #[I (((at_ zXBox b v5).Low).Age), I (((at_ zXBox b v5).Low).Shoots), I (((at_ zXBox b v5).Low).Height), I (((at_ zXBox b v5).Low).Girth), I (((at_ zXBox b v5).High).Age), I (((at_ zXBox b v5).High).Shoots), I (((at_ zXBox b v5).High).Height), I (((at_ zXBox b v5).High).Girth)]))
abbrev z59r2 (a : List XBox) (v5 : Int) : Prop := RowLd P 46 (encL cXBox a) (0 + v5.toNat * 8) (.agg #[I (((at_ zXBox a v5).Low).Age), I (((at_ zXBox a v5).Low).Shoots), I (((at_ zXBox a v5).Low).Height), I (((at_ zXBox a v5).Low).Girth), I (((at_ zXBox a v5).High).Age), I (((at_ zXBox a v5).High).Shoots), I (((at_ zXBox a v5).High).Height), I (((at_ zXBox a v5).High).Girth)])
abbrev z59r3 (b : List XBox) (v5 : Int) : Prop := RowLd P 46 (encL cXBox b) (0 + v5.toNat * 8) (.agg #[I (((at_ zXBox b v5).Low).Age), I (((at_ zXBox b v5).Low).Shoots), I (((at_ zXBox b v5).Low).Height), I (((at_ zXBox b v5).Low).Girth), I (((at_ zXBox b v5).High).Age), I (((at_ zXBox b v5).High).Shoots), I (((at_ zXBox b v5).High).Height), I (((at_ zXBox b v5).High).Girth)])
abbrev A_ref02_Same_1 (a : List XBox) (b : List XBox) (q10 : Nat) (q11 : Nat) : List Value := [.slice (some ⟨10, 0, none⟩) (a.length) (q10), .slice (some ⟨11, 0, none⟩) (b.length) (q11)]
abbrev K_ref02_Same_1 (a : List XBox) (b : List XBox) : List (Nat × List Value) := [(10, encL cXBox a), (11, encL cXBox b)]
noncomputable def ref02_Same_1_L (fu : Nat) (a : List XBox) (b : List XBox) : Nat → (Bool → Int → Option Bool)
  | 0 => (fun _ _ => none)
  | fk + 1 => (fun v4 v5 => bif decide (v5 < ((a.length : Nat) : Int)) then (bif decide (0 ≤ v5 ∧ v5 < ((a.length : Nat) : Int)) then (bif decide (0 ≤ v5 ∧ v5 < ((b.length : Nat) : Int)) then (bif !((((((at_ zXBox a v5).Low).Age) == (((at_ zXBox b v5).Low).Age)) && (((((at_ zXBox a v5).Low).Shoots) == (((at_ zXBox b v5).Low).Shoots)) && (((((at_ zXBox a v5).Low).Height) == (((at_ zXBox b v5).Low).Height)) && (((((at_ zXBox a v5).Low).Girth) == (((at_ zXBox b v5).Low).Girth)) && true)))) && ((((((at_ zXBox a v5).High).Age) == (((at_ zXBox b v5).High).Age)) && (((((at_ zXBox a v5).High).Shoots) == (((at_ zXBox b v5).High).Shoots)) && (((((at_ zXBox a v5).High).Height) == (((at_ zXBox b v5).High).Height)) && (((((at_ zXBox a v5).High).Girth) == (((at_ zXBox b v5).High).Girth)) && true)))) && true)) then some false
        else ref02_Same_1_L fu a b fk v4 (W (v5 + 1))) else none) else none)
      else some true)
theorem ref02_Same_1_L_s0 (fu : Nat) (a : List XBox) (b : List XBox) (fk : Nat) (v4 : Bool) (v5 : Int) : ref02_Same_1_L fu a b (fk + 1) v4 v5 = (bif decide (v5 < ((a.length : Nat) : Int)) then (bif decide (0 ≤ v5 ∧ v5 < ((a.length : Nat) : Int)) then (bif decide (0 ≤ v5 ∧ v5 < ((b.length : Nat) : Int)) then (bif !((((((at_ zXBox a v5).Low).Age) == (((at_ zXBox b v5).Low).Age)) && (((((at_ zXBox a v5).Low).Shoots) == (((at_ zXBox b v5).Low).Shoots)) && (((((at_ zXBox a v5).Low).Height) == (((at_ zXBox b v5).Low).Height)) && (((((at_ zXBox a v5).Low).Girth) == (((at_ zXBox b v5).Low).Girth)) && true)))) && ((((((at_ zXBox a v5).High).Age) == (((at_ zXBox b v5).High).Age)) && (((((at_ zXBox a v5).High).Shoots) == (((at_ zXBox b v5).High).Shoots)) && (((((at_ zXBox a v5).High).Height) == (((at_ zXBox b v5).High).Height)) && (((((at_ zXBox a v5).High).Girth) == (((at_ zXBox b v5).High).Girth)) && true)))) && true)) then some false
        else ref02_Same_1_L fu a b fk v4 (W (v5 + 1))) else none) else none)
      else some true) := rfl
noncomputable def ref02_Same_1 (fu : Nat) (a : List XBox) (b : List XBox) : Option Bool :=
  bif ((a.length : Nat) : Int) != ((b.length : Nat) : Int) then some false
  else ref02_Same_1_L fu a b fu false 0
theorem ref02_Same_1_L_fs (fu : Nat) (a : List XBox) (b : List XBox) (q10 q11 : Nat) : ∀ fk, (∀ (v4 : Bool) (v5 : Int) (r : Bool), ref02_Same_1_L fu a b fk v4 v5 = some r → FSat P GG Tryd.f35 (.bool (r)) (ids (looses (K_ref02_Same_1 a b))) 26 [.lp (cA (bodyOf Tryd.f35) [1, 1, 0, 1, 0, 0]), .blk 0, .code (cA (bodyOf Tryd.f35) [1, 1, 1])] (tOf 26 [(0, .slice (some ⟨10, 0, none⟩) (a.length) (q10)), (1, .slice (some ⟨11, 0, none⟩) (b.length) (q11)), (4, .bool (v4)), (5, I (v5))]) (mOf 100 [(0, .rom [I (1), I (2), I (3)] .glob), (10, .rom (encL cXBox a) .loose), (11, .rom (encL cXBox b) .loose)])) := by
  intro fk
  induction fk with
  | zero => exact fun _ _ r hh => by cases hh
  | succ fk ih =>
    · intro v4 v5 r hh
      rw [ref02_Same_1_L_s0] at hh
      rcases bb (decide (v5 < ((a.length : Nat) : Int))) with h1 | h1
      ·rw [h1, cT] at hh
       rcases bb (decide (0 ≤ v5 ∧ v5 < ((a.length : Nat) : Int))) with h2 | h2
       rotate_left
       ·rw [h2, cF] at hh; cases hh
       ·rw [h2, cT] at hh
        rcases bb (decide (0 ≤ v5 ∧ v5 < ((b.length : Nat) : Int))) with h3 | h3
        rotate_left
        ·rw [h3, cF] at hh; cases hh
        ·rw [h3, cT] at hh
         rcases bb (!((((((at_ zXBox a v5).Low).Age) == (((at_ zXBox b v5).Low).Age)) && (((((at_ zXBox a v5).Low).Shoots) == (((at_ zXBox b v5).Low).Shoots)) && (((((at_ zXBox a v5).Low).Height) == (((at_ zXBox b v5).Low).Height)) && (((((at_ zXBox a v5).Low).Girth) == (((at_ zXBox b v5).Low).Girth)) && true)))) && ((((((at_ zXBox a v5).High).Age) == (((at_ zXBox b v5).High).Age)) && (((((at_ zXBox a v5).High).Shoots) == (((at_ zXBox b v5).High).Shoots)) && (((((at_ zXBox a v5).High).Height) == (((at_ zXBox b v5).High).Height)) && (((((at_ zXBox a v5).High).Girth) == (((at_ zXBox b v5).High).Girth)) && true)))) && true))) with h4 | h4
         ·rw [h4, cT] at hh
          rw [← sI hh]
          exact FSat.d pfT 19 [hE, hE, hE, hT, hE, hE, hX, (z59i0 a v5), hE, hE, hX, (z59i1 b v5), (hB hQ true), hE] [.go] (pc h1 <| pt (0 ≤ v5 ∧ v5 < ((a.length : Nat) : Int)) (of_decide_eq_true h2) <| pt (z59r2 a v5) (RowLd.elem cXBox_len _ (.inl ⟨_, rfl⟩) rfl rfl _ _ (of_decide_eq_true h2)) <| pt (0 ≤ v5 ∧ v5 < ((b.length : Nat) : Int)) (of_decide_eq_true h3) <| pt (z59r3 b v5) (RowLd.elem cXBox_len _ (.inl ⟨_, rfl⟩) rfl rfl _ _ (of_decide_eq_true h3)) <| pc h4 <| pn) (by kernel_rfl) (by kernel_rfl)
         ·rw [h4, cF] at hh
          have nx := ih v4 (W (v5 + 1)) r hh
          refine FSat.s pfT 20 [hE, hE, hE, hT, hE, hE, hX, (z59i0 a v5), hE, hE, hX, (z59i1 b v5), (hB hQ false), hE, hE, hE] [.go, .st [0, 1, 4, 5] [0, 10, 11]] (pc h1 <| pt (0 ≤ v5 ∧ v5 < ((a.length : Nat) : Int)) (of_decide_eq_true h2) <| pt (z59r2 a v5) (RowLd.elem cXBox_len _ (.inl ⟨_, rfl⟩) rfl rfl _ _ (of_decide_eq_true h2)) <| pt (0 ≤ v5 ∧ v5 < ((b.length : Nat) : Int)) (of_decide_eq_true h3) <| pt (z59r3 b v5) (RowLd.elem cXBox_len _ (.inl ⟨_, rfl⟩) rfl rfl _ _ (of_decide_eq_true h3)) <| pc h4 <| pn) (by kernel_rfl) 100 (by kernel_rfl) ?_ nx
          exact ⟨PinL.lit (by kernel_rfl), PinL.pf (encL_pf cXBox_pf _), PinL.pf (encL_pf cXBox_pf _), trivial⟩
      ·rw [h1, cF] at hh
       rw [← sI hh]
       exact FSat.d pfT 14 [hE, hE, hE, hF, hE] [.go] (pc h1 <| pn) (by kernel_rfl) (by kernel_rfl)
theorem ref02_Same_1_fc (fu : Nat) (a : List XBox) (b : List XBox) (q10 q11 : Nat) (r : Bool) (hh : ref02_Same_1 fu a b = some r) : FC P GG 35 (A_ref02_Same_1 a b q10 q11) (K_ref02_Same_1 a b) (.bool (r)) := by
  refine FC.of_fsat 26 100 Tryd.func35 (by kernel_rfl) (by kernel_rfl) (by kernel_rfl) ⟨PinL.pf (encL_pf cXBox_pf _), PinL.pf (encL_pf cXBox_pf _), trivial⟩ ?_
  unfold ref02_Same_1 at hh
  rcases bb (((a.length : Nat) : Int) != ((b.length : Nat) : Int)) with h1 | h1
  ·rw [h1, cT] at hh
   rw [← sI hh]
   exact FSat.d pfT 14 (hR 5 [hT, hE]) [] (pc h1 <| pn) (by kernel_rfl) (by kernel_rfl)
  ·rw [h1, cF] at hh
   have nx := ref02_Same_1_L_fs fu a b q10 q11 fu false 0 r hh
   refine FSat.s pfT 18 (hR 5 [hF, hE]) [.st [0, 1, 4, 5] [0, 10, 11]] (pc h1 <| pn) (by kernel_rfl) 100 (by kernel_rfl) ?_ nx
   exact ⟨PinL.lit (by kernel_rfl), PinL.pf (encL_pf cXBox_pf _), PinL.pf (encL_pf cXBox_pf _), trivial⟩

/- greenhew/greenhewlaw02.GrowthSteps -/
noncomputable abbrev z1i0 (l : List XSeason) (v12 : Int) : Hint := (hL (.agg #[I (((at_ zXSeason l v12).Light).Low), I (((at_ zXSeason l v12).Light).High), I (((at_ zXSeason l v12).Browse).Low), I (((at_ zXSeason l v12).Browse).High), I (((at_ zXSeason l v12).Mild).Low), I (((at_ zXSeason l v12).Mild).High), .bool ((at_ zXSeason l v12).Cut)]))
noncomputable abbrev z1i1 (s : XSpecies) (b : XBox) (l : List XSeason) (q10 : Nat) (q11 : Nat) (q12 : Nat) (q13 : Nat) (v12 : Int) (y0_4 : XBox × Int) : Hint := (hM (.tuple #[.agg #[I (y0_4.1.Low.Age), I (y0_4.1.Low.Shoots), I (y0_4.1.Low.Height), I (y0_4.1.Low.Girth), I (y0_4.1.High.Age), I (y0_4.1.High.Shoots), I (y0_4.1.High.Height), I (y0_4.1.High.Girth)], I (y0_4.2)]) (.tuple #[.agg #[I (y0_4.1.Low.Age), I (y0_4.1.Low.Shoots), I (y0_4.1.Low.Height), I (y0_4.1.Low.Girth), I (y0_4.1.High.Age), I (y0_4.1.High.Shoots), I (y0_4.1.High.Height), I (y0_4.1.High.Girth)], I (y0_4.2)]) (A_growth_Step s b (⟨((at_ zXSeason l v12).Light), ((at_ zXSeason l v12).Browse), ((at_ zXSeason l v12).Mild), (at_ zXSeason l v12).Cut⟩ : XSeason) q10 q11 q12 q13) (K_growth_Step s) [(10, 10, 0), (11, 11, 0), (12, 12, 0), (13, 13, 0)])
noncomputable abbrev z1i2 (l : List XSeason) (v12 : Int) : Hint := (hB (hC (.bool (ref02_Season (⟨((at_ zXSeason l v12).Light), ((at_ zXSeason l v12).Browse), ((at_ zXSeason l v12).Mild), (at_ zXSeason l v12).Cut⟩ : XSeason)))) true)
theorem z1p3 (s : XSpecies) (b : XBox) (l : List XSeason) (q10 : Nat) (q11 : Nat) (q12 : Nat) (q13 : Nat) (v12 : Int) : VRs (Ren.emb [(10, 10, 0), (11, 11, 0), (12, 12, 0), (13, 13, 0)]) (A_growth_Step s b (⟨((at_ zXSeason l v12).Light), ((at_ zXSeason l v12).Browse), ((at_ zXSeason l v12).Mild), (at_ zXSeason l v12).Cut⟩ : XSeason) q10 q11 q12 q13) [.agg #[.slice (some ⟨10, 0, none⟩) (s.Rise.length) (q10), .slice (some ⟨11, 0, none⟩) (s.Thick.length) (q11), I (s.Top), I (s.Stout), I (s.Shade), I (s.Reach), .slice (some ⟨12, 0, none⟩) (s.Ladder.length) (q12), .slice (some ⟨13, 0, none⟩) (s.Sprouts.length) (q13)], .agg #[I (b.Low.Age), I (b.Low.Shoots), I (b.Low.Height), I (b.Low.Girth), I (b.High.Age), I (b.High.Shoots), I (b.High.Height), I (b.High.Girth)], .agg #[I (((at_ zXSeason l v12).Light).Low), I (((at_ zXSeason l v12).Light).High), I (((at_ zXSeason l v12).Browse).Low), I (((at_ zXSeason l v12).Browse).High), I (((at_ zXSeason l v12).Mild).Low), I (((at_ zXSeason l v12).Mild).High), .bool ((at_ zXSeason l v12).Cut)]] := (.cons _ _ _ _ (.agg _ _ (.cons _ _ _ _ (.slc 10 0 _ _ _ ⟨10, 0, 0, 0⟩ rfl (.inl rfl)) (.cons _ _ _ _ (.slc 11 0 _ _ _ ⟨11, 0, 0, 0⟩ rfl (.inl rfl)) (.cons _ _ _ _ (VR.of_pf rfl) (.cons _ _ _ _ (VR.of_pf rfl) (.cons _ _ _ _ (VR.of_pf rfl) (.cons _ _ _ _ (VR.of_pf rfl) (.cons _ _ _ _ (.slc 12 0 _ _ _ ⟨12, 0, 0, 0⟩ rfl (.inl rfl)) (.cons _ _ _ _ (.slc 13 0 _ _ _ ⟨13, 0, 0, 0⟩ rfl (.inl rfl)) .nil))))))))) (.cons _ _ _ _ (VR.of_pf rfl) (.cons _ _ _ _ (VR.of_pf rfl) .nil)))
theorem z1p4 (s : XSpecies) : MemAt (Ren.emb [(10, 10, 0), (11, 11, 0), (12, 12, 0), (13, 13, 0)]) (encL cInt s.Rise) 0 (encL cInt s.Rise) ∧ MemAt (Ren.emb [(10, 10, 0), (11, 11, 0), (12, 12, 0), (13, 13, 0)]) (encL cInt s.Thick) 0 (encL cInt s.Thick) ∧ MemAt (Ren.emb [(10, 10, 0), (11, 11, 0), (12, 12, 0), (13, 13, 0)]) (encL cXRung s.Ladder) 0 (encL cXRung s.Ladder) ∧ MemAt (Ren.emb [(10, 10, 0), (11, 11, 0), (12, 12, 0), (13, 13, 0)]) (encL cXSpan s.Sprouts) 0 (encL cXSpan s.Sprouts) ∧ True := ⟨MemAt.same _ (encL_pf cInt_pf _), MemAt.same _ (encL_pf cInt_pf _), MemAt.same _ (encL_pf cXRung_pf _), MemAt.same _ (encL_pf cXSpan_pf _), trivial⟩
theorem z1p5 (l : List XSeason) (v12 : Int) : FC P GG 32 (A_ref02_Season (⟨((at_ zXSeason l v12).Light), ((at_ zXSeason l v12).Browse), ((at_ zXSeason l v12).Mild), (at_ zXSeason l v12).Cut⟩ : XSeason)) [] (.bool (ref02_Season (⟨((at_ zXSeason l v12).Light), ((at_ zXSeason l v12).Browse), ((at_ zXSeason l v12).Mild), (at_ zXSeason l v12).Cut⟩ : XSeason))) := ref02_Season_fc (⟨((at_ zXSeason l v12).Light), ((at_ zXSeason l v12).Browse), ((at_ zXSeason l v12).Mild), (at_ zXSeason l v12).Cut⟩ : XSeason)
abbrev z1r6 (l : List XSeason) (v12 : Int) : Prop := RowLd P 58 (encL cXSeason l) (0 + v12.toNat * 7) (.agg #[I (((at_ zXSeason l v12).Light).Low), I (((at_ zXSeason l v12).Light).High), I (((at_ zXSeason l v12).Browse).Low), I (((at_ zXSeason l v12).Browse).High), I (((at_ zXSeason l v12).Mild).Low), I (((at_ zXSeason l v12).Mild).High), .bool ((at_ zXSeason l v12).Cut)])
abbrev z1r7 (y0_4 : XBox × Int) : Prop := VR (Ren.emb [(10, 10, 0), (11, 11, 0), (12, 12, 0), (13, 13, 0)]) (.tuple #[.agg #[I (y0_4.1.Low.Age), I (y0_4.1.Low.Shoots), I (y0_4.1.Low.Height), I (y0_4.1.Low.Girth), I (y0_4.1.High.Age), I (y0_4.1.High.Shoots), I (y0_4.1.High.Height), I (y0_4.1.High.Girth)], I (y0_4.2)]) (.tuple #[.agg #[I (y0_4.1.Low.Age), I (y0_4.1.Low.Shoots), I (y0_4.1.Low.Height), I (y0_4.1.Low.Girth), I (y0_4.1.High.Age), I (y0_4.1.High.Shoots), I (y0_4.1.High.Height), I (y0_4.1.High.Girth)], I (y0_4.2)])
abbrev z1r8 (s : XSpecies) (q10 : Nat) (q11 : Nat) (q12 : Nat) (q13 : Nat) : Prop := (.agg #[.slice (some ⟨10, 0, none⟩) (s.Rise.length) (q10), .slice (some ⟨11, 0, none⟩) (s.Thick.length) (q11), I (s.Top), I (s.Stout), I (s.Shade), I (s.Reach), .slice (some ⟨12, 0, none⟩) (s.Ladder.length) (q12), .slice (some ⟨13, 0, none⟩) (s.Sprouts.length) (q13)] : Value) = .agg #[.slice (some ⟨10, 0, none⟩) (s.Rise.length) (q10), .slice (some ⟨11, 0, none⟩) (s.Thick.length) (q11), I (s.Top), I (s.Stout), I (s.Shade), I (s.Reach), .slice (some ⟨12, 0, none⟩) (s.Ladder.length) (q12), .slice (some ⟨13, 0, none⟩) (s.Sprouts.length) (q13)]
abbrev z1r9 (b : XBox) : Prop := (.agg #[I (b.Low.Age), I (b.Low.Shoots), I (b.Low.Height), I (b.Low.Girth), I (b.High.Age), I (b.High.Shoots), I (b.High.Height), I (b.High.Girth)] : Value) = .agg #[I (b.Low.Age), I (b.Low.Shoots), I (b.Low.Height), I (b.Low.Girth), I (b.High.Age), I (b.High.Shoots), I (b.High.Height), I (b.High.Girth)]
abbrev z1r10 (l : List XSeason) (q14 : Nat) : Prop := (.slice (some ⟨14, 0, none⟩) (l.length) (q14) : Value) = .slice (some ⟨14, 0, none⟩) (l.length) (q14)
abbrev z1r11 (v12 : Int) : Prop := (.pointer (some ⟨14, 0 + v12.toNat * 7, none⟩) : Value) = .pointer (some ⟨14, 0 + v12.toNat * 7, none⟩)
abbrev z1r12 (l : List XSeason) (v12 : Int) : Prop := (.agg #[I (((at_ zXSeason l v12).Light).Low), I (((at_ zXSeason l v12).Light).High), I (((at_ zXSeason l v12).Browse).Low), I (((at_ zXSeason l v12).Browse).High), I (((at_ zXSeason l v12).Mild).Low), I (((at_ zXSeason l v12).Mild).High), .bool ((at_ zXSeason l v12).Cut)] : Value) = .agg #[I (((at_ zXSeason l v12).Light).Low), I (((at_ zXSeason l v12).Light).High), I (((at_ zXSeason l v12).Browse).Low), I (((at_ zXSeason l v12).Browse).High), I (((at_ zXSeason l v12).Mild).Low), I (((at_ zXSeason l v12).Mild).High), .bool ((at_ zXSeason l v12).Cut)]
abbrev z1r13 (y0_4 : XBox × Int) : Prop := (.tuple #[.agg #[I (y0_4.1.Low.Age), I (y0_4.1.Low.Shoots), I (y0_4.1.Low.Height), I (y0_4.1.Low.Girth), I (y0_4.1.High.Age), I (y0_4.1.High.Shoots), I (y0_4.1.High.Height), I (y0_4.1.High.Girth)], I (y0_4.2)] : Value) = .tuple #[.agg #[I (y0_4.1.Low.Age), I (y0_4.1.Low.Shoots), I (y0_4.1.Low.Height), I (y0_4.1.Low.Girth), I (y0_4.1.High.Age), I (y0_4.1.High.Shoots), I (y0_4.1.High.Height), I (y0_4.1.High.Girth)], I (y0_4.2)]
abbrev z1r14 (y0_4 : XBox × Int) : Prop := (.agg #[I (y0_4.1.Low.Age), I (y0_4.1.Low.Shoots), I (y0_4.1.Low.Height), I (y0_4.1.Low.Girth), I (y0_4.1.High.Age), I (y0_4.1.High.Shoots), I (y0_4.1.High.Height), I (y0_4.1.High.Girth)] : Value) = .agg #[I (y0_4.1.Low.Age), I (y0_4.1.Low.Shoots), I (y0_4.1.Low.Height), I (y0_4.1.Low.Girth), I (y0_4.1.High.Age), I (y0_4.1.High.Shoots), I (y0_4.1.High.Height), I (y0_4.1.High.Girth)]
noncomputable abbrev z1i15 (s : XSpecies) (b : XBox) (l : List XSeason) (q10 : Nat) (q11 : Nat) (q12 : Nat) (q13 : Nat) (v12 : Int) (y0_5 : XBox) : Hint := (hM (.agg #[I (y0_5.Low.Age), I (y0_5.Low.Shoots), I (y0_5.Low.Height), I (y0_5.Low.Girth), I (y0_5.High.Age), I (y0_5.High.Shoots), I (y0_5.High.Height), I (y0_5.High.Girth)]) (.agg #[I (y0_5.Low.Age), I (y0_5.Low.Shoots), I (y0_5.Low.Height), I (y0_5.Low.Girth), I (y0_5.High.Age), I (y0_5.High.Shoots), I (y0_5.High.Height), I (y0_5.High.Girth)]) (A_ref02_Step s b (⟨((at_ zXSeason l v12).Light), ((at_ zXSeason l v12).Browse), ((at_ zXSeason l v12).Mild), (at_ zXSeason l v12).Cut⟩ : XSeason) q10 q11 q12 q13) (K_ref02_Step s) [(10, 10, 0), (11, 11, 0), (12, 12, 0), (13, 13, 0)])
theorem z1p16 (s : XSpecies) (b : XBox) (l : List XSeason) (q10 : Nat) (q11 : Nat) (q12 : Nat) (q13 : Nat) (v12 : Int) : VRs (Ren.emb [(10, 10, 0), (11, 11, 0), (12, 12, 0), (13, 13, 0)]) (A_ref02_Step s b (⟨((at_ zXSeason l v12).Light), ((at_ zXSeason l v12).Browse), ((at_ zXSeason l v12).Mild), (at_ zXSeason l v12).Cut⟩ : XSeason) q10 q11 q12 q13) [.agg #[.slice (some ⟨10, 0, none⟩) (s.Rise.length) (q10), .slice (some ⟨11, 0, none⟩) (s.Thick.length) (q11), I (s.Top), I (s.Stout), I (s.Shade), I (s.Reach), .slice (some ⟨12, 0, none⟩) (s.Ladder.length) (q12), .slice (some ⟨13, 0, none⟩) (s.Sprouts.length) (q13)], .agg #[I (b.Low.Age), I (b.Low.Shoots), I (b.Low.Height), I (b.Low.Girth), I (b.High.Age), I (b.High.Shoots), I (b.High.Height), I (b.High.Girth)], .agg #[I (((at_ zXSeason l v12).Light).Low), I (((at_ zXSeason l v12).Light).High), I (((at_ zXSeason l v12).Browse).Low), I (((at_ zXSeason l v12).Browse).High), I (((at_ zXSeason l v12).Mild).Low), I (((at_ zXSeason l v12).Mild).High), .bool ((at_ zXSeason l v12).Cut)]] := (.cons _ _ _ _ (.agg _ _ (.cons _ _ _ _ (.slc 10 0 _ _ _ ⟨10, 0, 0, 0⟩ rfl (.inl rfl)) (.cons _ _ _ _ (.slc 11 0 _ _ _ ⟨11, 0, 0, 0⟩ rfl (.inl rfl)) (.cons _ _ _ _ (VR.of_pf rfl) (.cons _ _ _ _ (VR.of_pf rfl) (.cons _ _ _ _ (VR.of_pf rfl) (.cons _ _ _ _ (VR.of_pf rfl) (.cons _ _ _ _ (.slc 12 0 _ _ _ ⟨12, 0, 0, 0⟩ rfl (.inl rfl)) (.cons _ _ _ _ (.slc 13 0 _ _ _ ⟨13, 0, 0, 0⟩ rfl (.inl rfl)) .nil))))))))) (.cons _ _ _ _ (VR.of_pf rfl) (.cons _ _ _ _ (VR.of_pf rfl) .nil)))
abbrev z1r17 (y0_5 : XBox) : Prop := VR (Ren.emb [(10, 10, 0), (11, 11, 0), (12, 12, 0), (13, 13, 0)]) (.agg #[I (y0_5.Low.Age), I (y0_5.Low.Shoots), I (y0_5.Low.Height), I (y0_5.Low.Girth), I (y0_5.High.Age), I (y0_5.High.Shoots), I (y0_5.High.Height), I (y0_5.High.Girth)]) (.agg #[I (y0_5.Low.Age), I (y0_5.Low.Shoots), I (y0_5.Low.Height), I (y0_5.Low.Girth), I (y0_5.High.Age), I (y0_5.High.Shoots), I (y0_5.High.Height), I (y0_5.High.Girth)])
noncomputable abbrev z1i18 (l : List XSeason) (v12 : Int) : Hint := (hB (hC (.bool (ref02_Season (⟨((at_ zXSeason l v12).Light), ((at_ zXSeason l v12).Browse), ((at_ zXSeason l v12).Mild), (at_ zXSeason l v12).Cut⟩ : XSeason)))) false)
noncomputable abbrev z1i19 (l : List XSeason) (q14 : Nat) (y0_6 : Bool) : Hint := (hB (hM (.bool (y0_6)) (.bool (y0_6)) (A_ref02_Seasons l q14) (K_ref02_Seasons l) [(10, 14, 0)]) true)
noncomputable abbrev z1i20 (s : XSpecies) (b : XBox) (l : List XSeason) (q10 : Nat) (q11 : Nat) (q12 : Nat) (q13 : Nat) (q14 : Nat) (y0_7 : List XBox) : Hint := (hN (.slice (some ⟨77, 0, none⟩) (y0_7.length) (y0_7.length)) (.slice (some ⟨102, 0, none⟩) (y0_7.length) (y0_7.length)) [.agg #[.slice (some ⟨10, 0, none⟩) (s.Rise.length) (q10), .slice (some ⟨11, 0, none⟩) (s.Thick.length) (q11), I (s.Top), I (s.Stout), I (s.Shade), I (s.Reach), .slice (some ⟨12, 0, none⟩) (s.Ladder.length) (q12), .slice (some ⟨13, 0, none⟩) (s.Sprouts.length) (q13)], .agg #[I (b.Low.Age), I (b.Low.Shoots), I (b.Low.Height), I (b.Low.Girth), I (b.High.Age), I (b.High.Shoots), I (b.High.Height), I (b.High.Girth)], .slice (some ⟨14, 0, none⟩) (l.length) (q14)] [(10, encL cInt s.Rise), (11, encL cInt s.Thick), (12, encL cXRung s.Ladder), (13, encL cXSpan s.Sprouts), (14, encL cXSeason l)] [(10, 10, 0), (11, 11, 0), (12, 12, 0), (13, 13, 0), (14, 14, 0)] 77 (encL cXBox y0_7) 8)
noncomputable abbrev z1i21 (y0_7 : List XBox) (y0_8 : Bool) : Hint := (hB (hM (.bool (y0_8)) (.bool (y0_8)) (A_ref02_Same y0_7 y0_7.length) (K_ref02_Same y0_7) [(10, 102, 0)]) true)
theorem z1p22 (l : List XSeason) (q14 : Nat) : VRs (Ren.emb [(10, 14, 0)]) (A_ref02_Seasons l q14) [.slice (some ⟨14, 0, none⟩) (l.length) (q14)] := (.cons _ _ _ _ (.slc 10 0 _ _ _ ⟨14, 0, 0, 0⟩ rfl (.inl rfl)) .nil)
theorem z1p23 (s : XSpecies) (b : XBox) (l : List XSeason) (q10 : Nat) (q11 : Nat) (q12 : Nat) (q13 : Nat) (q14 : Nat) : VRs (Ren.emb [(10, 10, 0), (11, 11, 0), (12, 12, 0), (13, 13, 0), (14, 14, 0)]) [.agg #[.slice (some ⟨10, 0, none⟩) (s.Rise.length) (q10), .slice (some ⟨11, 0, none⟩) (s.Thick.length) (q11), I (s.Top), I (s.Stout), I (s.Shade), I (s.Reach), .slice (some ⟨12, 0, none⟩) (s.Ladder.length) (q12), .slice (some ⟨13, 0, none⟩) (s.Sprouts.length) (q13)], .agg #[I (b.Low.Age), I (b.Low.Shoots), I (b.Low.Height), I (b.Low.Girth), I (b.High.Age), I (b.High.Shoots), I (b.High.Height), I (b.High.Girth)], .slice (some ⟨14, 0, none⟩) (l.length) (q14)] [.agg #[.slice (some ⟨10, 0, none⟩) (s.Rise.length) (q10), .slice (some ⟨11, 0, none⟩) (s.Thick.length) (q11), I (s.Top), I (s.Stout), I (s.Shade), I (s.Reach), .slice (some ⟨12, 0, none⟩) (s.Ladder.length) (q12), .slice (some ⟨13, 0, none⟩) (s.Sprouts.length) (q13)], .agg #[I (b.Low.Age), I (b.Low.Shoots), I (b.Low.Height), I (b.Low.Girth), I (b.High.Age), I (b.High.Shoots), I (b.High.Height), I (b.High.Girth)], .slice (some ⟨14, 0, none⟩) (l.length) (q14)] := (.cons _ _ _ _ (.agg _ _ (.cons _ _ _ _ (.slc 10 0 _ _ _ ⟨10, 0, 0, 0⟩ rfl (.inl rfl)) (.cons _ _ _ _ (.slc 11 0 _ _ _ ⟨11, 0, 0, 0⟩ rfl (.inl rfl)) (.cons _ _ _ _ (VR.of_pf rfl) (.cons _ _ _ _ (VR.of_pf rfl) (.cons _ _ _ _ (VR.of_pf rfl) (.cons _ _ _ _ (VR.of_pf rfl) (.cons _ _ _ _ (.slc 12 0 _ _ _ ⟨12, 0, 0, 0⟩ rfl (.inl rfl)) (.cons _ _ _ _ (.slc 13 0 _ _ _ ⟨13, 0, 0, 0⟩ rfl (.inl rfl)) .nil))))))))) (.cons _ _ _ _ (VR.of_pf rfl) (.cons _ _ _ _ (.slc 14 0 _ _ _ ⟨14, 0, 0, 0⟩ rfl (.inl rfl)) .nil)))
theorem z1p24 (s : XSpecies) (l : List XSeason) : MemAt (Ren.emb [(10, 10, 0), (11, 11, 0), (12, 12, 0), (13, 13, 0), (14, 14, 0)]) (encL cInt s.Rise) 0 (encL cInt s.Rise) ∧ MemAt (Ren.emb [(10, 10, 0), (11, 11, 0), (12, 12, 0), (13, 13, 0), (14, 14, 0)]) (encL cInt s.Thick) 0 (encL cInt s.Thick) ∧ MemAt (Ren.emb [(10, 10, 0), (11, 11, 0), (12, 12, 0), (13, 13, 0), (14, 14, 0)]) (encL cXRung s.Ladder) 0 (encL cXRung s.Ladder) ∧ MemAt (Ren.emb [(10, 10, 0), (11, 11, 0), (12, 12, 0), (13, 13, 0), (14, 14, 0)]) (encL cXSpan s.Sprouts) 0 (encL cXSpan s.Sprouts) ∧ MemAt (Ren.emb [(10, 10, 0), (11, 11, 0), (12, 12, 0), (13, 13, 0), (14, 14, 0)]) (encL cXSeason l) 0 (encL cXSeason l) ∧ True := ⟨MemAt.same _ (encL_pf cInt_pf _), MemAt.same _ (encL_pf cInt_pf _), MemAt.same _ (encL_pf cXRung_pf _), MemAt.same _ (encL_pf cXSpan_pf _), MemAt.same _ (encL_pf cXSeason_pf _), trivial⟩
theorem z1p25 (y0_7 : List XBox) : VRs (Ren.emb [(10, 102, 0)]) (A_ref02_Same y0_7 y0_7.length) [.slice none 0 0, .slice (some ⟨102, 0, none⟩) (y0_7.length) (y0_7.length)] := (.cons _ _ _ _ (VR.of_pf rfl) (.cons _ _ _ _ (.slc 10 0 _ _ _ ⟨102, 0, 0, 0⟩ rfl (.inl rfl)) .nil))
abbrev z1r26 (l : List XSeason) : Prop := MemAt (Ren.emb [(10, 14, 0)]) (encL cXSeason l) 0 (encL cXSeason l) ∧ True
abbrev z1r27 (s : XSpecies) (b : XBox) (l : List XSeason) (q10 : Nat) (q11 : Nat) (q12 : Nat) (q13 : Nat) (q14 : Nat) (y0_7 : List XBox) : Prop := FCN P GG 36 [.agg #[.slice (some ⟨10, 0, none⟩) (s.Rise.length) (q10), .slice (some ⟨11, 0, none⟩) (s.Thick.length) (q11), I (s.Top), I (s.Stout), I (s.Shade), I (s.Reach), .slice (some ⟨12, 0, none⟩) (s.Ladder.length) (q12), .slice (some ⟨13, 0, none⟩) (s.Sprouts.length) (q13)], .agg #[I (b.Low.Age), I (b.Low.Shoots), I (b.Low.Height), I (b.Low.Girth), I (b.High.Age), I (b.High.Shoots), I (b.High.Height), I (b.High.Girth)], .slice (some ⟨14, 0, none⟩) (l.length) (q14)] [(10, encL cInt s.Rise), (11, encL cInt s.Thick), (12, encL cXRung s.Ladder), (13, encL cXSpan s.Sprouts), (14, encL cXSeason l)] (.slice (some ⟨77, 0, none⟩) (y0_7.length) (y0_7.length)) 77 (encL cXBox y0_7) 8
abbrev z1r28 (y0_7 : List XBox) : Prop := VR (Ren.emb ((77, 102, 0) :: [(10, 10, 0), (11, 11, 0), (12, 12, 0), (13, 13, 0), (14, 14, 0)])) (.slice (some ⟨77, 0, none⟩) (y0_7.length) (y0_7.length)) (.slice (some ⟨102, 0, none⟩) (y0_7.length) (y0_7.length))
abbrev z1r29 (y0_7 : List XBox) : Prop := MemAt (Ren.emb [(10, 102, 0)]) (encL cXBox y0_7) 0 (encL cXBox y0_7) ∧ True
noncomputable abbrev z1i30 (y0_7 : List XBox) (y0_8 : Bool) : Hint := (hB (hM (.bool (y0_8)) (.bool (y0_8)) (A_ref02_Same y0_7 y0_7.length) (K_ref02_Same y0_7) [(10, 102, 0)]) false)
noncomputable abbrev z1i31 (s : XSpecies) (b : XBox) (l : List XSeason) (q10 : Nat) (q11 : Nat) (q12 : Nat) (q13 : Nat) (q14 : Nat) : Hint := (hN (.slice (some ⟨77, 0, none⟩) (1) (1)) (.slice (some ⟨102, 0, none⟩) (1) (1)) [.agg #[.slice (some ⟨10, 0, none⟩) (s.Rise.length) (q10), .slice (some ⟨11, 0, none⟩) (s.Thick.length) (q11), I (s.Top), I (s.Stout), I (s.Shade), I (s.Reach), .slice (some ⟨12, 0, none⟩) (s.Ladder.length) (q12), .slice (some ⟨13, 0, none⟩) (s.Sprouts.length) (q13)], .agg #[I (b.Low.Age), I (b.Low.Shoots), I (b.Low.Height), I (b.Low.Girth), I (b.High.Age), I (b.High.Shoots), I (b.High.Height), I (b.High.Girth)], .slice (some ⟨14, 0, none⟩) (l.length) (q14)] [(10, encL cInt s.Rise), (11, encL cInt s.Thick), (12, encL cXRung s.Ladder), (13, encL cXSpan s.Sprouts), (14, encL cXSeason l)] [(10, 10, 0), (11, 11, 0), (12, 12, 0), (13, 13, 0), (14, 14, 0)] 77 (encL cXBox ([b])) 0)
noncomputable abbrev z1i32 (b : XBox) (y0_10 : Bool) : Hint := (hB (hM (.bool (y0_10)) (.bool (y0_10)) (A_ref02_Same ([b]) 1) (K_ref02_Same ([b])) [(10, 102, 0)]) true)
theorem z1p33 (b : XBox) : VRs (Ren.emb [(10, 102, 0)]) (A_ref02_Same ([b]) 1) [.slice none 0 0, .slice (some ⟨102, 0, none⟩) (1) (1)] := (.cons _ _ _ _ (VR.of_pf rfl) (.cons _ _ _ _ (.slc 10 0 _ _ _ ⟨102, 0, 0, 0⟩ rfl (.inl rfl)) .nil))
abbrev z1r34 (s : XSpecies) (b : XBox) (l : List XSeason) (q10 : Nat) (q11 : Nat) (q12 : Nat) (q13 : Nat) (q14 : Nat) : Prop := FCN P GG 36 [.agg #[.slice (some ⟨10, 0, none⟩) (s.Rise.length) (q10), .slice (some ⟨11, 0, none⟩) (s.Thick.length) (q11), I (s.Top), I (s.Stout), I (s.Shade), I (s.Reach), .slice (some ⟨12, 0, none⟩) (s.Ladder.length) (q12), .slice (some ⟨13, 0, none⟩) (s.Sprouts.length) (q13)], .agg #[I (b.Low.Age), I (b.Low.Shoots), I (b.Low.Height), I (b.Low.Girth), I (b.High.Age), I (b.High.Shoots), I (b.High.Height), I (b.High.Girth)], .slice (some ⟨14, 0, none⟩) (l.length) (q14)] [(10, encL cInt s.Rise), (11, encL cInt s.Thick), (12, encL cXRung s.Ladder), (13, encL cXSpan s.Sprouts), (14, encL cXSeason l)] (.slice (some ⟨77, 0, none⟩) (1) (1)) 77 (encL cXBox ([b])) 0
abbrev z1r35 : Prop := VR (Ren.emb ((77, 102, 0) :: [(10, 10, 0), (11, 11, 0), (12, 12, 0), (13, 13, 0), (14, 14, 0)])) (.slice (some ⟨77, 0, none⟩) (1) (1)) (.slice (some ⟨102, 0, none⟩) (1) (1))
abbrev z1r36 (b : XBox) : Prop := MemAt (Ren.emb [(10, 102, 0)]) (encL cXBox ([b])) 0 ([I (b.Low.Age), I (b.Low.Shoots), I (b.Low.Height), I (b.Low.Girth), I (b.High.Age), I (b.High.Shoots), I (b.High.Height), I (b.High.Girth)]) ∧ True
noncomputable abbrev z1i37 (b : XBox) (y0_10 : Bool) : Hint := (hB (hM (.bool (y0_10)) (.bool (y0_10)) (A_ref02_Same ([b]) 1) (K_ref02_Same ([b])) [(10, 102, 0)]) false)
noncomputable abbrev z1i38 (l : List XSeason) (q14 : Nat) (y0_6 : Bool) : Hint := (hB (hM (.bool (y0_6)) (.bool (y0_6)) (A_ref02_Seasons l q14) (K_ref02_Seasons l) [(10, 14, 0)]) false)
noncomputable abbrev z1i39 (l : List XSeason) (v12_1 : Int) : Hint := (hL (.agg #[I (((at_ zXSeason l v12_1).Light).Low), I (((at_ zXSeason l v12_1).Light).High), I (((at_ zXSeason l v12_1).Browse).Low), I (((at_ zXSeason l v12_1).Browse).High), I (((at_ zXSeason l v12_1).Mild).Low), I (((at_ zXSeason l v12_1).Mild).High), .bool ((at_ zXSeason l v12_1).Cut)]))
noncomputable abbrev z1i40 (s : XSpecies) (b : XBox) (l : List XSeason) (q10 : Nat) (q11 : Nat) (q12 : Nat) (q13 : Nat) (v12_1 : Int) (y1_12 : XBox × Int) : Hint := (hM (.tuple #[.agg #[I (y1_12.1.Low.Age), I (y1_12.1.Low.Shoots), I (y1_12.1.Low.Height), I (y1_12.1.Low.Girth), I (y1_12.1.High.Age), I (y1_12.1.High.Shoots), I (y1_12.1.High.Height), I (y1_12.1.High.Girth)], I (y1_12.2)]) (.tuple #[.agg #[I (y1_12.1.Low.Age), I (y1_12.1.Low.Shoots), I (y1_12.1.Low.Height), I (y1_12.1.Low.Girth), I (y1_12.1.High.Age), I (y1_12.1.High.Shoots), I (y1_12.1.High.Height), I (y1_12.1.High.Girth)], I (y1_12.2)]) (A_growth_Step s b (⟨((at_ zXSeason l v12_1).Light), ((at_ zXSeason l v12_1).Browse), ((at_ zXSeason l v12_1).Mild), (at_ zXSeason l v12_1).Cut⟩ : XSeason) q10 q11 q12 q13) (K_growth_Step s) [(10, 10, 0), (11, 11, 0), (12, 12, 0), (13, 13, 0)])
noncomputable abbrev z1i41 (l : List XSeason) (v12_1 : Int) : Hint := (hB (hC (.bool (ref02_Season (⟨((at_ zXSeason l v12_1).Light), ((at_ zXSeason l v12_1).Browse), ((at_ zXSeason l v12_1).Mild), (at_ zXSeason l v12_1).Cut⟩ : XSeason)))) true)
theorem z1p42 (s : XSpecies) (b : XBox) (l : List XSeason) (q10 : Nat) (q11 : Nat) (q12 : Nat) (q13 : Nat) (v12_1 : Int) : VRs (Ren.emb [(10, 10, 0), (11, 11, 0), (12, 12, 0), (13, 13, 0)]) (A_growth_Step s b (⟨((at_ zXSeason l v12_1).Light), ((at_ zXSeason l v12_1).Browse), ((at_ zXSeason l v12_1).Mild), (at_ zXSeason l v12_1).Cut⟩ : XSeason) q10 q11 q12 q13) [.agg #[.slice (some ⟨10, 0, none⟩) (s.Rise.length) (q10), .slice (some ⟨11, 0, none⟩) (s.Thick.length) (q11), I (s.Top), I (s.Stout), I (s.Shade), I (s.Reach), .slice (some ⟨12, 0, none⟩) (s.Ladder.length) (q12), .slice (some ⟨13, 0, none⟩) (s.Sprouts.length) (q13)], .agg #[I (b.Low.Age), I (b.Low.Shoots), I (b.Low.Height), I (b.Low.Girth), I (b.High.Age), I (b.High.Shoots), I (b.High.Height), I (b.High.Girth)], .agg #[I (((at_ zXSeason l v12_1).Light).Low), I (((at_ zXSeason l v12_1).Light).High), I (((at_ zXSeason l v12_1).Browse).Low), I (((at_ zXSeason l v12_1).Browse).High), I (((at_ zXSeason l v12_1).Mild).Low), I (((at_ zXSeason l v12_1).Mild).High), .bool ((at_ zXSeason l v12_1).Cut)]] := (.cons _ _ _ _ (.agg _ _ (.cons _ _ _ _ (.slc 10 0 _ _ _ ⟨10, 0, 0, 0⟩ rfl (.inl rfl)) (.cons _ _ _ _ (.slc 11 0 _ _ _ ⟨11, 0, 0, 0⟩ rfl (.inl rfl)) (.cons _ _ _ _ (VR.of_pf rfl) (.cons _ _ _ _ (VR.of_pf rfl) (.cons _ _ _ _ (VR.of_pf rfl) (.cons _ _ _ _ (VR.of_pf rfl) (.cons _ _ _ _ (.slc 12 0 _ _ _ ⟨12, 0, 0, 0⟩ rfl (.inl rfl)) (.cons _ _ _ _ (.slc 13 0 _ _ _ ⟨13, 0, 0, 0⟩ rfl (.inl rfl)) .nil))))))))) (.cons _ _ _ _ (VR.of_pf rfl) (.cons _ _ _ _ (VR.of_pf rfl) .nil)))
theorem z1p43 (l : List XSeason) (v12_1 : Int) : FC P GG 32 (A_ref02_Season (⟨((at_ zXSeason l v12_1).Light), ((at_ zXSeason l v12_1).Browse), ((at_ zXSeason l v12_1).Mild), (at_ zXSeason l v12_1).Cut⟩ : XSeason)) [] (.bool (ref02_Season (⟨((at_ zXSeason l v12_1).Light), ((at_ zXSeason l v12_1).Browse), ((at_ zXSeason l v12_1).Mild), (at_ zXSeason l v12_1).Cut⟩ : XSeason))) := ref02_Season_fc (⟨((at_ zXSeason l v12_1).Light), ((at_ zXSeason l v12_1).Browse), ((at_ zXSeason l v12_1).Mild), (at_ zXSeason l v12_1).Cut⟩ : XSeason)
abbrev z1r44 (l : List XSeason) (v12_1 : Int) : Prop := RowLd P 58 (encL cXSeason l) (0 + v12_1.toNat * 7) (.agg #[I (((at_ zXSeason l v12_1).Light).Low), I (((at_ zXSeason l v12_1).Light).High), I (((at_ zXSeason l v12_1).Browse).Low), I (((at_ zXSeason l v12_1).Browse).High), I (((at_ zXSeason l v12_1).Mild).Low), I (((at_ zXSeason l v12_1).Mild).High), .bool ((at_ zXSeason l v12_1).Cut)])
abbrev z1r45 (y1_12 : XBox × Int) : Prop := VR (Ren.emb [(10, 10, 0), (11, 11, 0), (12, 12, 0), (13, 13, 0)]) (.tuple #[.agg #[I (y1_12.1.Low.Age), I (y1_12.1.Low.Shoots), I (y1_12.1.Low.Height), I (y1_12.1.Low.Girth), I (y1_12.1.High.Age), I (y1_12.1.High.Shoots), I (y1_12.1.High.Height), I (y1_12.1.High.Girth)], I (y1_12.2)]) (.tuple #[.agg #[I (y1_12.1.Low.Age), I (y1_12.1.Low.Shoots), I (y1_12.1.Low.Height), I (y1_12.1.Low.Girth), I (y1_12.1.High.Age), I (y1_12.1.High.Shoots), I (y1_12.1.High.Height), I (y1_12.1.High.Girth)], I (y1_12.2)])
abbrev z1r46 (v12_1 : Int) : Prop := (.pointer (some ⟨14, 0 + v12_1.toNat * 7, none⟩) : Value) = .pointer (some ⟨14, 0 + v12_1.toNat * 7, none⟩)
abbrev z1r47 (l : List XSeason) (v12_1 : Int) : Prop := (.agg #[I (((at_ zXSeason l v12_1).Light).Low), I (((at_ zXSeason l v12_1).Light).High), I (((at_ zXSeason l v12_1).Browse).Low), I (((at_ zXSeason l v12_1).Browse).High), I (((at_ zXSeason l v12_1).Mild).Low), I (((at_ zXSeason l v12_1).Mild).High), .bool ((at_ zXSeason l v12_1).Cut)] : Value) = .agg #[I (((at_ zXSeason l v12_1).Light).Low), I (((at_ zXSeason l v12_1).Light).High), I (((at_ zXSeason l v12_1).Browse).Low), I (((at_ zXSeason l v12_1).Browse).High), I (((at_ zXSeason l v12_1).Mild).Low), I (((at_ zXSeason l v12_1).Mild).High), .bool ((at_ zXSeason l v12_1).Cut)]
abbrev z1r48 (y1_12 : XBox × Int) : Prop := (.tuple #[.agg #[I (y1_12.1.Low.Age), I (y1_12.1.Low.Shoots), I (y1_12.1.Low.Height), I (y1_12.1.Low.Girth), I (y1_12.1.High.Age), I (y1_12.1.High.Shoots), I (y1_12.1.High.Height), I (y1_12.1.High.Girth)], I (y1_12.2)] : Value) = .tuple #[.agg #[I (y1_12.1.Low.Age), I (y1_12.1.Low.Shoots), I (y1_12.1.Low.Height), I (y1_12.1.Low.Girth), I (y1_12.1.High.Age), I (y1_12.1.High.Shoots), I (y1_12.1.High.Height), I (y1_12.1.High.Girth)], I (y1_12.2)]
abbrev z1r49 (y1_12 : XBox × Int) : Prop := (.agg #[I (y1_12.1.Low.Age), I (y1_12.1.Low.Shoots), I (y1_12.1.Low.Height), I (y1_12.1.Low.Girth), I (y1_12.1.High.Age), I (y1_12.1.High.Shoots), I (y1_12.1.High.Height), I (y1_12.1.High.Girth)] : Value) = .agg #[I (y1_12.1.Low.Age), I (y1_12.1.Low.Shoots), I (y1_12.1.Low.Height), I (y1_12.1.Low.Girth), I (y1_12.1.High.Age), I (y1_12.1.High.Shoots), I (y1_12.1.High.Height), I (y1_12.1.High.Girth)]
noncomputable abbrev z1i50 (s : XSpecies) (b : XBox) (l : List XSeason) (q10 : Nat) (q11 : Nat) (q12 : Nat) (q13 : Nat) (v12_1 : Int) (y1_13 : XBox) : Hint := (hM (.agg #[I (y1_13.Low.Age), I (y1_13.Low.Shoots), I (y1_13.Low.Height), I (y1_13.Low.Girth), I (y1_13.High.Age), I (y1_13.High.Shoots), I (y1_13.High.Height), I (y1_13.High.Girth)]) (.agg #[I (y1_13.Low.Age), I (y1_13.Low.Shoots), I (y1_13.Low.Height), I (y1_13.Low.Girth), I (y1_13.High.Age), I (y1_13.High.Shoots), I (y1_13.High.Height), I (y1_13.High.Girth)]) (A_ref02_Step s b (⟨((at_ zXSeason l v12_1).Light), ((at_ zXSeason l v12_1).Browse), ((at_ zXSeason l v12_1).Mild), (at_ zXSeason l v12_1).Cut⟩ : XSeason) q10 q11 q12 q13) (K_ref02_Step s) [(10, 10, 0), (11, 11, 0), (12, 12, 0), (13, 13, 0)])
theorem z1p51 (s : XSpecies) (b : XBox) (l : List XSeason) (q10 : Nat) (q11 : Nat) (q12 : Nat) (q13 : Nat) (v12_1 : Int) : VRs (Ren.emb [(10, 10, 0), (11, 11, 0), (12, 12, 0), (13, 13, 0)]) (A_ref02_Step s b (⟨((at_ zXSeason l v12_1).Light), ((at_ zXSeason l v12_1).Browse), ((at_ zXSeason l v12_1).Mild), (at_ zXSeason l v12_1).Cut⟩ : XSeason) q10 q11 q12 q13) [.agg #[.slice (some ⟨10, 0, none⟩) (s.Rise.length) (q10), .slice (some ⟨11, 0, none⟩) (s.Thick.length) (q11), I (s.Top), I (s.Stout), I (s.Shade), I (s.Reach), .slice (some ⟨12, 0, none⟩) (s.Ladder.length) (q12), .slice (some ⟨13, 0, none⟩) (s.Sprouts.length) (q13)], .agg #[I (b.Low.Age), I (b.Low.Shoots), I (b.Low.Height), I (b.Low.Girth), I (b.High.Age), I (b.High.Shoots), I (b.High.Height), I (b.High.Girth)], .agg #[I (((at_ zXSeason l v12_1).Light).Low), I (((at_ zXSeason l v12_1).Light).High), I (((at_ zXSeason l v12_1).Browse).Low), I (((at_ zXSeason l v12_1).Browse).High), I (((at_ zXSeason l v12_1).Mild).Low), I (((at_ zXSeason l v12_1).Mild).High), .bool ((at_ zXSeason l v12_1).Cut)]] := (.cons _ _ _ _ (.agg _ _ (.cons _ _ _ _ (.slc 10 0 _ _ _ ⟨10, 0, 0, 0⟩ rfl (.inl rfl)) (.cons _ _ _ _ (.slc 11 0 _ _ _ ⟨11, 0, 0, 0⟩ rfl (.inl rfl)) (.cons _ _ _ _ (VR.of_pf rfl) (.cons _ _ _ _ (VR.of_pf rfl) (.cons _ _ _ _ (VR.of_pf rfl) (.cons _ _ _ _ (VR.of_pf rfl) (.cons _ _ _ _ (.slc 12 0 _ _ _ ⟨12, 0, 0, 0⟩ rfl (.inl rfl)) (.cons _ _ _ _ (.slc 13 0 _ _ _ ⟨13, 0, 0, 0⟩ rfl (.inl rfl)) .nil))))))))) (.cons _ _ _ _ (VR.of_pf rfl) (.cons _ _ _ _ (VR.of_pf rfl) .nil)))
abbrev z1r52 (y1_13 : XBox) : Prop := VR (Ren.emb [(10, 10, 0), (11, 11, 0), (12, 12, 0), (13, 13, 0)]) (.agg #[I (y1_13.Low.Age), I (y1_13.Low.Shoots), I (y1_13.Low.Height), I (y1_13.Low.Girth), I (y1_13.High.Age), I (y1_13.High.Shoots), I (y1_13.High.Height), I (y1_13.High.Girth)]) (.agg #[I (y1_13.Low.Age), I (y1_13.Low.Shoots), I (y1_13.Low.Height), I (y1_13.Low.Girth), I (y1_13.High.Age), I (y1_13.High.Shoots), I (y1_13.High.Height), I (y1_13.High.Girth)])
noncomputable abbrev z1i53 (l : List XSeason) (v12_1 : Int) : Hint := (hB (hC (.bool (ref02_Season (⟨((at_ zXSeason l v12_1).Light), ((at_ zXSeason l v12_1).Browse), ((at_ zXSeason l v12_1).Mild), (at_ zXSeason l v12_1).Cut⟩ : XSeason)))) false)
noncomputable abbrev z1i54 (l : List XSeason) (q14 : Nat) (y1_14 : Bool) : Hint := (hB (hM (.bool (y1_14)) (.bool (y1_14)) (A_ref02_Seasons l q14) (K_ref02_Seasons l) [(10, 14, 0)]) true)
noncomputable abbrev z1i55 (s : XSpecies) (b : XBox) (l : List XSeason) (q10 : Nat) (q11 : Nat) (q12 : Nat) (q13 : Nat) (q14 : Nat) (y1_15 : List XBox) : Hint := (hN (.slice (some ⟨77, 0, none⟩) (y1_15.length) (y1_15.length)) (.slice (some ⟨104, 0, none⟩) (y1_15.length) (y1_15.length)) [.agg #[.slice (some ⟨10, 0, none⟩) (s.Rise.length) (q10), .slice (some ⟨11, 0, none⟩) (s.Thick.length) (q11), I (s.Top), I (s.Stout), I (s.Shade), I (s.Reach), .slice (some ⟨12, 0, none⟩) (s.Ladder.length) (q12), .slice (some ⟨13, 0, none⟩) (s.Sprouts.length) (q13)], .agg #[I (b.Low.Age), I (b.Low.Shoots), I (b.Low.Height), I (b.Low.Girth), I (b.High.Age), I (b.High.Shoots), I (b.High.Height), I (b.High.Girth)], .slice (some ⟨14, 0, none⟩) (l.length) (q14)] [(10, encL cInt s.Rise), (11, encL cInt s.Thick), (12, encL cXRung s.Ladder), (13, encL cXSpan s.Sprouts), (14, encL cXSeason l)] [(10, 10, 0), (11, 11, 0), (12, 12, 0), (13, 13, 0), (14, 14, 0)] 77 (encL cXBox y1_15) 8)
noncomputable abbrev z1i56 (x11 : List XBox) (y1_15 : List XBox) (y1_16 : Bool) : Hint := (hB (hM (.bool (y1_16)) (.bool (y1_16)) (A_ref02_Same_1 x11 y1_15 x11.length y1_15.length) (K_ref02_Same_1 x11 y1_15) [(10, 103, 0), (11, 104, 0)]) true)
theorem z1p57 (x11 : List XBox) (y1_15 : List XBox) : VRs (Ren.emb [(10, 103, 0), (11, 104, 0)]) (A_ref02_Same_1 x11 y1_15 x11.length y1_15.length) [.slice (some ⟨103, 0, none⟩) (x11.length) (x11.length), .slice (some ⟨104, 0, none⟩) (y1_15.length) (y1_15.length)] := (.cons _ _ _ _ (.slc 10 0 _ _ _ ⟨103, 0, 0, 0⟩ rfl (.inl rfl)) (.cons _ _ _ _ (.slc 11 0 _ _ _ ⟨104, 0, 0, 0⟩ rfl (.inl rfl)) .nil))
theorem z1p58 (x11 : List XBox) (y1_15 : List XBox) : MemAt (Ren.emb [(10, 103, 0), (11, 104, 0)]) (encL cXBox x11) 0 (encL cXBox x11) ∧ MemAt (Ren.emb [(10, 103, 0), (11, 104, 0)]) (encL cXBox y1_15) 0 (encL cXBox y1_15) ∧ True := ⟨MemAt.same _ (encL_pf cXBox_pf _), MemAt.same _ (encL_pf cXBox_pf _), trivial⟩
abbrev z1r59 (s : XSpecies) (b : XBox) (l : List XSeason) (q10 : Nat) (q11 : Nat) (q12 : Nat) (q13 : Nat) (q14 : Nat) (y1_15 : List XBox) : Prop := FCN P GG 36 [.agg #[.slice (some ⟨10, 0, none⟩) (s.Rise.length) (q10), .slice (some ⟨11, 0, none⟩) (s.Thick.length) (q11), I (s.Top), I (s.Stout), I (s.Shade), I (s.Reach), .slice (some ⟨12, 0, none⟩) (s.Ladder.length) (q12), .slice (some ⟨13, 0, none⟩) (s.Sprouts.length) (q13)], .agg #[I (b.Low.Age), I (b.Low.Shoots), I (b.Low.Height), I (b.Low.Girth), I (b.High.Age), I (b.High.Shoots), I (b.High.Height), I (b.High.Girth)], .slice (some ⟨14, 0, none⟩) (l.length) (q14)] [(10, encL cInt s.Rise), (11, encL cInt s.Thick), (12, encL cXRung s.Ladder), (13, encL cXSpan s.Sprouts), (14, encL cXSeason l)] (.slice (some ⟨77, 0, none⟩) (y1_15.length) (y1_15.length)) 77 (encL cXBox y1_15) 8
abbrev z1r60 (y1_15 : List XBox) : Prop := VR (Ren.emb ((77, 104, 0) :: [(10, 10, 0), (11, 11, 0), (12, 12, 0), (13, 13, 0), (14, 14, 0)])) (.slice (some ⟨77, 0, none⟩) (y1_15.length) (y1_15.length)) (.slice (some ⟨104, 0, none⟩) (y1_15.length) (y1_15.length))
abbrev z1r61 (y1_16 : Bool) : Prop := VR (Ren.emb [(10, 103, 0), (11, 104, 0)]) (.bool (y1_16)) (.bool (y1_16))
noncomputable abbrev z1i62 (x11 : List XBox) (y1_15 : List XBox) (y1_16 : Bool) : Hint := (hB (hM (.bool (y1_16)) (.bool (y1_16)) (A_ref02_Same_1 x11 y1_15 x11.length y1_15.length) (K_ref02_Same_1 x11 y1_15) [(10, 103, 0), (11, 104, 0)]) false)
noncomputable abbrev z1i63 (s : XSpecies) (b : XBox) (l : List XSeason) (q10 : Nat) (q11 : Nat) (q12 : Nat) (q13 : Nat) (q14 : Nat) : Hint := (hN (.slice (some ⟨77, 0, none⟩) (1) (1)) (.slice (some ⟨104, 0, none⟩) (1) (1)) [.agg #[.slice (some ⟨10, 0, none⟩) (s.Rise.length) (q10), .slice (some ⟨11, 0, none⟩) (s.Thick.length) (q11), I (s.Top), I (s.Stout), I (s.Shade), I (s.Reach), .slice (some ⟨12, 0, none⟩) (s.Ladder.length) (q12), .slice (some ⟨13, 0, none⟩) (s.Sprouts.length) (q13)], .agg #[I (b.Low.Age), I (b.Low.Shoots), I (b.Low.Height), I (b.Low.Girth), I (b.High.Age), I (b.High.Shoots), I (b.High.Height), I (b.High.Girth)], .slice (some ⟨14, 0, none⟩) (l.length) (q14)] [(10, encL cInt s.Rise), (11, encL cInt s.Thick), (12, encL cXRung s.Ladder), (13, encL cXSpan s.Sprouts), (14, encL cXSeason l)] [(10, 10, 0), (11, 11, 0), (12, 12, 0), (13, 13, 0), (14, 14, 0)] 77 (encL cXBox ([b])) 0)
noncomputable abbrev z1i64 (b : XBox) (x11 : List XBox) (y1_18 : Bool) : Hint := (hB (hM (.bool (y1_18)) (.bool (y1_18)) (A_ref02_Same_1 x11 ([b]) x11.length 1) (K_ref02_Same_1 x11 ([b])) [(10, 103, 0), (11, 104, 0)]) true)
theorem z1p65 (b : XBox) (x11 : List XBox) : VRs (Ren.emb [(10, 103, 0), (11, 104, 0)]) (A_ref02_Same_1 x11 ([b]) x11.length 1) [.slice (some ⟨103, 0, none⟩) (x11.length) (x11.length), .slice (some ⟨104, 0, none⟩) (1) (1)] := (.cons _ _ _ _ (.slc 10 0 _ _ _ ⟨103, 0, 0, 0⟩ rfl (.inl rfl)) (.cons _ _ _ _ (.slc 11 0 _ _ _ ⟨104, 0, 0, 0⟩ rfl (.inl rfl)) .nil))
theorem z1p66 (b : XBox) (x11 : List XBox) : MemAt (Ren.emb [(10, 103, 0), (11, 104, 0)]) (encL cXBox x11) 0 (encL cXBox x11) ∧ MemAt (Ren.emb [(10, 103, 0), (11, 104, 0)]) (encL cXBox ([b])) 0 ([I (b.Low.Age), I (b.Low.Shoots), I (b.Low.Height), I (b.Low.Girth), I (b.High.Age), I (b.High.Shoots), I (b.High.Height), I (b.High.Girth)]) ∧ True := ⟨MemAt.same _ (encL_pf cXBox_pf _), MemAt.same _ (encL_pf cXBox_pf _), trivial⟩
abbrev z1r67 : Prop := VR (Ren.emb ((77, 104, 0) :: [(10, 10, 0), (11, 11, 0), (12, 12, 0), (13, 13, 0), (14, 14, 0)])) (.slice (some ⟨77, 0, none⟩) (1) (1)) (.slice (some ⟨104, 0, none⟩) (1) (1))
abbrev z1r68 (y1_18 : Bool) : Prop := VR (Ren.emb [(10, 103, 0), (11, 104, 0)]) (.bool (y1_18)) (.bool (y1_18))
noncomputable abbrev z1i69 (b : XBox) (x11 : List XBox) (y1_18 : Bool) : Hint := (hB (hM (.bool (y1_18)) (.bool (y1_18)) (A_ref02_Same_1 x11 ([b]) x11.length 1) (K_ref02_Same_1 x11 ([b])) [(10, 103, 0), (11, 104, 0)]) false)
noncomputable abbrev z1i70 (l : List XSeason) (q14 : Nat) (y1_14 : Bool) : Hint := (hB (hM (.bool (y1_14)) (.bool (y1_14)) (A_ref02_Seasons l q14) (K_ref02_Seasons l) [(10, 14, 0)]) false)
noncomputable abbrev z1i71 (s : XSpecies) (q10 : Nat) (q11 : Nat) (q12 : Nat) (q13 : Nat) : Hint := (hB (hM (.bool (law02_short s)) (.bool (law02_short s)) (A_law02_short s q10 q11 q12 q13) (K_law02_short s) [(10, 10, 0), (11, 11, 0), (12, 12, 0), (13, 13, 0)]) true)
theorem z1p72 (s : XSpecies) (q10 : Nat) (q11 : Nat) (q12 : Nat) (q13 : Nat) : VRs (Ren.emb [(10, 10, 0), (11, 11, 0), (12, 12, 0), (13, 13, 0)]) (A_law02_short s q10 q11 q12 q13) [.agg #[.slice (some ⟨10, 0, none⟩) (s.Rise.length) (q10), .slice (some ⟨11, 0, none⟩) (s.Thick.length) (q11), I (s.Top), I (s.Stout), I (s.Shade), I (s.Reach), .slice (some ⟨12, 0, none⟩) (s.Ladder.length) (q12), .slice (some ⟨13, 0, none⟩) (s.Sprouts.length) (q13)]] := (.cons _ _ _ _ (.agg _ _ (.cons _ _ _ _ (.slc 10 0 _ _ _ ⟨10, 0, 0, 0⟩ rfl (.inl rfl)) (.cons _ _ _ _ (.slc 11 0 _ _ _ ⟨11, 0, 0, 0⟩ rfl (.inl rfl)) (.cons _ _ _ _ (VR.of_pf rfl) (.cons _ _ _ _ (VR.of_pf rfl) (.cons _ _ _ _ (VR.of_pf rfl) (.cons _ _ _ _ (VR.of_pf rfl) (.cons _ _ _ _ (.slc 12 0 _ _ _ ⟨12, 0, 0, 0⟩ rfl (.inl rfl)) (.cons _ _ _ _ (.slc 13 0 _ _ _ ⟨13, 0, 0, 0⟩ rfl (.inl rfl)) .nil))))))))) .nil)
abbrev z1r73 (s : XSpecies) : Prop := VR (Ren.emb [(10, 10, 0), (11, 11, 0), (12, 12, 0), (13, 13, 0)]) (.bool (law02_short s)) (.bool (law02_short s))
noncomputable abbrev z1i74 (s : XSpecies) (b : XBox) (l : List XSeason) (q10 : Nat) (q11 : Nat) (q12 : Nat) (q13 : Nat) (q14 : Nat) (x2 : Int) : Hint := (hM (.tuple #[.slice none 0 0, I (x2)]) (.tuple #[.slice none 0 0, I (x2)]) [.agg #[.slice (some ⟨10, 0, none⟩) (s.Rise.length) (q10), .slice (some ⟨11, 0, none⟩) (s.Thick.length) (q11), I (s.Top), I (s.Stout), I (s.Shade), I (s.Reach), .slice (some ⟨12, 0, none⟩) (s.Ladder.length) (q12), .slice (some ⟨13, 0, none⟩) (s.Sprouts.length) (q13)], .agg #[I (b.Low.Age), I (b.Low.Shoots), I (b.Low.Height), I (b.Low.Girth), I (b.High.Age), I (b.High.Shoots), I (b.High.Height), I (b.High.Girth)], .slice (some ⟨14, 0, none⟩) (l.length) (q14)] [(10, encL cInt s.Rise), (11, encL cInt s.Thick), (12, encL cXRung s.Ladder), (13, encL cXSpan s.Sprouts), (14, encL cXSeason l)] [(10, 10, 0), (11, 11, 0), (12, 12, 0), (13, 13, 0), (14, 14, 0)])
abbrev z1r75 (s : XSpecies) (b : XBox) (l : List XSeason) (q10 : Nat) (q11 : Nat) (q12 : Nat) (q13 : Nat) (q14 : Nat) (x2 : Int) : Prop := FC P GG 30 [.agg #[.slice (some ⟨10, 0, none⟩) (s.Rise.length) (q10), .slice (some ⟨11, 0, none⟩) (s.Thick.length) (q11), I (s.Top), I (s.Stout), I (s.Shade), I (s.Reach), .slice (some ⟨12, 0, none⟩) (s.Ladder.length) (q12), .slice (some ⟨13, 0, none⟩) (s.Sprouts.length) (q13)], .agg #[I (b.Low.Age), I (b.Low.Shoots), I (b.Low.Height), I (b.Low.Girth), I (b.High.Age), I (b.High.Shoots), I (b.High.Height), I (b.High.Girth)], .slice (some ⟨14, 0, none⟩) (l.length) (q14)] [(10, encL cInt s.Rise), (11, encL cInt s.Thick), (12, encL cXRung s.Ladder), (13, encL cXSpan s.Sprouts), (14, encL cXSeason l)] (.tuple #[.slice none 0 0, I (x2)])
abbrev z1r76 (x2 : Int) : Prop := VR (Ren.emb [(10, 10, 0), (11, 11, 0), (12, 12, 0), (13, 13, 0), (14, 14, 0)]) (.tuple #[.slice none 0 0, I (x2)]) (.tuple #[.slice none 0 0, I (x2)])
noncomputable abbrev z1i77 (s : XSpecies) (q10 : Nat) (q11 : Nat) (q12 : Nat) (q13 : Nat) (x3 : Bool) : Hint := (hB (hM (.bool (x3)) (.bool (x3)) (A_ref02_Species s q10 q11 q12 q13) (K_ref02_Species s) [(10, 10, 0), (11, 11, 0), (12, 12, 0), (13, 13, 0)]) true)
theorem z1p78 (s : XSpecies) (q10 : Nat) (q11 : Nat) (q12 : Nat) (q13 : Nat) : VRs (Ren.emb [(10, 10, 0), (11, 11, 0), (12, 12, 0), (13, 13, 0)]) (A_ref02_Species s q10 q11 q12 q13) [.agg #[.slice (some ⟨10, 0, none⟩) (s.Rise.length) (q10), .slice (some ⟨11, 0, none⟩) (s.Thick.length) (q11), I (s.Top), I (s.Stout), I (s.Shade), I (s.Reach), .slice (some ⟨12, 0, none⟩) (s.Ladder.length) (q12), .slice (some ⟨13, 0, none⟩) (s.Sprouts.length) (q13)]] := (.cons _ _ _ _ (.agg _ _ (.cons _ _ _ _ (.slc 10 0 _ _ _ ⟨10, 0, 0, 0⟩ rfl (.inl rfl)) (.cons _ _ _ _ (.slc 11 0 _ _ _ ⟨11, 0, 0, 0⟩ rfl (.inl rfl)) (.cons _ _ _ _ (VR.of_pf rfl) (.cons _ _ _ _ (VR.of_pf rfl) (.cons _ _ _ _ (VR.of_pf rfl) (.cons _ _ _ _ (VR.of_pf rfl) (.cons _ _ _ _ (.slc 12 0 _ _ _ ⟨12, 0, 0, 0⟩ rfl (.inl rfl)) (.cons _ _ _ _ (.slc 13 0 _ _ _ ⟨13, 0, 0, 0⟩ rfl (.inl rfl)) .nil))))))))) .nil)
abbrev z1r79 (x3 : Bool) : Prop := VR (Ren.emb [(10, 10, 0), (11, 11, 0), (12, 12, 0), (13, 13, 0)]) (.bool (x3)) (.bool (x3))
noncomputable abbrev z1i80 (s : XSpecies) (q10 : Nat) (q11 : Nat) (q12 : Nat) (q13 : Nat) (x3 : Bool) : Hint := (hB (hM (.bool (x3)) (.bool (x3)) (A_ref02_Species s q10 q11 q12 q13) (K_ref02_Species s) [(10, 10, 0), (11, 11, 0), (12, 12, 0), (13, 13, 0)]) false)
noncomputable abbrev z1i81 (s : XSpecies) (b : XBox) (l : List XSeason) (q10 : Nat) (q11 : Nat) (q12 : Nat) (q13 : Nat) (q14 : Nat) (x11 : List XBox) : Hint := (hN (.tuple #[.slice (some ⟨77, 0, none⟩) (x11.length) (x11.length), I (0)]) (.tuple #[.slice (some ⟨103, 0, none⟩) (x11.length) (x11.length), I (0)]) [.agg #[.slice (some ⟨10, 0, none⟩) (s.Rise.length) (q10), .slice (some ⟨11, 0, none⟩) (s.Thick.length) (q11), I (s.Top), I (s.Stout), I (s.Shade), I (s.Reach), .slice (some ⟨12, 0, none⟩) (s.Ladder.length) (q12), .slice (some ⟨13, 0, none⟩) (s.Sprouts.length) (q13)], .agg #[I (b.Low.Age), I (b.Low.Shoots), I (b.Low.Height), I (b.Low.Girth), I (b.High.Age), I (b.High.Shoots), I (b.High.Height), I (b.High.Girth)], .slice (some ⟨14, 0, none⟩) (l.length) (q14)] [(10, encL cInt s.Rise), (11, encL cInt s.Thick), (12, encL cXRung s.Ladder), (13, encL cXSpan s.Sprouts), (14, encL cXSeason l)] [(10, 10, 0), (11, 11, 0), (12, 12, 0), (13, 13, 0), (14, 14, 0)] 77 (encL cXBox x11) 8)
theorem z1p82 (x11 : List XBox) : VR (Ren.emb ((77, 103, 0) :: [(10, 10, 0), (11, 11, 0), (12, 12, 0), (13, 13, 0), (14, 14, 0)])) (.tuple #[.slice (some ⟨77, 0, none⟩) (x11.length) (x11.length), I (0)]) (.tuple #[.slice (some ⟨103, 0, none⟩) (x11.length) (x11.length), I (0)]) := .tuple _ _ (.cons _ _ _ _ (.slc 77 0 _ _ _ ⟨103, 0, 0, 0⟩ rfl (.inl rfl)) (.cons _ _ _ _ (VR.of_pf rfl) .nil))
abbrev z1r83 (s : XSpecies) (b : XBox) (l : List XSeason) (q10 : Nat) (q11 : Nat) (q12 : Nat) (q13 : Nat) (q14 : Nat) (x11 : List XBox) : Prop := FCN P GG 30 [.agg #[.slice (some ⟨10, 0, none⟩) (s.Rise.length) (q10), .slice (some ⟨11, 0, none⟩) (s.Thick.length) (q11), I (s.Top), I (s.Stout), I (s.Shade), I (s.Reach), .slice (some ⟨12, 0, none⟩) (s.Ladder.length) (q12), .slice (some ⟨13, 0, none⟩) (s.Sprouts.length) (q13)], .agg #[I (b.Low.Age), I (b.Low.Shoots), I (b.Low.Height), I (b.Low.Girth), I (b.High.Age), I (b.High.Shoots), I (b.High.Height), I (b.High.Girth)], .slice (some ⟨14, 0, none⟩) (l.length) (q14)] [(10, encL cInt s.Rise), (11, encL cInt s.Thick), (12, encL cXRung s.Ladder), (13, encL cXSpan s.Sprouts), (14, encL cXSeason l)] (.tuple #[.slice (some ⟨77, 0, none⟩) (x11.length) (x11.length), I (0)]) 77 (encL cXBox x11) 8
noncomputable abbrev z1i84 (s : XSpecies) (q10 : Nat) (q11 : Nat) (q12 : Nat) (q13 : Nat) : Hint := (hB (hM (.bool (law02_short s)) (.bool (law02_short s)) (A_law02_short s q10 q11 q12 q13) (K_law02_short s) [(10, 10, 0), (11, 11, 0), (12, 12, 0), (13, 13, 0)]) false)
abbrev A_law02_GrowthSteps (s : XSpecies) (b : XBox) (l : List XSeason) (x_3 : XStand) (q10 : Nat) (q11 : Nat) (q12 : Nat) (q13 : Nat) (q14 : Nat) : List Value := [.agg #[.slice (some ⟨10, 0, none⟩) (s.Rise.length) (q10), .slice (some ⟨11, 0, none⟩) (s.Thick.length) (q11), I (s.Top), I (s.Stout), I (s.Shade), I (s.Reach), .slice (some ⟨12, 0, none⟩) (s.Ladder.length) (q12), .slice (some ⟨13, 0, none⟩) (s.Sprouts.length) (q13)], .agg #[I (b.Low.Age), I (b.Low.Shoots), I (b.Low.Height), I (b.Low.Girth), I (b.High.Age), I (b.High.Shoots), I (b.High.Height), I (b.High.Girth)], .slice (some ⟨14, 0, none⟩) (l.length) (q14), .agg #[I (x_3.Age), I (x_3.Shoots), I (x_3.Height), I (x_3.Girth)]]
abbrev K_law02_GrowthSteps (s : XSpecies) (l : List XSeason) : List (Nat × List Value) := [(10, encL cInt s.Rise), (11, encL cInt s.Thick), (12, encL cXRung s.Ladder), (13, encL cXSpan s.Sprouts), (14, encL cXSeason l)]
noncomputable def law02_GrowthSteps_L (fu : Nat) (s : XSpecies) (b : XBox) (l : List XSeason) (x_3 : XStand) : Nat → (Bool → Bool → Int → Int → Option Bool) × (Bool → Bool → Int → List XBox → Option Bool)
  | 0 => (fun _ _ _ _ => none, fun _ _ _ _ => none)
  | fk + 1 => (fun v8 v11 v12 x2 => bif decide (v12 < ((l.length : Nat) : Int)) then (bif decide (0 ≤ v12 ∧ v12 < ((l.length : Nat) : Int)) then (Option.bind (growth_Step fu s b (⟨((at_ zXSeason l v12).Light), ((at_ zXSeason l v12).Browse), ((at_ zXSeason l v12).Mild), (at_ zXSeason l v12).Cut⟩ : XSeason)) fun y0_4 =>
        bif v11 then (bif ref02_Season (⟨((at_ zXSeason l v12).Light), ((at_ zXSeason l v12).Browse), ((at_ zXSeason l v12).Mild), (at_ zXSeason l v12).Cut⟩ : XSeason) then (bif y0_4.2 != 0 then some false
            else (Option.bind (ref02_Step fu s b (⟨((at_ zXSeason l v12).Light), ((at_ zXSeason l v12).Browse), ((at_ zXSeason l v12).Mild), (at_ zXSeason l v12).Cut⟩ : XSeason)) fun y0_5 =>
              bif !(((y0_4.1.Low.Age == y0_5.Low.Age) && ((y0_4.1.Low.Shoots == y0_5.Low.Shoots) && ((y0_4.1.Low.Height == y0_5.Low.Height) && ((y0_4.1.Low.Girth == y0_5.Low.Girth) && true)))) && (((y0_4.1.High.Age == y0_5.High.Age) && ((y0_4.1.High.Shoots == y0_5.High.Shoots) && ((y0_4.1.High.Height == y0_5.High.Height) && ((y0_4.1.High.Girth == y0_5.High.Girth) && true)))) && true)) then some false
              else (law02_GrowthSteps_L fu s b l x_3 fk).1 v8 v11 (W (v12 + 1)) x2))
          else (bif y0_4.2 != 2 then some false
            else (bif !(((y0_4.1.Low.Age == 0) && ((y0_4.1.Low.Shoots == 0) && ((y0_4.1.Low.Height == 0) && ((y0_4.1.Low.Girth == 0) && true)))) && (((y0_4.1.High.Age == 0) && ((y0_4.1.High.Shoots == 0) && ((y0_4.1.High.Height == 0) && ((y0_4.1.High.Girth == 0) && true)))) && true)) then some false
              else (law02_GrowthSteps_L fu s b l x_3 fk).1 v8 v11 (W (v12 + 1)) x2)))
        else (bif y0_4.2 != 2 then some false
          else (bif !(((y0_4.1.Low.Age == 0) && ((y0_4.1.Low.Shoots == 0) && ((y0_4.1.Low.Height == 0) && ((y0_4.1.Low.Girth == 0) && true)))) && (((y0_4.1.High.Age == 0) && ((y0_4.1.High.Shoots == 0) && ((y0_4.1.High.Height == 0) && ((y0_4.1.High.Girth == 0) && true)))) && true)) then some false
            else (law02_GrowthSteps_L fu s b l x_3 fk).1 v8 v11 (W (v12 + 1)) x2))) else none)
      else (bif v11 then (Option.bind (ref02_Seasons fu l) fun y0_6 =>
          bif y0_6 then (bif x2 == 0 then (bif decide (1 ≤ l.length) then (bif decide (l.length ≤ 12) then (Option.bind (ref02_hist fu s b l) fun y0_7 =>
                Option.bind (ref02_Same fu y0_7) fun y0_8 =>
                bif y0_8 then (Option.bind (law02_known fu) fun y0_9 =>
                  some y0_9)
                else some false) else none)
              else (Option.bind (ref02_Same fu ([b])) fun y0_10 =>
                bif y0_10 then (Option.bind (law02_known fu) fun y0_9 =>
                  some y0_9)
                else some false))
            else some false)
          else (bif x2 == 2 then (Option.bind (law02_known fu) fun y0_9 =>
              some y0_9)
            else some false))
        else (bif x2 == 2 then (Option.bind (law02_known fu) fun y0_9 =>
            some y0_9)
          else some false)),
    fun v8_1 v11_1 v12_1 x11 => bif decide (v12_1 < ((l.length : Nat) : Int)) then (bif decide (0 ≤ v12_1 ∧ v12_1 < ((l.length : Nat) : Int)) then (Option.bind (growth_Step fu s b (⟨((at_ zXSeason l v12_1).Light), ((at_ zXSeason l v12_1).Browse), ((at_ zXSeason l v12_1).Mild), (at_ zXSeason l v12_1).Cut⟩ : XSeason)) fun y1_12 =>
        bif v11_1 then (bif ref02_Season (⟨((at_ zXSeason l v12_1).Light), ((at_ zXSeason l v12_1).Browse), ((at_ zXSeason l v12_1).Mild), (at_ zXSeason l v12_1).Cut⟩ : XSeason) then (bif y1_12.2 != 0 then some false
            else (Option.bind (ref02_Step fu s b (⟨((at_ zXSeason l v12_1).Light), ((at_ zXSeason l v12_1).Browse), ((at_ zXSeason l v12_1).Mild), (at_ zXSeason l v12_1).Cut⟩ : XSeason)) fun y1_13 =>
              bif !(((y1_12.1.Low.Age == y1_13.Low.Age) && ((y1_12.1.Low.Shoots == y1_13.Low.Shoots) && ((y1_12.1.Low.Height == y1_13.Low.Height) && ((y1_12.1.Low.Girth == y1_13.Low.Girth) && true)))) && (((y1_12.1.High.Age == y1_13.High.Age) && ((y1_12.1.High.Shoots == y1_13.High.Shoots) && ((y1_12.1.High.Height == y1_13.High.Height) && ((y1_12.1.High.Girth == y1_13.High.Girth) && true)))) && true)) then some false
              else (law02_GrowthSteps_L fu s b l x_3 fk).2 v8_1 v11_1 (W (v12_1 + 1)) x11))
          else (bif y1_12.2 != 2 then some false
            else (bif !(((y1_12.1.Low.Age == 0) && ((y1_12.1.Low.Shoots == 0) && ((y1_12.1.Low.Height == 0) && ((y1_12.1.Low.Girth == 0) && true)))) && (((y1_12.1.High.Age == 0) && ((y1_12.1.High.Shoots == 0) && ((y1_12.1.High.Height == 0) && ((y1_12.1.High.Girth == 0) && true)))) && true)) then some false
              else (law02_GrowthSteps_L fu s b l x_3 fk).2 v8_1 v11_1 (W (v12_1 + 1)) x11)))
        else (bif y1_12.2 != 2 then some false
          else (bif !(((y1_12.1.Low.Age == 0) && ((y1_12.1.Low.Shoots == 0) && ((y1_12.1.Low.Height == 0) && ((y1_12.1.Low.Girth == 0) && true)))) && (((y1_12.1.High.Age == 0) && ((y1_12.1.High.Shoots == 0) && ((y1_12.1.High.Height == 0) && ((y1_12.1.High.Girth == 0) && true)))) && true)) then some false
            else (law02_GrowthSteps_L fu s b l x_3 fk).2 v8_1 v11_1 (W (v12_1 + 1)) x11))) else none)
      else (bif v11_1 then (Option.bind (ref02_Seasons fu l) fun y1_14 =>
          bif y1_14 then (bif decide (1 ≤ l.length) then (bif decide (l.length ≤ 12) then (Option.bind (ref02_hist fu s b l) fun y1_15 =>
              Option.bind (ref02_Same_1 fu x11 y1_15) fun y1_16 =>
              bif y1_16 then (Option.bind (law02_known fu) fun y1_17 =>
                some y1_17)
              else some false) else none)
            else (Option.bind (ref02_Same_1 fu x11 ([b])) fun y1_18 =>
              bif y1_18 then (Option.bind (law02_known fu) fun y1_17 =>
                some y1_17)
              else some false))
          else some false)
        else some false))
theorem law02_GrowthSteps_L_s0 (fu : Nat) (s : XSpecies) (b : XBox) (l : List XSeason) (x_3 : XStand) (fk : Nat) (v8 : Bool) (v11 : Bool) (v12 : Int) (x2 : Int) : (law02_GrowthSteps_L fu s b l x_3 (fk + 1)).1 v8 v11 v12 x2 = (bif decide (v12 < ((l.length : Nat) : Int)) then (bif decide (0 ≤ v12 ∧ v12 < ((l.length : Nat) : Int)) then (Option.bind (growth_Step fu s b (⟨((at_ zXSeason l v12).Light), ((at_ zXSeason l v12).Browse), ((at_ zXSeason l v12).Mild), (at_ zXSeason l v12).Cut⟩ : XSeason)) fun y0_4 =>
        bif v11 then (bif ref02_Season (⟨((at_ zXSeason l v12).Light), ((at_ zXSeason l v12).Browse), ((at_ zXSeason l v12).Mild), (at_ zXSeason l v12).Cut⟩ : XSeason) then (bif y0_4.2 != 0 then some false
            else (Option.bind (ref02_Step fu s b (⟨((at_ zXSeason l v12).Light), ((at_ zXSeason l v12).Browse), ((at_ zXSeason l v12).Mild), (at_ zXSeason l v12).Cut⟩ : XSeason)) fun y0_5 =>
              bif !(((y0_4.1.Low.Age == y0_5.Low.Age) && ((y0_4.1.Low.Shoots == y0_5.Low.Shoots) && ((y0_4.1.Low.Height == y0_5.Low.Height) && ((y0_4.1.Low.Girth == y0_5.Low.Girth) && true)))) && (((y0_4.1.High.Age == y0_5.High.Age) && ((y0_4.1.High.Shoots == y0_5.High.Shoots) && ((y0_4.1.High.Height == y0_5.High.Height) && ((y0_4.1.High.Girth == y0_5.High.Girth) && true)))) && true)) then some false
              else (law02_GrowthSteps_L fu s b l x_3 fk).1 v8 v11 (W (v12 + 1)) x2))
          else (bif y0_4.2 != 2 then some false
            else (bif !(((y0_4.1.Low.Age == 0) && ((y0_4.1.Low.Shoots == 0) && ((y0_4.1.Low.Height == 0) && ((y0_4.1.Low.Girth == 0) && true)))) && (((y0_4.1.High.Age == 0) && ((y0_4.1.High.Shoots == 0) && ((y0_4.1.High.Height == 0) && ((y0_4.1.High.Girth == 0) && true)))) && true)) then some false
              else (law02_GrowthSteps_L fu s b l x_3 fk).1 v8 v11 (W (v12 + 1)) x2)))
        else (bif y0_4.2 != 2 then some false
          else (bif !(((y0_4.1.Low.Age == 0) && ((y0_4.1.Low.Shoots == 0) && ((y0_4.1.Low.Height == 0) && ((y0_4.1.Low.Girth == 0) && true)))) && (((y0_4.1.High.Age == 0) && ((y0_4.1.High.Shoots == 0) && ((y0_4.1.High.Height == 0) && ((y0_4.1.High.Girth == 0) && true)))) && true)) then some false
            else (law02_GrowthSteps_L fu s b l x_3 fk).1 v8 v11 (W (v12 + 1)) x2))) else none)
      else (bif v11 then (Option.bind (ref02_Seasons fu l) fun y0_6 =>
          bif y0_6 then (bif x2 == 0 then (bif decide (1 ≤ l.length) then (bif decide (l.length ≤ 12) then (Option.bind (ref02_hist fu s b l) fun y0_7 =>
                Option.bind (ref02_Same fu y0_7) fun y0_8 =>
                bif y0_8 then (Option.bind (law02_known fu) fun y0_9 =>
                  some y0_9)
                else some false) else none)
              else (Option.bind (ref02_Same fu ([b])) fun y0_10 =>
                bif y0_10 then (Option.bind (law02_known fu) fun y0_9 =>
                  some y0_9)
                else some false))
            else some false)
          else (bif x2 == 2 then (Option.bind (law02_known fu) fun y0_9 =>
              some y0_9)
            else some false))
        else (bif x2 == 2 then (Option.bind (law02_known fu) fun y0_9 =>
            some y0_9)
          else some false))) := rfl
theorem law02_GrowthSteps_L_s1 (fu : Nat) (s : XSpecies) (b : XBox) (l : List XSeason) (x_3 : XStand) (fk : Nat) (v8_1 : Bool) (v11_1 : Bool) (v12_1 : Int) (x11 : List XBox) : (law02_GrowthSteps_L fu s b l x_3 (fk + 1)).2 v8_1 v11_1 v12_1 x11 = (bif decide (v12_1 < ((l.length : Nat) : Int)) then (bif decide (0 ≤ v12_1 ∧ v12_1 < ((l.length : Nat) : Int)) then (Option.bind (growth_Step fu s b (⟨((at_ zXSeason l v12_1).Light), ((at_ zXSeason l v12_1).Browse), ((at_ zXSeason l v12_1).Mild), (at_ zXSeason l v12_1).Cut⟩ : XSeason)) fun y1_12 =>
        bif v11_1 then (bif ref02_Season (⟨((at_ zXSeason l v12_1).Light), ((at_ zXSeason l v12_1).Browse), ((at_ zXSeason l v12_1).Mild), (at_ zXSeason l v12_1).Cut⟩ : XSeason) then (bif y1_12.2 != 0 then some false
            else (Option.bind (ref02_Step fu s b (⟨((at_ zXSeason l v12_1).Light), ((at_ zXSeason l v12_1).Browse), ((at_ zXSeason l v12_1).Mild), (at_ zXSeason l v12_1).Cut⟩ : XSeason)) fun y1_13 =>
              bif !(((y1_12.1.Low.Age == y1_13.Low.Age) && ((y1_12.1.Low.Shoots == y1_13.Low.Shoots) && ((y1_12.1.Low.Height == y1_13.Low.Height) && ((y1_12.1.Low.Girth == y1_13.Low.Girth) && true)))) && (((y1_12.1.High.Age == y1_13.High.Age) && ((y1_12.1.High.Shoots == y1_13.High.Shoots) && ((y1_12.1.High.Height == y1_13.High.Height) && ((y1_12.1.High.Girth == y1_13.High.Girth) && true)))) && true)) then some false
              else (law02_GrowthSteps_L fu s b l x_3 fk).2 v8_1 v11_1 (W (v12_1 + 1)) x11))
          else (bif y1_12.2 != 2 then some false
            else (bif !(((y1_12.1.Low.Age == 0) && ((y1_12.1.Low.Shoots == 0) && ((y1_12.1.Low.Height == 0) && ((y1_12.1.Low.Girth == 0) && true)))) && (((y1_12.1.High.Age == 0) && ((y1_12.1.High.Shoots == 0) && ((y1_12.1.High.Height == 0) && ((y1_12.1.High.Girth == 0) && true)))) && true)) then some false
              else (law02_GrowthSteps_L fu s b l x_3 fk).2 v8_1 v11_1 (W (v12_1 + 1)) x11)))
        else (bif y1_12.2 != 2 then some false
          else (bif !(((y1_12.1.Low.Age == 0) && ((y1_12.1.Low.Shoots == 0) && ((y1_12.1.Low.Height == 0) && ((y1_12.1.Low.Girth == 0) && true)))) && (((y1_12.1.High.Age == 0) && ((y1_12.1.High.Shoots == 0) && ((y1_12.1.High.Height == 0) && ((y1_12.1.High.Girth == 0) && true)))) && true)) then some false
            else (law02_GrowthSteps_L fu s b l x_3 fk).2 v8_1 v11_1 (W (v12_1 + 1)) x11))) else none)
      else (bif v11_1 then (Option.bind (ref02_Seasons fu l) fun y1_14 =>
          bif y1_14 then (bif decide (1 ≤ l.length) then (bif decide (l.length ≤ 12) then (Option.bind (ref02_hist fu s b l) fun y1_15 =>
              Option.bind (ref02_Same_1 fu x11 y1_15) fun y1_16 =>
              bif y1_16 then (Option.bind (law02_known fu) fun y1_17 =>
                some y1_17)
              else some false) else none)
            else (Option.bind (ref02_Same_1 fu x11 ([b])) fun y1_18 =>
              bif y1_18 then (Option.bind (law02_known fu) fun y1_17 =>
                some y1_17)
              else some false))
          else some false)
        else some false)) := rfl
noncomputable def law02_GrowthSteps (fu : Nat) (s : XSpecies) (b : XBox) (l : List XSeason) (x_3 : XStand) : Option Bool :=
  bif law02_short s then (bif decide (((l.length : Nat) : Int) > 12) then (bif decide (((l.length : Nat) : Int) ≤ 100) then (Option.bind (law02_known fu) fun x1 =>
        some x1)
      else (bif decide (((l.length : Nat) : Int) > 200) then (Option.bind (law02_known fu) fun x1 =>
          some x1)
        else (bif ref02_Box b then (bif ref02_Stand x_3 then (bif !((growth_Inside b x_3) == (ref02_Inside b x_3)) then some false
              else (Option.bind (growth_checkHistory fu s b l) fun x2 =>
                bif x2 != 0 then (bif decide (((l.length : Nat) : Int) > 100) then (bif x2 == 3 then (Option.bind (law02_known fu) fun x1 =>
                      some x1)
                    else some false)
                  else (Option.bind (ref02_Species fu s) fun x3 =>
                    bif x3 then (law02_GrowthSteps_L fu s b l x_3 fu).1 false true 0 x2
                    else (law02_GrowthSteps_L fu s b l x_3 fu).1 false false 0 x2))
                else (bif decide (l.length ≤ 12) then (Option.bind (growth_hist fu s b l) fun x11 =>
                  bif decide (((l.length : Nat) : Int) > 100) then some false
                  else (Option.bind (ref02_Species fu s) fun x3 =>
                    bif x3 then (law02_GrowthSteps_L fu s b l x_3 fu).2 false true 0 x11
                    else (law02_GrowthSteps_L fu s b l x_3 fu).2 false false 0 x11)) else none)))
            else (bif !((growth_Inside b x_3) == false) then some false
              else (Option.bind (growth_checkHistory fu s b l) fun x2 =>
                bif x2 != 0 then (bif decide (((l.length : Nat) : Int) > 100) then (bif x2 == 3 then (Option.bind (law02_known fu) fun x1 =>
                      some x1)
                    else some false)
                  else (Option.bind (ref02_Species fu s) fun x3 =>
                    bif x3 then (law02_GrowthSteps_L fu s b l x_3 fu).1 false true 0 x2
                    else (law02_GrowthSteps_L fu s b l x_3 fu).1 false false 0 x2))
                else (bif decide (l.length ≤ 12) then (Option.bind (growth_hist fu s b l) fun x11 =>
                  bif decide (((l.length : Nat) : Int) > 100) then some false
                  else (Option.bind (ref02_Species fu s) fun x3 =>
                    bif x3 then (law02_GrowthSteps_L fu s b l x_3 fu).2 false true 0 x11
                    else (law02_GrowthSteps_L fu s b l x_3 fu).2 false false 0 x11)) else none))))
          else (bif !((growth_Inside b x_3) == false) then some false
            else (Option.bind (growth_checkHistory fu s b l) fun x2 =>
              bif x2 != 0 then (bif decide (((l.length : Nat) : Int) > 100) then (bif x2 == 3 then (Option.bind (law02_known fu) fun x1 =>
                    some x1)
                  else some false)
                else (Option.bind (ref02_Species fu s) fun x3 =>
                  bif x3 then (law02_GrowthSteps_L fu s b l x_3 fu).1 false false 0 x2
                  else (law02_GrowthSteps_L fu s b l x_3 fu).1 false false 0 x2))
              else (bif decide (l.length ≤ 12) then (Option.bind (growth_hist fu s b l) fun x11 =>
                bif decide (((l.length : Nat) : Int) > 100) then some false
                else (Option.bind (ref02_Species fu s) fun x3 =>
                  bif x3 then (law02_GrowthSteps_L fu s b l x_3 fu).2 false false 0 x11
                  else (law02_GrowthSteps_L fu s b l x_3 fu).2 false false 0 x11)) else none))))))
    else (bif decide (((l.length : Nat) : Int) > 200) then (Option.bind (law02_known fu) fun x1 =>
        some x1)
      else (bif ref02_Box b then (bif ref02_Stand x_3 then (bif !((growth_Inside b x_3) == (ref02_Inside b x_3)) then some false
            else (Option.bind (growth_checkHistory fu s b l) fun x2 =>
              bif x2 != 0 then (bif decide (((l.length : Nat) : Int) > 100) then (bif x2 == 3 then (Option.bind (law02_known fu) fun x1 =>
                    some x1)
                  else some false)
                else (Option.bind (ref02_Species fu s) fun x3 =>
                  bif x3 then (law02_GrowthSteps_L fu s b l x_3 fu).1 false true 0 x2
                  else (law02_GrowthSteps_L fu s b l x_3 fu).1 false false 0 x2))
              else (bif decide (l.length ≤ 12) then (Option.bind (growth_hist fu s b l) fun x11 =>
                bif decide (((l.length : Nat) : Int) > 100) then some false
                else (Option.bind (ref02_Species fu s) fun x3 =>
                  bif x3 then (law02_GrowthSteps_L fu s b l x_3 fu).2 false true 0 x11
                  else (law02_GrowthSteps_L fu s b l x_3 fu).2 false false 0 x11)) else none)))
          else (bif !((growth_Inside b x_3) == false) then some false
            else (Option.bind (growth_checkHistory fu s b l) fun x2 =>
              bif x2 != 0 then (bif decide (((l.length : Nat) : Int) > 100) then (bif x2 == 3 then (Option.bind (law02_known fu) fun x1 =>
                    some x1)
                  else some false)
                else (Option.bind (ref02_Species fu s) fun x3 =>
                  bif x3 then (law02_GrowthSteps_L fu s b l x_3 fu).1 false true 0 x2
                  else (law02_GrowthSteps_L fu s b l x_3 fu).1 false false 0 x2))
              else (bif decide (l.length ≤ 12) then (Option.bind (growth_hist fu s b l) fun x11 =>
                bif decide (((l.length : Nat) : Int) > 100) then some false
                else (Option.bind (ref02_Species fu s) fun x3 =>
                  bif x3 then (law02_GrowthSteps_L fu s b l x_3 fu).2 false true 0 x11
                  else (law02_GrowthSteps_L fu s b l x_3 fu).2 false false 0 x11)) else none))))
        else (bif !((growth_Inside b x_3) == false) then some false
          else (Option.bind (growth_checkHistory fu s b l) fun x2 =>
            bif x2 != 0 then (bif decide (((l.length : Nat) : Int) > 100) then (bif x2 == 3 then (Option.bind (law02_known fu) fun x1 =>
                  some x1)
                else some false)
              else (Option.bind (ref02_Species fu s) fun x3 =>
                bif x3 then (law02_GrowthSteps_L fu s b l x_3 fu).1 false false 0 x2
                else (law02_GrowthSteps_L fu s b l x_3 fu).1 false false 0 x2))
            else (bif decide (l.length ≤ 12) then (Option.bind (growth_hist fu s b l) fun x11 =>
              bif decide (((l.length : Nat) : Int) > 100) then some false
              else (Option.bind (ref02_Species fu s) fun x3 =>
                bif x3 then (law02_GrowthSteps_L fu s b l x_3 fu).2 false false 0 x11
                else (law02_GrowthSteps_L fu s b l x_3 fu).2 false false 0 x11)) else none))))))
  else (Option.bind (law02_known fu) fun x1 =>
    some x1)
theorem law02_GrowthSteps_L_fs (fu : Nat) (s : XSpecies) (b : XBox) (l : List XSeason) (x_3 : XStand) (q10 q11 q12 q13 q14 : Nat) : ∀ fk, (∀ (v8 : Bool) (v11 : Bool) (v12 : Int) (x2 : Int) (r : Bool), (law02_GrowthSteps_L fu s b l x_3 fk).1 v8 v11 v12 x2 = some r → FSat P GG Tryd.f5 (.bool (r)) (ids (looses (K_law02_GrowthSteps s l))) 151 [.lp (cA (bodyOf Tryd.f5) [1, 1, 1, 1, 1, 1, 0, 1, 0, 0]), .blk 0, .code (cA (bodyOf Tryd.f5) [1, 1, 1, 1, 1, 1, 1])] (tOf 151 [(2, .slice (some ⟨14, 0, none⟩) (l.length) (q14)), (4, .pointer (some ⟨100, 0, none⟩)), (5, .pointer (some ⟨101, 0, none⟩)), (8, .bool (v8)), (9, .slice none 0 0), (10, I (x2)), (11, .bool (v11)), (12, I (v12))]) (mOf 102 [(0, .rom [I (1), I (2), I (3)] .glob), (10, .rom (encL cInt s.Rise) .loose), (11, .rom (encL cInt s.Thick) .loose), (12, .rom (encL cXRung s.Ladder) .loose), (13, .rom (encL cXSpan s.Sprouts) .loose), (14, .rom (encL cXSeason l) .loose), (100, .row [.slice (some ⟨10, 0, none⟩) (s.Rise.length) (q10), .slice (some ⟨11, 0, none⟩) (s.Thick.length) (q11), I (s.Top), I (s.Stout), I (s.Shade), I (s.Reach), .slice (some ⟨12, 0, none⟩) (s.Ladder.length) (q12), .slice (some ⟨13, 0, none⟩) (s.Sprouts.length) (q13)] 0), (101, .row [I (b.Low.Age), I (b.Low.Shoots), I (b.Low.Height), I (b.Low.Girth), I (b.High.Age), I (b.High.Shoots), I (b.High.Height), I (b.High.Girth)] 0)])) ∧ (∀ (v8_1 : Bool) (v11_1 : Bool) (v12_1 : Int) (x11 : List XBox) (r : Bool), (law02_GrowthSteps_L fu s b l x_3 fk).2 v8_1 v11_1 v12_1 x11 = some r → FSat P GG Tryd.f5 (.bool (r)) (ids (looses (K_law02_GrowthSteps s l))) 151 [.lp (cA (bodyOf Tryd.f5) [1, 1, 1, 1, 1, 1, 0, 1, 0, 0]), .blk 0, .code (cA (bodyOf Tryd.f5) [1, 1, 1, 1, 1, 1, 1])] (tOf 151 [(2, .slice (some ⟨14, 0, none⟩) (l.length) (q14)), (4, .pointer (some ⟨100, 0, none⟩)), (5, .pointer (some ⟨101, 0, none⟩)), (8, .bool (v8_1)), (9, .slice (some ⟨103, 0, none⟩) (x11.length) (x11.length)), (10, I (0)), (11, .bool (v11_1)), (12, I (v12_1))]) (mOf 104 [(0, .rom [I (1), I (2), I (3)] .glob), (10, .rom (encL cInt s.Rise) .loose), (11, .rom (encL cInt s.Thick) .loose), (12, .rom (encL cXRung s.Ladder) .loose), (13, .rom (encL cXSpan s.Sprouts) .loose), (14, .rom (encL cXSeason l) .loose), (100, .row [.slice (some ⟨10, 0, none⟩) (s.Rise.length) (q10), .slice (some ⟨11, 0, none⟩) (s.Thick.length) (q11), I (s.Top), I (s.Stout), I (s.Shade), I (s.Reach), .slice (some ⟨12, 0, none⟩) (s.Ladder.length) (q12), .slice (some ⟨13, 0, none⟩) (s.Sprouts.length) (q13)] 0), (101, .row [I (b.Low.Age), I (b.Low.Shoots), I (b.Low.Height), I (b.Low.Girth), I (b.High.Age), I (b.High.Shoots), I (b.High.Height), I (b.High.Girth)] 0), (103, .row (encL cXBox x11) 8)])) := by
  intro fk
  induction fk with
  | zero => exact ⟨(fun _ _ _ _ r hh => by cases hh), (fun _ _ _ _ r hh => by cases hh)⟩
  | succ fk ih =>
    refine ⟨?_, ?_⟩
    · intro v8 v11 v12 x2 r hh
      have h0 := hh
      rw [law02_GrowthSteps_L_s0] at hh
      rcases bb (decide (v12 < ((l.length : Nat) : Int))) with h1 | h1
      ·rw [h1, cT] at hh
       rcases bb (decide (0 ≤ v12 ∧ v12 < ((l.length : Nat) : Int))) with h2 | h2
       rotate_left
       ·rw [h2, cF] at hh; cases hh
       ·rw [h2, cT] at hh
        cases h3 : growth_Step fu s b (⟨((at_ zXSeason l v12).Light), ((at_ zXSeason l v12).Browse), ((at_ zXSeason l v12).Mild), (at_ zXSeason l v12).Cut⟩ : XSeason) with
        | none => rw [h3, oN] at hh; cases hh
        | some y0_4 =>
         rw [h3, oS] at hh
         rcases bb (v11) with h4 | h4
         ·rw [h4, cT] at hh
          rcases bb (ref02_Season (⟨((at_ zXSeason l v12).Light), ((at_ zXSeason l v12).Browse), ((at_ zXSeason l v12).Mild), (at_ zXSeason l v12).Cut⟩ : XSeason)) with h5 | h5
          ·rw [h5, cT] at hh
           rcases bb (y0_4.2 != 0) with h6 | h6
           ·rw [h6, cT] at hh
            rw [← sI hh]
            exact FSat.d pfT 24 (hE :: hE :: hE :: hT :: (hR 4 (hX :: (z1i0 l v12) :: (z1i1 s b l q10 q11 q12 q13 v12 y0_4) :: (hR 6 (hT :: (hR 4 [hX, (z1i0 l v12), (z1i2 l v12), hE, hE, hE, hT, hE, hE, hE])))))) [.go] (pc h1 <| pt (0 ≤ v12 ∧ v12 < ((l.length : Nat) : Int)) (of_decide_eq_true h2) <| pt (z1r6 l v12) (RowLd.elem cXSeason_len _ (.inl ⟨_, rfl⟩) rfl rfl _ _ (of_decide_eq_true h2)) <| pc (growth_Step_fc fu s b (⟨((at_ zXSeason l v12).Light), ((at_ zXSeason l v12).Browse), ((at_ zXSeason l v12).Mild), (at_ zXSeason l v12).Cut⟩ : XSeason) q10 q11 q12 q13 y0_4 h3) <| pc (z1p3 s b l q10 q11 q12 q13 v12) <| pc (z1p4 s) <| pt (z1r7 y0_4) (selfB_self 9 _ rfl _) <| pt (z1r8 s q10 q11 q12 q13) rfl <| pt (z1r9 b) rfl <| pt (z1r10 l q14) rfl <| pt ((I (v12) : Value) = I (v12)) rfl <| pt (0 ≤ v12 ∧ v12 < ((l.length : Nat) : Int)) (of_decide_eq_true h2) <| pt (z1r11 v12) rfl <| pt (z1r6 l v12) (RowLd.elem cXSeason_len _ (.inl ⟨_, rfl⟩) rfl rfl _ _ (of_decide_eq_true h2)) <| pt (z1r12 l v12) rfl <| pc (growth_Step_fc fu s b (⟨((at_ zXSeason l v12).Light), ((at_ zXSeason l v12).Browse), ((at_ zXSeason l v12).Mild), (at_ zXSeason l v12).Cut⟩ : XSeason) q10 q11 q12 q13 y0_4 h3) <| pc (z1p3 s b l q10 q11 q12 q13 v12) <| pc (z1p4 s) <| pt (z1r7 y0_4) (selfB_self 9 _ rfl _) <| pt (z1r13 y0_4) rfl <| pt (z1r13 y0_4) rfl <| pt (z1r14 y0_4) rfl <| pt ((I (y0_4.2) : Value) = I (y0_4.2)) rfl <| pt ((I (y0_4.2) : Value) = I (y0_4.2)) rfl <| pc h4 <| pt (0 ≤ v12 ∧ v12 < ((l.length : Nat) : Int)) (of_decide_eq_true h2) <| pt (z1r6 l v12) (RowLd.elem cXSeason_len _ (.inl ⟨_, rfl⟩) rfl rfl _ _ (of_decide_eq_true h2)) <| pc (z1p5 l v12) <| pc h5 <| pc h6 <| pn) (by kernel_rfl) (by kernel_rfl)
           ·rw [h6, cF] at hh
            cases h7 : ref02_Step fu s b (⟨((at_ zXSeason l v12).Light), ((at_ zXSeason l v12).Browse), ((at_ zXSeason l v12).Mild), (at_ zXSeason l v12).Cut⟩ : XSeason) with
            | none => rw [h7, oN] at hh; cases hh
            | some y0_5 =>
             rw [h7, oS] at hh
             rcases bb (!(((y0_4.1.Low.Age == y0_5.Low.Age) && ((y0_4.1.Low.Shoots == y0_5.Low.Shoots) && ((y0_4.1.Low.Height == y0_5.Low.Height) && ((y0_4.1.Low.Girth == y0_5.Low.Girth) && true)))) && (((y0_4.1.High.Age == y0_5.High.Age) && ((y0_4.1.High.Shoots == y0_5.High.Shoots) && ((y0_4.1.High.Height == y0_5.High.Height) && ((y0_4.1.High.Girth == y0_5.High.Girth) && true)))) && true))) with h8 | h8
             ·rw [h8, cT] at hh
              rw [← sI hh]
              exact FSat.d pfT 24 (hE :: hE :: hE :: hT :: (hR 4 (hX :: (z1i0 l v12) :: (z1i1 s b l q10 q11 q12 q13 v12 y0_4) :: (hR 6 (hT :: (hR 4 (hX :: (z1i0 l v12) :: (z1i2 l v12) :: hE :: hE :: hE :: hF :: (hR 6 [hX, (z1i0 l v12), (z1i15 s b l q10 q11 q12 q13 v12 y0_5), (hB hQ true), hE, hE])))))))) [.go] (pc h1 <| pt (0 ≤ v12 ∧ v12 < ((l.length : Nat) : Int)) (of_decide_eq_true h2) <| pt (z1r6 l v12) (RowLd.elem cXSeason_len _ (.inl ⟨_, rfl⟩) rfl rfl _ _ (of_decide_eq_true h2)) <| pc (growth_Step_fc fu s b (⟨((at_ zXSeason l v12).Light), ((at_ zXSeason l v12).Browse), ((at_ zXSeason l v12).Mild), (at_ zXSeason l v12).Cut⟩ : XSeason) q10 q11 q12 q13 y0_4 h3) <| pc (z1p3 s b l q10 q11 q12 q13 v12) <| pc (z1p4 s) <| pt (z1r7 y0_4) (selfB_self 9 _ rfl _) <| pt (z1r8 s q10 q11 q12 q13) rfl <| pt (z1r9 b) rfl <| pt (z1r10 l q14) rfl <| pt ((I (v12) : Value) = I (v12)) rfl <| pt (0 ≤ v12 ∧ v12 < ((l.length : Nat) : Int)) (of_decide_eq_true h2) <| pt (z1r11 v12) rfl <| pt (z1r6 l v12) (RowLd.elem cXSeason_len _ (.inl ⟨_, rfl⟩) rfl rfl _ _ (of_decide_eq_true h2)) <| pt (z1r12 l v12) rfl <| pc (growth_Step_fc fu s b (⟨((at_ zXSeason l v12).Light), ((at_ zXSeason l v12).Browse), ((at_ zXSeason l v12).Mild), (at_ zXSeason l v12).Cut⟩ : XSeason) q10 q11 q12 q13 y0_4 h3) <| pc (z1p3 s b l q10 q11 q12 q13 v12) <| pc (z1p4 s) <| pt (z1r7 y0_4) (selfB_self 9 _ rfl _) <| pt (z1r13 y0_4) rfl <| pt (z1r13 y0_4) rfl <| pt (z1r14 y0_4) rfl <| pt ((I (y0_4.2) : Value) = I (y0_4.2)) rfl <| pt ((I (y0_4.2) : Value) = I (y0_4.2)) rfl <| pc h4 <| pt (0 ≤ v12 ∧ v12 < ((l.length : Nat) : Int)) (of_decide_eq_true h2) <| pt (z1r6 l v12) (RowLd.elem cXSeason_len _ (.inl ⟨_, rfl⟩) rfl rfl _ _ (of_decide_eq_true h2)) <| pc (z1p5 l v12) <| pc h5 <| pc h6 <| pt (0 ≤ v12 ∧ v12 < ((l.length : Nat) : Int)) (of_decide_eq_true h2) <| pt (z1r6 l v12) (RowLd.elem cXSeason_len _ (.inl ⟨_, rfl⟩) rfl rfl _ _ (of_decide_eq_true h2)) <| pc (ref02_Step_fc fu s b (⟨((at_ zXSeason l v12).Light), ((at_ zXSeason l v12).Browse), ((at_ zXSeason l v12).Mild), (at_ zXSeason l v12).Cut⟩ : XSeason) q10 q11 q12 q13 y0_5 h7) <| pc (z1p16 s b l q10 q11 q12 q13 v12) <| pc (z1p4 s) <| pt (z1r17 y0_5) (selfB_self 9 _ rfl _) <| pc h8 <| pn) (by kernel_rfl) (by kernel_rfl)
             ·rw [h8, cF] at hh
              have e : (law02_GrowthSteps_L fu s b l x_3 (fk + 1)).1 v8 v11 v12 x2 = (law02_GrowthSteps_L fu s b l x_3 fk).1 v8 v11 (W (v12 + 1)) x2 := by rw [law02_GrowthSteps_L_s0]; rw [h1, cT, h2, cT, h3, oS, h4, cT, h5, cT, h6, cF, h7, oS, h8, cF]; first | done | rfl
              rw [e] at h0; have hh := h0
              have nx := ih.1 v8 v11 (W (v12 + 1)) x2 r hh
              refine FSat.s pfT 25 (hE :: hE :: hE :: hT :: (hR 4 (hX :: (z1i0 l v12) :: (z1i1 s b l q10 q11 q12 q13 v12 y0_4) :: (hR 6 (hT :: (hR 4 (hX :: (z1i0 l v12) :: (z1i2 l v12) :: hE :: hE :: hE :: hF :: (hR 6 (hX :: (z1i0 l v12) :: (z1i15 s b l q10 q11 q12 q13 v12 y0_5) :: (hB hQ false) :: (hR 4 [])))))))))) [.go, .st [2, 4, 5, 8, 9, 10, 11, 12] [0, 10, 11, 12, 13, 14, 100, 101]] (pc h1 <| pt (0 ≤ v12 ∧ v12 < ((l.length : Nat) : Int)) (of_decide_eq_true h2) <| pt (z1r6 l v12) (RowLd.elem cXSeason_len _ (.inl ⟨_, rfl⟩) rfl rfl _ _ (of_decide_eq_true h2)) <| pc (growth_Step_fc fu s b (⟨((at_ zXSeason l v12).Light), ((at_ zXSeason l v12).Browse), ((at_ zXSeason l v12).Mild), (at_ zXSeason l v12).Cut⟩ : XSeason) q10 q11 q12 q13 y0_4 h3) <| pc (z1p3 s b l q10 q11 q12 q13 v12) <| pc (z1p4 s) <| pt (z1r7 y0_4) (selfB_self 9 _ rfl _) <| pt (z1r8 s q10 q11 q12 q13) rfl <| pt (z1r9 b) rfl <| pt (z1r10 l q14) rfl <| pt ((I (v12) : Value) = I (v12)) rfl <| pt (0 ≤ v12 ∧ v12 < ((l.length : Nat) : Int)) (of_decide_eq_true h2) <| pt (z1r11 v12) rfl <| pt (z1r6 l v12) (RowLd.elem cXSeason_len _ (.inl ⟨_, rfl⟩) rfl rfl _ _ (of_decide_eq_true h2)) <| pt (z1r12 l v12) rfl <| pc (growth_Step_fc fu s b (⟨((at_ zXSeason l v12).Light), ((at_ zXSeason l v12).Browse), ((at_ zXSeason l v12).Mild), (at_ zXSeason l v12).Cut⟩ : XSeason) q10 q11 q12 q13 y0_4 h3) <| pc (z1p3 s b l q10 q11 q12 q13 v12) <| pc (z1p4 s) <| pt (z1r7 y0_4) (selfB_self 9 _ rfl _) <| pt (z1r13 y0_4) rfl <| pt (z1r13 y0_4) rfl <| pt (z1r14 y0_4) rfl <| pt ((I (y0_4.2) : Value) = I (y0_4.2)) rfl <| pt ((I (y0_4.2) : Value) = I (y0_4.2)) rfl <| pc h4 <| pt (0 ≤ v12 ∧ v12 < ((l.length : Nat) : Int)) (of_decide_eq_true h2) <| pt (z1r6 l v12) (RowLd.elem cXSeason_len _ (.inl ⟨_, rfl⟩) rfl rfl _ _ (of_decide_eq_true h2)) <| pc (z1p5 l v12) <| pc h5 <| pc h6 <| pt (0 ≤ v12 ∧ v12 < ((l.length : Nat) : Int)) (of_decide_eq_true h2) <| pt (z1r6 l v12) (RowLd.elem cXSeason_len _ (.inl ⟨_, rfl⟩) rfl rfl _ _ (of_decide_eq_true h2)) <| pc (ref02_Step_fc fu s b (⟨((at_ zXSeason l v12).Light), ((at_ zXSeason l v12).Browse), ((at_ zXSeason l v12).Mild), (at_ zXSeason l v12).Cut⟩ : XSeason) q10 q11 q12 q13 y0_5 h7) <| pc (z1p16 s b l q10 q11 q12 q13 v12) <| pc (z1p4 s) <| pt (z1r17 y0_5) (selfB_self 9 _ rfl _) <| pc h8 <| pn) (by kernel_rfl) 102 (by kernel_rfl) ?_ nx
              exact ⟨PinL.lit (by kernel_rfl), PinL.pf (encL_pf cInt_pf _), PinL.pf (encL_pf cInt_pf _), PinL.pf (encL_pf cXRung_pf _), PinL.pf (encL_pf cXSpan_pf _), PinL.pf (encL_pf cXSeason_pf _), PinL.lit (by kernel_rfl), PinL.lit (by kernel_rfl), trivial⟩
          ·rw [h5, cF] at hh
           rcases bb (y0_4.2 != 2) with h6 | h6
           ·rw [h6, cT] at hh
            rw [← sI hh]
            exact FSat.d pfT 24 (hE :: hE :: hE :: hT :: (hR 4 (hX :: (z1i0 l v12) :: (z1i1 s b l q10 q11 q12 q13 v12 y0_4) :: (hR 6 (hT :: (hR 4 [hX, (z1i0 l v12), (z1i18 l v12), hE, hE, hE, hT, hE, hE, hE])))))) [.go] (pc h1 <| pt (0 ≤ v12 ∧ v12 < ((l.length : Nat) : Int)) (of_decide_eq_true h2) <| pt (z1r6 l v12) (RowLd.elem cXSeason_len _ (.inl ⟨_, rfl⟩) rfl rfl _ _ (of_decide_eq_true h2)) <| pc (growth_Step_fc fu s b (⟨((at_ zXSeason l v12).Light), ((at_ zXSeason l v12).Browse), ((at_ zXSeason l v12).Mild), (at_ zXSeason l v12).Cut⟩ : XSeason) q10 q11 q12 q13 y0_4 h3) <| pc (z1p3 s b l q10 q11 q12 q13 v12) <| pc (z1p4 s) <| pt (z1r7 y0_4) (selfB_self 9 _ rfl _) <| pt (z1r8 s q10 q11 q12 q13) rfl <| pt (z1r9 b) rfl <| pt (z1r10 l q14) rfl <| pt ((I (v12) : Value) = I (v12)) rfl <| pt (0 ≤ v12 ∧ v12 < ((l.length : Nat) : Int)) (of_decide_eq_true h2) <| pt (z1r11 v12) rfl <| pt (z1r6 l v12) (RowLd.elem cXSeason_len _ (.inl ⟨_, rfl⟩) rfl rfl _ _ (of_decide_eq_true h2)) <| pt (z1r12 l v12) rfl <| pc (growth_Step_fc fu s b (⟨((at_ zXSeason l v12).Light), ((at_ zXSeason l v12).Browse), ((at_ zXSeason l v12).Mild), (at_ zXSeason l v12).Cut⟩ : XSeason) q10 q11 q12 q13 y0_4 h3) <| pc (z1p3 s b l q10 q11 q12 q13 v12) <| pc (z1p4 s) <| pt (z1r7 y0_4) (selfB_self 9 _ rfl _) <| pt (z1r13 y0_4) rfl <| pt (z1r13 y0_4) rfl <| pt (z1r14 y0_4) rfl <| pt ((I (y0_4.2) : Value) = I (y0_4.2)) rfl <| pt ((I (y0_4.2) : Value) = I (y0_4.2)) rfl <| pc h4 <| pt (0 ≤ v12 ∧ v12 < ((l.length : Nat) : Int)) (of_decide_eq_true h2) <| pt (z1r6 l v12) (RowLd.elem cXSeason_len _ (.inl ⟨_, rfl⟩) rfl rfl _ _ (of_decide_eq_true h2)) <| pc (z1p5 l v12) <| pc h5 <| pc h6 <| pn) (by kernel_rfl) (by kernel_rfl)
           ·rw [h6, cF] at hh
            rcases bb (!(((y0_4.1.Low.Age == 0) && ((y0_4.1.Low.Shoots == 0) && ((y0_4.1.Low.Height == 0) && ((y0_4.1.Low.Girth == 0) && true)))) && (((y0_4.1.High.Age == 0) && ((y0_4.1.High.Shoots == 0) && ((y0_4.1.High.Height == 0) && ((y0_4.1.High.Girth == 0) && true)))) && true))) with h7 | h7
            ·rw [h7, cT] at hh
             rw [← sI hh]
             exact FSat.d pfT 24 (hE :: hE :: hE :: hT :: (hR 4 (hX :: (z1i0 l v12) :: (z1i1 s b l q10 q11 q12 q13 v12 y0_4) :: (hR 6 (hT :: (hR 4 [hX, (z1i0 l v12), (z1i18 l v12), hE, hE, hE, hF, hE, hE, hE, (hB hQ true), hE, hE])))))) [.go] (pc h1 <| pt (0 ≤ v12 ∧ v12 < ((l.length : Nat) : Int)) (of_decide_eq_true h2) <| pt (z1r6 l v12) (RowLd.elem cXSeason_len _ (.inl ⟨_, rfl⟩) rfl rfl _ _ (of_decide_eq_true h2)) <| pc (growth_Step_fc fu s b (⟨((at_ zXSeason l v12).Light), ((at_ zXSeason l v12).Browse), ((at_ zXSeason l v12).Mild), (at_ zXSeason l v12).Cut⟩ : XSeason) q10 q11 q12 q13 y0_4 h3) <| pc (z1p3 s b l q10 q11 q12 q13 v12) <| pc (z1p4 s) <| pt (z1r7 y0_4) (selfB_self 9 _ rfl _) <| pt (z1r8 s q10 q11 q12 q13) rfl <| pt (z1r9 b) rfl <| pt (z1r10 l q14) rfl <| pt ((I (v12) : Value) = I (v12)) rfl <| pt (0 ≤ v12 ∧ v12 < ((l.length : Nat) : Int)) (of_decide_eq_true h2) <| pt (z1r11 v12) rfl <| pt (z1r6 l v12) (RowLd.elem cXSeason_len _ (.inl ⟨_, rfl⟩) rfl rfl _ _ (of_decide_eq_true h2)) <| pt (z1r12 l v12) rfl <| pc (growth_Step_fc fu s b (⟨((at_ zXSeason l v12).Light), ((at_ zXSeason l v12).Browse), ((at_ zXSeason l v12).Mild), (at_ zXSeason l v12).Cut⟩ : XSeason) q10 q11 q12 q13 y0_4 h3) <| pc (z1p3 s b l q10 q11 q12 q13 v12) <| pc (z1p4 s) <| pt (z1r7 y0_4) (selfB_self 9 _ rfl _) <| pt (z1r13 y0_4) rfl <| pt (z1r13 y0_4) rfl <| pt (z1r14 y0_4) rfl <| pt ((I (y0_4.2) : Value) = I (y0_4.2)) rfl <| pt ((I (y0_4.2) : Value) = I (y0_4.2)) rfl <| pc h4 <| pt (0 ≤ v12 ∧ v12 < ((l.length : Nat) : Int)) (of_decide_eq_true h2) <| pt (z1r6 l v12) (RowLd.elem cXSeason_len _ (.inl ⟨_, rfl⟩) rfl rfl _ _ (of_decide_eq_true h2)) <| pc (z1p5 l v12) <| pc h5 <| pc h6 <| pc h7 <| pn) (by kernel_rfl) (by kernel_rfl)
            ·rw [h7, cF] at hh
             have e : (law02_GrowthSteps_L fu s b l x_3 (fk + 1)).1 v8 v11 v12 x2 = (law02_GrowthSteps_L fu s b l x_3 fk).1 v8 v11 (W (v12 + 1)) x2 := by rw [law02_GrowthSteps_L_s0]; rw [h1, cT, h2, cT, h3, oS, h4, cT, h5, cF, h6, cF, h7, cF]; first | done | rfl
             rw [e] at h0; have hh := h0
             have nx := ih.1 v8 v11 (W (v12 + 1)) x2 r hh
             refine FSat.s pfT 25 (hE :: hE :: hE :: hT :: (hR 4 (hX :: (z1i0 l v12) :: (z1i1 s b l q10 q11 q12 q13 v12 y0_4) :: (hR 6 (hT :: (hR 4 (hX :: (z1i0 l v12) :: (z1i18 l v12) :: hE :: hE :: hE :: hF :: hE :: hE :: hE :: (hB hQ false) :: (hR 4 [])))))))) [.go, .st [2, 4, 5, 8, 9, 10, 11, 12] [0, 10, 11, 12, 13, 14, 100, 101]] (pc h1 <| pt (0 ≤ v12 ∧ v12 < ((l.length : Nat) : Int)) (of_decide_eq_true h2) <| pt (z1r6 l v12) (RowLd.elem cXSeason_len _ (.inl ⟨_, rfl⟩) rfl rfl _ _ (of_decide_eq_true h2)) <| pc (growth_Step_fc fu s b (⟨((at_ zXSeason l v12).Light), ((at_ zXSeason l v12).Browse), ((at_ zXSeason l v12).Mild), (at_ zXSeason l v12).Cut⟩ : XSeason) q10 q11 q12 q13 y0_4 h3) <| pc (z1p3 s b l q10 q11 q12 q13 v12) <| pc (z1p4 s) <| pt (z1r7 y0_4) (selfB_self 9 _ rfl _) <| pt (z1r8 s q10 q11 q12 q13) rfl <| pt (z1r9 b) rfl <| pt (z1r10 l q14) rfl <| pt ((I (v12) : Value) = I (v12)) rfl <| pt (0 ≤ v12 ∧ v12 < ((l.length : Nat) : Int)) (of_decide_eq_true h2) <| pt (z1r11 v12) rfl <| pt (z1r6 l v12) (RowLd.elem cXSeason_len _ (.inl ⟨_, rfl⟩) rfl rfl _ _ (of_decide_eq_true h2)) <| pt (z1r12 l v12) rfl <| pc (growth_Step_fc fu s b (⟨((at_ zXSeason l v12).Light), ((at_ zXSeason l v12).Browse), ((at_ zXSeason l v12).Mild), (at_ zXSeason l v12).Cut⟩ : XSeason) q10 q11 q12 q13 y0_4 h3) <| pc (z1p3 s b l q10 q11 q12 q13 v12) <| pc (z1p4 s) <| pt (z1r7 y0_4) (selfB_self 9 _ rfl _) <| pt (z1r13 y0_4) rfl <| pt (z1r13 y0_4) rfl <| pt (z1r14 y0_4) rfl <| pt ((I (y0_4.2) : Value) = I (y0_4.2)) rfl <| pt ((I (y0_4.2) : Value) = I (y0_4.2)) rfl <| pc h4 <| pt (0 ≤ v12 ∧ v12 < ((l.length : Nat) : Int)) (of_decide_eq_true h2) <| pt (z1r6 l v12) (RowLd.elem cXSeason_len _ (.inl ⟨_, rfl⟩) rfl rfl _ _ (of_decide_eq_true h2)) <| pc (z1p5 l v12) <| pc h5 <| pc h6 <| pc h7 <| pn) (by kernel_rfl) 102 (by kernel_rfl) ?_ nx
             exact ⟨PinL.lit (by kernel_rfl), PinL.pf (encL_pf cInt_pf _), PinL.pf (encL_pf cInt_pf _), PinL.pf (encL_pf cXRung_pf _), PinL.pf (encL_pf cXSpan_pf _), PinL.pf (encL_pf cXSeason_pf _), PinL.lit (by kernel_rfl), PinL.lit (by kernel_rfl), trivial⟩
         ·rw [h4, cF] at hh
          rcases bb (y0_4.2 != 2) with h5 | h5
          ·rw [h5, cT] at hh
           rw [← sI hh]
           exact FSat.d pfT 24 (hE :: hE :: hE :: hT :: (hR 4 (hX :: (z1i0 l v12) :: (z1i1 s b l q10 q11 q12 q13 v12 y0_4) :: (hR 6 (hF :: (hR 4 [hT, hE, hE, hE])))))) [.go] (pc h1 <| pt (0 ≤ v12 ∧ v12 < ((l.length : Nat) : Int)) (of_decide_eq_true h2) <| pt (z1r6 l v12) (RowLd.elem cXSeason_len _ (.inl ⟨_, rfl⟩) rfl rfl _ _ (of_decide_eq_true h2)) <| pc (growth_Step_fc fu s b (⟨((at_ zXSeason l v12).Light), ((at_ zXSeason l v12).Browse), ((at_ zXSeason l v12).Mild), (at_ zXSeason l v12).Cut⟩ : XSeason) q10 q11 q12 q13 y0_4 h3) <| pc (z1p3 s b l q10 q11 q12 q13 v12) <| pc (z1p4 s) <| pt (z1r7 y0_4) (selfB_self 9 _ rfl _) <| pt (z1r8 s q10 q11 q12 q13) rfl <| pt (z1r9 b) rfl <| pt (z1r10 l q14) rfl <| pt ((I (v12) : Value) = I (v12)) rfl <| pt (0 ≤ v12 ∧ v12 < ((l.length : Nat) : Int)) (of_decide_eq_true h2) <| pt (z1r11 v12) rfl <| pt (z1r6 l v12) (RowLd.elem cXSeason_len _ (.inl ⟨_, rfl⟩) rfl rfl _ _ (of_decide_eq_true h2)) <| pt (z1r12 l v12) rfl <| pc (growth_Step_fc fu s b (⟨((at_ zXSeason l v12).Light), ((at_ zXSeason l v12).Browse), ((at_ zXSeason l v12).Mild), (at_ zXSeason l v12).Cut⟩ : XSeason) q10 q11 q12 q13 y0_4 h3) <| pc (z1p3 s b l q10 q11 q12 q13 v12) <| pc (z1p4 s) <| pt (z1r7 y0_4) (selfB_self 9 _ rfl _) <| pt (z1r13 y0_4) rfl <| pt (z1r13 y0_4) rfl <| pt (z1r14 y0_4) rfl <| pt ((I (y0_4.2) : Value) = I (y0_4.2)) rfl <| pt ((I (y0_4.2) : Value) = I (y0_4.2)) rfl <| pc h4 <| pc h5 <| pn) (by kernel_rfl) (by kernel_rfl)
          ·rw [h5, cF] at hh
           rcases bb (!(((y0_4.1.Low.Age == 0) && ((y0_4.1.Low.Shoots == 0) && ((y0_4.1.Low.Height == 0) && ((y0_4.1.Low.Girth == 0) && true)))) && (((y0_4.1.High.Age == 0) && ((y0_4.1.High.Shoots == 0) && ((y0_4.1.High.Height == 0) && ((y0_4.1.High.Girth == 0) && true)))) && true))) with h6 | h6
           ·rw [h6, cT] at hh
            rw [← sI hh]
            exact FSat.d pfT 24 (hE :: hE :: hE :: hT :: (hR 4 (hX :: (z1i0 l v12) :: (z1i1 s b l q10 q11 q12 q13 v12 y0_4) :: (hR 6 (hF :: (hR 4 [hF, hE, hE, hE, (hB hQ true), hE, hE])))))) [.go] (pc h1 <| pt (0 ≤ v12 ∧ v12 < ((l.length : Nat) : Int)) (of_decide_eq_true h2) <| pt (z1r6 l v12) (RowLd.elem cXSeason_len _ (.inl ⟨_, rfl⟩) rfl rfl _ _ (of_decide_eq_true h2)) <| pc (growth_Step_fc fu s b (⟨((at_ zXSeason l v12).Light), ((at_ zXSeason l v12).Browse), ((at_ zXSeason l v12).Mild), (at_ zXSeason l v12).Cut⟩ : XSeason) q10 q11 q12 q13 y0_4 h3) <| pc (z1p3 s b l q10 q11 q12 q13 v12) <| pc (z1p4 s) <| pt (z1r7 y0_4) (selfB_self 9 _ rfl _) <| pt (z1r8 s q10 q11 q12 q13) rfl <| pt (z1r9 b) rfl <| pt (z1r10 l q14) rfl <| pt ((I (v12) : Value) = I (v12)) rfl <| pt (0 ≤ v12 ∧ v12 < ((l.length : Nat) : Int)) (of_decide_eq_true h2) <| pt (z1r11 v12) rfl <| pt (z1r6 l v12) (RowLd.elem cXSeason_len _ (.inl ⟨_, rfl⟩) rfl rfl _ _ (of_decide_eq_true h2)) <| pt (z1r12 l v12) rfl <| pc (growth_Step_fc fu s b (⟨((at_ zXSeason l v12).Light), ((at_ zXSeason l v12).Browse), ((at_ zXSeason l v12).Mild), (at_ zXSeason l v12).Cut⟩ : XSeason) q10 q11 q12 q13 y0_4 h3) <| pc (z1p3 s b l q10 q11 q12 q13 v12) <| pc (z1p4 s) <| pt (z1r7 y0_4) (selfB_self 9 _ rfl _) <| pt (z1r13 y0_4) rfl <| pt (z1r13 y0_4) rfl <| pt (z1r14 y0_4) rfl <| pt ((I (y0_4.2) : Value) = I (y0_4.2)) rfl <| pt ((I (y0_4.2) : Value) = I (y0_4.2)) rfl <| pc h4 <| pc h5 <| pc h6 <| pn) (by kernel_rfl) (by kernel_rfl)
           ·rw [h6, cF] at hh
            have e : (law02_GrowthSteps_L fu s b l x_3 (fk + 1)).1 v8 v11 v12 x2 = (law02_GrowthSteps_L fu s b l x_3 fk).1 v8 v11 (W (v12 + 1)) x2 := by rw [law02_GrowthSteps_L_s0]; rw [h1, cT, h2, cT, h3, oS, h4, cF, h5, cF, h6, cF]; first | done | rfl
            rw [e] at h0; have hh := h0
            have nx := ih.1 v8 v11 (W (v12 + 1)) x2 r hh
            refine FSat.s pfT 25 (hE :: hE :: hE :: hT :: (hR 4 (hX :: (z1i0 l v12) :: (z1i1 s b l q10 q11 q12 q13 v12 y0_4) :: (hR 6 (hF :: (hR 4 (hF :: hE :: hE :: hE :: (hB hQ false) :: (hR 4 [])))))))) [.go, .st [2, 4, 5, 8, 9, 10, 11, 12] [0, 10, 11, 12, 13, 14, 100, 101]] (pc h1 <| pt (0 ≤ v12 ∧ v12 < ((l.length : Nat) : Int)) (of_decide_eq_true h2) <| pt (z1r6 l v12) (RowLd.elem cXSeason_len _ (.inl ⟨_, rfl⟩) rfl rfl _ _ (of_decide_eq_true h2)) <| pc (growth_Step_fc fu s b (⟨((at_ zXSeason l v12).Light), ((at_ zXSeason l v12).Browse), ((at_ zXSeason l v12).Mild), (at_ zXSeason l v12).Cut⟩ : XSeason) q10 q11 q12 q13 y0_4 h3) <| pc (z1p3 s b l q10 q11 q12 q13 v12) <| pc (z1p4 s) <| pt (z1r7 y0_4) (selfB_self 9 _ rfl _) <| pt (z1r8 s q10 q11 q12 q13) rfl <| pt (z1r9 b) rfl <| pt (z1r10 l q14) rfl <| pt ((I (v12) : Value) = I (v12)) rfl <| pt (0 ≤ v12 ∧ v12 < ((l.length : Nat) : Int)) (of_decide_eq_true h2) <| pt (z1r11 v12) rfl <| pt (z1r6 l v12) (RowLd.elem cXSeason_len _ (.inl ⟨_, rfl⟩) rfl rfl _ _ (of_decide_eq_true h2)) <| pt (z1r12 l v12) rfl <| pc (growth_Step_fc fu s b (⟨((at_ zXSeason l v12).Light), ((at_ zXSeason l v12).Browse), ((at_ zXSeason l v12).Mild), (at_ zXSeason l v12).Cut⟩ : XSeason) q10 q11 q12 q13 y0_4 h3) <| pc (z1p3 s b l q10 q11 q12 q13 v12) <| pc (z1p4 s) <| pt (z1r7 y0_4) (selfB_self 9 _ rfl _) <| pt (z1r13 y0_4) rfl <| pt (z1r13 y0_4) rfl <| pt (z1r14 y0_4) rfl <| pt ((I (y0_4.2) : Value) = I (y0_4.2)) rfl <| pt ((I (y0_4.2) : Value) = I (y0_4.2)) rfl <| pc h4 <| pc h5 <| pc h6 <| pn) (by kernel_rfl) 102 (by kernel_rfl) ?_ nx
            exact ⟨PinL.lit (by kernel_rfl), PinL.pf (encL_pf cInt_pf _), PinL.pf (encL_pf cInt_pf _), PinL.pf (encL_pf cXRung_pf _), PinL.pf (encL_pf cXSpan_pf _), PinL.pf (encL_pf cXSeason_pf _), PinL.lit (by kernel_rfl), PinL.lit (by kernel_rfl), trivial⟩
      ·rw [h1, cF] at hh
       rcases bb (v11) with h2 | h2
       ·rw [h2, cT] at hh
        cases h3 : ref02_Seasons fu l with
        | none => rw [h3, oN] at hh; cases hh
        | some y0_6 =>
         rw [h3, oS] at hh
         rcases bb (y0_6) with h4 | h4
         ·rw [h4, cT] at hh
          rcases bb (x2 == 0) with h5 | h5
          ·rw [h5, cT] at hh
           rcases bb (decide (1 ≤ l.length)) with h6 | h6
           ·rw [h6, cT] at hh
            rcases bb (decide (l.length ≤ 12)) with h7 | h7
            rotate_left
            ·rw [h7, cF] at hh; cases hh
            ·rw [h7, cT] at hh
             cases h8 : ref02_hist fu s b l with
             | none => rw [h8, oN] at hh; cases hh
             | some y0_7 =>
              rw [h8, oS] at hh
              cases h9 : ref02_Same fu y0_7 with
              | none => rw [h9, oN] at hh; cases hh
              | some y0_8 =>
               rw [h9, oS] at hh
               rcases bb (y0_8) with h10 | h10
               ·rw [h10, cT] at hh
                cases h11 : law02_known fu with
                | none => rw [h11, oN] at hh; cases hh
                | some y0_9 =>
                 rw [h11, oS] at hh
                 rw [← sI hh]
                 exact FSat.d pfT 19 (hE :: hE :: hE :: hF :: hT :: hE :: hE :: hE :: (z1i19 l q14 y0_6) :: hE :: hE :: hE :: hT :: (hR 5 [(z1i20 s b l q10 q11 q12 q13 q14 y0_7), (z1i21 y0_7 y0_8), hE, hE, (hC (.bool (y0_9))), hE, hE])) [.go] (pc h1 <| pc h2 <| pc (ref02_Seasons_fc fu l q14 y0_6 h3) <| pc (z1p22 l q14) <| pt (z1r26 l) (⟨MemAt.same _ (encL_pf cXSeason_pf _), trivial⟩) <| pt (VR (Ren.emb [(10, 14, 0)]) (.bool (y0_6)) (.bool (y0_6))) (selfB_self 9 _ rfl _) <| pc h4 <| pc h5 <| pt (z1r27 s b l q10 q11 q12 q13 q14 y0_7) (ref02_History_fcn fu s b l q10 q11 q12 q13 q14 y0_7 (of_decide_eq_true h6) (of_decide_eq_true h7) h8) <| pc (z1p23 s b l q10 q11 q12 q13 q14) <| pc (z1p24 s l) <| pt (z1r28 y0_7) (.slc 77 0 _ _ _ ⟨102, 0, 0, 0⟩ rfl (.inl rfl)) <| pc (ref02_Same_fc fu y0_7 y0_7.length y0_8 h9) <| pc (z1p25 y0_7) <| pt (z1r29 y0_7) (⟨MemAt.same _ (encL_pf cXBox_pf _), trivial⟩) <| pt (VR (Ren.emb [(10, 102, 0)]) (.bool (y0_8)) (.bool (y0_8))) (selfB_self 9 _ rfl _) <| pc h10 <| pc (law02_known_fc fu  y0_9 h11) <| pn) (by kernel_rfl) (by kernel_rfl)
               ·rw [h10, cF] at hh
                rw [← sI hh]
                exact FSat.d pfT 19 (hE :: hE :: hE :: hF :: hT :: hE :: hE :: hE :: (z1i19 l q14 y0_6) :: hE :: hE :: hE :: hT :: (hR 5 ((z1i20 s b l q10 q11 q12 q13 q14 y0_7) :: (z1i30 y0_7 y0_8) :: (hR 4 [])))) [.go] (pc h1 <| pc h2 <| pc (ref02_Seasons_fc fu l q14 y0_6 h3) <| pc (z1p22 l q14) <| pt (z1r26 l) (⟨MemAt.same _ (encL_pf cXSeason_pf _), trivial⟩) <| pt (VR (Ren.emb [(10, 14, 0)]) (.bool (y0_6)) (.bool (y0_6))) (selfB_self 9 _ rfl _) <| pc h4 <| pc h5 <| pt (z1r27 s b l q10 q11 q12 q13 q14 y0_7) (ref02_History_fcn fu s b l q10 q11 q12 q13 q14 y0_7 (of_decide_eq_true h6) (of_decide_eq_true h7) h8) <| pc (z1p23 s b l q10 q11 q12 q13 q14) <| pc (z1p24 s l) <| pt (z1r28 y0_7) (.slc 77 0 _ _ _ ⟨102, 0, 0, 0⟩ rfl (.inl rfl)) <| pc (ref02_Same_fc fu y0_7 y0_7.length y0_8 h9) <| pc (z1p25 y0_7) <| pt (z1r29 y0_7) (⟨MemAt.same _ (encL_pf cXBox_pf _), trivial⟩) <| pt (VR (Ren.emb [(10, 102, 0)]) (.bool (y0_8)) (.bool (y0_8))) (selfB_self 9 _ rfl _) <| pc h10 <| pn) (by kernel_rfl) (by kernel_rfl)
           ·rw [h6, cF] at hh
            cases h7 : ref02_Same fu ([b]) with
            | none => rw [h7, oN] at hh; cases hh
            | some y0_10 =>
             rw [h7, oS] at hh
             rcases bb (y0_10) with h8 | h8
             ·rw [h8, cT] at hh
              cases h9 : law02_known fu with
              | none => rw [h9, oN] at hh; cases hh
              | some y0_9 =>
               rw [h9, oS] at hh
               rw [← sI hh]
               exact FSat.d pfT 19 (hE :: hE :: hE :: hF :: hT :: hE :: hE :: hE :: (z1i19 l q14 y0_6) :: hE :: hE :: hE :: hT :: (hR 5 [(z1i31 s b l q10 q11 q12 q13 q14), (z1i32 b y0_10), hE, hE, (hC (.bool (y0_9))), hE, hE])) [.go] (pc h1 <| pc h2 <| pc (ref02_Seasons_fc fu l q14 y0_6 h3) <| pc (z1p22 l q14) <| pt (z1r26 l) (⟨MemAt.same _ (encL_pf cXSeason_pf _), trivial⟩) <| pt (VR (Ren.emb [(10, 14, 0)]) (.bool (y0_6)) (.bool (y0_6))) (selfB_self 9 _ rfl _) <| pc h4 <| pc h5 <| pt (z1r34 s b l q10 q11 q12 q13 q14) (ref02_History_none fu s b l q10 q11 q12 q13 q14 h6) <| pc (z1p23 s b l q10 q11 q12 q13 q14) <| pc (z1p24 s l) <| pt z1r35 (.slc 77 0 _ _ _ ⟨102, 0, 0, 0⟩ rfl (.inl rfl)) <| pc (ref02_Same_fc fu ([b]) 1 y0_10 h7) <| pc (z1p33 b) <| pt (z1r36 b) (⟨MemAt.same _ (encL_pf cXBox_pf _), trivial⟩) <| pt (VR (Ren.emb [(10, 102, 0)]) (.bool (y0_10)) (.bool (y0_10))) (selfB_self 9 _ rfl _) <| pc h8 <| pc (law02_known_fc fu  y0_9 h9) <| pn) (by kernel_rfl) (by kernel_rfl)
             ·rw [h8, cF] at hh
              rw [← sI hh]
              exact FSat.d pfT 19 (hE :: hE :: hE :: hF :: hT :: hE :: hE :: hE :: (z1i19 l q14 y0_6) :: hE :: hE :: hE :: hT :: (hR 5 ((z1i31 s b l q10 q11 q12 q13 q14) :: (z1i37 b y0_10) :: (hR 4 [])))) [.go] (pc h1 <| pc h2 <| pc (ref02_Seasons_fc fu l q14 y0_6 h3) <| pc (z1p22 l q14) <| pt (z1r26 l) (⟨MemAt.same _ (encL_pf cXSeason_pf _), trivial⟩) <| pt (VR (Ren.emb [(10, 14, 0)]) (.bool (y0_6)) (.bool (y0_6))) (selfB_self 9 _ rfl _) <| pc h4 <| pc h5 <| pt (z1r34 s b l q10 q11 q12 q13 q14) (ref02_History_none fu s b l q10 q11 q12 q13 q14 h6) <| pc (z1p23 s b l q10 q11 q12 q13 q14) <| pc (z1p24 s l) <| pt z1r35 (.slc 77 0 _ _ _ ⟨102, 0, 0, 0⟩ rfl (.inl rfl)) <| pc (ref02_Same_fc fu ([b]) 1 y0_10 h7) <| pc (z1p33 b) <| pt (z1r36 b) (⟨MemAt.same _ (encL_pf cXBox_pf _), trivial⟩) <| pt (VR (Ren.emb [(10, 102, 0)]) (.bool (y0_10)) (.bool (y0_10))) (selfB_self 9 _ rfl _) <| pc h8 <| pn) (by kernel_rfl) (by kernel_rfl)
          ·rw [h5, cF] at hh
           rw [← sI hh]
           exact FSat.d pfT 19 (hE :: hE :: hE :: hF :: hT :: hE :: hE :: hE :: (z1i19 l q14 y0_6) :: hE :: hE :: hE :: hF :: (hR 5 [])) [.go] (pc h1 <| pc h2 <| pc (ref02_Seasons_fc fu l q14 y0_6 h3) <| pc (z1p22 l q14) <| pt (z1r26 l) (⟨MemAt.same _ (encL_pf cXSeason_pf _), trivial⟩) <| pt (VR (Ren.emb [(10, 14, 0)]) (.bool (y0_6)) (.bool (y0_6))) (selfB_self 9 _ rfl _) <| pc h4 <| pc h5 <| pn) (by kernel_rfl) (by kernel_rfl)
         ·rw [h4, cF] at hh
          rcases bb (x2 == 2) with h5 | h5
          ·rw [h5, cT] at hh
           cases h6 : law02_known fu with
           | none => rw [h6, oN] at hh; cases hh
           | some y0_9 =>
            rw [h6, oS] at hh
            rw [← sI hh]
            exact FSat.d pfT 18 (hE :: hE :: hE :: hF :: hT :: hE :: hE :: hE :: (z1i38 l q14 y0_6) :: hE :: hE :: hE :: hT :: (hR 6 [(hC (.bool (y0_9))), hE, hE])) [.go] (pc h1 <| pc h2 <| pc (ref02_Seasons_fc fu l q14 y0_6 h3) <| pc (z1p22 l q14) <| pt (z1r26 l) (⟨MemAt.same _ (encL_pf cXSeason_pf _), trivial⟩) <| pt (VR (Ren.emb [(10, 14, 0)]) (.bool (y0_6)) (.bool (y0_6))) (selfB_self 9 _ rfl _) <| pc h4 <| pc h5 <| pc (law02_known_fc fu  y0_9 h6) <| pn) (by kernel_rfl) (by kernel_rfl)
          ·rw [h5, cF] at hh
           rw [← sI hh]
           exact FSat.d pfT 18 (hE :: hE :: hE :: hF :: hT :: hE :: hE :: hE :: (z1i38 l q14 y0_6) :: hE :: hE :: hE :: hF :: (hR 5 [])) [.go] (pc h1 <| pc h2 <| pc (ref02_Seasons_fc fu l q14 y0_6 h3) <| pc (z1p22 l q14) <| pt (z1r26 l) (⟨MemAt.same _ (encL_pf cXSeason_pf _), trivial⟩) <| pt (VR (Ren.emb [(10, 14, 0)]) (.bool (y0_6)) (.bool (y0_6))) (selfB_self 9 _ rfl _) <| pc h4 <| pc h5 <| pn) (by kernel_rfl) (by kernel_rfl)
       ·rw [h2, cF] at hh
        rcases bb (x2 == 2) with h3 | h3
        ·rw [h3, cT] at hh
         cases h4 : law02_known fu with
         | none => rw [h4, oN] at hh; cases hh
         | some y0_9 =>
          rw [h4, oS] at hh
          rw [← sI hh]
          exact FSat.d pfT 18 (hE :: hE :: hE :: hF :: hF :: (hR 4 (hT :: (hR 6 [(hC (.bool (y0_9))), hE, hE])))) [.go] (pc h1 <| pc h2 <| pc h3 <| pc (law02_known_fc fu  y0_9 h4) <| pn) (by kernel_rfl) (by kernel_rfl)
        ·rw [h3, cF] at hh
         rw [← sI hh]
         exact FSat.d pfT 18 (hE :: hE :: hE :: hF :: hF :: (hR 4 (hF :: (hR 5 [])))) [.go] (pc h1 <| pc h2 <| pc h3 <| pn) (by kernel_rfl) (by kernel_rfl)
    · intro v8_1 v11_1 v12_1 x11 r hh
      have h0 := hh
      rw [law02_GrowthSteps_L_s1] at hh
      rcases bb (decide (v12_1 < ((l.length : Nat) : Int))) with h1 | h1
      ·rw [h1, cT] at hh
       rcases bb (decide (0 ≤ v12_1 ∧ v12_1 < ((l.length : Nat) : Int))) with h2 | h2
       rotate_left
       ·rw [h2, cF] at hh; cases hh
       ·rw [h2, cT] at hh
        cases h3 : growth_Step fu s b (⟨((at_ zXSeason l v12_1).Light), ((at_ zXSeason l v12_1).Browse), ((at_ zXSeason l v12_1).Mild), (at_ zXSeason l v12_1).Cut⟩ : XSeason) with
        | none => rw [h3, oN] at hh; cases hh
        | some y1_12 =>
         rw [h3, oS] at hh
         rcases bb (v11_1) with h4 | h4
         ·rw [h4, cT] at hh
          rcases bb (ref02_Season (⟨((at_ zXSeason l v12_1).Light), ((at_ zXSeason l v12_1).Browse), ((at_ zXSeason l v12_1).Mild), (at_ zXSeason l v12_1).Cut⟩ : XSeason)) with h5 | h5
          ·rw [h5, cT] at hh
           rcases bb (y1_12.2 != 0) with h6 | h6
           ·rw [h6, cT] at hh
            rw [← sI hh]
            exact FSat.d pfT 24 (hE :: hE :: hE :: hT :: (hR 4 (hX :: (z1i39 l v12_1) :: (z1i40 s b l q10 q11 q12 q13 v12_1 y1_12) :: (hR 6 (hT :: (hR 4 [hX, (z1i39 l v12_1), (z1i41 l v12_1), hE, hE, hE, hT, hE, hE, hE])))))) [.go] (pc h1 <| pt (0 ≤ v12_1 ∧ v12_1 < ((l.length : Nat) : Int)) (of_decide_eq_true h2) <| pt (z1r44 l v12_1) (RowLd.elem cXSeason_len _ (.inl ⟨_, rfl⟩) rfl rfl _ _ (of_decide_eq_true h2)) <| pc (growth_Step_fc fu s b (⟨((at_ zXSeason l v12_1).Light), ((at_ zXSeason l v12_1).Browse), ((at_ zXSeason l v12_1).Mild), (at_ zXSeason l v12_1).Cut⟩ : XSeason) q10 q11 q12 q13 y1_12 h3) <| pc (z1p42 s b l q10 q11 q12 q13 v12_1) <| pc (z1p4 s) <| pt (z1r45 y1_12) (selfB_self 9 _ rfl _) <| pt (z1r8 s q10 q11 q12 q13) rfl <| pt (z1r9 b) rfl <| pt (z1r10 l q14) rfl <| pt ((I (v12_1) : Value) = I (v12_1)) rfl <| pt (0 ≤ v12_1 ∧ v12_1 < ((l.length : Nat) : Int)) (of_decide_eq_true h2) <| pt (z1r46 v12_1) rfl <| pt (z1r44 l v12_1) (RowLd.elem cXSeason_len _ (.inl ⟨_, rfl⟩) rfl rfl _ _ (of_decide_eq_true h2)) <| pt (z1r47 l v12_1) rfl <| pc (growth_Step_fc fu s b (⟨((at_ zXSeason l v12_1).Light), ((at_ zXSeason l v12_1).Browse), ((at_ zXSeason l v12_1).Mild), (at_ zXSeason l v12_1).Cut⟩ : XSeason) q10 q11 q12 q13 y1_12 h3) <| pc (z1p42 s b l q10 q11 q12 q13 v12_1) <| pc (z1p4 s) <| pt (z1r45 y1_12) (selfB_self 9 _ rfl _) <| pt (z1r48 y1_12) rfl <| pt (z1r48 y1_12) rfl <| pt (z1r49 y1_12) rfl <| pt ((I (y1_12.2) : Value) = I (y1_12.2)) rfl <| pt ((I (y1_12.2) : Value) = I (y1_12.2)) rfl <| pc h4 <| pt (0 ≤ v12_1 ∧ v12_1 < ((l.length : Nat) : Int)) (of_decide_eq_true h2) <| pt (z1r44 l v12_1) (RowLd.elem cXSeason_len _ (.inl ⟨_, rfl⟩) rfl rfl _ _ (of_decide_eq_true h2)) <| pc (z1p43 l v12_1) <| pc h5 <| pc h6 <| pn) (by kernel_rfl) (by kernel_rfl)
           ·rw [h6, cF] at hh
            cases h7 : ref02_Step fu s b (⟨((at_ zXSeason l v12_1).Light), ((at_ zXSeason l v12_1).Browse), ((at_ zXSeason l v12_1).Mild), (at_ zXSeason l v12_1).Cut⟩ : XSeason) with
            | none => rw [h7, oN] at hh; cases hh
            | some y1_13 =>
             rw [h7, oS] at hh
             rcases bb (!(((y1_12.1.Low.Age == y1_13.Low.Age) && ((y1_12.1.Low.Shoots == y1_13.Low.Shoots) && ((y1_12.1.Low.Height == y1_13.Low.Height) && ((y1_12.1.Low.Girth == y1_13.Low.Girth) && true)))) && (((y1_12.1.High.Age == y1_13.High.Age) && ((y1_12.1.High.Shoots == y1_13.High.Shoots) && ((y1_12.1.High.Height == y1_13.High.Height) && ((y1_12.1.High.Girth == y1_13.High.Girth) && true)))) && true))) with h8 | h8
             ·rw [h8, cT] at hh
              rw [← sI hh]
              exact FSat.d pfT 24 (hE :: hE :: hE :: hT :: (hR 4 (hX :: (z1i39 l v12_1) :: (z1i40 s b l q10 q11 q12 q13 v12_1 y1_12) :: (hR 6 (hT :: (hR 4 (hX :: (z1i39 l v12_1) :: (z1i41 l v12_1) :: hE :: hE :: hE :: hF :: (hR 6 [hX, (z1i39 l v12_1), (z1i50 s b l q10 q11 q12 q13 v12_1 y1_13), (hB hQ true), hE, hE])))))))) [.go] (pc h1 <| pt (0 ≤ v12_1 ∧ v12_1 < ((l.length : Nat) : Int)) (of_decide_eq_true h2) <| pt (z1r44 l v12_1) (RowLd.elem cXSeason_len _ (.inl ⟨_, rfl⟩) rfl rfl _ _ (of_decide_eq_true h2)) <| pc (growth_Step_fc fu s b (⟨((at_ zXSeason l v12_1).Light), ((at_ zXSeason l v12_1).Browse), ((at_ zXSeason l v12_1).Mild), (at_ zXSeason l v12_1).Cut⟩ : XSeason) q10 q11 q12 q13 y1_12 h3) <| pc (z1p42 s b l q10 q11 q12 q13 v12_1) <| pc (z1p4 s) <| pt (z1r45 y1_12) (selfB_self 9 _ rfl _) <| pt (z1r8 s q10 q11 q12 q13) rfl <| pt (z1r9 b) rfl <| pt (z1r10 l q14) rfl <| pt ((I (v12_1) : Value) = I (v12_1)) rfl <| pt (0 ≤ v12_1 ∧ v12_1 < ((l.length : Nat) : Int)) (of_decide_eq_true h2) <| pt (z1r46 v12_1) rfl <| pt (z1r44 l v12_1) (RowLd.elem cXSeason_len _ (.inl ⟨_, rfl⟩) rfl rfl _ _ (of_decide_eq_true h2)) <| pt (z1r47 l v12_1) rfl <| pc (growth_Step_fc fu s b (⟨((at_ zXSeason l v12_1).Light), ((at_ zXSeason l v12_1).Browse), ((at_ zXSeason l v12_1).Mild), (at_ zXSeason l v12_1).Cut⟩ : XSeason) q10 q11 q12 q13 y1_12 h3) <| pc (z1p42 s b l q10 q11 q12 q13 v12_1) <| pc (z1p4 s) <| pt (z1r45 y1_12) (selfB_self 9 _ rfl _) <| pt (z1r48 y1_12) rfl <| pt (z1r48 y1_12) rfl <| pt (z1r49 y1_12) rfl <| pt ((I (y1_12.2) : Value) = I (y1_12.2)) rfl <| pt ((I (y1_12.2) : Value) = I (y1_12.2)) rfl <| pc h4 <| pt (0 ≤ v12_1 ∧ v12_1 < ((l.length : Nat) : Int)) (of_decide_eq_true h2) <| pt (z1r44 l v12_1) (RowLd.elem cXSeason_len _ (.inl ⟨_, rfl⟩) rfl rfl _ _ (of_decide_eq_true h2)) <| pc (z1p43 l v12_1) <| pc h5 <| pc h6 <| pt (0 ≤ v12_1 ∧ v12_1 < ((l.length : Nat) : Int)) (of_decide_eq_true h2) <| pt (z1r44 l v12_1) (RowLd.elem cXSeason_len _ (.inl ⟨_, rfl⟩) rfl rfl _ _ (of_decide_eq_true h2)) <| pc (ref02_Step_fc fu s b (⟨((at_ zXSeason l v12_1).Light), ((at_ zXSeason l v12_1).Browse), ((at_ zXSeason l v12_1).Mild), (at_ zXSeason l v12_1).Cut⟩ : XSeason) q10 q11 q12 q13 y1_13 h7) <| pc (z1p51 s b l q10 q11 q12 q13 v12_1) <| pc (z1p4 s) <| pt (z1r52 y1_13) (selfB_self 9 _ rfl _) <| pc h8 <| pn) (by kernel_rfl) (by kernel_rfl)
             ·rw [h8, cF] at hh
              have e : (law02_GrowthSteps_L fu s b l x_3 (fk + 1)).2 v8_1 v11_1 v12_1 x11 = (law02_GrowthSteps_L fu s b l x_3 fk).2 v8_1 v11_1 (W (v12_1 + 1)) x11 := by rw [law02_GrowthSteps_L_s1]; rw [h1, cT, h2, cT, h3, oS, h4, cT, h5, cT, h6, cF, h7, oS, h8, cF]; first | done | rfl
              rw [e] at h0; have hh := h0
              have nx := ih.2 v8_1 v11_1 (W (v12_1 + 1)) x11 r hh
              refine FSat.s pfT 25 (hE :: hE :: hE :: hT :: (hR 4 (hX :: (z1i39 l v12_1) :: (z1i40 s b l q10 q11 q12 q13 v12_1 y1_12) :: (hR 6 (hT :: (hR 4 (hX :: (z1i39 l v12_1) :: (z1i41 l v12_1) :: hE :: hE :: hE :: hF :: (hR 6 (hX :: (z1i39 l v12_1) :: (z1i50 s b l q10 q11 q12 q13 v12_1 y1_13) :: (hB hQ false) :: (hR 4 [])))))))))) [.go, .st [2, 4, 5, 8, 9, 10, 11, 12] [0, 10, 11, 12, 13, 14, 100, 101, 103]] (pc h1 <| pt (0 ≤ v12_1 ∧ v12_1 < ((l.length : Nat) : Int)) (of_decide_eq_true h2) <| pt (z1r44 l v12_1) (RowLd.elem cXSeason_len _ (.inl ⟨_, rfl⟩) rfl rfl _ _ (of_decide_eq_true h2)) <| pc (growth_Step_fc fu s b (⟨((at_ zXSeason l v12_1).Light), ((at_ zXSeason l v12_1).Browse), ((at_ zXSeason l v12_1).Mild), (at_ zXSeason l v12_1).Cut⟩ : XSeason) q10 q11 q12 q13 y1_12 h3) <| pc (z1p42 s b l q10 q11 q12 q13 v12_1) <| pc (z1p4 s) <| pt (z1r45 y1_12) (selfB_self 9 _ rfl _) <| pt (z1r8 s q10 q11 q12 q13) rfl <| pt (z1r9 b) rfl <| pt (z1r10 l q14) rfl <| pt ((I (v12_1) : Value) = I (v12_1)) rfl <| pt (0 ≤ v12_1 ∧ v12_1 < ((l.length : Nat) : Int)) (of_decide_eq_true h2) <| pt (z1r46 v12_1) rfl <| pt (z1r44 l v12_1) (RowLd.elem cXSeason_len _ (.inl ⟨_, rfl⟩) rfl rfl _ _ (of_decide_eq_true h2)) <| pt (z1r47 l v12_1) rfl <| pc (growth_Step_fc fu s b (⟨((at_ zXSeason l v12_1).Light), ((at_ zXSeason l v12_1).Browse), ((at_ zXSeason l v12_1).Mild), (at_ zXSeason l v12_1).Cut⟩ : XSeason) q10 q11 q12 q13 y1_12 h3) <| pc (z1p42 s b l q10 q11 q12 q13 v12_1) <| pc (z1p4 s) <| pt (z1r45 y1_12) (selfB_self 9 _ rfl _) <| pt (z1r48 y1_12) rfl <| pt (z1r48 y1_12) rfl <| pt (z1r49 y1_12) rfl <| pt ((I (y1_12.2) : Value) = I (y1_12.2)) rfl <| pt ((I (y1_12.2) : Value) = I (y1_12.2)) rfl <| pc h4 <| pt (0 ≤ v12_1 ∧ v12_1 < ((l.length : Nat) : Int)) (of_decide_eq_true h2) <| pt (z1r44 l v12_1) (RowLd.elem cXSeason_len _ (.inl ⟨_, rfl⟩) rfl rfl _ _ (of_decide_eq_true h2)) <| pc (z1p43 l v12_1) <| pc h5 <| pc h6 <| pt (0 ≤ v12_1 ∧ v12_1 < ((l.length : Nat) : Int)) (of_decide_eq_true h2) <| pt (z1r44 l v12_1) (RowLd.elem cXSeason_len _ (.inl ⟨_, rfl⟩) rfl rfl _ _ (of_decide_eq_true h2)) <| pc (ref02_Step_fc fu s b (⟨((at_ zXSeason l v12_1).Light), ((at_ zXSeason l v12_1).Browse), ((at_ zXSeason l v12_1).Mild), (at_ zXSeason l v12_1).Cut⟩ : XSeason) q10 q11 q12 q13 y1_13 h7) <| pc (z1p51 s b l q10 q11 q12 q13 v12_1) <| pc (z1p4 s) <| pt (z1r52 y1_13) (selfB_self 9 _ rfl _) <| pc h8 <| pn) (by kernel_rfl) 104 (by kernel_rfl) ?_ nx
              exact ⟨PinL.lit (by kernel_rfl), PinL.pf (encL_pf cInt_pf _), PinL.pf (encL_pf cInt_pf _), PinL.pf (encL_pf cXRung_pf _), PinL.pf (encL_pf cXSpan_pf _), PinL.pf (encL_pf cXSeason_pf _), PinL.lit (by kernel_rfl), PinL.lit (by kernel_rfl), PinL.pf (encL_pf cXBox_pf _), trivial⟩
          ·rw [h5, cF] at hh
           rcases bb (y1_12.2 != 2) with h6 | h6
           ·rw [h6, cT] at hh
            rw [← sI hh]
            exact FSat.d pfT 24 (hE :: hE :: hE :: hT :: (hR 4 (hX :: (z1i39 l v12_1) :: (z1i40 s b l q10 q11 q12 q13 v12_1 y1_12) :: (hR 6 (hT :: (hR 4 [hX, (z1i39 l v12_1), (z1i53 l v12_1), hE, hE, hE, hT, hE, hE, hE])))))) [.go] (pc h1 <| pt (0 ≤ v12_1 ∧ v12_1 < ((l.length : Nat) : Int)) (of_decide_eq_true h2) <| pt (z1r44 l v12_1) (RowLd.elem cXSeason_len _ (.inl ⟨_, rfl⟩) rfl rfl _ _ (of_decide_eq_true h2)) <| pc (growth_Step_fc fu s b (⟨((at_ zXSeason l v12_1).Light), ((at_ zXSeason l v12_1).Browse), ((at_ zXSeason l v12_1).Mild), (at_ zXSeason l v12_1).Cut⟩ : XSeason) q10 q11 q12 q13 y1_12 h3) <| pc (z1p42 s b l q10 q11 q12 q13 v12_1) <| pc (z1p4 s) <| pt (z1r45 y1_12) (selfB_self 9 _ rfl _) <| pt (z1r8 s q10 q11 q12 q13) rfl <| pt (z1r9 b) rfl <| pt (z1r10 l q14) rfl <| pt ((I (v12_1) : Value) = I (v12_1)) rfl <| pt (0 ≤ v12_1 ∧ v12_1 < ((l.length : Nat) : Int)) (of_decide_eq_true h2) <| pt (z1r46 v12_1) rfl <| pt (z1r44 l v12_1) (RowLd.elem cXSeason_len _ (.inl ⟨_, rfl⟩) rfl rfl _ _ (of_decide_eq_true h2)) <| pt (z1r47 l v12_1) rfl <| pc (growth_Step_fc fu s b (⟨((at_ zXSeason l v12_1).Light), ((at_ zXSeason l v12_1).Browse), ((at_ zXSeason l v12_1).Mild), (at_ zXSeason l v12_1).Cut⟩ : XSeason) q10 q11 q12 q13 y1_12 h3) <| pc (z1p42 s b l q10 q11 q12 q13 v12_1) <| pc (z1p4 s) <| pt (z1r45 y1_12) (selfB_self 9 _ rfl _) <| pt (z1r48 y1_12) rfl <| pt (z1r48 y1_12) rfl <| pt (z1r49 y1_12) rfl <| pt ((I (y1_12.2) : Value) = I (y1_12.2)) rfl <| pt ((I (y1_12.2) : Value) = I (y1_12.2)) rfl <| pc h4 <| pt (0 ≤ v12_1 ∧ v12_1 < ((l.length : Nat) : Int)) (of_decide_eq_true h2) <| pt (z1r44 l v12_1) (RowLd.elem cXSeason_len _ (.inl ⟨_, rfl⟩) rfl rfl _ _ (of_decide_eq_true h2)) <| pc (z1p43 l v12_1) <| pc h5 <| pc h6 <| pn) (by kernel_rfl) (by kernel_rfl)
           ·rw [h6, cF] at hh
            rcases bb (!(((y1_12.1.Low.Age == 0) && ((y1_12.1.Low.Shoots == 0) && ((y1_12.1.Low.Height == 0) && ((y1_12.1.Low.Girth == 0) && true)))) && (((y1_12.1.High.Age == 0) && ((y1_12.1.High.Shoots == 0) && ((y1_12.1.High.Height == 0) && ((y1_12.1.High.Girth == 0) && true)))) && true))) with h7 | h7
            ·rw [h7, cT] at hh
             rw [← sI hh]
             exact FSat.d pfT 24 (hE :: hE :: hE :: hT :: (hR 4 (hX :: (z1i39 l v12_1) :: (z1i40 s b l q10 q11 q12 q13 v12_1 y1_12) :: (hR 6 (hT :: (hR 4 [hX, (z1i39 l v12_1), (z1i53 l v12_1), hE, hE, hE, hF, hE, hE, hE, (hB hQ true), hE, hE])))))) [.go] (pc h1 <| pt (0 ≤ v12_1 ∧ v12_1 < ((l.length : Nat) : Int)) (of_decide_eq_true h2) <| pt (z1r44 l v12_1) (RowLd.elem cXSeason_len _ (.inl ⟨_, rfl⟩) rfl rfl _ _ (of_decide_eq_true h2)) <| pc (growth_Step_fc fu s b (⟨((at_ zXSeason l v12_1).Light), ((at_ zXSeason l v12_1).Browse), ((at_ zXSeason l v12_1).Mild), (at_ zXSeason l v12_1).Cut⟩ : XSeason) q10 q11 q12 q13 y1_12 h3) <| pc (z1p42 s b l q10 q11 q12 q13 v12_1) <| pc (z1p4 s) <| pt (z1r45 y1_12) (selfB_self 9 _ rfl _) <| pt (z1r8 s q10 q11 q12 q13) rfl <| pt (z1r9 b) rfl <| pt (z1r10 l q14) rfl <| pt ((I (v12_1) : Value) = I (v12_1)) rfl <| pt (0 ≤ v12_1 ∧ v12_1 < ((l.length : Nat) : Int)) (of_decide_eq_true h2) <| pt (z1r46 v12_1) rfl <| pt (z1r44 l v12_1) (RowLd.elem cXSeason_len _ (.inl ⟨_, rfl⟩) rfl rfl _ _ (of_decide_eq_true h2)) <| pt (z1r47 l v12_1) rfl <| pc (growth_Step_fc fu s b (⟨((at_ zXSeason l v12_1).Light), ((at_ zXSeason l v12_1).Browse), ((at_ zXSeason l v12_1).Mild), (at_ zXSeason l v12_1).Cut⟩ : XSeason) q10 q11 q12 q13 y1_12 h3) <| pc (z1p42 s b l q10 q11 q12 q13 v12_1) <| pc (z1p4 s) <| pt (z1r45 y1_12) (selfB_self 9 _ rfl _) <| pt (z1r48 y1_12) rfl <| pt (z1r48 y1_12) rfl <| pt (z1r49 y1_12) rfl <| pt ((I (y1_12.2) : Value) = I (y1_12.2)) rfl <| pt ((I (y1_12.2) : Value) = I (y1_12.2)) rfl <| pc h4 <| pt (0 ≤ v12_1 ∧ v12_1 < ((l.length : Nat) : Int)) (of_decide_eq_true h2) <| pt (z1r44 l v12_1) (RowLd.elem cXSeason_len _ (.inl ⟨_, rfl⟩) rfl rfl _ _ (of_decide_eq_true h2)) <| pc (z1p43 l v12_1) <| pc h5 <| pc h6 <| pc h7 <| pn) (by kernel_rfl) (by kernel_rfl)
            ·rw [h7, cF] at hh
             have e : (law02_GrowthSteps_L fu s b l x_3 (fk + 1)).2 v8_1 v11_1 v12_1 x11 = (law02_GrowthSteps_L fu s b l x_3 fk).2 v8_1 v11_1 (W (v12_1 + 1)) x11 := by rw [law02_GrowthSteps_L_s1]; rw [h1, cT, h2, cT, h3, oS, h4, cT, h5, cF, h6, cF, h7, cF]; first | done | rfl
             rw [e] at h0; have hh := h0
             have nx := ih.2 v8_1 v11_1 (W (v12_1 + 1)) x11 r hh
             refine FSat.s pfT 25 (hE :: hE :: hE :: hT :: (hR 4 (hX :: (z1i39 l v12_1) :: (z1i40 s b l q10 q11 q12 q13 v12_1 y1_12) :: (hR 6 (hT :: (hR 4 (hX :: (z1i39 l v12_1) :: (z1i53 l v12_1) :: hE :: hE :: hE :: hF :: hE :: hE :: hE :: (hB hQ false) :: (hR 4 [])))))))) [.go, .st [2, 4, 5, 8, 9, 10, 11, 12] [0, 10, 11, 12, 13, 14, 100, 101, 103]] (pc h1 <| pt (0 ≤ v12_1 ∧ v12_1 < ((l.length : Nat) : Int)) (of_decide_eq_true h2) <| pt (z1r44 l v12_1) (RowLd.elem cXSeason_len _ (.inl ⟨_, rfl⟩) rfl rfl _ _ (of_decide_eq_true h2)) <| pc (growth_Step_fc fu s b (⟨((at_ zXSeason l v12_1).Light), ((at_ zXSeason l v12_1).Browse), ((at_ zXSeason l v12_1).Mild), (at_ zXSeason l v12_1).Cut⟩ : XSeason) q10 q11 q12 q13 y1_12 h3) <| pc (z1p42 s b l q10 q11 q12 q13 v12_1) <| pc (z1p4 s) <| pt (z1r45 y1_12) (selfB_self 9 _ rfl _) <| pt (z1r8 s q10 q11 q12 q13) rfl <| pt (z1r9 b) rfl <| pt (z1r10 l q14) rfl <| pt ((I (v12_1) : Value) = I (v12_1)) rfl <| pt (0 ≤ v12_1 ∧ v12_1 < ((l.length : Nat) : Int)) (of_decide_eq_true h2) <| pt (z1r46 v12_1) rfl <| pt (z1r44 l v12_1) (RowLd.elem cXSeason_len _ (.inl ⟨_, rfl⟩) rfl rfl _ _ (of_decide_eq_true h2)) <| pt (z1r47 l v12_1) rfl <| pc (growth_Step_fc fu s b (⟨((at_ zXSeason l v12_1).Light), ((at_ zXSeason l v12_1).Browse), ((at_ zXSeason l v12_1).Mild), (at_ zXSeason l v12_1).Cut⟩ : XSeason) q10 q11 q12 q13 y1_12 h3) <| pc (z1p42 s b l q10 q11 q12 q13 v12_1) <| pc (z1p4 s) <| pt (z1r45 y1_12) (selfB_self 9 _ rfl _) <| pt (z1r48 y1_12) rfl <| pt (z1r48 y1_12) rfl <| pt (z1r49 y1_12) rfl <| pt ((I (y1_12.2) : Value) = I (y1_12.2)) rfl <| pt ((I (y1_12.2) : Value) = I (y1_12.2)) rfl <| pc h4 <| pt (0 ≤ v12_1 ∧ v12_1 < ((l.length : Nat) : Int)) (of_decide_eq_true h2) <| pt (z1r44 l v12_1) (RowLd.elem cXSeason_len _ (.inl ⟨_, rfl⟩) rfl rfl _ _ (of_decide_eq_true h2)) <| pc (z1p43 l v12_1) <| pc h5 <| pc h6 <| pc h7 <| pn) (by kernel_rfl) 104 (by kernel_rfl) ?_ nx
             exact ⟨PinL.lit (by kernel_rfl), PinL.pf (encL_pf cInt_pf _), PinL.pf (encL_pf cInt_pf _), PinL.pf (encL_pf cXRung_pf _), PinL.pf (encL_pf cXSpan_pf _), PinL.pf (encL_pf cXSeason_pf _), PinL.lit (by kernel_rfl), PinL.lit (by kernel_rfl), PinL.pf (encL_pf cXBox_pf _), trivial⟩
         ·rw [h4, cF] at hh
          rcases bb (y1_12.2 != 2) with h5 | h5
          ·rw [h5, cT] at hh
           rw [← sI hh]
           exact FSat.d pfT 24 (hE :: hE :: hE :: hT :: (hR 4 (hX :: (z1i39 l v12_1) :: (z1i40 s b l q10 q11 q12 q13 v12_1 y1_12) :: (hR 6 (hF :: (hR 4 [hT, hE, hE, hE])))))) [.go] (pc h1 <| pt (0 ≤ v12_1 ∧ v12_1 < ((l.length : Nat) : Int)) (of_decide_eq_true h2) <| pt (z1r44 l v12_1) (RowLd.elem cXSeason_len _ (.inl ⟨_, rfl⟩) rfl rfl _ _ (of_decide_eq_true h2)) <| pc (growth_Step_fc fu s b (⟨((at_ zXSeason l v12_1).Light), ((at_ zXSeason l v12_1).Browse), ((at_ zXSeason l v12_1).Mild), (at_ zXSeason l v12_1).Cut⟩ : XSeason) q10 q11 q12 q13 y1_12 h3) <| pc (z1p42 s b l q10 q11 q12 q13 v12_1) <| pc (z1p4 s) <| pt (z1r45 y1_12) (selfB_self 9 _ rfl _) <| pt (z1r8 s q10 q11 q12 q13) rfl <| pt (z1r9 b) rfl <| pt (z1r10 l q14) rfl <| pt ((I (v12_1) : Value) = I (v12_1)) rfl <| pt (0 ≤ v12_1 ∧ v12_1 < ((l.length : Nat) : Int)) (of_decide_eq_true h2) <| pt (z1r46 v12_1) rfl <| pt (z1r44 l v12_1) (RowLd.elem cXSeason_len _ (.inl ⟨_, rfl⟩) rfl rfl _ _ (of_decide_eq_true h2)) <| pt (z1r47 l v12_1) rfl <| pc (growth_Step_fc fu s b (⟨((at_ zXSeason l v12_1).Light), ((at_ zXSeason l v12_1).Browse), ((at_ zXSeason l v12_1).Mild), (at_ zXSeason l v12_1).Cut⟩ : XSeason) q10 q11 q12 q13 y1_12 h3) <| pc (z1p42 s b l q10 q11 q12 q13 v12_1) <| pc (z1p4 s) <| pt (z1r45 y1_12) (selfB_self 9 _ rfl _) <| pt (z1r48 y1_12) rfl <| pt (z1r48 y1_12) rfl <| pt (z1r49 y1_12) rfl <| pt ((I (y1_12.2) : Value) = I (y1_12.2)) rfl <| pt ((I (y1_12.2) : Value) = I (y1_12.2)) rfl <| pc h4 <| pc h5 <| pn) (by kernel_rfl) (by kernel_rfl)
          ·rw [h5, cF] at hh
           rcases bb (!(((y1_12.1.Low.Age == 0) && ((y1_12.1.Low.Shoots == 0) && ((y1_12.1.Low.Height == 0) && ((y1_12.1.Low.Girth == 0) && true)))) && (((y1_12.1.High.Age == 0) && ((y1_12.1.High.Shoots == 0) && ((y1_12.1.High.Height == 0) && ((y1_12.1.High.Girth == 0) && true)))) && true))) with h6 | h6
           ·rw [h6, cT] at hh
            rw [← sI hh]
            exact FSat.d pfT 24 (hE :: hE :: hE :: hT :: (hR 4 (hX :: (z1i39 l v12_1) :: (z1i40 s b l q10 q11 q12 q13 v12_1 y1_12) :: (hR 6 (hF :: (hR 4 [hF, hE, hE, hE, (hB hQ true), hE, hE])))))) [.go] (pc h1 <| pt (0 ≤ v12_1 ∧ v12_1 < ((l.length : Nat) : Int)) (of_decide_eq_true h2) <| pt (z1r44 l v12_1) (RowLd.elem cXSeason_len _ (.inl ⟨_, rfl⟩) rfl rfl _ _ (of_decide_eq_true h2)) <| pc (growth_Step_fc fu s b (⟨((at_ zXSeason l v12_1).Light), ((at_ zXSeason l v12_1).Browse), ((at_ zXSeason l v12_1).Mild), (at_ zXSeason l v12_1).Cut⟩ : XSeason) q10 q11 q12 q13 y1_12 h3) <| pc (z1p42 s b l q10 q11 q12 q13 v12_1) <| pc (z1p4 s) <| pt (z1r45 y1_12) (selfB_self 9 _ rfl _) <| pt (z1r8 s q10 q11 q12 q13) rfl <| pt (z1r9 b) rfl <| pt (z1r10 l q14) rfl <| pt ((I (v12_1) : Value) = I (v12_1)) rfl <| pt (0 ≤ v12_1 ∧ v12_1 < ((l.length : Nat) : Int)) (of_decide_eq_true h2) <| pt (z1r46 v12_1) rfl <| pt (z1r44 l v12_1) (RowLd.elem cXSeason_len _ (.inl ⟨_, rfl⟩) rfl rfl _ _ (of_decide_eq_true h2)) <| pt (z1r47 l v12_1) rfl <| pc (growth_Step_fc fu s b (⟨((at_ zXSeason l v12_1).Light), ((at_ zXSeason l v12_1).Browse), ((at_ zXSeason l v12_1).Mild), (at_ zXSeason l v12_1).Cut⟩ : XSeason) q10 q11 q12 q13 y1_12 h3) <| pc (z1p42 s b l q10 q11 q12 q13 v12_1) <| pc (z1p4 s) <| pt (z1r45 y1_12) (selfB_self 9 _ rfl _) <| pt (z1r48 y1_12) rfl <| pt (z1r48 y1_12) rfl <| pt (z1r49 y1_12) rfl <| pt ((I (y1_12.2) : Value) = I (y1_12.2)) rfl <| pt ((I (y1_12.2) : Value) = I (y1_12.2)) rfl <| pc h4 <| pc h5 <| pc h6 <| pn) (by kernel_rfl) (by kernel_rfl)
           ·rw [h6, cF] at hh
            have e : (law02_GrowthSteps_L fu s b l x_3 (fk + 1)).2 v8_1 v11_1 v12_1 x11 = (law02_GrowthSteps_L fu s b l x_3 fk).2 v8_1 v11_1 (W (v12_1 + 1)) x11 := by rw [law02_GrowthSteps_L_s1]; rw [h1, cT, h2, cT, h3, oS, h4, cF, h5, cF, h6, cF]; first | done | rfl
            rw [e] at h0; have hh := h0
            have nx := ih.2 v8_1 v11_1 (W (v12_1 + 1)) x11 r hh
            refine FSat.s pfT 25 (hE :: hE :: hE :: hT :: (hR 4 (hX :: (z1i39 l v12_1) :: (z1i40 s b l q10 q11 q12 q13 v12_1 y1_12) :: (hR 6 (hF :: (hR 4 (hF :: hE :: hE :: hE :: (hB hQ false) :: (hR 4 [])))))))) [.go, .st [2, 4, 5, 8, 9, 10, 11, 12] [0, 10, 11, 12, 13, 14, 100, 101, 103]] (pc h1 <| pt (0 ≤ v12_1 ∧ v12_1 < ((l.length : Nat) : Int)) (of_decide_eq_true h2) <| pt (z1r44 l v12_1) (RowLd.elem cXSeason_len _ (.inl ⟨_, rfl⟩) rfl rfl _ _ (of_decide_eq_true h2)) <| pc (growth_Step_fc fu s b (⟨((at_ zXSeason l v12_1).Light), ((at_ zXSeason l v12_1).Browse), ((at_ zXSeason l v12_1).Mild), (at_ zXSeason l v12_1).Cut⟩ : XSeason) q10 q11 q12 q13 y1_12 h3) <| pc (z1p42 s b l q10 q11 q12 q13 v12_1) <| pc (z1p4 s) <| pt (z1r45 y1_12) (selfB_self 9 _ rfl _) <| pt (z1r8 s q10 q11 q12 q13) rfl <| pt (z1r9 b) rfl <| pt (z1r10 l q14) rfl <| pt ((I (v12_1) : Value) = I (v12_1)) rfl <| pt (0 ≤ v12_1 ∧ v12_1 < ((l.length : Nat) : Int)) (of_decide_eq_true h2) <| pt (z1r46 v12_1) rfl <| pt (z1r44 l v12_1) (RowLd.elem cXSeason_len _ (.inl ⟨_, rfl⟩) rfl rfl _ _ (of_decide_eq_true h2)) <| pt (z1r47 l v12_1) rfl <| pc (growth_Step_fc fu s b (⟨((at_ zXSeason l v12_1).Light), ((at_ zXSeason l v12_1).Browse), ((at_ zXSeason l v12_1).Mild), (at_ zXSeason l v12_1).Cut⟩ : XSeason) q10 q11 q12 q13 y1_12 h3) <| pc (z1p42 s b l q10 q11 q12 q13 v12_1) <| pc (z1p4 s) <| pt (z1r45 y1_12) (selfB_self 9 _ rfl _) <| pt (z1r48 y1_12) rfl <| pt (z1r48 y1_12) rfl <| pt (z1r49 y1_12) rfl <| pt ((I (y1_12.2) : Value) = I (y1_12.2)) rfl <| pt ((I (y1_12.2) : Value) = I (y1_12.2)) rfl <| pc h4 <| pc h5 <| pc h6 <| pn) (by kernel_rfl) 104 (by kernel_rfl) ?_ nx
            exact ⟨PinL.lit (by kernel_rfl), PinL.pf (encL_pf cInt_pf _), PinL.pf (encL_pf cInt_pf _), PinL.pf (encL_pf cXRung_pf _), PinL.pf (encL_pf cXSpan_pf _), PinL.pf (encL_pf cXSeason_pf _), PinL.lit (by kernel_rfl), PinL.lit (by kernel_rfl), PinL.pf (encL_pf cXBox_pf _), trivial⟩
      ·rw [h1, cF] at hh
       rcases bb (v11_1) with h2 | h2
       ·rw [h2, cT] at hh
        cases h3 : ref02_Seasons fu l with
        | none => rw [h3, oN] at hh; cases hh
        | some y1_14 =>
         rw [h3, oS] at hh
         rcases bb (y1_14) with h4 | h4
         ·rw [h4, cT] at hh
          rcases bb (decide (1 ≤ l.length)) with h5 | h5
          ·rw [h5, cT] at hh
           rcases bb (decide (l.length ≤ 12)) with h6 | h6
           rotate_left
           ·rw [h6, cF] at hh; cases hh
           ·rw [h6, cT] at hh
            cases h7 : ref02_hist fu s b l with
            | none => rw [h7, oN] at hh; cases hh
            | some y1_15 =>
             rw [h7, oS] at hh
             cases h8 : ref02_Same_1 fu x11 y1_15 with
             | none => rw [h8, oN] at hh; cases hh
             | some y1_16 =>
              rw [h8, oS] at hh
              rcases bb (y1_16) with h9 | h9
              ·rw [h9, cT] at hh
               cases h10 : law02_known fu with
               | none => rw [h10, oN] at hh; cases hh
               | some y1_17 =>
                rw [h10, oS] at hh
                rw [← sI hh]
                exact FSat.d pfT 19 (hE :: hE :: hE :: hF :: hT :: hE :: hE :: hE :: (z1i54 l q14 y1_14) :: (hR 9 [(z1i55 s b l q10 q11 q12 q13 q14 y1_15), (z1i56 x11 y1_15 y1_16), hE, hE, (hC (.bool (y1_17))), hE, hE])) [.go] (pc h1 <| pc h2 <| pc (ref02_Seasons_fc fu l q14 y1_14 h3) <| pc (z1p22 l q14) <| pt (z1r26 l) (⟨MemAt.same _ (encL_pf cXSeason_pf _), trivial⟩) <| pt (VR (Ren.emb [(10, 14, 0)]) (.bool (y1_14)) (.bool (y1_14))) (selfB_self 9 _ rfl _) <| pc h4 <| pt (z1r59 s b l q10 q11 q12 q13 q14 y1_15) (ref02_History_fcn fu s b l q10 q11 q12 q13 q14 y1_15 (of_decide_eq_true h5) (of_decide_eq_true h6) h7) <| pc (z1p23 s b l q10 q11 q12 q13 q14) <| pc (z1p24 s l) <| pt (z1r60 y1_15) (.slc 77 0 _ _ _ ⟨104, 0, 0, 0⟩ rfl (.inl rfl)) <| pc (ref02_Same_1_fc fu x11 y1_15 x11.length y1_15.length y1_16 h8) <| pc (z1p57 x11 y1_15) <| pc (z1p58 x11 y1_15) <| pt (z1r61 y1_16) (selfB_self 9 _ rfl _) <| pc h9 <| pc (law02_known_fc fu  y1_17 h10) <| pn) (by kernel_rfl) (by kernel_rfl)
              ·rw [h9, cF] at hh
               rw [← sI hh]
               exact FSat.d pfT 19 (hE :: hE :: hE :: hF :: hT :: hE :: hE :: hE :: (z1i54 l q14 y1_14) :: (hR 9 ((z1i55 s b l q10 q11 q12 q13 q14 y1_15) :: (z1i62 x11 y1_15 y1_16) :: (hR 4 [])))) [.go] (pc h1 <| pc h2 <| pc (ref02_Seasons_fc fu l q14 y1_14 h3) <| pc (z1p22 l q14) <| pt (z1r26 l) (⟨MemAt.same _ (encL_pf cXSeason_pf _), trivial⟩) <| pt (VR (Ren.emb [(10, 14, 0)]) (.bool (y1_14)) (.bool (y1_14))) (selfB_self 9 _ rfl _) <| pc h4 <| pt (z1r59 s b l q10 q11 q12 q13 q14 y1_15) (ref02_History_fcn fu s b l q10 q11 q12 q13 q14 y1_15 (of_decide_eq_true h5) (of_decide_eq_true h6) h7) <| pc (z1p23 s b l q10 q11 q12 q13 q14) <| pc (z1p24 s l) <| pt (z1r60 y1_15) (.slc 77 0 _ _ _ ⟨104, 0, 0, 0⟩ rfl (.inl rfl)) <| pc (ref02_Same_1_fc fu x11 y1_15 x11.length y1_15.length y1_16 h8) <| pc (z1p57 x11 y1_15) <| pc (z1p58 x11 y1_15) <| pt (z1r61 y1_16) (selfB_self 9 _ rfl _) <| pc h9 <| pn) (by kernel_rfl) (by kernel_rfl)
          ·rw [h5, cF] at hh
           cases h6 : ref02_Same_1 fu x11 ([b]) with
           | none => rw [h6, oN] at hh; cases hh
           | some y1_18 =>
            rw [h6, oS] at hh
            rcases bb (y1_18) with h7 | h7
            ·rw [h7, cT] at hh
             cases h8 : law02_known fu with
             | none => rw [h8, oN] at hh; cases hh
             | some y1_17 =>
              rw [h8, oS] at hh
              rw [← sI hh]
              exact FSat.d pfT 19 (hE :: hE :: hE :: hF :: hT :: hE :: hE :: hE :: (z1i54 l q14 y1_14) :: (hR 9 [(z1i63 s b l q10 q11 q12 q13 q14), (z1i64 b x11 y1_18), hE, hE, (hC (.bool (y1_17))), hE, hE])) [.go] (pc h1 <| pc h2 <| pc (ref02_Seasons_fc fu l q14 y1_14 h3) <| pc (z1p22 l q14) <| pt (z1r26 l) (⟨MemAt.same _ (encL_pf cXSeason_pf _), trivial⟩) <| pt (VR (Ren.emb [(10, 14, 0)]) (.bool (y1_14)) (.bool (y1_14))) (selfB_self 9 _ rfl _) <| pc h4 <| pt (z1r34 s b l q10 q11 q12 q13 q14) (ref02_History_none fu s b l q10 q11 q12 q13 q14 h5) <| pc (z1p23 s b l q10 q11 q12 q13 q14) <| pc (z1p24 s l) <| pt z1r67 (.slc 77 0 _ _ _ ⟨104, 0, 0, 0⟩ rfl (.inl rfl)) <| pc (ref02_Same_1_fc fu x11 ([b]) x11.length 1 y1_18 h6) <| pc (z1p65 b x11) <| pc (z1p66 b x11) <| pt (z1r68 y1_18) (selfB_self 9 _ rfl _) <| pc h7 <| pc (law02_known_fc fu  y1_17 h8) <| pn) (by kernel_rfl) (by kernel_rfl)
            ·rw [h7, cF] at hh
             rw [← sI hh]
             exact FSat.d pfT 19 (hE :: hE :: hE :: hF :: hT :: hE :: hE :: hE :: (z1i54 l q14 y1_14) :: (hR 9 ((z1i63 s b l q10 q11 q12 q13 q14) :: (z1i69 b x11 y1_18) :: (hR 4 [])))) [.go] (pc h1 <| pc h2 <| pc (ref02_Seasons_fc fu l q14 y1_14 h3) <| pc (z1p22 l q14) <| pt (z1r26 l) (⟨MemAt.same _ (encL_pf cXSeason_pf _), trivial⟩) <| pt (VR (Ren.emb [(10, 14, 0)]) (.bool (y1_14)) (.bool (y1_14))) (selfB_self 9 _ rfl _) <| pc h4 <| pt (z1r34 s b l q10 q11 q12 q13 q14) (ref02_History_none fu s b l q10 q11 q12 q13 q14 h5) <| pc (z1p23 s b l q10 q11 q12 q13 q14) <| pc (z1p24 s l) <| pt z1r67 (.slc 77 0 _ _ _ ⟨104, 0, 0, 0⟩ rfl (.inl rfl)) <| pc (ref02_Same_1_fc fu x11 ([b]) x11.length 1 y1_18 h6) <| pc (z1p65 b x11) <| pc (z1p66 b x11) <| pt (z1r68 y1_18) (selfB_self 9 _ rfl _) <| pc h7 <| pn) (by kernel_rfl) (by kernel_rfl)
         ·rw [h4, cF] at hh
          rw [← sI hh]
          exact FSat.d pfT 18 (hE :: hE :: hE :: hF :: hT :: hE :: hE :: hE :: (z1i70 l q14 y1_14) :: (hR 9 [])) [.go] (pc h1 <| pc h2 <| pc (ref02_Seasons_fc fu l q14 y1_14 h3) <| pc (z1p22 l q14) <| pt (z1r26 l) (⟨MemAt.same _ (encL_pf cXSeason_pf _), trivial⟩) <| pt (VR (Ren.emb [(10, 14, 0)]) (.bool (y1_14)) (.bool (y1_14))) (selfB_self 9 _ rfl _) <| pc h4 <| pn) (by kernel_rfl) (by kernel_rfl)
       ·rw [h2, cF] at hh
        rw [← sI hh]
        exact FSat.d pfT 18 (hE :: hE :: hE :: hF :: hF :: (hR 10 [])) [.go] (pc h1 <| pc h2 <| pn) (by kernel_rfl) (by kernel_rfl)
theorem law02_GrowthSteps_fc (fu : Nat) (s : XSpecies) (b : XBox) (l : List XSeason) (x_3 : XStand) (q10 q11 q12 q13 q14 : Nat) (r : Bool) (hh : law02_GrowthSteps fu s b l x_3 = some r) : FC P GG 5 (A_law02_GrowthSteps s b l x_3 q10 q11 q12 q13 q14) (K_law02_GrowthSteps s l) (.bool (r)) := by
  refine FC.of_fsat 151 100 Tryd.func5 (by kernel_rfl) (by kernel_rfl) (by kernel_rfl) ⟨PinL.pf (encL_pf cInt_pf _), PinL.pf (encL_pf cInt_pf _), PinL.pf (encL_pf cXRung_pf _), PinL.pf (encL_pf cXSpan_pf _), PinL.pf (encL_pf cXSeason_pf _), trivial⟩ ?_
  unfold law02_GrowthSteps at hh
  rcases bb (law02_short s) with h1 | h1
  ·rw [h1, cT] at hh
   rcases bb (decide (((l.length : Nat) : Int) > 12)) with h2 | h2
   ·rw [h2, cT] at hh
    rcases bb (decide (((l.length : Nat) : Int) ≤ 100)) with h3 | h3
    ·rw [h3, cT] at hh
     cases h4 : law02_known fu with
     | none => rw [h4, oN] at hh; cases hh
     | some x1 =>
      rw [h4, oS] at hh
      rw [← sI hh]
      exact FSat.d pfT 14 (hR 5 ((z1i71 s q10 q11 q12 q13) :: (hR 4 (hT :: hE :: hE :: hE :: hT :: (hR 4 [(hC (.bool (x1))), hE]))))) [] (pc (law02_short_fc s q10 q11 q12 q13) <| pc (z1p72 s q10 q11 q12 q13) <| pc (z1p4 s) <| pt (z1r73 s) (selfB_self 9 _ rfl _) <| pc h1 <| pc h2 <| pc h3 <| pc (law02_known_fc fu  x1 h4) <| pn) (by kernel_rfl) (by kernel_rfl)
    ·rw [h3, cF] at hh
     rcases bb (decide (((l.length : Nat) : Int) > 200)) with h4 | h4
     ·rw [h4, cT] at hh
      cases h5 : law02_known fu with
      | none => rw [h5, oN] at hh; cases hh
      | some x1 =>
       rw [h5, oS] at hh
       rw [← sI hh]
       exact FSat.d pfT 14 (hR 5 ((z1i71 s q10 q11 q12 q13) :: (hR 4 (hT :: hE :: hE :: hE :: hF :: (hR 5 [hT, hE, (hC (.bool (x1))), hE]))))) [] (pc (law02_short_fc s q10 q11 q12 q13) <| pc (z1p72 s q10 q11 q12 q13) <| pc (z1p4 s) <| pt (z1r73 s) (selfB_self 9 _ rfl _) <| pc h1 <| pc h2 <| pc h3 <| pc h4 <| pc (law02_known_fc fu  x1 h5) <| pn) (by kernel_rfl) (by kernel_rfl)
     ·rw [h4, cF] at hh
      rcases bb (ref02_Box b) with h5 | h5
      ·rw [h5, cT] at hh
       rcases bb (ref02_Stand x_3) with h6 | h6
       ·rw [h6, cT] at hh
        rcases bb (!((growth_Inside b x_3) == (ref02_Inside b x_3))) with h7 | h7
        ·rw [h7, cT] at hh
         rw [← sI hh]
         exact FSat.d pfT 19 (hR 5 ((z1i71 s q10 q11 q12 q13) :: (hR 4 (hT :: hE :: hE :: hE :: hF :: (hR 5 (hF :: hE :: hE :: hE :: (hC (.bool (growth_Inside b x_3))) :: hE :: (hB (hC (.bool (ref02_Box b))) true) :: hE :: hE :: (hB (hC (.bool (ref02_Stand x_3))) true) :: (hR 4 [(hC (.bool (ref02_Inside b x_3))), hE, hT, hE]))))))) [] (pc (law02_short_fc s q10 q11 q12 q13) <| pc (z1p72 s q10 q11 q12 q13) <| pc (z1p4 s) <| pt (z1r73 s) (selfB_self 9 _ rfl _) <| pc h1 <| pc h2 <| pc h3 <| pc h4 <| pc (growth_Inside_fc b x_3) <| pc (ref02_Box_fc b) <| pc h5 <| pc (ref02_Stand_fc x_3) <| pc h6 <| pc (ref02_Inside_fc b x_3) <| pc h7 <| pn) (by kernel_rfl) (by kernel_rfl)
        ·rw [h7, cF] at hh
         cases h8 : growth_checkHistory fu s b l with
         | none => rw [h8, oN] at hh; cases hh
         | some x2 =>
          rw [h8, oS] at hh
          rcases bb (x2 != 0) with h9 | h9
          ·rw [h9, cT] at hh
           rcases bb (decide (((l.length : Nat) : Int) > 100)) with h10 | h10
           ·rw [h10, cT] at hh
            rcases bb (x2 == 3) with h11 | h11
            ·rw [h11, cT] at hh
             cases h12 : law02_known fu with
             | none => rw [h12, oN] at hh; cases hh
             | some x1 =>
              rw [h12, oS] at hh
              rw [← sI hh]
              exact FSat.d pfT 26 (hR 5 ((z1i71 s q10 q11 q12 q13) :: (hR 4 (hT :: hE :: hE :: hE :: hF :: (hR 5 (hF :: hE :: hE :: hE :: (hC (.bool (growth_Inside b x_3))) :: hE :: (hB (hC (.bool (ref02_Box b))) true) :: hE :: hE :: (hB (hC (.bool (ref02_Stand x_3))) true) :: (hR 4 ((hC (.bool (ref02_Inside b x_3))) :: hE :: hF :: hE :: hE :: hE :: (z1i74 s b l q10 q11 q12 q13 q14 x2) :: (hR 7 (hT :: hE :: hT :: (hR 6 [(hC (.bool (x1))), hE, hE]))))))))))) [] (pc (law02_short_fc s q10 q11 q12 q13) <| pc (z1p72 s q10 q11 q12 q13) <| pc (z1p4 s) <| pt (z1r73 s) (selfB_self 9 _ rfl _) <| pc h1 <| pc h2 <| pc h3 <| pc h4 <| pc (growth_Inside_fc b x_3) <| pc (ref02_Box_fc b) <| pc h5 <| pc (ref02_Stand_fc x_3) <| pc h6 <| pc (ref02_Inside_fc b x_3) <| pc h7 <| pt (z1r75 s b l q10 q11 q12 q13 q14 x2) (growth_History_err_ex fu s b l q10 q11 q12 q13 q14 x2 h8 h9) <| pc (z1p23 s b l q10 q11 q12 q13 q14) <| pc (z1p24 s l) <| pt (z1r76 x2) (selfB_self 9 _ rfl _) <| pc h10 <| pc h11 <| pc (law02_known_fc fu  x1 h12) <| pn) (by kernel_rfl) (by kernel_rfl)
            ·rw [h11, cF] at hh
             rw [← sI hh]
             exact FSat.d pfT 26 (hR 5 ((z1i71 s q10 q11 q12 q13) :: (hR 4 (hT :: hE :: hE :: hE :: hF :: (hR 5 (hF :: hE :: hE :: hE :: (hC (.bool (growth_Inside b x_3))) :: hE :: (hB (hC (.bool (ref02_Box b))) true) :: hE :: hE :: (hB (hC (.bool (ref02_Stand x_3))) true) :: (hR 4 ((hC (.bool (ref02_Inside b x_3))) :: hE :: hF :: hE :: hE :: hE :: (z1i74 s b l q10 q11 q12 q13 q14 x2) :: (hR 7 (hT :: hE :: hF :: (hR 5 []))))))))))) [] (pc (law02_short_fc s q10 q11 q12 q13) <| pc (z1p72 s q10 q11 q12 q13) <| pc (z1p4 s) <| pt (z1r73 s) (selfB_self 9 _ rfl _) <| pc h1 <| pc h2 <| pc h3 <| pc h4 <| pc (growth_Inside_fc b x_3) <| pc (ref02_Box_fc b) <| pc h5 <| pc (ref02_Stand_fc x_3) <| pc h6 <| pc (ref02_Inside_fc b x_3) <| pc h7 <| pt (z1r75 s b l q10 q11 q12 q13 q14 x2) (growth_History_err_ex fu s b l q10 q11 q12 q13 q14 x2 h8 h9) <| pc (z1p23 s b l q10 q11 q12 q13 q14) <| pc (z1p24 s l) <| pt (z1r76 x2) (selfB_self 9 _ rfl _) <| pc h10 <| pc h11 <| pn) (by kernel_rfl) (by kernel_rfl)
           ·rw [h10, cF] at hh
            cases h11 : ref02_Species fu s with
            | none => rw [h11, oN] at hh; cases hh
            | some x3 =>
             rw [h11, oS] at hh
             rcases bb (x3) with h12 | h12
             ·rw [h12, cT] at hh
              have nx := (law02_GrowthSteps_L_fs fu s b l x_3 q10 q11 q12 q13 q14 fu).1 false true 0 x2 r hh
              refine FSat.s pfT 32 (hR 5 ((z1i71 s q10 q11 q12 q13) :: (hR 4 (hT :: hE :: hE :: hE :: hF :: (hR 5 (hF :: hE :: hE :: hE :: (hC (.bool (growth_Inside b x_3))) :: hE :: (hB (hC (.bool (ref02_Box b))) true) :: hE :: hE :: (hB (hC (.bool (ref02_Stand x_3))) true) :: (hR 4 ((hC (.bool (ref02_Inside b x_3))) :: hE :: hF :: hE :: hE :: hE :: (z1i74 s b l q10 q11 q12 q13 q14 x2) :: (hR 7 [hF, hE, (z1i77 s q10 q11 q12 q13 x3), hE, hE, (hB (hC (.bool (ref02_Box b))) true), hE, hE, hE]))))))))) [.st [2, 4, 5, 8, 9, 10, 11, 12] [0, 10, 11, 12, 13, 14, 100, 101]] (pc (law02_short_fc s q10 q11 q12 q13) <| pc (z1p72 s q10 q11 q12 q13) <| pc (z1p4 s) <| pt (z1r73 s) (selfB_self 9 _ rfl _) <| pc h1 <| pc h2 <| pc h3 <| pc h4 <| pc (growth_Inside_fc b x_3) <| pc (ref02_Box_fc b) <| pc h5 <| pc (ref02_Stand_fc x_3) <| pc h6 <| pc (ref02_Inside_fc b x_3) <| pc h7 <| pt (z1r75 s b l q10 q11 q12 q13 q14 x2) (growth_History_err_ex fu s b l q10 q11 q12 q13 q14 x2 h8 h9) <| pc (z1p23 s b l q10 q11 q12 q13 q14) <| pc (z1p24 s l) <| pt (z1r76 x2) (selfB_self 9 _ rfl _) <| pc h10 <| pc (ref02_Species_fc fu s q10 q11 q12 q13 x3 h11) <| pc (z1p78 s q10 q11 q12 q13) <| pc (z1p4 s) <| pt (z1r79 x3) (selfB_self 9 _ rfl _) <| pc h12 <| pc (ref02_Box_fc b) <| pc h5 <| pn) (by kernel_rfl) 102 (by kernel_rfl) ?_ nx
              exact ⟨PinL.lit (by kernel_rfl), PinL.pf (encL_pf cInt_pf _), PinL.pf (encL_pf cInt_pf _), PinL.pf (encL_pf cXRung_pf _), PinL.pf (encL_pf cXSpan_pf _), PinL.pf (encL_pf cXSeason_pf _), PinL.lit (by kernel_rfl), PinL.lit (by kernel_rfl), trivial⟩
             ·rw [h12, cF] at hh
              have nx := (law02_GrowthSteps_L_fs fu s b l x_3 q10 q11 q12 q13 q14 fu).1 false false 0 x2 r hh
              refine FSat.s pfT 32 (hR 5 ((z1i71 s q10 q11 q12 q13) :: (hR 4 (hT :: hE :: hE :: hE :: hF :: (hR 5 (hF :: hE :: hE :: hE :: (hC (.bool (growth_Inside b x_3))) :: hE :: (hB (hC (.bool (ref02_Box b))) true) :: hE :: hE :: (hB (hC (.bool (ref02_Stand x_3))) true) :: (hR 4 ((hC (.bool (ref02_Inside b x_3))) :: hE :: hF :: hE :: hE :: hE :: (z1i74 s b l q10 q11 q12 q13 q14 x2) :: (hR 7 (hF :: hE :: (z1i80 s q10 q11 q12 q13 x3) :: (hR 4 []))))))))))) [.st [2, 4, 5, 8, 9, 10, 11, 12] [0, 10, 11, 12, 13, 14, 100, 101]] (pc (law02_short_fc s q10 q11 q12 q13) <| pc (z1p72 s q10 q11 q12 q13) <| pc (z1p4 s) <| pt (z1r73 s) (selfB_self 9 _ rfl _) <| pc h1 <| pc h2 <| pc h3 <| pc h4 <| pc (growth_Inside_fc b x_3) <| pc (ref02_Box_fc b) <| pc h5 <| pc (ref02_Stand_fc x_3) <| pc h6 <| pc (ref02_Inside_fc b x_3) <| pc h7 <| pt (z1r75 s b l q10 q11 q12 q13 q14 x2) (growth_History_err_ex fu s b l q10 q11 q12 q13 q14 x2 h8 h9) <| pc (z1p23 s b l q10 q11 q12 q13 q14) <| pc (z1p24 s l) <| pt (z1r76 x2) (selfB_self 9 _ rfl _) <| pc h10 <| pc (ref02_Species_fc fu s q10 q11 q12 q13 x3 h11) <| pc (z1p78 s q10 q11 q12 q13) <| pc (z1p4 s) <| pt (z1r79 x3) (selfB_self 9 _ rfl _) <| pc h12 <| pn) (by kernel_rfl) 102 (by kernel_rfl) ?_ nx
              exact ⟨PinL.lit (by kernel_rfl), PinL.pf (encL_pf cInt_pf _), PinL.pf (encL_pf cInt_pf _), PinL.pf (encL_pf cXRung_pf _), PinL.pf (encL_pf cXSpan_pf _), PinL.pf (encL_pf cXSeason_pf _), PinL.lit (by kernel_rfl), PinL.lit (by kernel_rfl), trivial⟩
          ·rw [h9, cF] at hh
           rcases bb (decide (l.length ≤ 12)) with h10 | h10
           rotate_left
           ·rw [h10, cF] at hh; cases hh
           ·rw [h10, cT] at hh
            cases h11 : growth_hist fu s b l with
            | none => rw [h11, oN] at hh; cases hh
            | some x11 =>
             rw [h11, oS] at hh
             rcases bb (decide (((l.length : Nat) : Int) > 100)) with h12 | h12
             ·rw [h12, cT] at hh
              rw [← sI hh]
              exact FSat.d pfT 26 (hR 5 ((z1i71 s q10 q11 q12 q13) :: (hR 4 (hT :: hE :: hE :: hE :: hF :: (hR 5 (hF :: hE :: hE :: hE :: (hC (.bool (growth_Inside b x_3))) :: hE :: (hB (hC (.bool (ref02_Box b))) true) :: hE :: hE :: (hB (hC (.bool (ref02_Stand x_3))) true) :: (hR 4 ((hC (.bool (ref02_Inside b x_3))) :: hE :: hF :: hE :: hE :: hE :: (z1i81 s b l q10 q11 q12 q13 q14 x11) :: (hR 7 (hT :: (hR 7 []))))))))))) [] (pc (law02_short_fc s q10 q11 q12 q13) <| pc (z1p72 s q10 q11 q12 q13) <| pc (z1p4 s) <| pt (z1r73 s) (selfB_self 9 _ rfl _) <| pc h1 <| pc h2 <| pc h3 <| pc h4 <| pc (growth_Inside_fc b x_3) <| pc (ref02_Box_fc b) <| pc h5 <| pc (ref02_Stand_fc x_3) <| pc h6 <| pc (ref02_Inside_fc b x_3) <| pc h7 <| pt (z1r83 s b l q10 q11 q12 q13 q14 x11) (growth_History_fcn fu s b l q10 q11 q12 q13 q14 x2 h8 h9 x11 (Nat.zero_le _) (of_decide_eq_true h10) h11) <| pc (z1p23 s b l q10 q11 q12 q13 q14) <| pc (z1p24 s l) <| pc (z1p82 x11) <| pc h12 <| pn) (by kernel_rfl) (by kernel_rfl)
             ·rw [h12, cF] at hh
              cases h13 : ref02_Species fu s with
              | none => rw [h13, oN] at hh; cases hh
              | some x3 =>
               rw [h13, oS] at hh
               rcases bb (x3) with h14 | h14
               ·rw [h14, cT] at hh
                have nx := (law02_GrowthSteps_L_fs fu s b l x_3 q10 q11 q12 q13 q14 fu).2 false true 0 x11 r hh
                refine FSat.s pfT 32 (hR 5 ((z1i71 s q10 q11 q12 q13) :: (hR 4 (hT :: hE :: hE :: hE :: hF :: (hR 5 (hF :: hE :: hE :: hE :: (hC (.bool (growth_Inside b x_3))) :: hE :: (hB (hC (.bool (ref02_Box b))) true) :: hE :: hE :: (hB (hC (.bool (ref02_Stand x_3))) true) :: (hR 4 ((hC (.bool (ref02_Inside b x_3))) :: hE :: hF :: hE :: hE :: hE :: (z1i81 s b l q10 q11 q12 q13 q14 x11) :: (hR 7 [hF, hE, (z1i77 s q10 q11 q12 q13 x3), hE, hE, (hB (hC (.bool (ref02_Box b))) true), hE, hE, hE]))))))))) [.st [2, 4, 5, 8, 9, 10, 11, 12] [0, 10, 11, 12, 13, 14, 100, 101, 103]] (pc (law02_short_fc s q10 q11 q12 q13) <| pc (z1p72 s q10 q11 q12 q13) <| pc (z1p4 s) <| pt (z1r73 s) (selfB_self 9 _ rfl _) <| pc h1 <| pc h2 <| pc h3 <| pc h4 <| pc (growth_Inside_fc b x_3) <| pc (ref02_Box_fc b) <| pc h5 <| pc (ref02_Stand_fc x_3) <| pc h6 <| pc (ref02_Inside_fc b x_3) <| pc h7 <| pt (z1r83 s b l q10 q11 q12 q13 q14 x11) (growth_History_fcn fu s b l q10 q11 q12 q13 q14 x2 h8 h9 x11 (Nat.zero_le _) (of_decide_eq_true h10) h11) <| pc (z1p23 s b l q10 q11 q12 q13 q14) <| pc (z1p24 s l) <| pc (z1p82 x11) <| pc h12 <| pc (ref02_Species_fc fu s q10 q11 q12 q13 x3 h13) <| pc (z1p78 s q10 q11 q12 q13) <| pc (z1p4 s) <| pt (z1r79 x3) (selfB_self 9 _ rfl _) <| pc h14 <| pc (ref02_Box_fc b) <| pc h5 <| pn) (by kernel_rfl) 104 (by kernel_rfl) ?_ nx
                exact ⟨PinL.lit (by kernel_rfl), PinL.pf (encL_pf cInt_pf _), PinL.pf (encL_pf cInt_pf _), PinL.pf (encL_pf cXRung_pf _), PinL.pf (encL_pf cXSpan_pf _), PinL.pf (encL_pf cXSeason_pf _), PinL.lit (by kernel_rfl), PinL.lit (by kernel_rfl), PinL.pf (encL_pf cXBox_pf _), trivial⟩
               ·rw [h14, cF] at hh
                have nx := (law02_GrowthSteps_L_fs fu s b l x_3 q10 q11 q12 q13 q14 fu).2 false false 0 x11 r hh
                refine FSat.s pfT 32 (hR 5 ((z1i71 s q10 q11 q12 q13) :: (hR 4 (hT :: hE :: hE :: hE :: hF :: (hR 5 (hF :: hE :: hE :: hE :: (hC (.bool (growth_Inside b x_3))) :: hE :: (hB (hC (.bool (ref02_Box b))) true) :: hE :: hE :: (hB (hC (.bool (ref02_Stand x_3))) true) :: (hR 4 ((hC (.bool (ref02_Inside b x_3))) :: hE :: hF :: hE :: hE :: hE :: (z1i81 s b l q10 q11 q12 q13 q14 x11) :: (hR 7 (hF :: hE :: (z1i80 s q10 q11 q12 q13 x3) :: (hR 4 []))))))))))) [.st [2, 4, 5, 8, 9, 10, 11, 12] [0, 10, 11, 12, 13, 14, 100, 101, 103]] (pc (law02_short_fc s q10 q11 q12 q13) <| pc (z1p72 s q10 q11 q12 q13) <| pc (z1p4 s) <| pt (z1r73 s) (selfB_self 9 _ rfl _) <| pc h1 <| pc h2 <| pc h3 <| pc h4 <| pc (growth_Inside_fc b x_3) <| pc (ref02_Box_fc b) <| pc h5 <| pc (ref02_Stand_fc x_3) <| pc h6 <| pc (ref02_Inside_fc b x_3) <| pc h7 <| pt (z1r83 s b l q10 q11 q12 q13 q14 x11) (growth_History_fcn fu s b l q10 q11 q12 q13 q14 x2 h8 h9 x11 (Nat.zero_le _) (of_decide_eq_true h10) h11) <| pc (z1p23 s b l q10 q11 q12 q13 q14) <| pc (z1p24 s l) <| pc (z1p82 x11) <| pc h12 <| pc (ref02_Species_fc fu s q10 q11 q12 q13 x3 h13) <| pc (z1p78 s q10 q11 q12 q13) <| pc (z1p4 s) <| pt (z1r79 x3) (selfB_self 9 _ rfl _) <| pc h14 <| pn) (by kernel_rfl) 104 (by kernel_rfl) ?_ nx
                exact ⟨PinL.lit (by kernel_rfl), PinL.pf (encL_pf cInt_pf _), PinL.pf (encL_pf cInt_pf _), PinL.pf (encL_pf cXRung_pf _), PinL.pf (encL_pf cXSpan_pf _), PinL.pf (encL_pf cXSeason_pf _), PinL.lit (by kernel_rfl), PinL.lit (by kernel_rfl), PinL.pf (encL_pf cXBox_pf _), trivial⟩
       ·rw [h6, cF] at hh
        rcases bb (!((growth_Inside b x_3) == false)) with h7 | h7
        ·rw [h7, cT] at hh
         rw [← sI hh]
         exact FSat.d pfT 19 (hR 5 ((z1i71 s q10 q11 q12 q13) :: (hR 4 (hT :: hE :: hE :: hE :: hF :: (hR 5 [hF, hE, hE, hE, (hC (.bool (growth_Inside b x_3))), hE, (hB (hC (.bool (ref02_Box b))) true), hE, hE, (hB (hC (.bool (ref02_Stand x_3))) false), hE, hE, hE, hT, hE]))))) [] (pc (law02_short_fc s q10 q11 q12 q13) <| pc (z1p72 s q10 q11 q12 q13) <| pc (z1p4 s) <| pt (z1r73 s) (selfB_self 9 _ rfl _) <| pc h1 <| pc h2 <| pc h3 <| pc h4 <| pc (growth_Inside_fc b x_3) <| pc (ref02_Box_fc b) <| pc h5 <| pc (ref02_Stand_fc x_3) <| pc h6 <| pc h7 <| pn) (by kernel_rfl) (by kernel_rfl)
        ·rw [h7, cF] at hh
         cases h8 : growth_checkHistory fu s b l with
         | none => rw [h8, oN] at hh; cases hh
         | some x2 =>
          rw [h8, oS] at hh
          rcases bb (x2 != 0) with h9 | h9
          ·rw [h9, cT] at hh
           rcases bb (decide (((l.length : Nat) : Int) > 100)) with h10 | h10
           ·rw [h10, cT] at hh
            rcases bb (x2 == 3) with h11 | h11
            ·rw [h11, cT] at hh
             cases h12 : law02_known fu with
             | none => rw [h12, oN] at hh; cases hh
             | some x1 =>
              rw [h12, oS] at hh
              rw [← sI hh]
              exact FSat.d pfT 26 (hR 5 ((z1i71 s q10 q11 q12 q13) :: (hR 4 (hT :: hE :: hE :: hE :: hF :: (hR 5 (hF :: hE :: hE :: hE :: (hC (.bool (growth_Inside b x_3))) :: hE :: (hB (hC (.bool (ref02_Box b))) true) :: hE :: hE :: (hB (hC (.bool (ref02_Stand x_3))) false) :: hE :: hE :: hE :: hF :: hE :: hE :: hE :: (z1i74 s b l q10 q11 q12 q13 q14 x2) :: (hR 7 (hT :: hE :: hT :: (hR 6 [(hC (.bool (x1))), hE, hE]))))))))) [] (pc (law02_short_fc s q10 q11 q12 q13) <| pc (z1p72 s q10 q11 q12 q13) <| pc (z1p4 s) <| pt (z1r73 s) (selfB_self 9 _ rfl _) <| pc h1 <| pc h2 <| pc h3 <| pc h4 <| pc (growth_Inside_fc b x_3) <| pc (ref02_Box_fc b) <| pc h5 <| pc (ref02_Stand_fc x_3) <| pc h6 <| pc h7 <| pt (z1r75 s b l q10 q11 q12 q13 q14 x2) (growth_History_err_ex fu s b l q10 q11 q12 q13 q14 x2 h8 h9) <| pc (z1p23 s b l q10 q11 q12 q13 q14) <| pc (z1p24 s l) <| pt (z1r76 x2) (selfB_self 9 _ rfl _) <| pc h10 <| pc h11 <| pc (law02_known_fc fu  x1 h12) <| pn) (by kernel_rfl) (by kernel_rfl)
            ·rw [h11, cF] at hh
             rw [← sI hh]
             exact FSat.d pfT 26 (hR 5 ((z1i71 s q10 q11 q12 q13) :: (hR 4 (hT :: hE :: hE :: hE :: hF :: (hR 5 (hF :: hE :: hE :: hE :: (hC (.bool (growth_Inside b x_3))) :: hE :: (hB (hC (.bool (ref02_Box b))) true) :: hE :: hE :: (hB (hC (.bool (ref02_Stand x_3))) false) :: hE :: hE :: hE :: hF :: hE :: hE :: hE :: (z1i74 s b l q10 q11 q12 q13 q14 x2) :: (hR 7 (hT :: hE :: hF :: (hR 5 []))))))))) [] (pc (law02_short_fc s q10 q11 q12 q13) <| pc (z1p72 s q10 q11 q12 q13) <| pc (z1p4 s) <| pt (z1r73 s) (selfB_self 9 _ rfl _) <| pc h1 <| pc h2 <| pc h3 <| pc h4 <| pc (growth_Inside_fc b x_3) <| pc (ref02_Box_fc b) <| pc h5 <| pc (ref02_Stand_fc x_3) <| pc h6 <| pc h7 <| pt (z1r75 s b l q10 q11 q12 q13 q14 x2) (growth_History_err_ex fu s b l q10 q11 q12 q13 q14 x2 h8 h9) <| pc (z1p23 s b l q10 q11 q12 q13 q14) <| pc (z1p24 s l) <| pt (z1r76 x2) (selfB_self 9 _ rfl _) <| pc h10 <| pc h11 <| pn) (by kernel_rfl) (by kernel_rfl)
           ·rw [h10, cF] at hh
            cases h11 : ref02_Species fu s with
            | none => rw [h11, oN] at hh; cases hh
            | some x3 =>
             rw [h11, oS] at hh
             rcases bb (x3) with h12 | h12
             ·rw [h12, cT] at hh
              have nx := (law02_GrowthSteps_L_fs fu s b l x_3 q10 q11 q12 q13 q14 fu).1 false true 0 x2 r hh
              refine FSat.s pfT 32 (hR 5 ((z1i71 s q10 q11 q12 q13) :: (hR 4 (hT :: hE :: hE :: hE :: hF :: (hR 5 (hF :: hE :: hE :: hE :: (hC (.bool (growth_Inside b x_3))) :: hE :: (hB (hC (.bool (ref02_Box b))) true) :: hE :: hE :: (hB (hC (.bool (ref02_Stand x_3))) false) :: hE :: hE :: hE :: hF :: hE :: hE :: hE :: (z1i74 s b l q10 q11 q12 q13 q14 x2) :: (hR 7 [hF, hE, (z1i77 s q10 q11 q12 q13 x3), hE, hE, (hB (hC (.bool (ref02_Box b))) true), hE, hE, hE]))))))) [.st [2, 4, 5, 8, 9, 10, 11, 12] [0, 10, 11, 12, 13, 14, 100, 101]] (pc (law02_short_fc s q10 q11 q12 q13) <| pc (z1p72 s q10 q11 q12 q13) <| pc (z1p4 s) <| pt (z1r73 s) (selfB_self 9 _ rfl _) <| pc h1 <| pc h2 <| pc h3 <| pc h4 <| pc (growth_Inside_fc b x_3) <| pc (ref02_Box_fc b) <| pc h5 <| pc (ref02_Stand_fc x_3) <| pc h6 <| pc h7 <| pt (z1r75 s b l q10 q11 q12 q13 q14 x2) (growth_History_err_ex fu s b l q10 q11 q12 q13 q14 x2 h8 h9) <| pc (z1p23 s b l q10 q11 q12 q13 q14) <| pc (z1p24 s l) <| pt (z1r76 x2) (selfB_self 9 _ rfl _) <| pc h10 <| pc (ref02_Species_fc fu s q10 q11 q12 q13 x3 h11) <| pc (z1p78 s q10 q11 q12 q13) <| pc (z1p4 s) <| pt (z1r79 x3) (selfB_self 9 _ rfl _) <| pc h12 <| pc (ref02_Box_fc b) <| pc h5 <| pn) (by kernel_rfl) 102 (by kernel_rfl) ?_ nx
              exact ⟨PinL.lit (by kernel_rfl), PinL.pf (encL_pf cInt_pf _), PinL.pf (encL_pf cInt_pf _), PinL.pf (encL_pf cXRung_pf _), PinL.pf (encL_pf cXSpan_pf _), PinL.pf (encL_pf cXSeason_pf _), PinL.lit (by kernel_rfl), PinL.lit (by kernel_rfl), trivial⟩
             ·rw [h12, cF] at hh
              have nx := (law02_GrowthSteps_L_fs fu s b l x_3 q10 q11 q12 q13 q14 fu).1 false false 0 x2 r hh
              refine FSat.s pfT 32 (hR 5 ((z1i71 s q10 q11 q12 q13) :: (hR 4 (hT :: hE :: hE :: hE :: hF :: (hR 5 (hF :: hE :: hE :: hE :: (hC (.bool (growth_Inside b x_3))) :: hE :: (hB (hC (.bool (ref02_Box b))) true) :: hE :: hE :: (hB (hC (.bool (ref02_Stand x_3))) false) :: hE :: hE :: hE :: hF :: hE :: hE :: hE :: (z1i74 s b l q10 q11 q12 q13 q14 x2) :: (hR 7 (hF :: hE :: (z1i80 s q10 q11 q12 q13 x3) :: (hR 4 []))))))))) [.st [2, 4, 5, 8, 9, 10, 11, 12] [0, 10, 11, 12, 13, 14, 100, 101]] (pc (law02_short_fc s q10 q11 q12 q13) <| pc (z1p72 s q10 q11 q12 q13) <| pc (z1p4 s) <| pt (z1r73 s) (selfB_self 9 _ rfl _) <| pc h1 <| pc h2 <| pc h3 <| pc h4 <| pc (growth_Inside_fc b x_3) <| pc (ref02_Box_fc b) <| pc h5 <| pc (ref02_Stand_fc x_3) <| pc h6 <| pc h7 <| pt (z1r75 s b l q10 q11 q12 q13 q14 x2) (growth_History_err_ex fu s b l q10 q11 q12 q13 q14 x2 h8 h9) <| pc (z1p23 s b l q10 q11 q12 q13 q14) <| pc (z1p24 s l) <| pt (z1r76 x2) (selfB_self 9 _ rfl _) <| pc h10 <| pc (ref02_Species_fc fu s q10 q11 q12 q13 x3 h11) <| pc (z1p78 s q10 q11 q12 q13) <| pc (z1p4 s) <| pt (z1r79 x3) (selfB_self 9 _ rfl _) <| pc h12 <| pn) (by kernel_rfl) 102 (by kernel_rfl) ?_ nx
              exact ⟨PinL.lit (by kernel_rfl), PinL.pf (encL_pf cInt_pf _), PinL.pf (encL_pf cInt_pf _), PinL.pf (encL_pf cXRung_pf _), PinL.pf (encL_pf cXSpan_pf _), PinL.pf (encL_pf cXSeason_pf _), PinL.lit (by kernel_rfl), PinL.lit (by kernel_rfl), trivial⟩
          ·rw [h9, cF] at hh
           rcases bb (decide (l.length ≤ 12)) with h10 | h10
           rotate_left
           ·rw [h10, cF] at hh; cases hh
           ·rw [h10, cT] at hh
            cases h11 : growth_hist fu s b l with
            | none => rw [h11, oN] at hh; cases hh
            | some x11 =>
             rw [h11, oS] at hh
             rcases bb (decide (((l.length : Nat) : Int) > 100)) with h12 | h12
             ·rw [h12, cT] at hh
              rw [← sI hh]
              exact FSat.d pfT 26 (hR 5 ((z1i71 s q10 q11 q12 q13) :: (hR 4 (hT :: hE :: hE :: hE :: hF :: (hR 5 (hF :: hE :: hE :: hE :: (hC (.bool (growth_Inside b x_3))) :: hE :: (hB (hC (.bool (ref02_Box b))) true) :: hE :: hE :: (hB (hC (.bool (ref02_Stand x_3))) false) :: hE :: hE :: hE :: hF :: hE :: hE :: hE :: (z1i81 s b l q10 q11 q12 q13 q14 x11) :: (hR 7 (hT :: (hR 7 []))))))))) [] (pc (law02_short_fc s q10 q11 q12 q13) <| pc (z1p72 s q10 q11 q12 q13) <| pc (z1p4 s) <| pt (z1r73 s) (selfB_self 9 _ rfl _) <| pc h1 <| pc h2 <| pc h3 <| pc h4 <| pc (growth_Inside_fc b x_3) <| pc (ref02_Box_fc b) <| pc h5 <| pc (ref02_Stand_fc x_3) <| pc h6 <| pc h7 <| pt (z1r83 s b l q10 q11 q12 q13 q14 x11) (growth_History_fcn fu s b l q10 q11 q12 q13 q14 x2 h8 h9 x11 (Nat.zero_le _) (of_decide_eq_true h10) h11) <| pc (z1p23 s b l q10 q11 q12 q13 q14) <| pc (z1p24 s l) <| pc (z1p82 x11) <| pc h12 <| pn) (by kernel_rfl) (by kernel_rfl)
             ·rw [h12, cF] at hh
              cases h13 : ref02_Species fu s with
              | none => rw [h13, oN] at hh; cases hh
              | some x3 =>
               rw [h13, oS] at hh
               rcases bb (x3) with h14 | h14
               ·rw [h14, cT] at hh
                have nx := (law02_GrowthSteps_L_fs fu s b l x_3 q10 q11 q12 q13 q14 fu).2 false true 0 x11 r hh
                refine FSat.s pfT 32 (hR 5 ((z1i71 s q10 q11 q12 q13) :: (hR 4 (hT :: hE :: hE :: hE :: hF :: (hR 5 (hF :: hE :: hE :: hE :: (hC (.bool (growth_Inside b x_3))) :: hE :: (hB (hC (.bool (ref02_Box b))) true) :: hE :: hE :: (hB (hC (.bool (ref02_Stand x_3))) false) :: hE :: hE :: hE :: hF :: hE :: hE :: hE :: (z1i81 s b l q10 q11 q12 q13 q14 x11) :: (hR 7 [hF, hE, (z1i77 s q10 q11 q12 q13 x3), hE, hE, (hB (hC (.bool (ref02_Box b))) true), hE, hE, hE]))))))) [.st [2, 4, 5, 8, 9, 10, 11, 12] [0, 10, 11, 12, 13, 14, 100, 101, 103]] (pc (law02_short_fc s q10 q11 q12 q13) <| pc (z1p72 s q10 q11 q12 q13) <| pc (z1p4 s) <| pt (z1r73 s) (selfB_self 9 _ rfl _) <| pc h1 <| pc h2 <| pc h3 <| pc h4 <| pc (growth_Inside_fc b x_3) <| pc (ref02_Box_fc b) <| pc h5 <| pc (ref02_Stand_fc x_3) <| pc h6 <| pc h7 <| pt (z1r83 s b l q10 q11 q12 q13 q14 x11) (growth_History_fcn fu s b l q10 q11 q12 q13 q14 x2 h8 h9 x11 (Nat.zero_le _) (of_decide_eq_true h10) h11) <| pc (z1p23 s b l q10 q11 q12 q13 q14) <| pc (z1p24 s l) <| pc (z1p82 x11) <| pc h12 <| pc (ref02_Species_fc fu s q10 q11 q12 q13 x3 h13) <| pc (z1p78 s q10 q11 q12 q13) <| pc (z1p4 s) <| pt (z1r79 x3) (selfB_self 9 _ rfl _) <| pc h14 <| pc (ref02_Box_fc b) <| pc h5 <| pn) (by kernel_rfl) 104 (by kernel_rfl) ?_ nx
                exact ⟨PinL.lit (by kernel_rfl), PinL.pf (encL_pf cInt_pf _), PinL.pf (encL_pf cInt_pf _), PinL.pf (encL_pf cXRung_pf _), PinL.pf (encL_pf cXSpan_pf _), PinL.pf (encL_pf cXSeason_pf _), PinL.lit (by kernel_rfl), PinL.lit (by kernel_rfl), PinL.pf (encL_pf cXBox_pf _), trivial⟩
               ·rw [h14, cF] at hh
                have nx := (law02_GrowthSteps_L_fs fu s b l x_3 q10 q11 q12 q13 q14 fu).2 false false 0 x11 r hh
                refine FSat.s pfT 32 (hR 5 ((z1i71 s q10 q11 q12 q13) :: (hR 4 (hT :: hE :: hE :: hE :: hF :: (hR 5 (hF :: hE :: hE :: hE :: (hC (.bool (growth_Inside b x_3))) :: hE :: (hB (hC (.bool (ref02_Box b))) true) :: hE :: hE :: (hB (hC (.bool (ref02_Stand x_3))) false) :: hE :: hE :: hE :: hF :: hE :: hE :: hE :: (z1i81 s b l q10 q11 q12 q13 q14 x11) :: (hR 7 (hF :: hE :: (z1i80 s q10 q11 q12 q13 x3) :: (hR 4 []))))))))) [.st [2, 4, 5, 8, 9, 10, 11, 12] [0, 10, 11, 12, 13, 14, 100, 101, 103]] (pc (law02_short_fc s q10 q11 q12 q13) <| pc (z1p72 s q10 q11 q12 q13) <| pc (z1p4 s) <| pt (z1r73 s) (selfB_self 9 _ rfl _) <| pc h1 <| pc h2 <| pc h3 <| pc h4 <| pc (growth_Inside_fc b x_3) <| pc (ref02_Box_fc b) <| pc h5 <| pc (ref02_Stand_fc x_3) <| pc h6 <| pc h7 <| pt (z1r83 s b l q10 q11 q12 q13 q14 x11) (growth_History_fcn fu s b l q10 q11 q12 q13 q14 x2 h8 h9 x11 (Nat.zero_le _) (of_decide_eq_true h10) h11) <| pc (z1p23 s b l q10 q11 q12 q13 q14) <| pc (z1p24 s l) <| pc (z1p82 x11) <| pc h12 <| pc (ref02_Species_fc fu s q10 q11 q12 q13 x3 h13) <| pc (z1p78 s q10 q11 q12 q13) <| pc (z1p4 s) <| pt (z1r79 x3) (selfB_self 9 _ rfl _) <| pc h14 <| pn) (by kernel_rfl) 104 (by kernel_rfl) ?_ nx
                exact ⟨PinL.lit (by kernel_rfl), PinL.pf (encL_pf cInt_pf _), PinL.pf (encL_pf cInt_pf _), PinL.pf (encL_pf cXRung_pf _), PinL.pf (encL_pf cXSpan_pf _), PinL.pf (encL_pf cXSeason_pf _), PinL.lit (by kernel_rfl), PinL.lit (by kernel_rfl), PinL.pf (encL_pf cXBox_pf _), trivial⟩
      ·rw [h5, cF] at hh
       rcases bb (!((growth_Inside b x_3) == false)) with h6 | h6
       ·rw [h6, cT] at hh
        rw [← sI hh]
        exact FSat.d pfT 19 (hR 5 ((z1i71 s q10 q11 q12 q13) :: (hR 4 (hT :: hE :: hE :: hE :: hF :: (hR 5 (hF :: hE :: hE :: hE :: (hC (.bool (growth_Inside b x_3))) :: hE :: (hB (hC (.bool (ref02_Box b))) false) :: (hR 4 [hT, hE]))))))) [] (pc (law02_short_fc s q10 q11 q12 q13) <| pc (z1p72 s q10 q11 q12 q13) <| pc (z1p4 s) <| pt (z1r73 s) (selfB_self 9 _ rfl _) <| pc h1 <| pc h2 <| pc h3 <| pc h4 <| pc (growth_Inside_fc b x_3) <| pc (ref02_Box_fc b) <| pc h5 <| pc h6 <| pn) (by kernel_rfl) (by kernel_rfl)
       ·rw [h6, cF] at hh
        cases h7 : growth_checkHistory fu s b l with
        | none => rw [h7, oN] at hh; cases hh
        | some x2 =>
         rw [h7, oS] at hh
         rcases bb (x2 != 0) with h8 | h8
         ·rw [h8, cT] at hh
          rcases bb (decide (((l.length : Nat) : Int) > 100)) with h9 | h9
          ·rw [h9, cT] at hh
           rcases bb (x2 == 3) with h10 | h10
           ·rw [h10, cT] at hh
            cases h11 : law02_known fu with
            | none => rw [h11, oN] at hh; cases hh
            | some x1 =>
             rw [h11, oS] at hh
             rw [← sI hh]
             exact FSat.d pfT 26 (hR 5 ((z1i71 s q10 q11 q12 q13) :: (hR 4 (hT :: hE :: hE :: hE :: hF :: (hR 5 (hF :: hE :: hE :: hE :: (hC (.bool (growth_Inside b x_3))) :: hE :: (hB (hC (.bool (ref02_Box b))) false) :: (hR 4 (hF :: hE :: hE :: hE :: (z1i74 s b l q10 q11 q12 q13 q14 x2) :: (hR 7 (hT :: hE :: hT :: (hR 6 [(hC (.bool (x1))), hE, hE]))))))))))) [] (pc (law02_short_fc s q10 q11 q12 q13) <| pc (z1p72 s q10 q11 q12 q13) <| pc (z1p4 s) <| pt (z1r73 s) (selfB_self 9 _ rfl _) <| pc h1 <| pc h2 <| pc h3 <| pc h4 <| pc (growth_Inside_fc b x_3) <| pc (ref02_Box_fc b) <| pc h5 <| pc h6 <| pt (z1r75 s b l q10 q11 q12 q13 q14 x2) (growth_History_err_ex fu s b l q10 q11 q12 q13 q14 x2 h7 h8) <| pc (z1p23 s b l q10 q11 q12 q13 q14) <| pc (z1p24 s l) <| pt (z1r76 x2) (selfB_self 9 _ rfl _) <| pc h9 <| pc h10 <| pc (law02_known_fc fu  x1 h11) <| pn) (by kernel_rfl) (by kernel_rfl)
           ·rw [h10, cF] at hh
            rw [← sI hh]
            exact FSat.d pfT 26 (hR 5 ((z1i71 s q10 q11 q12 q13) :: (hR 4 (hT :: hE :: hE :: hE :: hF :: (hR 5 (hF :: hE :: hE :: hE :: (hC (.bool (growth_Inside b x_3))) :: hE :: (hB (hC (.bool (ref02_Box b))) false) :: (hR 4 (hF :: hE :: hE :: hE :: (z1i74 s b l q10 q11 q12 q13 q14 x2) :: (hR 7 (hT :: hE :: hF :: (hR 5 []))))))))))) [] (pc (law02_short_fc s q10 q11 q12 q13) <| pc (z1p72 s q10 q11 q12 q13) <| pc (z1p4 s) <| pt (z1r73 s) (selfB_self 9 _ rfl _) <| pc h1 <| pc h2 <| pc h3 <| pc h4 <| pc (growth_Inside_fc b x_3) <| pc (ref02_Box_fc b) <| pc h5 <| pc h6 <| pt (z1r75 s b l q10 q11 q12 q13 q14 x2) (growth_History_err_ex fu s b l q10 q11 q12 q13 q14 x2 h7 h8) <| pc (z1p23 s b l q10 q11 q12 q13 q14) <| pc (z1p24 s l) <| pt (z1r76 x2) (selfB_self 9 _ rfl _) <| pc h9 <| pc h10 <| pn) (by kernel_rfl) (by kernel_rfl)
          ·rw [h9, cF] at hh
           cases h10 : ref02_Species fu s with
           | none => rw [h10, oN] at hh; cases hh
           | some x3 =>
            rw [h10, oS] at hh
            rcases bb (x3) with h11 | h11
            ·rw [h11, cT] at hh
             have nx := (law02_GrowthSteps_L_fs fu s b l x_3 q10 q11 q12 q13 q14 fu).1 false false 0 x2 r hh
             refine FSat.s pfT 32 (hR 5 ((z1i71 s q10 q11 q12 q13) :: (hR 4 (hT :: hE :: hE :: hE :: hF :: (hR 5 (hF :: hE :: hE :: hE :: (hC (.bool (growth_Inside b x_3))) :: hE :: (hB (hC (.bool (ref02_Box b))) false) :: (hR 4 (hF :: hE :: hE :: hE :: (z1i74 s b l q10 q11 q12 q13 q14 x2) :: (hR 7 [hF, hE, (z1i77 s q10 q11 q12 q13 x3), hE, hE, (hB (hC (.bool (ref02_Box b))) false), hE, hE, hE]))))))))) [.st [2, 4, 5, 8, 9, 10, 11, 12] [0, 10, 11, 12, 13, 14, 100, 101]] (pc (law02_short_fc s q10 q11 q12 q13) <| pc (z1p72 s q10 q11 q12 q13) <| pc (z1p4 s) <| pt (z1r73 s) (selfB_self 9 _ rfl _) <| pc h1 <| pc h2 <| pc h3 <| pc h4 <| pc (growth_Inside_fc b x_3) <| pc (ref02_Box_fc b) <| pc h5 <| pc h6 <| pt (z1r75 s b l q10 q11 q12 q13 q14 x2) (growth_History_err_ex fu s b l q10 q11 q12 q13 q14 x2 h7 h8) <| pc (z1p23 s b l q10 q11 q12 q13 q14) <| pc (z1p24 s l) <| pt (z1r76 x2) (selfB_self 9 _ rfl _) <| pc h9 <| pc (ref02_Species_fc fu s q10 q11 q12 q13 x3 h10) <| pc (z1p78 s q10 q11 q12 q13) <| pc (z1p4 s) <| pt (z1r79 x3) (selfB_self 9 _ rfl _) <| pc h11 <| pc (ref02_Box_fc b) <| pc h5 <| pn) (by kernel_rfl) 102 (by kernel_rfl) ?_ nx
             exact ⟨PinL.lit (by kernel_rfl), PinL.pf (encL_pf cInt_pf _), PinL.pf (encL_pf cInt_pf _), PinL.pf (encL_pf cXRung_pf _), PinL.pf (encL_pf cXSpan_pf _), PinL.pf (encL_pf cXSeason_pf _), PinL.lit (by kernel_rfl), PinL.lit (by kernel_rfl), trivial⟩
            ·rw [h11, cF] at hh
             have nx := (law02_GrowthSteps_L_fs fu s b l x_3 q10 q11 q12 q13 q14 fu).1 false false 0 x2 r hh
             refine FSat.s pfT 32 (hR 5 ((z1i71 s q10 q11 q12 q13) :: (hR 4 (hT :: hE :: hE :: hE :: hF :: (hR 5 (hF :: hE :: hE :: hE :: (hC (.bool (growth_Inside b x_3))) :: hE :: (hB (hC (.bool (ref02_Box b))) false) :: (hR 4 (hF :: hE :: hE :: hE :: (z1i74 s b l q10 q11 q12 q13 q14 x2) :: (hR 7 (hF :: hE :: (z1i80 s q10 q11 q12 q13 x3) :: (hR 4 []))))))))))) [.st [2, 4, 5, 8, 9, 10, 11, 12] [0, 10, 11, 12, 13, 14, 100, 101]] (pc (law02_short_fc s q10 q11 q12 q13) <| pc (z1p72 s q10 q11 q12 q13) <| pc (z1p4 s) <| pt (z1r73 s) (selfB_self 9 _ rfl _) <| pc h1 <| pc h2 <| pc h3 <| pc h4 <| pc (growth_Inside_fc b x_3) <| pc (ref02_Box_fc b) <| pc h5 <| pc h6 <| pt (z1r75 s b l q10 q11 q12 q13 q14 x2) (growth_History_err_ex fu s b l q10 q11 q12 q13 q14 x2 h7 h8) <| pc (z1p23 s b l q10 q11 q12 q13 q14) <| pc (z1p24 s l) <| pt (z1r76 x2) (selfB_self 9 _ rfl _) <| pc h9 <| pc (ref02_Species_fc fu s q10 q11 q12 q13 x3 h10) <| pc (z1p78 s q10 q11 q12 q13) <| pc (z1p4 s) <| pt (z1r79 x3) (selfB_self 9 _ rfl _) <| pc h11 <| pn) (by kernel_rfl) 102 (by kernel_rfl) ?_ nx
             exact ⟨PinL.lit (by kernel_rfl), PinL.pf (encL_pf cInt_pf _), PinL.pf (encL_pf cInt_pf _), PinL.pf (encL_pf cXRung_pf _), PinL.pf (encL_pf cXSpan_pf _), PinL.pf (encL_pf cXSeason_pf _), PinL.lit (by kernel_rfl), PinL.lit (by kernel_rfl), trivial⟩
         ·rw [h8, cF] at hh
          rcases bb (decide (l.length ≤ 12)) with h9 | h9
          rotate_left
          ·rw [h9, cF] at hh; cases hh
          ·rw [h9, cT] at hh
           cases h10 : growth_hist fu s b l with
           | none => rw [h10, oN] at hh; cases hh
           | some x11 =>
            rw [h10, oS] at hh
            rcases bb (decide (((l.length : Nat) : Int) > 100)) with h11 | h11
            ·rw [h11, cT] at hh
             rw [← sI hh]
             exact FSat.d pfT 26 (hR 5 ((z1i71 s q10 q11 q12 q13) :: (hR 4 (hT :: hE :: hE :: hE :: hF :: (hR 5 (hF :: hE :: hE :: hE :: (hC (.bool (growth_Inside b x_3))) :: hE :: (hB (hC (.bool (ref02_Box b))) false) :: (hR 4 (hF :: hE :: hE :: hE :: (z1i81 s b l q10 q11 q12 q13 q14 x11) :: (hR 7 (hT :: (hR 7 []))))))))))) [] (pc (law02_short_fc s q10 q11 q12 q13) <| pc (z1p72 s q10 q11 q12 q13) <| pc (z1p4 s) <| pt (z1r73 s) (selfB_self 9 _ rfl _) <| pc h1 <| pc h2 <| pc h3 <| pc h4 <| pc (growth_Inside_fc b x_3) <| pc (ref02_Box_fc b) <| pc h5 <| pc h6 <| pt (z1r83 s b l q10 q11 q12 q13 q14 x11) (growth_History_fcn fu s b l q10 q11 q12 q13 q14 x2 h7 h8 x11 (Nat.zero_le _) (of_decide_eq_true h9) h10) <| pc (z1p23 s b l q10 q11 q12 q13 q14) <| pc (z1p24 s l) <| pc (z1p82 x11) <| pc h11 <| pn) (by kernel_rfl) (by kernel_rfl)
            ·rw [h11, cF] at hh
             cases h12 : ref02_Species fu s with
             | none => rw [h12, oN] at hh; cases hh
             | some x3 =>
              rw [h12, oS] at hh
              rcases bb (x3) with h13 | h13
              ·rw [h13, cT] at hh
               have nx := (law02_GrowthSteps_L_fs fu s b l x_3 q10 q11 q12 q13 q14 fu).2 false false 0 x11 r hh
               refine FSat.s pfT 32 (hR 5 ((z1i71 s q10 q11 q12 q13) :: (hR 4 (hT :: hE :: hE :: hE :: hF :: (hR 5 (hF :: hE :: hE :: hE :: (hC (.bool (growth_Inside b x_3))) :: hE :: (hB (hC (.bool (ref02_Box b))) false) :: (hR 4 (hF :: hE :: hE :: hE :: (z1i81 s b l q10 q11 q12 q13 q14 x11) :: (hR 7 [hF, hE, (z1i77 s q10 q11 q12 q13 x3), hE, hE, (hB (hC (.bool (ref02_Box b))) false), hE, hE, hE]))))))))) [.st [2, 4, 5, 8, 9, 10, 11, 12] [0, 10, 11, 12, 13, 14, 100, 101, 103]] (pc (law02_short_fc s q10 q11 q12 q13) <| pc (z1p72 s q10 q11 q12 q13) <| pc (z1p4 s) <| pt (z1r73 s) (selfB_self 9 _ rfl _) <| pc h1 <| pc h2 <| pc h3 <| pc h4 <| pc (growth_Inside_fc b x_3) <| pc (ref02_Box_fc b) <| pc h5 <| pc h6 <| pt (z1r83 s b l q10 q11 q12 q13 q14 x11) (growth_History_fcn fu s b l q10 q11 q12 q13 q14 x2 h7 h8 x11 (Nat.zero_le _) (of_decide_eq_true h9) h10) <| pc (z1p23 s b l q10 q11 q12 q13 q14) <| pc (z1p24 s l) <| pc (z1p82 x11) <| pc h11 <| pc (ref02_Species_fc fu s q10 q11 q12 q13 x3 h12) <| pc (z1p78 s q10 q11 q12 q13) <| pc (z1p4 s) <| pt (z1r79 x3) (selfB_self 9 _ rfl _) <| pc h13 <| pc (ref02_Box_fc b) <| pc h5 <| pn) (by kernel_rfl) 104 (by kernel_rfl) ?_ nx
               exact ⟨PinL.lit (by kernel_rfl), PinL.pf (encL_pf cInt_pf _), PinL.pf (encL_pf cInt_pf _), PinL.pf (encL_pf cXRung_pf _), PinL.pf (encL_pf cXSpan_pf _), PinL.pf (encL_pf cXSeason_pf _), PinL.lit (by kernel_rfl), PinL.lit (by kernel_rfl), PinL.pf (encL_pf cXBox_pf _), trivial⟩
              ·rw [h13, cF] at hh
               have nx := (law02_GrowthSteps_L_fs fu s b l x_3 q10 q11 q12 q13 q14 fu).2 false false 0 x11 r hh
               refine FSat.s pfT 32 (hR 5 ((z1i71 s q10 q11 q12 q13) :: (hR 4 (hT :: hE :: hE :: hE :: hF :: (hR 5 (hF :: hE :: hE :: hE :: (hC (.bool (growth_Inside b x_3))) :: hE :: (hB (hC (.bool (ref02_Box b))) false) :: (hR 4 (hF :: hE :: hE :: hE :: (z1i81 s b l q10 q11 q12 q13 q14 x11) :: (hR 7 (hF :: hE :: (z1i80 s q10 q11 q12 q13 x3) :: (hR 4 []))))))))))) [.st [2, 4, 5, 8, 9, 10, 11, 12] [0, 10, 11, 12, 13, 14, 100, 101, 103]] (pc (law02_short_fc s q10 q11 q12 q13) <| pc (z1p72 s q10 q11 q12 q13) <| pc (z1p4 s) <| pt (z1r73 s) (selfB_self 9 _ rfl _) <| pc h1 <| pc h2 <| pc h3 <| pc h4 <| pc (growth_Inside_fc b x_3) <| pc (ref02_Box_fc b) <| pc h5 <| pc h6 <| pt (z1r83 s b l q10 q11 q12 q13 q14 x11) (growth_History_fcn fu s b l q10 q11 q12 q13 q14 x2 h7 h8 x11 (Nat.zero_le _) (of_decide_eq_true h9) h10) <| pc (z1p23 s b l q10 q11 q12 q13 q14) <| pc (z1p24 s l) <| pc (z1p82 x11) <| pc h11 <| pc (ref02_Species_fc fu s q10 q11 q12 q13 x3 h12) <| pc (z1p78 s q10 q11 q12 q13) <| pc (z1p4 s) <| pt (z1r79 x3) (selfB_self 9 _ rfl _) <| pc h13 <| pn) (by kernel_rfl) 104 (by kernel_rfl) ?_ nx
               exact ⟨PinL.lit (by kernel_rfl), PinL.pf (encL_pf cInt_pf _), PinL.pf (encL_pf cInt_pf _), PinL.pf (encL_pf cXRung_pf _), PinL.pf (encL_pf cXSpan_pf _), PinL.pf (encL_pf cXSeason_pf _), PinL.lit (by kernel_rfl), PinL.lit (by kernel_rfl), PinL.pf (encL_pf cXBox_pf _), trivial⟩
   ·rw [h2, cF] at hh
    rcases bb (decide (((l.length : Nat) : Int) > 200)) with h3 | h3
    ·rw [h3, cT] at hh
     cases h4 : law02_known fu with
     | none => rw [h4, oN] at hh; cases hh
     | some x1 =>
      rw [h4, oS] at hh
      rw [← sI hh]
      exact FSat.d pfT 14 (hR 5 ((z1i71 s q10 q11 q12 q13) :: (hR 4 (hF :: (hR 6 [hT, hE, (hC (.bool (x1))), hE]))))) [] (pc (law02_short_fc s q10 q11 q12 q13) <| pc (z1p72 s q10 q11 q12 q13) <| pc (z1p4 s) <| pt (z1r73 s) (selfB_self 9 _ rfl _) <| pc h1 <| pc h2 <| pc h3 <| pc (law02_known_fc fu  x1 h4) <| pn) (by kernel_rfl) (by kernel_rfl)
    ·rw [h3, cF] at hh
     rcases bb (ref02_Box b) with h4 | h4
     ·rw [h4, cT] at hh
      rcases bb (ref02_Stand x_3) with h5 | h5
      ·rw [h5, cT] at hh
       rcases bb (!((growth_Inside b x_3) == (ref02_Inside b x_3))) with h6 | h6
       ·rw [h6, cT] at hh
        rw [← sI hh]
        exact FSat.d pfT 19 (hR 5 ((z1i71 s q10 q11 q12 q13) :: (hR 4 (hF :: (hR 6 (hF :: hE :: hE :: hE :: (hC (.bool (growth_Inside b x_3))) :: hE :: (hB (hC (.bool (ref02_Box b))) true) :: hE :: hE :: (hB (hC (.bool (ref02_Stand x_3))) true) :: (hR 4 [(hC (.bool (ref02_Inside b x_3))), hE, hT, hE]))))))) [] (pc (law02_short_fc s q10 q11 q12 q13) <| pc (z1p72 s q10 q11 q12 q13) <| pc (z1p4 s) <| pt (z1r73 s) (selfB_self 9 _ rfl _) <| pc h1 <| pc h2 <| pc h3 <| pc (growth_Inside_fc b x_3) <| pc (ref02_Box_fc b) <| pc h4 <| pc (ref02_Stand_fc x_3) <| pc h5 <| pc (ref02_Inside_fc b x_3) <| pc h6 <| pn) (by kernel_rfl) (by kernel_rfl)
       ·rw [h6, cF] at hh
        cases h7 : growth_checkHistory fu s b l with
        | none => rw [h7, oN] at hh; cases hh
        | some x2 =>
         rw [h7, oS] at hh
         rcases bb (x2 != 0) with h8 | h8
         ·rw [h8, cT] at hh
          rcases bb (decide (((l.length : Nat) : Int) > 100)) with h9 | h9
          ·rw [h9, cT] at hh
           rcases bb (x2 == 3) with h10 | h10
           ·rw [h10, cT] at hh
            cases h11 : law02_known fu with
            | none => rw [h11, oN] at hh; cases hh
            | some x1 =>
             rw [h11, oS] at hh
             rw [← sI hh]
             exact FSat.d pfT 26 (hR 5 ((z1i71 s q10 q11 q12 q13) :: (hR 4 (hF :: (hR 6 (hF :: hE :: hE :: hE :: (hC (.bool (growth_Inside b x_3))) :: hE :: (hB (hC (.bool (ref02_Box b))) true) :: hE :: hE :: (hB (hC (.bool (ref02_Stand x_3))) true) :: (hR 4 ((hC (.bool (ref02_Inside b x_3))) :: hE :: hF :: hE :: hE :: hE :: (z1i74 s b l q10 q11 q12 q13 q14 x2) :: (hR 7 (hT :: hE :: hT :: (hR 6 [(hC (.bool (x1))), hE, hE]))))))))))) [] (pc (law02_short_fc s q10 q11 q12 q13) <| pc (z1p72 s q10 q11 q12 q13) <| pc (z1p4 s) <| pt (z1r73 s) (selfB_self 9 _ rfl _) <| pc h1 <| pc h2 <| pc h3 <| pc (growth_Inside_fc b x_3) <| pc (ref02_Box_fc b) <| pc h4 <| pc (ref02_Stand_fc x_3) <| pc h5 <| pc (ref02_Inside_fc b x_3) <| pc h6 <| pt (z1r75 s b l q10 q11 q12 q13 q14 x2) (growth_History_err_ex fu s b l q10 q11 q12 q13 q14 x2 h7 h8) <| pc (z1p23 s b l q10 q11 q12 q13 q14) <| pc (z1p24 s l) <| pt (z1r76 x2) (selfB_self 9 _ rfl _) <| pc h9 <| pc h10 <| pc (law02_known_fc fu  x1 h11) <| pn) (by kernel_rfl) (by kernel_rfl)
           ·rw [h10, cF] at hh
            rw [← sI hh]
            exact FSat.d pfT 26 (hR 5 ((z1i71 s q10 q11 q12 q13) :: (hR 4 (hF :: (hR 6 (hF :: hE :: hE :: hE :: (hC (.bool (growth_Inside b x_3))) :: hE :: (hB (hC (.bool (ref02_Box b))) true) :: hE :: hE :: (hB (hC (.bool (ref02_Stand x_3))) true) :: (hR 4 ((hC (.bool (ref02_Inside b x_3))) :: hE :: hF :: hE :: hE :: hE :: (z1i74 s b l q10 q11 q12 q13 q14 x2) :: (hR 7 (hT :: hE :: hF :: (hR 5 []))))))))))) [] (pc (law02_short_fc s q10 q11 q12 q13) <| pc (z1p72 s q10 q11 q12 q13) <| pc (z1p4 s) <| pt (z1r73 s) (selfB_self 9 _ rfl _) <| pc h1 <| pc h2 <| pc h3 <| pc (growth_Inside_fc b x_3) <| pc (ref02_Box_fc b) <| pc h4 <| pc (ref02_Stand_fc x_3) <| pc h5 <| pc (ref02_Inside_fc b x_3) <| pc h6 <| pt (z1r75 s b l q10 q11 q12 q13 q14 x2) (growth_History_err_ex fu s b l q10 q11 q12 q13 q14 x2 h7 h8) <| pc (z1p23 s b l q10 q11 q12 q13 q14) <| pc (z1p24 s l) <| pt (z1r76 x2) (selfB_self 9 _ rfl _) <| pc h9 <| pc h10 <| pn) (by kernel_rfl) (by kernel_rfl)
          ·rw [h9, cF] at hh
           cases h10 : ref02_Species fu s with
           | none => rw [h10, oN] at hh; cases hh
           | some x3 =>
            rw [h10, oS] at hh
            rcases bb (x3) with h11 | h11
            ·rw [h11, cT] at hh
             have nx := (law02_GrowthSteps_L_fs fu s b l x_3 q10 q11 q12 q13 q14 fu).1 false true 0 x2 r hh
             refine FSat.s pfT 32 (hR 5 ((z1i71 s q10 q11 q12 q13) :: (hR 4 (hF :: (hR 6 (hF :: hE :: hE :: hE :: (hC (.bool (growth_Inside b x_3))) :: hE :: (hB (hC (.bool (ref02_Box b))) true) :: hE :: hE :: (hB (hC (.bool (ref02_Stand x_3))) true) :: (hR 4 ((hC (.bool (ref02_Inside b x_3))) :: hE :: hF :: hE :: hE :: hE :: (z1i74 s b l q10 q11 q12 q13 q14 x2) :: (hR 7 [hF, hE, (z1i77 s q10 q11 q12 q13 x3), hE, hE, (hB (hC (.bool (ref02_Box b))) true), hE, hE, hE]))))))))) [.st [2, 4, 5, 8, 9, 10, 11, 12] [0, 10, 11, 12, 13, 14, 100, 101]] (pc (law02_short_fc s q10 q11 q12 q13) <| pc (z1p72 s q10 q11 q12 q13) <| pc (z1p4 s) <| pt (z1r73 s) (selfB_self 9 _ rfl _) <| pc h1 <| pc h2 <| pc h3 <| pc (growth_Inside_fc b x_3) <| pc (ref02_Box_fc b) <| pc h4 <| pc (ref02_Stand_fc x_3) <| pc h5 <| pc (ref02_Inside_fc b x_3) <| pc h6 <| pt (z1r75 s b l q10 q11 q12 q13 q14 x2) (growth_History_err_ex fu s b l q10 q11 q12 q13 q14 x2 h7 h8) <| pc (z1p23 s b l q10 q11 q12 q13 q14) <| pc (z1p24 s l) <| pt (z1r76 x2) (selfB_self 9 _ rfl _) <| pc h9 <| pc (ref02_Species_fc fu s q10 q11 q12 q13 x3 h10) <| pc (z1p78 s q10 q11 q12 q13) <| pc (z1p4 s) <| pt (z1r79 x3) (selfB_self 9 _ rfl _) <| pc h11 <| pc (ref02_Box_fc b) <| pc h4 <| pn) (by kernel_rfl) 102 (by kernel_rfl) ?_ nx
             exact ⟨PinL.lit (by kernel_rfl), PinL.pf (encL_pf cInt_pf _), PinL.pf (encL_pf cInt_pf _), PinL.pf (encL_pf cXRung_pf _), PinL.pf (encL_pf cXSpan_pf _), PinL.pf (encL_pf cXSeason_pf _), PinL.lit (by kernel_rfl), PinL.lit (by kernel_rfl), trivial⟩
            ·rw [h11, cF] at hh
             have nx := (law02_GrowthSteps_L_fs fu s b l x_3 q10 q11 q12 q13 q14 fu).1 false false 0 x2 r hh
             refine FSat.s pfT 32 (hR 5 ((z1i71 s q10 q11 q12 q13) :: (hR 4 (hF :: (hR 6 (hF :: hE :: hE :: hE :: (hC (.bool (growth_Inside b x_3))) :: hE :: (hB (hC (.bool (ref02_Box b))) true) :: hE :: hE :: (hB (hC (.bool (ref02_Stand x_3))) true) :: (hR 4 ((hC (.bool (ref02_Inside b x_3))) :: hE :: hF :: hE :: hE :: hE :: (z1i74 s b l q10 q11 q12 q13 q14 x2) :: (hR 7 (hF :: hE :: (z1i80 s q10 q11 q12 q13 x3) :: (hR 4 []))))))))))) [.st [2, 4, 5, 8, 9, 10, 11, 12] [0, 10, 11, 12, 13, 14, 100, 101]] (pc (law02_short_fc s q10 q11 q12 q13) <| pc (z1p72 s q10 q11 q12 q13) <| pc (z1p4 s) <| pt (z1r73 s) (selfB_self 9 _ rfl _) <| pc h1 <| pc h2 <| pc h3 <| pc (growth_Inside_fc b x_3) <| pc (ref02_Box_fc b) <| pc h4 <| pc (ref02_Stand_fc x_3) <| pc h5 <| pc (ref02_Inside_fc b x_3) <| pc h6 <| pt (z1r75 s b l q10 q11 q12 q13 q14 x2) (growth_History_err_ex fu s b l q10 q11 q12 q13 q14 x2 h7 h8) <| pc (z1p23 s b l q10 q11 q12 q13 q14) <| pc (z1p24 s l) <| pt (z1r76 x2) (selfB_self 9 _ rfl _) <| pc h9 <| pc (ref02_Species_fc fu s q10 q11 q12 q13 x3 h10) <| pc (z1p78 s q10 q11 q12 q13) <| pc (z1p4 s) <| pt (z1r79 x3) (selfB_self 9 _ rfl _) <| pc h11 <| pn) (by kernel_rfl) 102 (by kernel_rfl) ?_ nx
             exact ⟨PinL.lit (by kernel_rfl), PinL.pf (encL_pf cInt_pf _), PinL.pf (encL_pf cInt_pf _), PinL.pf (encL_pf cXRung_pf _), PinL.pf (encL_pf cXSpan_pf _), PinL.pf (encL_pf cXSeason_pf _), PinL.lit (by kernel_rfl), PinL.lit (by kernel_rfl), trivial⟩
         ·rw [h8, cF] at hh
          rcases bb (decide (l.length ≤ 12)) with h9 | h9
          rotate_left
          ·rw [h9, cF] at hh; cases hh
          ·rw [h9, cT] at hh
           cases h10 : growth_hist fu s b l with
           | none => rw [h10, oN] at hh; cases hh
           | some x11 =>
            rw [h10, oS] at hh
            rcases bb (decide (((l.length : Nat) : Int) > 100)) with h11 | h11
            ·rw [h11, cT] at hh
             rw [← sI hh]
             exact FSat.d pfT 26 (hR 5 ((z1i71 s q10 q11 q12 q13) :: (hR 4 (hF :: (hR 6 (hF :: hE :: hE :: hE :: (hC (.bool (growth_Inside b x_3))) :: hE :: (hB (hC (.bool (ref02_Box b))) true) :: hE :: hE :: (hB (hC (.bool (ref02_Stand x_3))) true) :: (hR 4 ((hC (.bool (ref02_Inside b x_3))) :: hE :: hF :: hE :: hE :: hE :: (z1i81 s b l q10 q11 q12 q13 q14 x11) :: (hR 7 (hT :: (hR 7 []))))))))))) [] (pc (law02_short_fc s q10 q11 q12 q13) <| pc (z1p72 s q10 q11 q12 q13) <| pc (z1p4 s) <| pt (z1r73 s) (selfB_self 9 _ rfl _) <| pc h1 <| pc h2 <| pc h3 <| pc (growth_Inside_fc b x_3) <| pc (ref02_Box_fc b) <| pc h4 <| pc (ref02_Stand_fc x_3) <| pc h5 <| pc (ref02_Inside_fc b x_3) <| pc h6 <| pt (z1r83 s b l q10 q11 q12 q13 q14 x11) (growth_History_fcn fu s b l q10 q11 q12 q13 q14 x2 h7 h8 x11 (Nat.zero_le _) (of_decide_eq_true h9) h10) <| pc (z1p23 s b l q10 q11 q12 q13 q14) <| pc (z1p24 s l) <| pc (z1p82 x11) <| pc h11 <| pn) (by kernel_rfl) (by kernel_rfl)
            ·rw [h11, cF] at hh
             cases h12 : ref02_Species fu s with
             | none => rw [h12, oN] at hh; cases hh
             | some x3 =>
              rw [h12, oS] at hh
              rcases bb (x3) with h13 | h13
              ·rw [h13, cT] at hh
               have nx := (law02_GrowthSteps_L_fs fu s b l x_3 q10 q11 q12 q13 q14 fu).2 false true 0 x11 r hh
               refine FSat.s pfT 32 (hR 5 ((z1i71 s q10 q11 q12 q13) :: (hR 4 (hF :: (hR 6 (hF :: hE :: hE :: hE :: (hC (.bool (growth_Inside b x_3))) :: hE :: (hB (hC (.bool (ref02_Box b))) true) :: hE :: hE :: (hB (hC (.bool (ref02_Stand x_3))) true) :: (hR 4 ((hC (.bool (ref02_Inside b x_3))) :: hE :: hF :: hE :: hE :: hE :: (z1i81 s b l q10 q11 q12 q13 q14 x11) :: (hR 7 [hF, hE, (z1i77 s q10 q11 q12 q13 x3), hE, hE, (hB (hC (.bool (ref02_Box b))) true), hE, hE, hE]))))))))) [.st [2, 4, 5, 8, 9, 10, 11, 12] [0, 10, 11, 12, 13, 14, 100, 101, 103]] (pc (law02_short_fc s q10 q11 q12 q13) <| pc (z1p72 s q10 q11 q12 q13) <| pc (z1p4 s) <| pt (z1r73 s) (selfB_self 9 _ rfl _) <| pc h1 <| pc h2 <| pc h3 <| pc (growth_Inside_fc b x_3) <| pc (ref02_Box_fc b) <| pc h4 <| pc (ref02_Stand_fc x_3) <| pc h5 <| pc (ref02_Inside_fc b x_3) <| pc h6 <| pt (z1r83 s b l q10 q11 q12 q13 q14 x11) (growth_History_fcn fu s b l q10 q11 q12 q13 q14 x2 h7 h8 x11 (Nat.zero_le _) (of_decide_eq_true h9) h10) <| pc (z1p23 s b l q10 q11 q12 q13 q14) <| pc (z1p24 s l) <| pc (z1p82 x11) <| pc h11 <| pc (ref02_Species_fc fu s q10 q11 q12 q13 x3 h12) <| pc (z1p78 s q10 q11 q12 q13) <| pc (z1p4 s) <| pt (z1r79 x3) (selfB_self 9 _ rfl _) <| pc h13 <| pc (ref02_Box_fc b) <| pc h4 <| pn) (by kernel_rfl) 104 (by kernel_rfl) ?_ nx
               exact ⟨PinL.lit (by kernel_rfl), PinL.pf (encL_pf cInt_pf _), PinL.pf (encL_pf cInt_pf _), PinL.pf (encL_pf cXRung_pf _), PinL.pf (encL_pf cXSpan_pf _), PinL.pf (encL_pf cXSeason_pf _), PinL.lit (by kernel_rfl), PinL.lit (by kernel_rfl), PinL.pf (encL_pf cXBox_pf _), trivial⟩
              ·rw [h13, cF] at hh
               have nx := (law02_GrowthSteps_L_fs fu s b l x_3 q10 q11 q12 q13 q14 fu).2 false false 0 x11 r hh
               refine FSat.s pfT 32 (hR 5 ((z1i71 s q10 q11 q12 q13) :: (hR 4 (hF :: (hR 6 (hF :: hE :: hE :: hE :: (hC (.bool (growth_Inside b x_3))) :: hE :: (hB (hC (.bool (ref02_Box b))) true) :: hE :: hE :: (hB (hC (.bool (ref02_Stand x_3))) true) :: (hR 4 ((hC (.bool (ref02_Inside b x_3))) :: hE :: hF :: hE :: hE :: hE :: (z1i81 s b l q10 q11 q12 q13 q14 x11) :: (hR 7 (hF :: hE :: (z1i80 s q10 q11 q12 q13 x3) :: (hR 4 []))))))))))) [.st [2, 4, 5, 8, 9, 10, 11, 12] [0, 10, 11, 12, 13, 14, 100, 101, 103]] (pc (law02_short_fc s q10 q11 q12 q13) <| pc (z1p72 s q10 q11 q12 q13) <| pc (z1p4 s) <| pt (z1r73 s) (selfB_self 9 _ rfl _) <| pc h1 <| pc h2 <| pc h3 <| pc (growth_Inside_fc b x_3) <| pc (ref02_Box_fc b) <| pc h4 <| pc (ref02_Stand_fc x_3) <| pc h5 <| pc (ref02_Inside_fc b x_3) <| pc h6 <| pt (z1r83 s b l q10 q11 q12 q13 q14 x11) (growth_History_fcn fu s b l q10 q11 q12 q13 q14 x2 h7 h8 x11 (Nat.zero_le _) (of_decide_eq_true h9) h10) <| pc (z1p23 s b l q10 q11 q12 q13 q14) <| pc (z1p24 s l) <| pc (z1p82 x11) <| pc h11 <| pc (ref02_Species_fc fu s q10 q11 q12 q13 x3 h12) <| pc (z1p78 s q10 q11 q12 q13) <| pc (z1p4 s) <| pt (z1r79 x3) (selfB_self 9 _ rfl _) <| pc h13 <| pn) (by kernel_rfl) 104 (by kernel_rfl) ?_ nx
               exact ⟨PinL.lit (by kernel_rfl), PinL.pf (encL_pf cInt_pf _), PinL.pf (encL_pf cInt_pf _), PinL.pf (encL_pf cXRung_pf _), PinL.pf (encL_pf cXSpan_pf _), PinL.pf (encL_pf cXSeason_pf _), PinL.lit (by kernel_rfl), PinL.lit (by kernel_rfl), PinL.pf (encL_pf cXBox_pf _), trivial⟩
      ·rw [h5, cF] at hh
       rcases bb (!((growth_Inside b x_3) == false)) with h6 | h6
       ·rw [h6, cT] at hh
        rw [← sI hh]
        exact FSat.d pfT 19 (hR 5 ((z1i71 s q10 q11 q12 q13) :: (hR 4 (hF :: (hR 6 [hF, hE, hE, hE, (hC (.bool (growth_Inside b x_3))), hE, (hB (hC (.bool (ref02_Box b))) true), hE, hE, (hB (hC (.bool (ref02_Stand x_3))) false), hE, hE, hE, hT, hE]))))) [] (pc (law02_short_fc s q10 q11 q12 q13) <| pc (z1p72 s q10 q11 q12 q13) <| pc (z1p4 s) <| pt (z1r73 s) (selfB_self 9 _ rfl _) <| pc h1 <| pc h2 <| pc h3 <| pc (growth_Inside_fc b x_3) <| pc (ref02_Box_fc b) <| pc h4 <| pc (ref02_Stand_fc x_3) <| pc h5 <| pc h6 <| pn) (by kernel_rfl) (by kernel_rfl)
       ·rw [h6, cF] at hh
        cases h7 : growth_checkHistory fu s b l with
        | none => rw [h7, oN] at hh; cases hh
        | some x2 =>
         rw [h7, oS] at hh
         rcases bb (x2 != 0) with h8 | h8
         ·rw [h8, cT] at hh
          rcases bb (decide (((l.length : Nat) : Int) > 100)) with h9 | h9
          ·rw [h9, cT] at hh
           rcases bb (x2 == 3) with h10 | h10
           ·rw [h10, cT] at hh
            cases h11 : law02_known fu with
            | none => rw [h11, oN] at hh; cases hh
            | some x1 =>
             rw [h11, oS] at hh
             rw [← sI hh]
             exact FSat.d pfT 26 (hR 5 ((z1i71 s q10 q11 q12 q13) :: (hR 4 (hF :: (hR 6 (hF :: hE :: hE :: hE :: (hC (.bool (growth_Inside b x_3))) :: hE :: (hB (hC (.bool (ref02_Box b))) true) :: hE :: hE :: (hB (hC (.bool (ref02_Stand x_3))) false) :: hE :: hE :: hE :: hF :: hE :: hE :: hE :: (z1i74 s b l q10 q11 q12 q13 q14 x2) :: (hR 7 (hT :: hE :: hT :: (hR 6 [(hC (.bool (x1))), hE, hE]))))))))) [] (pc (law02_short_fc s q10 q11 q12 q13) <| pc (z1p72 s q10 q11 q12 q13) <| pc (z1p4 s) <| pt (z1r73 s) (selfB_self 9 _ rfl _) <| pc h1 <| pc h2 <| pc h3 <| pc (growth_Inside_fc b x_3) <| pc (ref02_Box_fc b) <| pc h4 <| pc (ref02_Stand_fc x_3) <| pc h5 <| pc h6 <| pt (z1r75 s b l q10 q11 q12 q13 q14 x2) (growth_History_err_ex fu s b l q10 q11 q12 q13 q14 x2 h7 h8) <| pc (z1p23 s b l q10 q11 q12 q13 q14) <| pc (z1p24 s l) <| pt (z1r76 x2) (selfB_self 9 _ rfl _) <| pc h9 <| pc h10 <| pc (law02_known_fc fu  x1 h11) <| pn) (by kernel_rfl) (by kernel_rfl)
           ·rw [h10, cF] at hh
            rw [← sI hh]
            exact FSat.d pfT 26 (hR 5 ((z1i71 s q10 q11 q12 q13) :: (hR 4 (hF :: (hR 6 (hF :: hE :: hE :: hE :: (hC (.bool (growth_Inside b x_3))) :: hE :: (hB (hC (.bool (ref02_Box b))) true) :: hE :: hE :: (hB (hC (.bool (ref02_Stand x_3))) false) :: hE :: hE :: hE :: hF :: hE :: hE :: hE :: (z1i74 s b l q10 q11 q12 q13 q14 x2) :: (hR 7 (hT :: hE :: hF :: (hR 5 []))))))))) [] (pc (law02_short_fc s q10 q11 q12 q13) <| pc (z1p72 s q10 q11 q12 q13) <| pc (z1p4 s) <| pt (z1r73 s) (selfB_self 9 _ rfl _) <| pc h1 <| pc h2 <| pc h3 <| pc (growth_Inside_fc b x_3) <| pc (ref02_Box_fc b) <| pc h4 <| pc (ref02_Stand_fc x_3) <| pc h5 <| pc h6 <| pt (z1r75 s b l q10 q11 q12 q13 q14 x2) (growth_History_err_ex fu s b l q10 q11 q12 q13 q14 x2 h7 h8) <| pc (z1p23 s b l q10 q11 q12 q13 q14) <| pc (z1p24 s l) <| pt (z1r76 x2) (selfB_self 9 _ rfl _) <| pc h9 <| pc h10 <| pn) (by kernel_rfl) (by kernel_rfl)
          ·rw [h9, cF] at hh
           cases h10 : ref02_Species fu s with
           | none => rw [h10, oN] at hh; cases hh
           | some x3 =>
            rw [h10, oS] at hh
            rcases bb (x3) with h11 | h11
            ·rw [h11, cT] at hh
             have nx := (law02_GrowthSteps_L_fs fu s b l x_3 q10 q11 q12 q13 q14 fu).1 false true 0 x2 r hh
             refine FSat.s pfT 32 (hR 5 ((z1i71 s q10 q11 q12 q13) :: (hR 4 (hF :: (hR 6 (hF :: hE :: hE :: hE :: (hC (.bool (growth_Inside b x_3))) :: hE :: (hB (hC (.bool (ref02_Box b))) true) :: hE :: hE :: (hB (hC (.bool (ref02_Stand x_3))) false) :: hE :: hE :: hE :: hF :: hE :: hE :: hE :: (z1i74 s b l q10 q11 q12 q13 q14 x2) :: (hR 7 [hF, hE, (z1i77 s q10 q11 q12 q13 x3), hE, hE, (hB (hC (.bool (ref02_Box b))) true), hE, hE, hE]))))))) [.st [2, 4, 5, 8, 9, 10, 11, 12] [0, 10, 11, 12, 13, 14, 100, 101]] (pc (law02_short_fc s q10 q11 q12 q13) <| pc (z1p72 s q10 q11 q12 q13) <| pc (z1p4 s) <| pt (z1r73 s) (selfB_self 9 _ rfl _) <| pc h1 <| pc h2 <| pc h3 <| pc (growth_Inside_fc b x_3) <| pc (ref02_Box_fc b) <| pc h4 <| pc (ref02_Stand_fc x_3) <| pc h5 <| pc h6 <| pt (z1r75 s b l q10 q11 q12 q13 q14 x2) (growth_History_err_ex fu s b l q10 q11 q12 q13 q14 x2 h7 h8) <| pc (z1p23 s b l q10 q11 q12 q13 q14) <| pc (z1p24 s l) <| pt (z1r76 x2) (selfB_self 9 _ rfl _) <| pc h9 <| pc (ref02_Species_fc fu s q10 q11 q12 q13 x3 h10) <| pc (z1p78 s q10 q11 q12 q13) <| pc (z1p4 s) <| pt (z1r79 x3) (selfB_self 9 _ rfl _) <| pc h11 <| pc (ref02_Box_fc b) <| pc h4 <| pn) (by kernel_rfl) 102 (by kernel_rfl) ?_ nx
             exact ⟨PinL.lit (by kernel_rfl), PinL.pf (encL_pf cInt_pf _), PinL.pf (encL_pf cInt_pf _), PinL.pf (encL_pf cXRung_pf _), PinL.pf (encL_pf cXSpan_pf _), PinL.pf (encL_pf cXSeason_pf _), PinL.lit (by kernel_rfl), PinL.lit (by kernel_rfl), trivial⟩
            ·rw [h11, cF] at hh
             have nx := (law02_GrowthSteps_L_fs fu s b l x_3 q10 q11 q12 q13 q14 fu).1 false false 0 x2 r hh
             refine FSat.s pfT 32 (hR 5 ((z1i71 s q10 q11 q12 q13) :: (hR 4 (hF :: (hR 6 (hF :: hE :: hE :: hE :: (hC (.bool (growth_Inside b x_3))) :: hE :: (hB (hC (.bool (ref02_Box b))) true) :: hE :: hE :: (hB (hC (.bool (ref02_Stand x_3))) false) :: hE :: hE :: hE :: hF :: hE :: hE :: hE :: (z1i74 s b l q10 q11 q12 q13 q14 x2) :: (hR 7 (hF :: hE :: (z1i80 s q10 q11 q12 q13 x3) :: (hR 4 []))))))))) [.st [2, 4, 5, 8, 9, 10, 11, 12] [0, 10, 11, 12, 13, 14, 100, 101]] (pc (law02_short_fc s q10 q11 q12 q13) <| pc (z1p72 s q10 q11 q12 q13) <| pc (z1p4 s) <| pt (z1r73 s) (selfB_self 9 _ rfl _) <| pc h1 <| pc h2 <| pc h3 <| pc (growth_Inside_fc b x_3) <| pc (ref02_Box_fc b) <| pc h4 <| pc (ref02_Stand_fc x_3) <| pc h5 <| pc h6 <| pt (z1r75 s b l q10 q11 q12 q13 q14 x2) (growth_History_err_ex fu s b l q10 q11 q12 q13 q14 x2 h7 h8) <| pc (z1p23 s b l q10 q11 q12 q13 q14) <| pc (z1p24 s l) <| pt (z1r76 x2) (selfB_self 9 _ rfl _) <| pc h9 <| pc (ref02_Species_fc fu s q10 q11 q12 q13 x3 h10) <| pc (z1p78 s q10 q11 q12 q13) <| pc (z1p4 s) <| pt (z1r79 x3) (selfB_self 9 _ rfl _) <| pc h11 <| pn) (by kernel_rfl) 102 (by kernel_rfl) ?_ nx
             exact ⟨PinL.lit (by kernel_rfl), PinL.pf (encL_pf cInt_pf _), PinL.pf (encL_pf cInt_pf _), PinL.pf (encL_pf cXRung_pf _), PinL.pf (encL_pf cXSpan_pf _), PinL.pf (encL_pf cXSeason_pf _), PinL.lit (by kernel_rfl), PinL.lit (by kernel_rfl), trivial⟩
         ·rw [h8, cF] at hh
          rcases bb (decide (l.length ≤ 12)) with h9 | h9
          rotate_left
          ·rw [h9, cF] at hh; cases hh
          ·rw [h9, cT] at hh
           cases h10 : growth_hist fu s b l with
           | none => rw [h10, oN] at hh; cases hh
           | some x11 =>
            rw [h10, oS] at hh
            rcases bb (decide (((l.length : Nat) : Int) > 100)) with h11 | h11
            ·rw [h11, cT] at hh
             rw [← sI hh]
             exact FSat.d pfT 26 (hR 5 ((z1i71 s q10 q11 q12 q13) :: (hR 4 (hF :: (hR 6 (hF :: hE :: hE :: hE :: (hC (.bool (growth_Inside b x_3))) :: hE :: (hB (hC (.bool (ref02_Box b))) true) :: hE :: hE :: (hB (hC (.bool (ref02_Stand x_3))) false) :: hE :: hE :: hE :: hF :: hE :: hE :: hE :: (z1i81 s b l q10 q11 q12 q13 q14 x11) :: (hR 7 (hT :: (hR 7 []))))))))) [] (pc (law02_short_fc s q10 q11 q12 q13) <| pc (z1p72 s q10 q11 q12 q13) <| pc (z1p4 s) <| pt (z1r73 s) (selfB_self 9 _ rfl _) <| pc h1 <| pc h2 <| pc h3 <| pc (growth_Inside_fc b x_3) <| pc (ref02_Box_fc b) <| pc h4 <| pc (ref02_Stand_fc x_3) <| pc h5 <| pc h6 <| pt (z1r83 s b l q10 q11 q12 q13 q14 x11) (growth_History_fcn fu s b l q10 q11 q12 q13 q14 x2 h7 h8 x11 (Nat.zero_le _) (of_decide_eq_true h9) h10) <| pc (z1p23 s b l q10 q11 q12 q13 q14) <| pc (z1p24 s l) <| pc (z1p82 x11) <| pc h11 <| pn) (by kernel_rfl) (by kernel_rfl)
            ·rw [h11, cF] at hh
             cases h12 : ref02_Species fu s with
             | none => rw [h12, oN] at hh; cases hh
             | some x3 =>
              rw [h12, oS] at hh
              rcases bb (x3) with h13 | h13
              ·rw [h13, cT] at hh
               have nx := (law02_GrowthSteps_L_fs fu s b l x_3 q10 q11 q12 q13 q14 fu).2 false true 0 x11 r hh
               refine FSat.s pfT 32 (hR 5 ((z1i71 s q10 q11 q12 q13) :: (hR 4 (hF :: (hR 6 (hF :: hE :: hE :: hE :: (hC (.bool (growth_Inside b x_3))) :: hE :: (hB (hC (.bool (ref02_Box b))) true) :: hE :: hE :: (hB (hC (.bool (ref02_Stand x_3))) false) :: hE :: hE :: hE :: hF :: hE :: hE :: hE :: (z1i81 s b l q10 q11 q12 q13 q14 x11) :: (hR 7 [hF, hE, (z1i77 s q10 q11 q12 q13 x3), hE, hE, (hB (hC (.bool (ref02_Box b))) true), hE, hE, hE]))))))) [.st [2, 4, 5, 8, 9, 10, 11, 12] [0, 10, 11, 12, 13, 14, 100, 101, 103]] (pc (law02_short_fc s q10 q11 q12 q13) <| pc (z1p72 s q10 q11 q12 q13) <| pc (z1p4 s) <| pt (z1r73 s) (selfB_self 9 _ rfl _) <| pc h1 <| pc h2 <| pc h3 <| pc (growth_Inside_fc b x_3) <| pc (ref02_Box_fc b) <| pc h4 <| pc (ref02_Stand_fc x_3) <| pc h5 <| pc h6 <| pt (z1r83 s b l q10 q11 q12 q13 q14 x11) (growth_History_fcn fu s b l q10 q11 q12 q13 q14 x2 h7 h8 x11 (Nat.zero_le _) (of_decide_eq_true h9) h10) <| pc (z1p23 s b l q10 q11 q12 q13 q14) <| pc (z1p24 s l) <| pc (z1p82 x11) <| pc h11 <| pc (ref02_Species_fc fu s q10 q11 q12 q13 x3 h12) <| pc (z1p78 s q10 q11 q12 q13) <| pc (z1p4 s) <| pt (z1r79 x3) (selfB_self 9 _ rfl _) <| pc h13 <| pc (ref02_Box_fc b) <| pc h4 <| pn) (by kernel_rfl) 104 (by kernel_rfl) ?_ nx
               exact ⟨PinL.lit (by kernel_rfl), PinL.pf (encL_pf cInt_pf _), PinL.pf (encL_pf cInt_pf _), PinL.pf (encL_pf cXRung_pf _), PinL.pf (encL_pf cXSpan_pf _), PinL.pf (encL_pf cXSeason_pf _), PinL.lit (by kernel_rfl), PinL.lit (by kernel_rfl), PinL.pf (encL_pf cXBox_pf _), trivial⟩
              ·rw [h13, cF] at hh
               have nx := (law02_GrowthSteps_L_fs fu s b l x_3 q10 q11 q12 q13 q14 fu).2 false false 0 x11 r hh
               refine FSat.s pfT 32 (hR 5 ((z1i71 s q10 q11 q12 q13) :: (hR 4 (hF :: (hR 6 (hF :: hE :: hE :: hE :: (hC (.bool (growth_Inside b x_3))) :: hE :: (hB (hC (.bool (ref02_Box b))) true) :: hE :: hE :: (hB (hC (.bool (ref02_Stand x_3))) false) :: hE :: hE :: hE :: hF :: hE :: hE :: hE :: (z1i81 s b l q10 q11 q12 q13 q14 x11) :: (hR 7 (hF :: hE :: (z1i80 s q10 q11 q12 q13 x3) :: (hR 4 []))))))))) [.st [2, 4, 5, 8, 9, 10, 11, 12] [0, 10, 11, 12, 13, 14, 100, 101, 103]] (pc (law02_short_fc s q10 q11 q12 q13) <| pc (z1p72 s q10 q11 q12 q13) <| pc (z1p4 s) <| pt (z1r73 s) (selfB_self 9 _ rfl _) <| pc h1 <| pc h2 <| pc h3 <| pc (growth_Inside_fc b x_3) <| pc (ref02_Box_fc b) <| pc h4 <| pc (ref02_Stand_fc x_3) <| pc h5 <| pc h6 <| pt (z1r83 s b l q10 q11 q12 q13 q14 x11) (growth_History_fcn fu s b l q10 q11 q12 q13 q14 x2 h7 h8 x11 (Nat.zero_le _) (of_decide_eq_true h9) h10) <| pc (z1p23 s b l q10 q11 q12 q13 q14) <| pc (z1p24 s l) <| pc (z1p82 x11) <| pc h11 <| pc (ref02_Species_fc fu s q10 q11 q12 q13 x3 h12) <| pc (z1p78 s q10 q11 q12 q13) <| pc (z1p4 s) <| pt (z1r79 x3) (selfB_self 9 _ rfl _) <| pc h13 <| pn) (by kernel_rfl) 104 (by kernel_rfl) ?_ nx
               exact ⟨PinL.lit (by kernel_rfl), PinL.pf (encL_pf cInt_pf _), PinL.pf (encL_pf cInt_pf _), PinL.pf (encL_pf cXRung_pf _), PinL.pf (encL_pf cXSpan_pf _), PinL.pf (encL_pf cXSeason_pf _), PinL.lit (by kernel_rfl), PinL.lit (by kernel_rfl), PinL.pf (encL_pf cXBox_pf _), trivial⟩
     ·rw [h4, cF] at hh
      rcases bb (!((growth_Inside b x_3) == false)) with h5 | h5
      ·rw [h5, cT] at hh
       rw [← sI hh]
       exact FSat.d pfT 19 (hR 5 ((z1i71 s q10 q11 q12 q13) :: (hR 4 (hF :: (hR 6 (hF :: hE :: hE :: hE :: (hC (.bool (growth_Inside b x_3))) :: hE :: (hB (hC (.bool (ref02_Box b))) false) :: (hR 4 [hT, hE]))))))) [] (pc (law02_short_fc s q10 q11 q12 q13) <| pc (z1p72 s q10 q11 q12 q13) <| pc (z1p4 s) <| pt (z1r73 s) (selfB_self 9 _ rfl _) <| pc h1 <| pc h2 <| pc h3 <| pc (growth_Inside_fc b x_3) <| pc (ref02_Box_fc b) <| pc h4 <| pc h5 <| pn) (by kernel_rfl) (by kernel_rfl)
      ·rw [h5, cF] at hh
       cases h6 : growth_checkHistory fu s b l with
       | none => rw [h6, oN] at hh; cases hh
       | some x2 =>
        rw [h6, oS] at hh
        rcases bb (x2 != 0) with h7 | h7
        ·rw [h7, cT] at hh
         rcases bb (decide (((l.length : Nat) : Int) > 100)) with h8 | h8
         ·rw [h8, cT] at hh
          rcases bb (x2 == 3) with h9 | h9
          ·rw [h9, cT] at hh
           cases h10 : law02_known fu with
           | none => rw [h10, oN] at hh; cases hh
           | some x1 =>
            rw [h10, oS] at hh
            rw [← sI hh]
            exact FSat.d pfT 26 (hR 5 ((z1i71 s q10 q11 q12 q13) :: (hR 4 (hF :: (hR 6 (hF :: hE :: hE :: hE :: (hC (.bool (growth_Inside b x_3))) :: hE :: (hB (hC (.bool (ref02_Box b))) false) :: (hR 4 (hF :: hE :: hE :: hE :: (z1i74 s b l q10 q11 q12 q13 q14 x2) :: (hR 7 (hT :: hE :: hT :: (hR 6 [(hC (.bool (x1))), hE, hE]))))))))))) [] (pc (law02_short_fc s q10 q11 q12 q13) <| pc (z1p72 s q10 q11 q12 q13) <| pc (z1p4 s) <| pt (z1r73 s) (selfB_self 9 _ rfl _) <| pc h1 <| pc h2 <| pc h3 <| pc (growth_Inside_fc b x_3) <| pc (ref02_Box_fc b) <| pc h4 <| pc h5 <| pt (z1r75 s b l q10 q11 q12 q13 q14 x2) (growth_History_err_ex fu s b l q10 q11 q12 q13 q14 x2 h6 h7) <| pc (z1p23 s b l q10 q11 q12 q13 q14) <| pc (z1p24 s l) <| pt (z1r76 x2) (selfB_self 9 _ rfl _) <| pc h8 <| pc h9 <| pc (law02_known_fc fu  x1 h10) <| pn) (by kernel_rfl) (by kernel_rfl)
          ·rw [h9, cF] at hh
           rw [← sI hh]
           exact FSat.d pfT 26 (hR 5 ((z1i71 s q10 q11 q12 q13) :: (hR 4 (hF :: (hR 6 (hF :: hE :: hE :: hE :: (hC (.bool (growth_Inside b x_3))) :: hE :: (hB (hC (.bool (ref02_Box b))) false) :: (hR 4 (hF :: hE :: hE :: hE :: (z1i74 s b l q10 q11 q12 q13 q14 x2) :: (hR 7 (hT :: hE :: hF :: (hR 5 []))))))))))) [] (pc (law02_short_fc s q10 q11 q12 q13) <| pc (z1p72 s q10 q11 q12 q13) <| pc (z1p4 s) <| pt (z1r73 s) (selfB_self 9 _ rfl _) <| pc h1 <| pc h2 <| pc h3 <| pc (growth_Inside_fc b x_3) <| pc (ref02_Box_fc b) <| pc h4 <| pc h5 <| pt (z1r75 s b l q10 q11 q12 q13 q14 x2) (growth_History_err_ex fu s b l q10 q11 q12 q13 q14 x2 h6 h7) <| pc (z1p23 s b l q10 q11 q12 q13 q14) <| pc (z1p24 s l) <| pt (z1r76 x2) (selfB_self 9 _ rfl _) <| pc h8 <| pc h9 <| pn) (by kernel_rfl) (by kernel_rfl)
         ·rw [h8, cF] at hh
          cases h9 : ref02_Species fu s with
          | none => rw [h9, oN] at hh; cases hh
          | some x3 =>
           rw [h9, oS] at hh
           rcases bb (x3) with h10 | h10
           ·rw [h10, cT] at hh
            have nx := (law02_GrowthSteps_L_fs fu s b l x_3 q10 q11 q12 q13 q14 fu).1 false false 0 x2 r hh
            refine FSat.s pfT 32 (hR 5 ((z1i71 s q10 q11 q12 q13) :: (hR 4 (hF :: (hR 6 (hF :: hE :: hE :: hE :: (hC (.bool (growth_Inside b x_3))) :: hE :: (hB (hC (.bool (ref02_Box b))) false) :: (hR 4 (hF :: hE :: hE :: hE :: (z1i74 s b l q10 q11 q12 q13 q14 x2) :: (hR 7 [hF, hE, (z1i77 s q10 q11 q12 q13 x3), hE, hE, (hB (hC (.bool (ref02_Box b))) false), hE, hE, hE]))))))))) [.st [2, 4, 5, 8, 9, 10, 11, 12] [0, 10, 11, 12, 13, 14, 100, 101]] (pc (law02_short_fc s q10 q11 q12 q13) <| pc (z1p72 s q10 q11 q12 q13) <| pc (z1p4 s) <| pt (z1r73 s) (selfB_self 9 _ rfl _) <| pc h1 <| pc h2 <| pc h3 <| pc (growth_Inside_fc b x_3) <| pc (ref02_Box_fc b) <| pc h4 <| pc h5 <| pt (z1r75 s b l q10 q11 q12 q13 q14 x2) (growth_History_err_ex fu s b l q10 q11 q12 q13 q14 x2 h6 h7) <| pc (z1p23 s b l q10 q11 q12 q13 q14) <| pc (z1p24 s l) <| pt (z1r76 x2) (selfB_self 9 _ rfl _) <| pc h8 <| pc (ref02_Species_fc fu s q10 q11 q12 q13 x3 h9) <| pc (z1p78 s q10 q11 q12 q13) <| pc (z1p4 s) <| pt (z1r79 x3) (selfB_self 9 _ rfl _) <| pc h10 <| pc (ref02_Box_fc b) <| pc h4 <| pn) (by kernel_rfl) 102 (by kernel_rfl) ?_ nx
            exact ⟨PinL.lit (by kernel_rfl), PinL.pf (encL_pf cInt_pf _), PinL.pf (encL_pf cInt_pf _), PinL.pf (encL_pf cXRung_pf _), PinL.pf (encL_pf cXSpan_pf _), PinL.pf (encL_pf cXSeason_pf _), PinL.lit (by kernel_rfl), PinL.lit (by kernel_rfl), trivial⟩
           ·rw [h10, cF] at hh
            have nx := (law02_GrowthSteps_L_fs fu s b l x_3 q10 q11 q12 q13 q14 fu).1 false false 0 x2 r hh
            refine FSat.s pfT 32 (hR 5 ((z1i71 s q10 q11 q12 q13) :: (hR 4 (hF :: (hR 6 (hF :: hE :: hE :: hE :: (hC (.bool (growth_Inside b x_3))) :: hE :: (hB (hC (.bool (ref02_Box b))) false) :: (hR 4 (hF :: hE :: hE :: hE :: (z1i74 s b l q10 q11 q12 q13 q14 x2) :: (hR 7 (hF :: hE :: (z1i80 s q10 q11 q12 q13 x3) :: (hR 4 []))))))))))) [.st [2, 4, 5, 8, 9, 10, 11, 12] [0, 10, 11, 12, 13, 14, 100, 101]] (pc (law02_short_fc s q10 q11 q12 q13) <| pc (z1p72 s q10 q11 q12 q13) <| pc (z1p4 s) <| pt (z1r73 s) (selfB_self 9 _ rfl _) <| pc h1 <| pc h2 <| pc h3 <| pc (growth_Inside_fc b x_3) <| pc (ref02_Box_fc b) <| pc h4 <| pc h5 <| pt (z1r75 s b l q10 q11 q12 q13 q14 x2) (growth_History_err_ex fu s b l q10 q11 q12 q13 q14 x2 h6 h7) <| pc (z1p23 s b l q10 q11 q12 q13 q14) <| pc (z1p24 s l) <| pt (z1r76 x2) (selfB_self 9 _ rfl _) <| pc h8 <| pc (ref02_Species_fc fu s q10 q11 q12 q13 x3 h9) <| pc (z1p78 s q10 q11 q12 q13) <| pc (z1p4 s) <| pt (z1r79 x3) (selfB_self 9 _ rfl _) <| pc h10 <| pn) (by kernel_rfl) 102 (by kernel_rfl) ?_ nx
            exact ⟨PinL.lit (by kernel_rfl), PinL.pf (encL_pf cInt_pf _), PinL.pf (encL_pf cInt_pf _), PinL.pf (encL_pf cXRung_pf _), PinL.pf (encL_pf cXSpan_pf _), PinL.pf (encL_pf cXSeason_pf _), PinL.lit (by kernel_rfl), PinL.lit (by kernel_rfl), trivial⟩
        ·rw [h7, cF] at hh
         rcases bb (decide (l.length ≤ 12)) with h8 | h8
         rotate_left
         ·rw [h8, cF] at hh; cases hh
         ·rw [h8, cT] at hh
          cases h9 : growth_hist fu s b l with
          | none => rw [h9, oN] at hh; cases hh
          | some x11 =>
           rw [h9, oS] at hh
           rcases bb (decide (((l.length : Nat) : Int) > 100)) with h10 | h10
           ·rw [h10, cT] at hh
            rw [← sI hh]
            exact FSat.d pfT 26 (hR 5 ((z1i71 s q10 q11 q12 q13) :: (hR 4 (hF :: (hR 6 (hF :: hE :: hE :: hE :: (hC (.bool (growth_Inside b x_3))) :: hE :: (hB (hC (.bool (ref02_Box b))) false) :: (hR 4 (hF :: hE :: hE :: hE :: (z1i81 s b l q10 q11 q12 q13 q14 x11) :: (hR 7 (hT :: (hR 7 []))))))))))) [] (pc (law02_short_fc s q10 q11 q12 q13) <| pc (z1p72 s q10 q11 q12 q13) <| pc (z1p4 s) <| pt (z1r73 s) (selfB_self 9 _ rfl _) <| pc h1 <| pc h2 <| pc h3 <| pc (growth_Inside_fc b x_3) <| pc (ref02_Box_fc b) <| pc h4 <| pc h5 <| pt (z1r83 s b l q10 q11 q12 q13 q14 x11) (growth_History_fcn fu s b l q10 q11 q12 q13 q14 x2 h6 h7 x11 (Nat.zero_le _) (of_decide_eq_true h8) h9) <| pc (z1p23 s b l q10 q11 q12 q13 q14) <| pc (z1p24 s l) <| pc (z1p82 x11) <| pc h10 <| pn) (by kernel_rfl) (by kernel_rfl)
           ·rw [h10, cF] at hh
            cases h11 : ref02_Species fu s with
            | none => rw [h11, oN] at hh; cases hh
            | some x3 =>
             rw [h11, oS] at hh
             rcases bb (x3) with h12 | h12
             ·rw [h12, cT] at hh
              have nx := (law02_GrowthSteps_L_fs fu s b l x_3 q10 q11 q12 q13 q14 fu).2 false false 0 x11 r hh
              refine FSat.s pfT 32 (hR 5 ((z1i71 s q10 q11 q12 q13) :: (hR 4 (hF :: (hR 6 (hF :: hE :: hE :: hE :: (hC (.bool (growth_Inside b x_3))) :: hE :: (hB (hC (.bool (ref02_Box b))) false) :: (hR 4 (hF :: hE :: hE :: hE :: (z1i81 s b l q10 q11 q12 q13 q14 x11) :: (hR 7 [hF, hE, (z1i77 s q10 q11 q12 q13 x3), hE, hE, (hB (hC (.bool (ref02_Box b))) false), hE, hE, hE]))))))))) [.st [2, 4, 5, 8, 9, 10, 11, 12] [0, 10, 11, 12, 13, 14, 100, 101, 103]] (pc (law02_short_fc s q10 q11 q12 q13) <| pc (z1p72 s q10 q11 q12 q13) <| pc (z1p4 s) <| pt (z1r73 s) (selfB_self 9 _ rfl _) <| pc h1 <| pc h2 <| pc h3 <| pc (growth_Inside_fc b x_3) <| pc (ref02_Box_fc b) <| pc h4 <| pc h5 <| pt (z1r83 s b l q10 q11 q12 q13 q14 x11) (growth_History_fcn fu s b l q10 q11 q12 q13 q14 x2 h6 h7 x11 (Nat.zero_le _) (of_decide_eq_true h8) h9) <| pc (z1p23 s b l q10 q11 q12 q13 q14) <| pc (z1p24 s l) <| pc (z1p82 x11) <| pc h10 <| pc (ref02_Species_fc fu s q10 q11 q12 q13 x3 h11) <| pc (z1p78 s q10 q11 q12 q13) <| pc (z1p4 s) <| pt (z1r79 x3) (selfB_self 9 _ rfl _) <| pc h12 <| pc (ref02_Box_fc b) <| pc h4 <| pn) (by kernel_rfl) 104 (by kernel_rfl) ?_ nx
              exact ⟨PinL.lit (by kernel_rfl), PinL.pf (encL_pf cInt_pf _), PinL.pf (encL_pf cInt_pf _), PinL.pf (encL_pf cXRung_pf _), PinL.pf (encL_pf cXSpan_pf _), PinL.pf (encL_pf cXSeason_pf _), PinL.lit (by kernel_rfl), PinL.lit (by kernel_rfl), PinL.pf (encL_pf cXBox_pf _), trivial⟩
             ·rw [h12, cF] at hh
              have nx := (law02_GrowthSteps_L_fs fu s b l x_3 q10 q11 q12 q13 q14 fu).2 false false 0 x11 r hh
              refine FSat.s pfT 32 (hR 5 ((z1i71 s q10 q11 q12 q13) :: (hR 4 (hF :: (hR 6 (hF :: hE :: hE :: hE :: (hC (.bool (growth_Inside b x_3))) :: hE :: (hB (hC (.bool (ref02_Box b))) false) :: (hR 4 (hF :: hE :: hE :: hE :: (z1i81 s b l q10 q11 q12 q13 q14 x11) :: (hR 7 (hF :: hE :: (z1i80 s q10 q11 q12 q13 x3) :: (hR 4 []))))))))))) [.st [2, 4, 5, 8, 9, 10, 11, 12] [0, 10, 11, 12, 13, 14, 100, 101, 103]] (pc (law02_short_fc s q10 q11 q12 q13) <| pc (z1p72 s q10 q11 q12 q13) <| pc (z1p4 s) <| pt (z1r73 s) (selfB_self 9 _ rfl _) <| pc h1 <| pc h2 <| pc h3 <| pc (growth_Inside_fc b x_3) <| pc (ref02_Box_fc b) <| pc h4 <| pc h5 <| pt (z1r83 s b l q10 q11 q12 q13 q14 x11) (growth_History_fcn fu s b l q10 q11 q12 q13 q14 x2 h6 h7 x11 (Nat.zero_le _) (of_decide_eq_true h8) h9) <| pc (z1p23 s b l q10 q11 q12 q13 q14) <| pc (z1p24 s l) <| pc (z1p82 x11) <| pc h10 <| pc (ref02_Species_fc fu s q10 q11 q12 q13 x3 h11) <| pc (z1p78 s q10 q11 q12 q13) <| pc (z1p4 s) <| pt (z1r79 x3) (selfB_self 9 _ rfl _) <| pc h12 <| pn) (by kernel_rfl) 104 (by kernel_rfl) ?_ nx
              exact ⟨PinL.lit (by kernel_rfl), PinL.pf (encL_pf cInt_pf _), PinL.pf (encL_pf cInt_pf _), PinL.pf (encL_pf cXRung_pf _), PinL.pf (encL_pf cXSpan_pf _), PinL.pf (encL_pf cXSeason_pf _), PinL.lit (by kernel_rfl), PinL.lit (by kernel_rfl), PinL.pf (encL_pf cXBox_pf _), trivial⟩
  ·rw [h1, cF] at hh
   cases h2 : law02_known fu with
   | none => rw [h2, oN] at hh; cases hh
   | some x1 =>
    rw [h2, oS] at hh
    rw [← sI hh]
    exact FSat.d pfT 14 (hR 5 ((z1i84 s q10 q11 q12 q13) :: (hR 5 [(hC (.bool (x1))), hE]))) [] (pc (law02_short_fc s q10 q11 q12 q13) <| pc (z1p72 s q10 q11 q12 q13) <| pc (z1p4 s) <| pt (z1r73 s) (selfB_self 9 _ rfl _) <| pc h1 <| pc (law02_known_fc fu  x1 h2) <| pn) (by kernel_rfl) (by kernel_rfl)



end Go.Proofs.G2
