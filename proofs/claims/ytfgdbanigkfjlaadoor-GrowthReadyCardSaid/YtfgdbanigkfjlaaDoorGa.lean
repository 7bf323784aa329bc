/- Contracts of the functions that the law runs, part 1: made by a program, checked by the kernel. No conditions. -/
import Derived.Test.YtfgdbanigkfjlaaDoorProg
import Derived.KernelRfl
import Derived.Test.YtfgdbanigkfjlaaDoorLa
namespace Go.Proofs.G2
open Go.Sim Go.Proofs
set_option maxRecDepth 20000
set_option maxHeartbeats 1000000
noncomputable abbrev P : Program := Tryd.prog
theorem zB : (Tryd.prog.types.toList.all zeroB) = true := by kernel_rfl
theorem pfT : PF P := ⟨info_zero zB, by kernel_rfl⟩
noncomputable def GG : Globals := [(0, [.int .i64 1, .int .i64 2, .int .i64 3])]
abbrev I (n : Int) : Value := .int .i64 n
abbrev W (n : Int) : Int := IntKind.i64.wrap n
def imin (x y : Int) : Int := if y < x then y else x
def imax (x y : Int) : Int := if y > x then y else x
theorem eq_of_bne {a b : Int} {c : Bool} (h : (a != b) = c) : (a == b) = !c := by rw [← h]; simp [bne]
theorem bne_of_eq {a b : Int} {c : Bool} (h : (a == b) = c) : (a != b) = !c := by rw [← h]; rfl
def hE : Hint := ⟨.ev, none⟩
def hT : Hint := ⟨.ev, some true⟩
def hF : Hint := ⟨.ev, some false⟩
def hX : Hint := ⟨.ix, none⟩
def hQ : Hint := ⟨.eq, none⟩
def hR (n : Nat) (l : List Hint) : List Hint := Nat.rec (motive := fun _ => List Hint) l (fun _ r => hE :: r) n
def hD : Hint := ⟨.dv, none⟩
def hL (v : Value) : Hint := ⟨.ld v, none⟩
def hC (v : Value) : Hint := ⟨.cf v, none⟩
def hM (v0 v : Value) (ca : List Value) (km : List (Nat × List Value)) (σ : Ren) : Hint := ⟨.cm v0 v ca km σ, none⟩
def hZ (v : Value) : Hint := ⟨.lz v, none⟩
def hZS : Hint := ⟨.lzs, none⟩
def hI : Hint := ⟨.inl, none⟩
def hED (z : Nat) (es : List Nat) : Hint := ⟨.ed z es, none⟩
def hN (v0 v : Value) (ca : List Value) (km : List (Nat × List Value)) (σ : Ren) (b : Nat) (c : List Value) (sz : Nat) : Hint := ⟨.cn v0 v ca km σ b c sz, none⟩
def hLC (ts bs : List Nat) (nxt : Nat) (e : AEx) (kn : List (Nat × Value)) (km : List (Nat × AObj)) : Hint := ⟨.lc ts bs nxt e kn km, none⟩
def hB (h : Hint) (b : Bool) : Hint := ⟨h.h, some b⟩
structure XRung where
  Height : Int
  Shoots : Int

def zXRung : XRung := ⟨0, 0⟩

structure XSpan where
  Low : Int
  High : Int

def zXSpan : XSpan := ⟨0, 0⟩

structure XSpecies where
  Rise : List Int
  Thick : List Int
  Top : Int
  Stout : Int
  Shade : Int
  Reach : Int
  Ladder : List XRung
  Sprouts : List XSpan

def zXSpecies : XSpecies := ⟨[], [], 0, 0, 0, 0, [], []⟩

def cInt (x : Int) : List Value := [I (x)]
theorem cInt_len (x : Int) : (cInt x).length = 1 := rfl
theorem cInt_pf : ∀ (x : Int), ∀ v ∈ cInt x, pf v = true := by
  intro x v hv
  simp only [cInt, List.mem_cons, List.not_mem_nil, or_false] at hv
  subst hv; rfl

def cXRung (x : XRung) : List Value := [I (x.Height), I (x.Shoots)]
theorem cXRung_len (x : XRung) : (cXRung x).length = 2 := rfl
theorem cXRung_pf : ∀ (x : XRung), ∀ v ∈ cXRung x, pf v = true := by
  intro x v hv
  simp only [cXRung, List.mem_cons, List.not_mem_nil, or_false] at hv
  rcases hv with rfl | rfl <;> rfl

def cXSpan (x : XSpan) : List Value := [I (x.Low), I (x.High)]
theorem cXSpan_len (x : XSpan) : (cXSpan x).length = 2 := rfl
theorem cXSpan_pf : ∀ (x : XSpan), ∀ v ∈ cXSpan x, pf v = true := by
  intro x v hv
  simp only [cXSpan, List.mem_cons, List.not_mem_nil, or_false] at hv
  rcases hv with rfl | rfl <;> rfl

structure XStand where
  Age : Int
  Shoots : Int
  Height : Int
  Girth : Int

def zXStand : XStand := ⟨0, 0, 0, 0⟩

structure XBox where
  Low : XStand
  High : XStand

def zXBox : XBox := ⟨zXStand, zXStand⟩

structure XSeason where
  Light : XSpan
  Browse : XSpan
  Mild : XSpan
  Cut : Bool

def zXSeason : XSeason := ⟨zXSpan, zXSpan, zXSpan, false⟩

def cXSeason (x : XSeason) : List Value := [I (x.Light.Low), I (x.Light.High), I (x.Browse.Low), I (x.Browse.High), I (x.Mild.Low), I (x.Mild.High), .bool (x.Cut)]
theorem cXSeason_len (x : XSeason) : (cXSeason x).length = 7 := rfl
theorem cXSeason_pf : ∀ (x : XSeason), ∀ v ∈ cXSeason x, pf v = true := by
  intro x v hv
  simp only [cXSeason, List.mem_cons, List.not_mem_nil, or_false] at hv
  rcases hv with rfl | rfl | rfl | rfl | rfl | rfl | rfl <;> rfl

/- greenhew/greenhewlaw02.short -/
abbrev A_law02_short (s : XSpecies) (q10 q11 q12 q13 : Nat) : List Value := [.agg #[.slice (some ⟨10, 0, none⟩) (s.Rise.length) (q10), .slice (some ⟨11, 0, none⟩) (s.Thick.length) (q11), I (s.Top), I (s.Stout), I (s.Shade), I (s.Reach), .slice (some ⟨12, 0, none⟩) (s.Ladder.length) (q12), .slice (some ⟨13, 0, none⟩) (s.Sprouts.length) (q13)]]
abbrev K_law02_short (s : XSpecies) : List (Nat × List Value) := [(10, encL cInt s.Rise), (11, encL cInt s.Thick), (12, encL cXRung s.Ladder), (13, encL cXSpan s.Sprouts)]
noncomputable def law02_short (s : XSpecies) : Bool :=
  bif decide (((s.Rise.length : Nat) : Int) ≤ 70) then (bif decide (((s.Thick.length : Nat) : Int) ≤ 70) then (bif decide (((s.Ladder.length : Nat) : Int) ≤ 25) then decide (((s.Sprouts.length : Nat) : Int) ≤ 70)
      else false)
    else false)
  else false
theorem law02_short_fc (s : XSpecies) (q10 q11 q12 q13 : Nat) : FC P GG 17 (A_law02_short s q10 q11 q12 q13) (K_law02_short s) (.bool (law02_short s)) := by
  refine FC.of_fsat 25 100 Tryd.func17 (by kernel_rfl) (by kernel_rfl) (by kernel_rfl) ⟨PinL.pf (encL_pf cInt_pf _), PinL.pf (encL_pf cInt_pf _), PinL.pf (encL_pf cXRung_pf _), PinL.pf (encL_pf cXSpan_pf _), trivial⟩ ?_
  rcases bb (decide (((s.Rise.length : Nat) : Int) ≤ 70)) with h1 | h1
  ·rcases bb (decide (((s.Thick.length : Nat) : Int) ≤ 70)) with h2 | h2
   ·rcases bb (decide (((s.Ladder.length : Nat) : Int) ≤ 25)) with h3 | h3
    ·have e : law02_short s = decide (((s.Sprouts.length : Nat) : Int) ≤ 70) := by unfold law02_short; rw [h1, cT, h2, cT, h3, cT]; first | done | rfl
     rw [e]
     exact FSat.d pfT 10 (hR 5 (hT :: (hR 4 (hT :: (hR 5 (hT :: (hR 8 []))))))) [] (pc h1 <| pc h2 <| pc h3 <| pn) (by kernel_rfl) (by kernel_rfl)
    ·have e : law02_short s = false := by unfold law02_short; rw [h1, cT, h2, cT, h3, cF]; first | done | rfl
     rw [e]
     exact FSat.d pfT 10 (hR 5 (hT :: (hR 4 (hT :: (hR 5 (hF :: (hR 4 []))))))) [] (pc h1 <| pc h2 <| pc h3 <| pn) (by kernel_rfl) (by kernel_rfl)
   ·have e : law02_short s = false := by unfold law02_short; rw [h1, cT, h2, cF]; first | done | rfl
    rw [e]
    exact FSat.d pfT 10 (hR 5 (hT :: (hR 4 (hF :: (hR 6 []))))) [] (pc h1 <| pc h2 <| pn) (by kernel_rfl) (by kernel_rfl)
  ·have e : law02_short s = false := by unfold law02_short; rw [h1, cF]; first | done | rfl
   rw [e]
   exact FSat.d pfT 10 (hR 5 (hF :: (hR 7 []))) [] (pc h1 <| pn) (by kernel_rfl) (by kernel_rfl)

structure XWeather where
  Light : Int
  Browse : Int
  Mild : Int

def zXWeather : XWeather := ⟨0, 0, 0⟩

/- greenhew/growth.within -/
abbrev A_growth_within (n least most : Int) : List Value := [I (n), I (least), I (most)]
noncomputable def growth_within (n least most : Int) : Bool :=
  bif decide (n ≥ least) then decide (n ≤ most)
  else false
theorem growth_within_fc (n least most : Int) : FC P GG 94 (A_growth_within n least most) [] (.bool (growth_within n least most)) := by
  refine FC.of_fsat 15 100 Tryd.func94 (by kernel_rfl) (by kernel_rfl) (by kernel_rfl) trivial ?_
  rcases bb (decide (n ≥ least)) with h1 | h1
  ·have e : growth_within n least most = decide (n ≤ most) := by unfold growth_within; rw [h1, cT]; first | done | rfl
   rw [e]
   exact FSat.d pfT 10 (hE :: hE :: hE :: hT :: (hR 6 [])) [] (pc h1 <| pn) (by kernel_rfl) (by kernel_rfl)
  ·have e : growth_within n least most = false := by unfold growth_within; rw [h1, cF]; first | done | rfl
   rw [e]
   exact FSat.d pfT 10 [hE, hE, hE, hF, hE, hE, hE] [] (pc h1 <| pn) (by kernel_rfl) (by kernel_rfl)

/- greenhew/growth.yearsAreDefined$1 -/
abbrev A_growth_yearsAreDefined_1 (n : Int) : List Value := [I (n), .pointer (some ⟨10, 0, none⟩)]
abbrev K_growth_yearsAreDefined_1 (a1 : Int) : List (Nat × List Value) := [(10, [I (a1)])]
noncomputable def growth_yearsAreDefined_1 (n a1 : Int) : Bool :=
  growth_within n 0 a1
theorem growth_yearsAreDefined_1_fc (n a1 : Int) : FC P GG 118 (A_growth_yearsAreDefined_1 n) (K_growth_yearsAreDefined_1 a1) (.bool (growth_yearsAreDefined_1 n a1)) := by
  refine FC.of_fsat 7 100 Tryd.func118 (by kernel_rfl) (by kernel_rfl) (by kernel_rfl) ⟨PinL.lit (by kernel_rfl), trivial⟩ ?_
  have e : growth_yearsAreDefined_1 n a1 = growth_within n 0 a1 := by unfold growth_yearsAreDefined_1; rfl
  rw [e]
  exact FSat.d pfT 10 [hE, hE, hE, (hC (.bool (growth_within n 0 a1))), hE] [] (pc (growth_within_fc n 0 a1) <| pn) (by kernel_rfl) (by kernel_rfl)

/- greenhew/growth.all[int] -/
noncomputable abbrev z8i0 (l : List Int) (holds_0 v9 : Int) : Hint := (hB (hM (.bool (growth_yearsAreDefined_1 (at_ 0 l v9) holds_0)) (.bool (growth_yearsAreDefined_1 (at_ 0 l v9) holds_0)) (A_growth_yearsAreDefined_1 (at_ 0 l v9)) (K_growth_yearsAreDefined_1 holds_0) [(10, 11, 0)]) true)
theorem z8p1 (l : List Int) (v9 : Int) : VRs (Ren.emb [(10, 11, 0)]) (A_growth_yearsAreDefined_1 (at_ 0 l v9)) [I ((at_ 0 l v9)), .pointer (some ⟨11, 0, none⟩)] := (.cons _ _ _ _ (VR.of_pf rfl) (.cons _ _ _ _ (.ptr 10 0 ⟨11, 0, 0, 0⟩ rfl) .nil))
abbrev z8r2 (l : List Int) (v9 : Int) : Prop := RowLd P 3 (encL cInt l) (0 + v9.toNat * 1) (I ((at_ 0 l v9)))
abbrev z8r3 (holds_0 : Int) : Prop := MemAt (Ren.emb [(10, 11, 0)]) [I (holds_0)] 0 [I (holds_0)] ∧ True
abbrev z8r4 (l : List Int) (holds_0 v9 : Int) : Prop := VR (Ren.emb [(10, 11, 0)]) (.bool (growth_yearsAreDefined_1 (at_ 0 l v9) holds_0)) (.bool (growth_yearsAreDefined_1 (at_ 0 l v9) holds_0))
noncomputable abbrev z8i5 (l : List Int) (holds_0 v9 : Int) : Hint := (hB (hM (.bool (growth_yearsAreDefined_1 (at_ 0 l v9) holds_0)) (.bool (growth_yearsAreDefined_1 (at_ 0 l v9) holds_0)) (A_growth_yearsAreDefined_1 (at_ 0 l v9)) (K_growth_yearsAreDefined_1 holds_0) [(10, 11, 0)]) false)
abbrev A_growth_all (l : List Int) (q10 : Nat) : List Value := [.slice (some ⟨10, 0, none⟩) (l.length) (q10), .func (.func 118) #[] #[.pointer (some ⟨11, 0, none⟩)]]
abbrev K_growth_all (l : List Int) (holds_0 : Int) : List (Nat × List Value) := [(10, encL cInt l), (11, [I (holds_0)])]
noncomputable def growth_all_L (fu : Nat) (l : List Int) (holds_0 : Int) : Nat → (Bool → Int → Option Bool)
  | 0 => (fun _ _ => none)
  | fk + 1 => (fun v4 v9 => bif decide (v9 < ((l.length : Nat) : Int)) then (bif decide (0 ≤ v9 ∧ v9 < ((l.length : Nat) : Int)) then (bif growth_yearsAreDefined_1 (at_ 0 l v9) holds_0 then growth_all_L fu l holds_0 fk v4 (W (v9 + 1))
        else some false) else none)
      else some true)
theorem growth_all_L_s0 (fu : Nat) (l : List Int) (holds_0 : Int) (fk : Nat) (v4 : Bool) (v9 : Int) : growth_all_L fu l holds_0 (fk + 1) v4 v9 = (bif decide (v9 < ((l.length : Nat) : Int)) then (bif decide (0 ≤ v9 ∧ v9 < ((l.length : Nat) : Int)) then (bif growth_yearsAreDefined_1 (at_ 0 l v9) holds_0 then growth_all_L fu l holds_0 fk v4 (W (v9 + 1))
        else some false) else none)
      else some true) := rfl
noncomputable def growth_all (fu : Nat) (l : List Int) (holds_0 : Int) : Option Bool :=
  growth_all_L fu l holds_0 fu false 0
theorem growth_all_L_fs (fu : Nat) (l : List Int) (holds_0 : Int) (q10 : Nat) : ∀ fk, (∀ (v4 : Bool) (v9 : Int) (r : Bool), growth_all_L fu l holds_0 fk v4 v9 = some r → FSat P GG Tryd.f117 (.bool (r)) (ids (looses (K_growth_all l holds_0))) 18 [.lp (cA (bodyOf Tryd.f117) [1, 0, 1, 0, 0]), .blk 0, .code (cA (bodyOf Tryd.f117) [1, 1])] (tOf 18 [(1, .func (.func 118) #[] #[.pointer (some ⟨11, 0, none⟩)]), (4, .bool (v4)), (7, .slice (some ⟨10, 0, none⟩) (l.length) (q10)), (8, I (((l.length : Nat) : Int))), (9, I (v9))]) (mOf 100 [(0, .rom [I (1), I (2), I (3)] .glob), (10, .rom (encL cInt l) .loose), (11, .rom ([I (holds_0)]) .loose)])) := by
  intro fk
  induction fk with
  | zero => exact fun _ _ r hh => by cases hh
  | succ fk ih =>
    · intro v4 v9 r hh
      rw [growth_all_L_s0] at hh
      rcases bb (decide (v9 < ((l.length : Nat) : Int))) with h1 | h1
      ·rw [h1, cT] at hh
       rcases bb (decide (0 ≤ v9 ∧ v9 < ((l.length : Nat) : Int))) with h2 | h2
       rotate_left
       ·rw [h2, cF] at hh; cases hh
       ·rw [h2, cT] at hh
        rcases bb (growth_yearsAreDefined_1 (at_ 0 l v9) holds_0) with h3 | h3
        ·rw [h3, cT] at hh
         have nx := ih v4 (W (v9 + 1)) r hh
         refine FSat.s pfT 22 [hT, hX, (hL (I ((at_ 0 l v9)))), hE, hE, hE, (z8i0 l holds_0 v9), hE, hE, hE] [.go, .st [1, 4, 7, 8, 9] [0, 10, 11]] (pc h1 <| pt (0 ≤ v9 ∧ v9 < ((l.length : Nat) : Int)) (of_decide_eq_true h2) <| pt (z8r2 l v9) (RowLd.part cInt_len _ rfl rfl _ _ (of_decide_eq_true h2) 0 _ rfl (by decide)) <| pc (growth_yearsAreDefined_1_fc (at_ 0 l v9) holds_0) <| pc (z8p1 l v9) <| pt (z8r3 holds_0) (⟨MemAt.of (.cons _ _ _ _ (VR.of_pf rfl) .nil), trivial⟩) <| pt (z8r4 l holds_0 v9) (selfB_self 9 _ rfl _) <| pc h3 <| pn) (by kernel_rfl) 100 (by kernel_rfl) ?_ nx
         exact ⟨PinL.lit (by kernel_rfl), PinL.pf (encL_pf cInt_pf _), PinL.lit (by kernel_rfl), trivial⟩
        ·rw [h3, cF] at hh
         rw [← sI hh]
         exact FSat.d pfT 21 [hT, hX, (hL (I ((at_ 0 l v9)))), hE, hE, hE, (z8i5 l holds_0 v9), hE, hE] [.go] (pc h1 <| pt (0 ≤ v9 ∧ v9 < ((l.length : Nat) : Int)) (of_decide_eq_true h2) <| pt (z8r2 l v9) (RowLd.part cInt_len _ rfl rfl _ _ (of_decide_eq_true h2) 0 _ rfl (by decide)) <| pc (growth_yearsAreDefined_1_fc (at_ 0 l v9) holds_0) <| pc (z8p1 l v9) <| pt (z8r3 holds_0) (⟨MemAt.of (.cons _ _ _ _ (VR.of_pf rfl) .nil), trivial⟩) <| pt (z8r4 l holds_0 v9) (selfB_self 9 _ rfl _) <| pc h3 <| pn) (by kernel_rfl) (by kernel_rfl)
      ·rw [h1, cF] at hh
       rw [← sI hh]
       exact FSat.d pfT 14 [hF, hE] [.go] (pc h1 <| pn) (by kernel_rfl) (by kernel_rfl)
theorem growth_all_fc (fu : Nat) (l : List Int) (holds_0 : Int) (q10 : Nat) (r : Bool) (hh : growth_all fu l holds_0 = some r) : FC P GG 117 (A_growth_all l q10) (K_growth_all l holds_0) (.bool (r)) := by
  refine FC.of_fsat 18 100 Tryd.func117 (by kernel_rfl) (by kernel_rfl) (by kernel_rfl) ⟨PinL.pf (encL_pf cInt_pf _), PinL.lit (by kernel_rfl), trivial⟩ ?_
  unfold growth_all at hh
  have nx := growth_all_L_fs fu l holds_0 q10 fu false 0 r hh
  refine FSat.s pfT 13 (hR 4 []) [.st [1, 4, 7, 8, 9] [0, 10, 11]] (pn) (by kernel_rfl) 100 (by kernel_rfl) ?_ nx
  exact ⟨PinL.lit (by kernel_rfl), PinL.pf (encL_pf cInt_pf _), PinL.lit (by kernel_rfl), trivial⟩

/- greenhew/growth.yearsAreDefined -/
noncomputable abbrev z6i0 (table : List Int) : Hint := (hB (hC (.bool (growth_within ((table.length : Nat) : Int) 1 60))) true)
noncomputable abbrev z6i1 (table : List Int) (most : Int) (q10 : Nat) (x1 : Bool) : Hint := (hM (.bool (x1)) (.bool (x1)) (A_growth_all table q10) (K_growth_all table most) [(10, 10, 0), (11, 100, 0)])
theorem z6p2 (table : List Int) (q10 : Nat) : VRs (Ren.emb [(10, 10, 0), (11, 100, 0)]) (A_growth_all table q10) [.slice (some ⟨10, 0, none⟩) (table.length) (q10), .func (.func 118) #[] #[.pointer (some ⟨100, 0, none⟩)]] := (.cons _ _ _ _ (.slc 10 0 _ _ _ ⟨10, 0, 0, 0⟩ rfl (.inl rfl)) (.cons _ _ _ _ (.func _ _ _ _ _ (fun _ h => by cases h) .nil (.cons _ _ _ _ (.ptr 11 0 ⟨100, 0, 0, 0⟩ rfl) .nil)) .nil))
theorem z6p3 (table : List Int) (most : Int) : MemAt (Ren.emb [(10, 10, 0), (11, 100, 0)]) (encL cInt table) 0 (encL cInt table) ∧ MemAt (Ren.emb [(10, 10, 0), (11, 100, 0)]) [I (most)] 0 [I (most)] ∧ True := ⟨MemAt.same _ (encL_pf cInt_pf _), MemAt.of (.cons _ _ _ _ (VR.of_pf rfl) .nil), trivial⟩
abbrev z6r4 (x1 : Bool) : Prop := VR (Ren.emb [(10, 10, 0), (11, 100, 0)]) (.bool (x1)) (.bool (x1))
noncomputable abbrev z6i5 (table : List Int) : Hint := (hB (hC (.bool (growth_within ((table.length : Nat) : Int) 1 60))) false)
abbrev A_growth_yearsAreDefined (table : List Int) (most : Int) (q10 : Nat) : List Value := [.slice (some ⟨10, 0, none⟩) (table.length) (q10), I (most)]
abbrev K_growth_yearsAreDefined (table : List Int) : List (Nat × List Value) := [(10, encL cInt table)]
noncomputable def growth_yearsAreDefined (fu : Nat) (table : List Int) (most : Int) : Option Bool :=
  bif growth_within ((table.length : Nat) : Int) 1 60 then (Option.bind (growth_all fu table most) fun x1 =>
    some x1)
  else some false
theorem growth_yearsAreDefined_fc (fu : Nat) (table : List Int) (most : Int) (q10 : Nat) (r : Bool) (hh : growth_yearsAreDefined fu table most = some r) : FC P GG 93 (A_growth_yearsAreDefined table most q10) (K_growth_yearsAreDefined table) (.bool (r)) := by
  refine FC.of_fsat 13 100 Tryd.func93 (by kernel_rfl) (by kernel_rfl) (by kernel_rfl) ⟨PinL.pf (encL_pf cInt_pf _), trivial⟩ ?_
  unfold growth_yearsAreDefined at hh
  rcases bb (growth_within ((table.length : Nat) : Int) 1 60) with h1 | h1
  ·rw [h1, cT] at hh
   cases h2 : growth_all fu table most with
   | none => rw [h2, oN] at hh; cases hh
   | some x1 =>
    rw [h2, oS] at hh
    rw [← sI hh]
    exact FSat.d pfT 10 (hR 4 [(z6i0 table), hE, hE, hE, (z6i1 table most q10 x1), hE, hE]) [] (pc (growth_within_fc ((table.length : Nat) : Int) 1 60) <| pc h1 <| pc (growth_all_fc fu table most q10 x1 h2) <| pc (z6p2 table q10) <| pc (z6p3 table most) <| pt (z6r4 x1) (selfB_self 9 _ rfl _) <| pn) (by kernel_rfl) (by kernel_rfl)
  ·rw [h1, cF] at hh
   rw [← sI hh]
   exact FSat.d pfT 10 (hR 4 [(z6i5 table), hE, hE, hE]) [] (pc (growth_within_fc ((table.length : Nat) : Int) 1 60) <| pc h1 <| pn) (by kernel_rfl) (by kernel_rfl)

/- greenhew/growth.ladderIsDefined -/
noncomputable abbrev z10i0 (l : List XRung) (v10 : Int) : Hint := (hL (.agg #[I ((at_ zXRung l v10).Height), I ((at_ zXRung l v10).Shoots)]))
noncomputable abbrev z10i1 (l : List XRung) (v10 : Int) : Hint := (hB (hC (.bool (growth_within ((at_ zXRung l v10).Height) 1 40000))) true)
noncomputable abbrev z10i2 (l : List XRung) (v10 : Int) : Hint := (hB (hC (.bool (growth_within ((at_ zXRung l v10).Shoots) 0 300))) true)
abbrev z10r3 (l : List XRung) (v10 : Int) : Prop := RowLd P 119 (encL cXRung l) (0 + v10.toNat * 2) (.agg #[I ((at_ zXRung l v10).Height), I ((at_ zXRung l v10).Shoots)])
abbrev z10r4 (l : List XRung) (v10 : Int) : Prop := 0 ≤ (W (v10 - 1)) ∧ (W (v10 - 1)) < ((l.length : Nat) : Int)
abbrev z10r5 (l : List XRung) (v10 : Int) : Prop := RowLd P 3 (encL cXRung l) (0 + (W (v10 - 1)).toNat * 2) (I ((at_ zXRung l (W (v10 - 1))).Height))
abbrev z10r6 (l : List XRung) (v10 : Int) : Prop := RowLd P 3 (encL cXRung l) (0 + (W (v10 - 1)).toNat * 2 + 1) (I ((at_ zXRung l (W (v10 - 1))).Shoots))
noncomputable abbrev z10i7 (l : List XRung) (v10 : Int) : Hint := (hB (hC (.bool (growth_within ((at_ zXRung l v10).Shoots) 0 300))) false)
noncomputable abbrev z10i8 (l : List XRung) (v10 : Int) : Hint := (hB (hC (.bool (growth_within ((at_ zXRung l v10).Height) 1 40000))) false)
abbrev A_growth_ladderIsDefined (l : List XRung) (q10 : Nat) : List Value := [.slice (some ⟨10, 0, none⟩) (l.length) (q10)]
abbrev K_growth_ladderIsDefined (l : List XRung) : List (Nat × List Value) := [(10, encL cXRung l)]
noncomputable def growth_ladderIsDefined_L (fu : Nat) (l : List XRung) : Nat → (Bool → Int → Option Bool)
  | 0 => (fun _ _ => none)
  | fk + 1 => (fun v2 v10 => bif decide (v10 < ((l.length : Nat) : Int)) then (bif decide (0 ≤ v10 ∧ v10 < ((l.length : Nat) : Int)) then (bif growth_within ((at_ zXRung l v10).Height) 1 40000 then (bif growth_within ((at_ zXRung l v10).Shoots) 0 300 then (bif decide (v10 > 0) then (bif decide (0 ≤ (W (v10 - 1)) ∧ (W (v10 - 1)) < ((l.length : Nat) : Int)) then (bif decide (((at_ zXRung l v10).Height) ≤ ((at_ zXRung l (W (v10 - 1))).Height)) then some false
              else (bif decide (((at_ zXRung l v10).Shoots) ≥ ((at_ zXRung l (W (v10 - 1))).Shoots)) then some false
                else growth_ladderIsDefined_L fu l fk v2 (W (v10 + 1)))) else none)
            else growth_ladderIsDefined_L fu l fk v2 (W (v10 + 1)))
          else some false)
        else some false) else none)
      else some true)
theorem growth_ladderIsDefined_L_s0 (fu : Nat) (l : List XRung) (fk : Nat) (v2 : Bool) (v10 : Int) : growth_ladderIsDefined_L fu l (fk + 1) v2 v10 = (bif decide (v10 < ((l.length : Nat) : Int)) then (bif decide (0 ≤ v10 ∧ v10 < ((l.length : Nat) : Int)) then (bif growth_within ((at_ zXRung l v10).Height) 1 40000 then (bif growth_within ((at_ zXRung l v10).Shoots) 0 300 then (bif decide (v10 > 0) then (bif decide (0 ≤ (W (v10 - 1)) ∧ (W (v10 - 1)) < ((l.length : Nat) : Int)) then (bif decide (((at_ zXRung l v10).Height) ≤ ((at_ zXRung l (W (v10 - 1))).Height)) then some false
              else (bif decide (((at_ zXRung l v10).Shoots) ≥ ((at_ zXRung l (W (v10 - 1))).Shoots)) then some false
                else growth_ladderIsDefined_L fu l fk v2 (W (v10 + 1)))) else none)
            else growth_ladderIsDefined_L fu l fk v2 (W (v10 + 1)))
          else some false)
        else some false) else none)
      else some true) := rfl
noncomputable def growth_ladderIsDefined (fu : Nat) (l : List XRung) : Option Bool :=
  bif decide (((l.length : Nat) : Int) > 20) then some false
  else growth_ladderIsDefined_L fu l fu false 0
theorem growth_ladderIsDefined_L_fs (fu : Nat) (l : List XRung) (q10 : Nat) : ∀ fk, (∀ (v2 : Bool) (v10 : Int) (r : Bool), growth_ladderIsDefined_L fu l fk v2 v10 = some r → FSat P GG Tryd.f95 (.bool (r)) (ids (looses (K_growth_ladderIsDefined l))) 50 [.lp (cA (bodyOf Tryd.f95) [1, 1, 0, 1, 0, 0]), .blk 0, .code (cA (bodyOf Tryd.f95) [1, 1, 1])] (tOf 50 [(0, .slice (some ⟨10, 0, none⟩) (l.length) (q10)), (2, .bool (v2)), (8, .slice (some ⟨10, 0, none⟩) (l.length) (q10)), (9, I (((l.length : Nat) : Int))), (10, I (v10))]) (mOf 100 [(0, .rom [I (1), I (2), I (3)] .glob), (10, .rom (encL cXRung l) .loose)])) := by
  intro fk
  induction fk with
  | zero => exact fun _ _ r hh => by cases hh
  | succ fk ih =>
    · intro v2 v10 r hh
      rw [growth_ladderIsDefined_L_s0] at hh
      rcases bb (decide (v10 < ((l.length : Nat) : Int))) with h1 | h1
      ·rw [h1, cT] at hh
       rcases bb (decide (0 ≤ v10 ∧ v10 < ((l.length : Nat) : Int))) with h2 | h2
       rotate_left
       ·rw [h2, cF] at hh; cases hh
       ·rw [h2, cT] at hh
        rcases bb (growth_within ((at_ zXRung l v10).Height) 1 40000) with h3 | h3
        ·rw [h3, cT] at hh
         rcases bb (growth_within ((at_ zXRung l v10).Shoots) 0 300) with h4 | h4
         ·rw [h4, cT] at hh
          rcases bb (decide (v10 > 0)) with h5 | h5
          ·rw [h5, cT] at hh
           rcases bb (decide (0 ≤ (W (v10 - 1)) ∧ (W (v10 - 1)) < ((l.length : Nat) : Int))) with h6 | h6
           rotate_left
           ·rw [h6, cF] at hh; cases hh
           ·rw [h6, cT] at hh
            rcases bb (decide (((at_ zXRung l v10).Height) ≤ ((at_ zXRung l (W (v10 - 1))).Height))) with h7 | h7
            ·rw [h7, cT] at hh
             rw [← sI hh]
             exact FSat.d pfT 26 (hT :: hE :: hX :: (z10i0 l v10) :: (hR 5 ((z10i1 l v10) :: (hR 4 ((z10i2 l v10) :: hE :: hE :: hE :: hT :: (hR 6 (hX :: hE :: (hL (I ((at_ zXRung l (W (v10 - 1))).Height))) :: hT :: (hR 4 [])))))))) [.go] (pc h1 <| pt (0 ≤ v10 ∧ v10 < ((l.length : Nat) : Int)) (of_decide_eq_true h2) <| pt (z10r3 l v10) (RowLd.elem cXRung_len _ (.inl ⟨_, rfl⟩) rfl rfl _ _ (of_decide_eq_true h2)) <| pc (growth_within_fc ((at_ zXRung l v10).Height) 1 40000) <| pc h3 <| pc (growth_within_fc ((at_ zXRung l v10).Shoots) 0 300) <| pc h4 <| pc h5 <| pt (z10r4 l v10) (of_decide_eq_true h6) <| pt (z10r5 l v10) (RowLd.part cXRung_len _ rfl rfl _ _ (of_decide_eq_true h6) 0 _ rfl (by decide)) <| pc h7 <| pn) (by kernel_rfl) (by kernel_rfl)
            ·rw [h7, cF] at hh
             rcases bb (decide (((at_ zXRung l v10).Shoots) ≥ ((at_ zXRung l (W (v10 - 1))).Shoots))) with h8 | h8
             ·rw [h8, cT] at hh
              rw [← sI hh]
              exact FSat.d pfT 26 (hT :: hE :: hX :: (z10i0 l v10) :: (hR 5 ((z10i1 l v10) :: (hR 4 ((z10i2 l v10) :: hE :: hE :: hE :: hT :: (hR 6 (hX :: hE :: (hL (I ((at_ zXRung l (W (v10 - 1))).Height))) :: hF :: (hR 6 [hX, hE, (hL (I ((at_ zXRung l (W (v10 - 1))).Shoots))), hT, hE, hE, hE])))))))) [.go] (pc h1 <| pt (0 ≤ v10 ∧ v10 < ((l.length : Nat) : Int)) (of_decide_eq_true h2) <| pt (z10r3 l v10) (RowLd.elem cXRung_len _ (.inl ⟨_, rfl⟩) rfl rfl _ _ (of_decide_eq_true h2)) <| pc (growth_within_fc ((at_ zXRung l v10).Height) 1 40000) <| pc h3 <| pc (growth_within_fc ((at_ zXRung l v10).Shoots) 0 300) <| pc h4 <| pc h5 <| pt (z10r4 l v10) (of_decide_eq_true h6) <| pt (z10r5 l v10) (RowLd.part cXRung_len _ rfl rfl _ _ (of_decide_eq_true h6) 0 _ rfl (by decide)) <| pc h7 <| pt (z10r4 l v10) (of_decide_eq_true h6) <| pt (z10r6 l v10) (RowLd.part cXRung_len _ rfl rfl _ _ (of_decide_eq_true h6) 1 _ rfl (by decide)) <| pc h8 <| pn) (by kernel_rfl) (by kernel_rfl)
             ·rw [h8, cF] at hh
              have nx := ih v2 (W (v10 + 1)) r hh
              refine FSat.s pfT 27 (hT :: hE :: hX :: (z10i0 l v10) :: (hR 5 ((z10i1 l v10) :: (hR 4 ((z10i2 l v10) :: hE :: hE :: hE :: hT :: (hR 6 (hX :: hE :: (hL (I ((at_ zXRung l (W (v10 - 1))).Height))) :: hF :: (hR 6 (hX :: hE :: (hL (I ((at_ zXRung l (W (v10 - 1))).Shoots))) :: hF :: (hR 4 [])))))))))) [.go, .st [0, 2, 8, 9, 10] [0, 10]] (pc h1 <| pt (0 ≤ v10 ∧ v10 < ((l.length : Nat) : Int)) (of_decide_eq_true h2) <| pt (z10r3 l v10) (RowLd.elem cXRung_len _ (.inl ⟨_, rfl⟩) rfl rfl _ _ (of_decide_eq_true h2)) <| pc (growth_within_fc ((at_ zXRung l v10).Height) 1 40000) <| pc h3 <| pc (growth_within_fc ((at_ zXRung l v10).Shoots) 0 300) <| pc h4 <| pc h5 <| pt (z10r4 l v10) (of_decide_eq_true h6) <| pt (z10r5 l v10) (RowLd.part cXRung_len _ rfl rfl _ _ (of_decide_eq_true h6) 0 _ rfl (by decide)) <| pc h7 <| pt (z10r4 l v10) (of_decide_eq_true h6) <| pt (z10r6 l v10) (RowLd.part cXRung_len _ rfl rfl _ _ (of_decide_eq_true h6) 1 _ rfl (by decide)) <| pc h8 <| pn) (by kernel_rfl) 100 (by kernel_rfl) ?_ nx
              exact ⟨PinL.lit (by kernel_rfl), PinL.pf (encL_pf cXRung_pf _), trivial⟩
          ·rw [h5, cF] at hh
           have nx := ih v2 (W (v10 + 1)) r hh
           refine FSat.s pfT 27 (hT :: hE :: hX :: (z10i0 l v10) :: (hR 5 ((z10i1 l v10) :: (hR 4 ((z10i2 l v10) :: hE :: hE :: hE :: hF :: (hR 4 [])))))) [.go, .st [0, 2, 8, 9, 10] [0, 10]] (pc h1 <| pt (0 ≤ v10 ∧ v10 < ((l.length : Nat) : Int)) (of_decide_eq_true h2) <| pt (z10r3 l v10) (RowLd.elem cXRung_len _ (.inl ⟨_, rfl⟩) rfl rfl _ _ (of_decide_eq_true h2)) <| pc (growth_within_fc ((at_ zXRung l v10).Height) 1 40000) <| pc h3 <| pc (growth_within_fc ((at_ zXRung l v10).Shoots) 0 300) <| pc h4 <| pc h5 <| pn) (by kernel_rfl) 100 (by kernel_rfl) ?_ nx
           exact ⟨PinL.lit (by kernel_rfl), PinL.pf (encL_pf cXRung_pf _), trivial⟩
         ·rw [h4, cF] at hh
          rw [← sI hh]
          exact FSat.d pfT 22 (hT :: hE :: hX :: (z10i0 l v10) :: (hR 5 ((z10i1 l v10) :: (hR 4 [(z10i7 l v10), hE, hE, hE])))) [.go] (pc h1 <| pt (0 ≤ v10 ∧ v10 < ((l.length : Nat) : Int)) (of_decide_eq_true h2) <| pt (z10r3 l v10) (RowLd.elem cXRung_len _ (.inl ⟨_, rfl⟩) rfl rfl _ _ (of_decide_eq_true h2)) <| pc (growth_within_fc ((at_ zXRung l v10).Height) 1 40000) <| pc h3 <| pc (growth_within_fc ((at_ zXRung l v10).Shoots) 0 300) <| pc h4 <| pn) (by kernel_rfl) (by kernel_rfl)
        ·rw [h3, cF] at hh
         rw [← sI hh]
         exact FSat.d pfT 22 (hT :: hE :: hX :: (z10i0 l v10) :: (hR 5 ((z10i8 l v10) :: (hR 4 [])))) [.go] (pc h1 <| pt (0 ≤ v10 ∧ v10 < ((l.length : Nat) : Int)) (of_decide_eq_true h2) <| pt (z10r3 l v10) (RowLd.elem cXRung_len _ (.inl ⟨_, rfl⟩) rfl rfl _ _ (of_decide_eq_true h2)) <| pc (growth_within_fc ((at_ zXRung l v10).Height) 1 40000) <| pc h3 <| pn) (by kernel_rfl) (by kernel_rfl)
      ·rw [h1, cF] at hh
       rw [← sI hh]
       exact FSat.d pfT 14 [hF, hE] [.go] (pc h1 <| pn) (by kernel_rfl) (by kernel_rfl)
theorem growth_ladderIsDefined_fc (fu : Nat) (l : List XRung) (q10 : Nat) (r : Bool) (hh : growth_ladderIsDefined fu l = some r) : FC P GG 95 (A_growth_ladderIsDefined l q10) (K_growth_ladderIsDefined l) (.bool (r)) := by
  refine FC.of_fsat 50 100 Tryd.func95 (by kernel_rfl) (by kernel_rfl) (by kernel_rfl) ⟨PinL.pf (encL_pf cXRung_pf _), trivial⟩ ?_
  unfold growth_ladderIsDefined at hh
  rcases bb (decide (((l.length : Nat) : Int) > 20)) with h1 | h1
  ·rw [h1, cT] at hh
   rw [← sI hh]
   exact FSat.d pfT 14 [hE, hE, hE, hT, hE] [] (pc h1 <| pn) (by kernel_rfl) (by kernel_rfl)
  ·rw [h1, cF] at hh
   have nx := growth_ladderIsDefined_L_fs fu l q10 fu false 0 r hh
   refine FSat.s pfT 18 [hE, hE, hE, hF, hE, hE, hE] [.st [0, 2, 8, 9, 10] [0, 10]] (pc h1 <| pn) (by kernel_rfl) 100 (by kernel_rfl) ?_ nx
   exact ⟨PinL.lit (by kernel_rfl), PinL.pf (encL_pf cXRung_pf _), trivial⟩

/- greenhew/growth.isPart -/
abbrev A_growth_isPart (s : XSpan) (most : Int) : List Value := [.agg #[I (s.Low), I (s.High)], I (most)]
noncomputable def growth_isPart (s : XSpan) (most : Int) : Bool :=
  bif decide (s.Low ≥ 0) then (bif decide (s.Low ≤ s.High) then decide (s.High ≤ most)
    else false)
  else false
theorem growth_isPart_fc (s : XSpan) (most : Int) : FC P GG 107 (A_growth_isPart s most) [] (.bool (growth_isPart s most)) := by
  refine FC.of_fsat 21 100 Tryd.func107 (by kernel_rfl) (by kernel_rfl) (by kernel_rfl) trivial ?_
  rcases bb (decide (s.Low ≥ 0)) with h1 | h1
  ·rcases bb (decide (s.Low ≤ s.High)) with h2 | h2
   ·have e : growth_isPart s most = decide (s.High ≤ most) := by unfold growth_isPart; rw [h1, cT, h2, cT]; first | done | rfl
    rw [e]
    exact FSat.d pfT 10 (hR 4 (hT :: (hR 5 (hT :: (hR 8 []))))) [] (pc h1 <| pc h2 <| pn) (by kernel_rfl) (by kernel_rfl)
   ·have e : growth_isPart s most = false := by unfold growth_isPart; rw [h1, cT, h2, cF]; first | done | rfl
    rw [e]
    exact FSat.d pfT 10 (hR 4 (hT :: (hR 5 (hF :: (hR 4 []))))) [] (pc h1 <| pc h2 <| pn) (by kernel_rfl) (by kernel_rfl)
  ·have e : growth_isPart s most = false := by unfold growth_isPart; rw [h1, cF]; first | done | rfl
   rw [e]
   exact FSat.d pfT 10 (hR 4 (hF :: (hR 5 []))) [] (pc h1 <| pn) (by kernel_rfl) (by kernel_rfl)

/- greenhew/growth.sproutsAreDefined$1 -/
abbrev A_growth_sproutsAreDefined_1 (s : XSpan) : List Value := [.agg #[I (s.Low), I (s.High)]]
noncomputable def growth_sproutsAreDefined_1 (s : XSpan) : Bool :=
  growth_isPart s 300
theorem growth_sproutsAreDefined_1_fc (s : XSpan) : FC P GG 120 (A_growth_sproutsAreDefined_1 s) [] (.bool (growth_sproutsAreDefined_1 s)) := by
  refine FC.of_fsat 5 100 Tryd.func120 (by kernel_rfl) (by kernel_rfl) (by kernel_rfl) trivial ?_
  have e : growth_sproutsAreDefined_1 s = growth_isPart s 300 := by unfold growth_sproutsAreDefined_1; rfl
  rw [e]
  exact FSat.d pfT 10 [hE, hE, hE, (hC (.bool (growth_isPart s 300))), hE] [] (pc (growth_isPart_fc s 300) <| pn) (by kernel_rfl) (by kernel_rfl)

/- greenhew/growth.all[greenhew/api.Span] -/
noncomputable abbrev z12i0 (l : List XSpan) (v9 : Int) : Hint := (hL (.agg #[I ((at_ zXSpan l v9).Low), I ((at_ zXSpan l v9).High)]))
noncomputable abbrev z12i1 (l : List XSpan) (v9 : Int) : Hint := (hB (hC (.bool (growth_sproutsAreDefined_1 (at_ zXSpan l v9)))) true)
abbrev z12r2 (l : List XSpan) (v9 : Int) : Prop := RowLd P 56 (encL cXSpan l) (0 + v9.toNat * 2) (.agg #[I ((at_ zXSpan l v9).Low), I ((at_ zXSpan l v9).High)])
noncomputable abbrev z12i3 (l : List XSpan) (v9 : Int) : Hint := (hB (hC (.bool (growth_sproutsAreDefined_1 (at_ zXSpan l v9)))) false)
abbrev A_api_Span (l : List XSpan) (q10 : Nat) : List Value := [.slice (some ⟨10, 0, none⟩) (l.length) (q10), .func (.func 120) #[] #[]]
abbrev K_api_Span (l : List XSpan) : List (Nat × List Value) := [(10, encL cXSpan l)]
noncomputable def api_Span_L (fu : Nat) (l : List XSpan) : Nat → (Bool → Int → Option Bool)
  | 0 => (fun _ _ => none)
  | fk + 1 => (fun v4 v9 => bif decide (v9 < ((l.length : Nat) : Int)) then (bif decide (0 ≤ v9 ∧ v9 < ((l.length : Nat) : Int)) then (bif growth_sproutsAreDefined_1 (at_ zXSpan l v9) then api_Span_L fu l fk v4 (W (v9 + 1))
        else some false) else none)
      else some true)
theorem api_Span_L_s0 (fu : Nat) (l : List XSpan) (fk : Nat) (v4 : Bool) (v9 : Int) : api_Span_L fu l (fk + 1) v4 v9 = (bif decide (v9 < ((l.length : Nat) : Int)) then (bif decide (0 ≤ v9 ∧ v9 < ((l.length : Nat) : Int)) then (bif growth_sproutsAreDefined_1 (at_ zXSpan l v9) then api_Span_L fu l fk v4 (W (v9 + 1))
        else some false) else none)
      else some true) := rfl
noncomputable def api_Span (fu : Nat) (l : List XSpan) : Option Bool :=
  api_Span_L fu l fu false 0
theorem api_Span_L_fs (fu : Nat) (l : List XSpan) (q10 : Nat) : ∀ fk, (∀ (v4 : Bool) (v9 : Int) (r : Bool), api_Span_L fu l fk v4 v9 = some r → FSat P GG Tryd.f119 (.bool (r)) (ids (looses (K_api_Span l))) 18 [.lp (cA (bodyOf Tryd.f119) [1, 0, 1, 0, 0]), .blk 0, .code (cA (bodyOf Tryd.f119) [1, 1])] (tOf 18 [(1, .func (.func 120) #[] #[]), (4, .bool (v4)), (7, .slice (some ⟨10, 0, none⟩) (l.length) (q10)), (8, I (((l.length : Nat) : Int))), (9, I (v9))]) (mOf 100 [(0, .rom [I (1), I (2), I (3)] .glob), (10, .rom (encL cXSpan l) .loose)])) := by
  intro fk
  induction fk with
  | zero => exact fun _ _ r hh => by cases hh
  | succ fk ih =>
    · intro v4 v9 r hh
      rw [api_Span_L_s0] at hh
      rcases bb (decide (v9 < ((l.length : Nat) : Int))) with h1 | h1
      ·rw [h1, cT] at hh
       rcases bb (decide (0 ≤ v9 ∧ v9 < ((l.length : Nat) : Int))) with h2 | h2
       rotate_left
       ·rw [h2, cF] at hh; cases hh
       ·rw [h2, cT] at hh
        rcases bb (growth_sproutsAreDefined_1 (at_ zXSpan l v9)) with h3 | h3
        ·rw [h3, cT] at hh
         have nx := ih v4 (W (v9 + 1)) r hh
         refine FSat.s pfT 22 (hT :: hX :: (z12i0 l v9) :: (hR 4 [(z12i1 l v9), hE, hE, hE])) [.go, .st [1, 4, 7, 8, 9] [0, 10]] (pc h1 <| pt (0 ≤ v9 ∧ v9 < ((l.length : Nat) : Int)) (of_decide_eq_true h2) <| pt (z12r2 l v9) (RowLd.elem cXSpan_len _ (.inl ⟨_, rfl⟩) rfl rfl _ _ (of_decide_eq_true h2)) <| pc (growth_sproutsAreDefined_1_fc (at_ zXSpan l v9)) <| pc h3 <| pn) (by kernel_rfl) 100 (by kernel_rfl) ?_ nx
         exact ⟨PinL.lit (by kernel_rfl), PinL.pf (encL_pf cXSpan_pf _), trivial⟩
        ·rw [h3, cF] at hh
         rw [← sI hh]
         exact FSat.d pfT 21 (hT :: hX :: (z12i0 l v9) :: (hR 4 [(z12i3 l v9), hE, hE])) [.go] (pc h1 <| pt (0 ≤ v9 ∧ v9 < ((l.length : Nat) : Int)) (of_decide_eq_true h2) <| pt (z12r2 l v9) (RowLd.elem cXSpan_len _ (.inl ⟨_, rfl⟩) rfl rfl _ _ (of_decide_eq_true h2)) <| pc (growth_sproutsAreDefined_1_fc (at_ zXSpan l v9)) <| pc h3 <| pn) (by kernel_rfl) (by kernel_rfl)
      ·rw [h1, cF] at hh
       rw [← sI hh]
       exact FSat.d pfT 14 [hF, hE] [.go] (pc h1 <| pn) (by kernel_rfl) (by kernel_rfl)
theorem api_Span_fc (fu : Nat) (l : List XSpan) (q10 : Nat) (r : Bool) (hh : api_Span fu l = some r) : FC P GG 119 (A_api_Span l q10) (K_api_Span l) (.bool (r)) := by
  refine FC.of_fsat 18 100 Tryd.func119 (by kernel_rfl) (by kernel_rfl) (by kernel_rfl) ⟨PinL.pf (encL_pf cXSpan_pf _), trivial⟩ ?_
  unfold api_Span at hh
  have nx := api_Span_L_fs fu l q10 fu false 0 r hh
  refine FSat.s pfT 13 (hR 4 []) [.st [1, 4, 7, 8, 9] [0, 10]] (pn) (by kernel_rfl) 100 (by kernel_rfl) ?_ nx
  exact ⟨PinL.lit (by kernel_rfl), PinL.pf (encL_pf cXSpan_pf _), trivial⟩

/- greenhew/growth.sproutsAreDefined -/
noncomputable abbrev z11i0 (l : List XSpan) : Hint := (hB (hC (.bool (growth_within ((l.length : Nat) : Int) 1 60))) true)
noncomputable abbrev z11i1 (l : List XSpan) (q10 : Nat) (x1 : Bool) : Hint := (hM (.bool (x1)) (.bool (x1)) (A_api_Span l q10) (K_api_Span l) [(10, 10, 0)])
theorem z11p2 (l : List XSpan) (q10 : Nat) : VRs (Ren.emb [(10, 10, 0)]) (A_api_Span l q10) [.slice (some ⟨10, 0, none⟩) (l.length) (q10), .func (.func 120) #[] #[]] := (.cons _ _ _ _ (.slc 10 0 _ _ _ ⟨10, 0, 0, 0⟩ rfl (.inl rfl)) (.cons _ _ _ _ (.func _ _ _ _ _ (fun _ h => by cases h) .nil .nil) .nil))
abbrev z11r3 (l : List XSpan) : Prop := MemAt (Ren.emb [(10, 10, 0)]) (encL cXSpan l) 0 (encL cXSpan l) ∧ True
noncomputable abbrev z11i4 (l : List XSpan) : Hint := (hB (hC (.bool (growth_within ((l.length : Nat) : Int) 1 60))) false)
abbrev A_growth_sproutsAreDefined (l : List XSpan) (q10 : Nat) : List Value := [.slice (some ⟨10, 0, none⟩) (l.length) (q10)]
abbrev K_growth_sproutsAreDefined (l : List XSpan) : List (Nat × List Value) := [(10, encL cXSpan l)]
noncomputable def growth_sproutsAreDefined (fu : Nat) (l : List XSpan) : Option Bool :=
  bif growth_within ((l.length : Nat) : Int) 1 60 then (Option.bind (api_Span fu l) fun x1 =>
    some x1)
  else some false
theorem growth_sproutsAreDefined_fc (fu : Nat) (l : List XSpan) (q10 : Nat) (r : Bool) (hh : growth_sproutsAreDefined fu l = some r) : FC P GG 96 (A_growth_sproutsAreDefined l q10) (K_growth_sproutsAreDefined l) (.bool (r)) := by
  refine FC.of_fsat 10 100 Tryd.func96 (by kernel_rfl) (by kernel_rfl) (by kernel_rfl) ⟨PinL.pf (encL_pf cXSpan_pf _), trivial⟩ ?_
  unfold growth_sproutsAreDefined at hh
  rcases bb (growth_within ((l.length : Nat) : Int) 1 60) with h1 | h1
  ·rw [h1, cT] at hh
   cases h2 : api_Span fu l with
   | none => rw [h2, oN] at hh; cases hh
   | some x1 =>
    rw [h2, oS] at hh
    rw [← sI hh]
    exact FSat.d pfT 10 [hE, hE, hE, (z11i0 l), hE, hE, (z11i1 l q10 x1), hE, hE] [] (pc (growth_within_fc ((l.length : Nat) : Int) 1 60) <| pc h1 <| pc (api_Span_fc fu l q10 x1 h2) <| pc (z11p2 l q10) <| pt (z11r3 l) (⟨MemAt.same _ (encL_pf cXSpan_pf _), trivial⟩) <| pt (VR (Ren.emb [(10, 10, 0)]) (.bool (x1)) (.bool (x1))) (selfB_self 9 _ rfl _) <| pn) (by kernel_rfl) (by kernel_rfl)
  ·rw [h1, cF] at hh
   rw [← sI hh]
   exact FSat.d pfT 10 [hE, hE, hE, (z11i4 l), hE, hE, hE] [] (pc (growth_within_fc ((l.length : Nat) : Int) 1 60) <| pc h1 <| pn) (by kernel_rfl) (by kernel_rfl)

/- greenhew/growth.speciesIsDefined -/
noncomputable abbrev z5i0 (s : XSpecies) (q10 : Nat) (x1 : Bool) : Hint := (hB (hM (.bool (x1)) (.bool (x1)) (A_growth_yearsAreDefined s.Rise 5000 q10) (K_growth_yearsAreDefined s.Rise) [(10, 10, 0)]) true)
noncomputable abbrev z5i1 (s : XSpecies) (q11 : Nat) (x2 : Bool) : Hint := (hB (hM (.bool (x2)) (.bool (x2)) (A_growth_yearsAreDefined s.Thick 300 q11) (K_growth_yearsAreDefined s.Thick) [(10, 11, 0)]) true)
noncomputable abbrev z5i2 (s : XSpecies) (q12 : Nat) (x3 : Bool) : Hint := (hB (hM (.bool (x3)) (.bool (x3)) (A_growth_ladderIsDefined s.Ladder q12) (K_growth_ladderIsDefined s.Ladder) [(10, 12, 0)]) true)
noncomputable abbrev z5i3 (s : XSpecies) (q13 : Nat) (x4 : Bool) : Hint := (hM (.bool (x4)) (.bool (x4)) (A_growth_sproutsAreDefined s.Sprouts q13) (K_growth_sproutsAreDefined s.Sprouts) [(10, 13, 0)])
theorem z5p4 (s : XSpecies) (q10 : Nat) : VRs (Ren.emb [(10, 10, 0)]) (A_growth_yearsAreDefined s.Rise 5000 q10) [.slice (some ⟨10, 0, none⟩) (s.Rise.length) (q10), I (5000)] := (.cons _ _ _ _ (.slc 10 0 _ _ _ ⟨10, 0, 0, 0⟩ rfl (.inl rfl)) (.cons _ _ _ _ (VR.of_pf rfl) .nil))
theorem z5p5 (s : XSpecies) (q11 : Nat) : VRs (Ren.emb [(10, 11, 0)]) (A_growth_yearsAreDefined s.Thick 300 q11) [.slice (some ⟨11, 0, none⟩) (s.Thick.length) (q11), I (300)] := (.cons _ _ _ _ (.slc 10 0 _ _ _ ⟨11, 0, 0, 0⟩ rfl (.inl rfl)) (.cons _ _ _ _ (VR.of_pf rfl) .nil))
theorem z5p6 (s : XSpecies) (q12 : Nat) : VRs (Ren.emb [(10, 12, 0)]) (A_growth_ladderIsDefined s.Ladder q12) [.slice (some ⟨12, 0, none⟩) (s.Ladder.length) (q12)] := (.cons _ _ _ _ (.slc 10 0 _ _ _ ⟨12, 0, 0, 0⟩ rfl (.inl rfl)) .nil)
theorem z5p7 (s : XSpecies) (q13 : Nat) : VRs (Ren.emb [(10, 13, 0)]) (A_growth_sproutsAreDefined s.Sprouts q13) [.slice (some ⟨13, 0, none⟩) (s.Sprouts.length) (q13)] := (.cons _ _ _ _ (.slc 10 0 _ _ _ ⟨13, 0, 0, 0⟩ rfl (.inl rfl)) .nil)
abbrev z5r8 (s : XSpecies) : Prop := MemAt (Ren.emb [(10, 10, 0)]) (encL cInt s.Rise) 0 (encL cInt s.Rise) ∧ True
abbrev z5r9 (s : XSpecies) : Prop := MemAt (Ren.emb [(10, 11, 0)]) (encL cInt s.Thick) 0 (encL cInt s.Thick) ∧ True
abbrev z5r10 (s : XSpecies) : Prop := MemAt (Ren.emb [(10, 12, 0)]) (encL cXRung s.Ladder) 0 (encL cXRung s.Ladder) ∧ True
abbrev z5r11 (s : XSpecies) : Prop := MemAt (Ren.emb [(10, 13, 0)]) (encL cXSpan s.Sprouts) 0 (encL cXSpan s.Sprouts) ∧ True
noncomputable abbrev z5i12 (s : XSpecies) (q12 : Nat) (x3 : Bool) : Hint := (hB (hM (.bool (x3)) (.bool (x3)) (A_growth_ladderIsDefined s.Ladder q12) (K_growth_ladderIsDefined s.Ladder) [(10, 12, 0)]) false)
noncomputable abbrev z5i13 (s : XSpecies) (q11 : Nat) (x2 : Bool) : Hint := (hB (hM (.bool (x2)) (.bool (x2)) (A_growth_yearsAreDefined s.Thick 300 q11) (K_growth_yearsAreDefined s.Thick) [(10, 11, 0)]) false)
noncomputable abbrev z5i14 (s : XSpecies) (q10 : Nat) (x1 : Bool) : Hint := (hB (hM (.bool (x1)) (.bool (x1)) (A_growth_yearsAreDefined s.Rise 5000 q10) (K_growth_yearsAreDefined s.Rise) [(10, 10, 0)]) false)
abbrev A_growth_speciesIsDefined (s : XSpecies) (q10 q11 q12 q13 : Nat) : List Value := [.agg #[.slice (some ⟨10, 0, none⟩) (s.Rise.length) (q10), .slice (some ⟨11, 0, none⟩) (s.Thick.length) (q11), I (s.Top), I (s.Stout), I (s.Shade), I (s.Reach), .slice (some ⟨12, 0, none⟩) (s.Ladder.length) (q12), .slice (some ⟨13, 0, none⟩) (s.Sprouts.length) (q13)]]
abbrev K_growth_speciesIsDefined (s : XSpecies) : List (Nat × List Value) := [(10, encL cInt s.Rise), (11, encL cInt s.Thick), (12, encL cXRung s.Ladder), (13, encL cXSpan s.Sprouts)]
noncomputable def growth_speciesIsDefined (fu : Nat) (s : XSpecies) : Option Bool :=
  Option.bind (growth_yearsAreDefined fu s.Rise 5000) fun x1 =>
  bif x1 then (Option.bind (growth_yearsAreDefined fu s.Thick 300) fun x2 =>
    bif x2 then (bif growth_within s.Top 1 40000 then (bif growth_within s.Stout 1 3000 then (bif growth_within s.Shade 0 99 then (bif growth_within s.Reach 0 40000 then (Option.bind (growth_ladderIsDefined fu s.Ladder) fun x3 =>
              bif x3 then (Option.bind (growth_sproutsAreDefined fu s.Sprouts) fun x4 =>
                some x4)
              else some false)
            else some false)
          else some false)
        else some false)
      else some false)
    else some false)
  else some false
theorem growth_speciesIsDefined_fc (fu : Nat) (s : XSpecies) (q10 q11 q12 q13 : Nat) (r : Bool) (hh : growth_speciesIsDefined fu s = some r) : FC P GG 57 (A_growth_speciesIsDefined s q10 q11 q12 q13) (K_growth_speciesIsDefined s) (.bool (r)) := by
  refine FC.of_fsat 41 100 Tryd.func57 (by kernel_rfl) (by kernel_rfl) (by kernel_rfl) ⟨PinL.pf (encL_pf cInt_pf _), PinL.pf (encL_pf cInt_pf _), PinL.pf (encL_pf cXRung_pf _), PinL.pf (encL_pf cXSpan_pf _), trivial⟩ ?_
  unfold growth_speciesIsDefined at hh
  cases h1 : growth_yearsAreDefined fu s.Rise 5000 with
  | none => rw [h1, oN] at hh; cases hh
  | some x1 =>
   rw [h1, oS] at hh
   rcases bb (x1) with h2 | h2
   ·rw [h2, cT] at hh
    cases h3 : growth_yearsAreDefined fu s.Thick 300 with
    | none => rw [h3, oN] at hh; cases hh
    | some x2 =>
     rw [h3, oS] at hh
     rcases bb (x2) with h4 | h4
     ·rw [h4, cT] at hh
      rcases bb (growth_within s.Top 1 40000) with h5 | h5
      ·rw [h5, cT] at hh
       rcases bb (growth_within s.Stout 1 3000) with h6 | h6
       ·rw [h6, cT] at hh
        rcases bb (growth_within s.Shade 0 99) with h7 | h7
        ·rw [h7, cT] at hh
         rcases bb (growth_within s.Reach 0 40000) with h8 | h8
         ·rw [h8, cT] at hh
          cases h9 : growth_ladderIsDefined fu s.Ladder with
          | none => rw [h9, oN] at hh; cases hh
          | some x3 =>
           rw [h9, oS] at hh
           rcases bb (x3) with h10 | h10
           ·rw [h10, cT] at hh
            cases h11 : growth_sproutsAreDefined fu s.Sprouts with
            | none => rw [h11, oN] at hh; cases hh
            | some x4 =>
             rw [h11, oS] at hh
             rw [← sI hh]
             exact FSat.d pfT 10 (hR 4 ((z5i0 s q10 x1) :: hE :: hE :: hE :: (z5i1 s q11 x2) :: (hR 4 ((hB (hC (.bool (growth_within s.Top 1 40000))) true) :: (hR 4 ((hB (hC (.bool (growth_within s.Stout 1 3000))) true) :: (hR 4 ((hB (hC (.bool (growth_within s.Shade 0 99))) true) :: (hR 4 ((hB (hC (.bool (growth_within s.Reach 0 40000))) true) :: (hR 4 ((z5i2 s q12 x3) :: (hR 4 [(z5i3 s q13 x4), hE, hE]))))))))))))) [] (pc (growth_yearsAreDefined_fc fu s.Rise 5000 q10 x1 h1) <| pc (z5p4 s q10) <| pt (z5r8 s) (⟨MemAt.same _ (encL_pf cInt_pf _), trivial⟩) <| pt (VR (Ren.emb [(10, 10, 0)]) (.bool (x1)) (.bool (x1))) (selfB_self 9 _ rfl _) <| pc h2 <| pc (growth_yearsAreDefined_fc fu s.Thick 300 q11 x2 h3) <| pc (z5p5 s q11) <| pt (z5r9 s) (⟨MemAt.same _ (encL_pf cInt_pf _), trivial⟩) <| pt (VR (Ren.emb [(10, 11, 0)]) (.bool (x2)) (.bool (x2))) (selfB_self 9 _ rfl _) <| pc h4 <| pc (growth_within_fc s.Top 1 40000) <| pc h5 <| pc (growth_within_fc s.Stout 1 3000) <| pc h6 <| pc (growth_within_fc s.Shade 0 99) <| pc h7 <| pc (growth_within_fc s.Reach 0 40000) <| pc h8 <| pc (growth_ladderIsDefined_fc fu s.Ladder q12 x3 h9) <| pc (z5p6 s q12) <| pt (z5r10 s) (⟨MemAt.same _ (encL_pf cXRung_pf _), trivial⟩) <| pt (VR (Ren.emb [(10, 12, 0)]) (.bool (x3)) (.bool (x3))) (selfB_self 9 _ rfl _) <| pc h10 <| pc (growth_sproutsAreDefined_fc fu s.Sprouts q13 x4 h11) <| pc (z5p7 s q13) <| pt (z5r11 s) (⟨MemAt.same _ (encL_pf cXSpan_pf _), trivial⟩) <| pt (VR (Ren.emb [(10, 13, 0)]) (.bool (x4)) (.bool (x4))) (selfB_self 9 _ rfl _) <| pn) (by kernel_rfl) (by kernel_rfl)
           ·rw [h10, cF] at hh
            rw [← sI hh]
            exact FSat.d pfT 10 (hR 4 ((z5i0 s q10 x1) :: hE :: hE :: hE :: (z5i1 s q11 x2) :: (hR 4 ((hB (hC (.bool (growth_within s.Top 1 40000))) true) :: (hR 4 ((hB (hC (.bool (growth_within s.Stout 1 3000))) true) :: (hR 4 ((hB (hC (.bool (growth_within s.Shade 0 99))) true) :: (hR 4 ((hB (hC (.bool (growth_within s.Reach 0 40000))) true) :: (hR 4 ((z5i12 s q12 x3) :: (hR 4 []))))))))))))) [] (pc (growth_yearsAreDefined_fc fu s.Rise 5000 q10 x1 h1) <| pc (z5p4 s q10) <| pt (z5r8 s) (⟨MemAt.same _ (encL_pf cInt_pf _), trivial⟩) <| pt (VR (Ren.emb [(10, 10, 0)]) (.bool (x1)) (.bool (x1))) (selfB_self 9 _ rfl _) <| pc h2 <| pc (growth_yearsAreDefined_fc fu s.Thick 300 q11 x2 h3) <| pc (z5p5 s q11) <| pt (z5r9 s) (⟨MemAt.same _ (encL_pf cInt_pf _), trivial⟩) <| pt (VR (Ren.emb [(10, 11, 0)]) (.bool (x2)) (.bool (x2))) (selfB_self 9 _ rfl _) <| pc h4 <| pc (growth_within_fc s.Top 1 40000) <| pc h5 <| pc (growth_within_fc s.Stout 1 3000) <| pc h6 <| pc (growth_within_fc s.Shade 0 99) <| pc h7 <| pc (growth_within_fc s.Reach 0 40000) <| pc h8 <| pc (growth_ladderIsDefined_fc fu s.Ladder q12 x3 h9) <| pc (z5p6 s q12) <| pt (z5r10 s) (⟨MemAt.same _ (encL_pf cXRung_pf _), trivial⟩) <| pt (VR (Ren.emb [(10, 12, 0)]) (.bool (x3)) (.bool (x3))) (selfB_self 9 _ rfl _) <| pc h10 <| pn) (by kernel_rfl) (by kernel_rfl)
         ·rw [h8, cF] at hh
          rw [← sI hh]
          exact FSat.d pfT 10 (hR 4 ((z5i0 s q10 x1) :: hE :: hE :: hE :: (z5i1 s q11 x2) :: (hR 4 ((hB (hC (.bool (growth_within s.Top 1 40000))) true) :: (hR 4 ((hB (hC (.bool (growth_within s.Stout 1 3000))) true) :: (hR 4 ((hB (hC (.bool (growth_within s.Shade 0 99))) true) :: (hR 4 ((hB (hC (.bool (growth_within s.Reach 0 40000))) false) :: (hR 6 []))))))))))) [] (pc (growth_yearsAreDefined_fc fu s.Rise 5000 q10 x1 h1) <| pc (z5p4 s q10) <| pt (z5r8 s) (⟨MemAt.same _ (encL_pf cInt_pf _), trivial⟩) <| pt (VR (Ren.emb [(10, 10, 0)]) (.bool (x1)) (.bool (x1))) (selfB_self 9 _ rfl _) <| pc h2 <| pc (growth_yearsAreDefined_fc fu s.Thick 300 q11 x2 h3) <| pc (z5p5 s q11) <| pt (z5r9 s) (⟨MemAt.same _ (encL_pf cInt_pf _), trivial⟩) <| pt (VR (Ren.emb [(10, 11, 0)]) (.bool (x2)) (.bool (x2))) (selfB_self 9 _ rfl _) <| pc h4 <| pc (growth_within_fc s.Top 1 40000) <| pc h5 <| pc (growth_within_fc s.Stout 1 3000) <| pc h6 <| pc (growth_within_fc s.Shade 0 99) <| pc h7 <| pc (growth_within_fc s.Reach 0 40000) <| pc h8 <| pn) (by kernel_rfl) (by kernel_rfl)
        ·rw [h7, cF] at hh
         rw [← sI hh]
         exact FSat.d pfT 10 (hR 4 ((z5i0 s q10 x1) :: hE :: hE :: hE :: (z5i1 s q11 x2) :: (hR 4 ((hB (hC (.bool (growth_within s.Top 1 40000))) true) :: (hR 4 ((hB (hC (.bool (growth_within s.Stout 1 3000))) true) :: (hR 4 ((hB (hC (.bool (growth_within s.Shade 0 99))) false) :: (hR 8 []))))))))) [] (pc (growth_yearsAreDefined_fc fu s.Rise 5000 q10 x1 h1) <| pc (z5p4 s q10) <| pt (z5r8 s) (⟨MemAt.same _ (encL_pf cInt_pf _), trivial⟩) <| pt (VR (Ren.emb [(10, 10, 0)]) (.bool (x1)) (.bool (x1))) (selfB_self 9 _ rfl _) <| pc h2 <| pc (growth_yearsAreDefined_fc fu s.Thick 300 q11 x2 h3) <| pc (z5p5 s q11) <| pt (z5r9 s) (⟨MemAt.same _ (encL_pf cInt_pf _), trivial⟩) <| pt (VR (Ren.emb [(10, 11, 0)]) (.bool (x2)) (.bool (x2))) (selfB_self 9 _ rfl _) <| pc h4 <| pc (growth_within_fc s.Top 1 40000) <| pc h5 <| pc (growth_within_fc s.Stout 1 3000) <| pc h6 <| pc (growth_within_fc s.Shade 0 99) <| pc h7 <| pn) (by kernel_rfl) (by kernel_rfl)
       ·rw [h6, cF] at hh
        rw [← sI hh]
        exact FSat.d pfT 10 (hR 4 ((z5i0 s q10 x1) :: hE :: hE :: hE :: (z5i1 s q11 x2) :: (hR 4 ((hB (hC (.bool (growth_within s.Top 1 40000))) true) :: (hR 4 ((hB (hC (.bool (growth_within s.Stout 1 3000))) false) :: (hR 10 []))))))) [] (pc (growth_yearsAreDefined_fc fu s.Rise 5000 q10 x1 h1) <| pc (z5p4 s q10) <| pt (z5r8 s) (⟨MemAt.same _ (encL_pf cInt_pf _), trivial⟩) <| pt (VR (Ren.emb [(10, 10, 0)]) (.bool (x1)) (.bool (x1))) (selfB_self 9 _ rfl _) <| pc h2 <| pc (growth_yearsAreDefined_fc fu s.Thick 300 q11 x2 h3) <| pc (z5p5 s q11) <| pt (z5r9 s) (⟨MemAt.same _ (encL_pf cInt_pf _), trivial⟩) <| pt (VR (Ren.emb [(10, 11, 0)]) (.bool (x2)) (.bool (x2))) (selfB_self 9 _ rfl _) <| pc h4 <| pc (growth_within_fc s.Top 1 40000) <| pc h5 <| pc (growth_within_fc s.Stout 1 3000) <| pc h6 <| pn) (by kernel_rfl) (by kernel_rfl)
      ·rw [h5, cF] at hh
       rw [← sI hh]
       exact FSat.d pfT 10 (hR 4 ((z5i0 s q10 x1) :: hE :: hE :: hE :: (z5i1 s q11 x2) :: (hR 4 ((hB (hC (.bool (growth_within s.Top 1 40000))) false) :: (hR 12 []))))) [] (pc (growth_yearsAreDefined_fc fu s.Rise 5000 q10 x1 h1) <| pc (z5p4 s q10) <| pt (z5r8 s) (⟨MemAt.same _ (encL_pf cInt_pf _), trivial⟩) <| pt (VR (Ren.emb [(10, 10, 0)]) (.bool (x1)) (.bool (x1))) (selfB_self 9 _ rfl _) <| pc h2 <| pc (growth_yearsAreDefined_fc fu s.Thick 300 q11 x2 h3) <| pc (z5p5 s q11) <| pt (z5r9 s) (⟨MemAt.same _ (encL_pf cInt_pf _), trivial⟩) <| pt (VR (Ren.emb [(10, 11, 0)]) (.bool (x2)) (.bool (x2))) (selfB_self 9 _ rfl _) <| pc h4 <| pc (growth_within_fc s.Top 1 40000) <| pc h5 <| pn) (by kernel_rfl) (by kernel_rfl)
     ·rw [h4, cF] at hh
      rw [← sI hh]
      exact FSat.d pfT 10 (hR 4 ((z5i0 s q10 x1) :: hE :: hE :: hE :: (z5i13 s q11 x2) :: (hR 14 []))) [] (pc (growth_yearsAreDefined_fc fu s.Rise 5000 q10 x1 h1) <| pc (z5p4 s q10) <| pt (z5r8 s) (⟨MemAt.same _ (encL_pf cInt_pf _), trivial⟩) <| pt (VR (Ren.emb [(10, 10, 0)]) (.bool (x1)) (.bool (x1))) (selfB_self 9 _ rfl _) <| pc h2 <| pc (growth_yearsAreDefined_fc fu s.Thick 300 q11 x2 h3) <| pc (z5p5 s q11) <| pt (z5r9 s) (⟨MemAt.same _ (encL_pf cInt_pf _), trivial⟩) <| pt (VR (Ren.emb [(10, 11, 0)]) (.bool (x2)) (.bool (x2))) (selfB_self 9 _ rfl _) <| pc h4 <| pn) (by kernel_rfl) (by kernel_rfl)
   ·rw [h2, cF] at hh
    rw [← sI hh]
    exact FSat.d pfT 10 (hR 4 ((z5i14 s q10 x1) :: (hR 15 []))) [] (pc (growth_yearsAreDefined_fc fu s.Rise 5000 q10 x1 h1) <| pc (z5p4 s q10) <| pt (z5r8 s) (⟨MemAt.same _ (encL_pf cInt_pf _), trivial⟩) <| pt (VR (Ren.emb [(10, 10, 0)]) (.bool (x1)) (.bool (x1))) (selfB_self 9 _ rfl _) <| pc h2 <| pn) (by kernel_rfl) (by kernel_rfl)

/- greenhew/growth.standIsDefined -/
abbrev A_growth_standIsDefined (x_0 : XStand) : List Value := [.agg #[I (x_0.Age), I (x_0.Shoots), I (x_0.Height), I (x_0.Girth)]]
noncomputable def growth_standIsDefined (x_0 : XStand) : Bool :=
  bif growth_within x_0.Age 0 100000 then (bif growth_within x_0.Shoots 0 300 then (bif growth_within x_0.Height 0 40000 then growth_within x_0.Girth 0 3000
      else false)
    else false)
  else false
theorem growth_standIsDefined_fc (x_0 : XStand) : FC P GG 58 (A_growth_standIsDefined x_0) [] (.bool (growth_standIsDefined x_0)) := by
  refine FC.of_fsat 21 100 Tryd.func58 (by kernel_rfl) (by kernel_rfl) (by kernel_rfl) trivial ?_
  rcases bb (growth_within x_0.Age 0 100000) with h1 | h1
  ·rcases bb (growth_within x_0.Shoots 0 300) with h2 | h2
   ·rcases bb (growth_within x_0.Height 0 40000) with h3 | h3
    ·have e : growth_standIsDefined x_0 = growth_within x_0.Girth 0 3000 := by unfold growth_standIsDefined; rw [h1, cT, h2, cT, h3, cT]; first | done | rfl
     rw [e]
     exact FSat.d pfT 10 (hR 4 ((hB (hC (.bool (growth_within x_0.Age 0 100000))) true) :: hE :: hE :: hE :: (hB (hC (.bool (growth_within x_0.Shoots 0 300))) true) :: (hR 4 ((hB (hC (.bool (growth_within x_0.Height 0 40000))) true) :: (hR 4 [(hC (.bool (growth_within x_0.Girth 0 3000))), hE, hE]))))) [] (pc (growth_within_fc x_0.Age 0 100000) <| pc h1 <| pc (growth_within_fc x_0.Shoots 0 300) <| pc h2 <| pc (growth_within_fc x_0.Height 0 40000) <| pc h3 <| pc (growth_within_fc x_0.Girth 0 3000) <| pn) (by kernel_rfl) (by kernel_rfl)
    ·have e : growth_standIsDefined x_0 = false := by unfold growth_standIsDefined; rw [h1, cT, h2, cT, h3, cF]; first | done | rfl
     rw [e]
     exact FSat.d pfT 10 (hR 4 ((hB (hC (.bool (growth_within x_0.Age 0 100000))) true) :: hE :: hE :: hE :: (hB (hC (.bool (growth_within x_0.Shoots 0 300))) true) :: (hR 4 ((hB (hC (.bool (growth_within x_0.Height 0 40000))) false) :: (hR 4 []))))) [] (pc (growth_within_fc x_0.Age 0 100000) <| pc h1 <| pc (growth_within_fc x_0.Shoots 0 300) <| pc h2 <| pc (growth_within_fc x_0.Height 0 40000) <| pc h3 <| pn) (by kernel_rfl) (by kernel_rfl)
   ·have e : growth_standIsDefined x_0 = false := by unfold growth_standIsDefined; rw [h1, cT, h2, cF]; first | done | rfl
    rw [e]
    exact FSat.d pfT 10 (hR 4 ((hB (hC (.bool (growth_within x_0.Age 0 100000))) true) :: hE :: hE :: hE :: (hB (hC (.bool (growth_within x_0.Shoots 0 300))) false) :: (hR 6 []))) [] (pc (growth_within_fc x_0.Age 0 100000) <| pc h1 <| pc (growth_within_fc x_0.Shoots 0 300) <| pc h2 <| pn) (by kernel_rfl) (by kernel_rfl)
  ·have e : growth_standIsDefined x_0 = false := by unfold growth_standIsDefined; rw [h1, cF]; first | done | rfl
   rw [e]
   exact FSat.d pfT 10 (hR 4 ((hB (hC (.bool (growth_within x_0.Age 0 100000))) false) :: (hR 7 []))) [] (pc (growth_within_fc x_0.Age 0 100000) <| pc h1 <| pn) (by kernel_rfl) (by kernel_rfl)

/- greenhew/growth.weatherIsDefined -/
abbrev A_growth_weatherIsDefined (w : XWeather) : List Value := [.agg #[I (w.Light), I (w.Browse), I (w.Mild)]]
noncomputable def growth_weatherIsDefined (w : XWeather) : Bool :=
  bif growth_within w.Light 0 100 then (bif growth_within w.Browse 0 100 then growth_within w.Mild 0 200
    else false)
  else false
theorem growth_weatherIsDefined_fc (w : XWeather) : FC P GG 59 (A_growth_weatherIsDefined w) [] (.bool (growth_weatherIsDefined w)) := by
  refine FC.of_fsat 16 100 Tryd.func59 (by kernel_rfl) (by kernel_rfl) (by kernel_rfl) trivial ?_
  rcases bb (growth_within w.Light 0 100) with h1 | h1
  ·rcases bb (growth_within w.Browse 0 100) with h2 | h2
   ·have e : growth_weatherIsDefined w = growth_within w.Mild 0 200 := by unfold growth_weatherIsDefined; rw [h1, cT, h2, cT]; first | done | rfl
    rw [e]
    exact FSat.d pfT 10 (hR 4 ((hB (hC (.bool (growth_within w.Light 0 100))) true) :: hE :: hE :: hE :: (hB (hC (.bool (growth_within w.Browse 0 100))) true) :: (hR 4 [(hC (.bool (growth_within w.Mild 0 200))), hE, hE]))) [] (pc (growth_within_fc w.Light 0 100) <| pc h1 <| pc (growth_within_fc w.Browse 0 100) <| pc h2 <| pc (growth_within_fc w.Mild 0 200) <| pn) (by kernel_rfl) (by kernel_rfl)
   ·have e : growth_weatherIsDefined w = false := by unfold growth_weatherIsDefined; rw [h1, cT, h2, cF]; first | done | rfl
    rw [e]
    exact FSat.d pfT 10 (hR 4 ((hB (hC (.bool (growth_within w.Light 0 100))) true) :: hE :: hE :: hE :: (hB (hC (.bool (growth_within w.Browse 0 100))) false) :: (hR 4 []))) [] (pc (growth_within_fc w.Light 0 100) <| pc h1 <| pc (growth_within_fc w.Browse 0 100) <| pc h2 <| pn) (by kernel_rfl) (by kernel_rfl)
  ·have e : growth_weatherIsDefined w = false := by unfold growth_weatherIsDefined; rw [h1, cF]; first | done | rfl
   rw [e]
   exact FSat.d pfT 10 (hR 4 ((hB (hC (.bool (growth_within w.Light 0 100))) false) :: (hR 5 []))) [] (pc (growth_within_fc w.Light 0 100) <| pc h1 <| pn) (by kernel_rfl) (by kernel_rfl)

structure Xgrower where
  Species : XSpecies

def zXgrower : Xgrower := ⟨zXSpecies⟩

/- greenhew/growth.number -/
abbrev A_growth_number (k : Int) : List Value := [.pointer (some ⟨10, 0, none⟩), I (k)]
abbrev K_growth_number (x_0 : XStand) : List (Nat × List Value) := [(10, [I (x_0.Age), I (x_0.Shoots), I (x_0.Height), I (x_0.Girth)])]
theorem growth_number_fc_1 (x_0 : XStand) (k : Int) (h1 : (k == 1) = true) : FC P GG 100 (A_growth_number k) (K_growth_number x_0) (.pointer (some ⟨10, 1, none⟩)) := by
  refine FC.of_fsat 19 100 Tryd.func100 (by kernel_rfl) (by kernel_rfl) (by kernel_rfl) ⟨PinL.lit (by kernel_rfl), trivial⟩ ?_
  exact FSat.d pfT 16 (hE :: hE :: hT :: (hR 5 [])) [] (pc h1 <| pn) (by kernel_rfl) (by kernel_rfl)
theorem growth_number_fc_2 (x_0 : XStand) (k : Int) (h1 : (k == 1) = false) (h2 : (k == 2) = true) : FC P GG 100 (A_growth_number k) (K_growth_number x_0) (.pointer (some ⟨10, 2, none⟩)) := by
  refine FC.of_fsat 19 100 Tryd.func100 (by kernel_rfl) (by kernel_rfl) (by kernel_rfl) ⟨PinL.lit (by kernel_rfl), trivial⟩ ?_
  exact FSat.d pfT 19 (hE :: hE :: hF :: hE :: hT :: (hR 5 [])) [] (pc h1 <| pc h2 <| pn) (by kernel_rfl) (by kernel_rfl)
theorem growth_number_fc_3 (x_0 : XStand) (k : Int) (h1 : (k == 1) = false) (h2 : (k == 2) = false) : FC P GG 100 (A_growth_number k) (K_growth_number x_0) (.pointer (some ⟨10, 3, none⟩)) := by
  refine FC.of_fsat 19 100 Tryd.func100 (by kernel_rfl) (by kernel_rfl) (by kernel_rfl) ⟨PinL.lit (by kernel_rfl), trivial⟩ ?_
  exact FSat.d pfT 19 (hE :: hE :: hF :: hE :: hF :: (hR 5 [])) [] (pc h1 <| pc h2 <| pn) (by kernel_rfl) (by kernel_rfl)

/- greenhew/growth.atAge[int] -/
noncomputable abbrev z21i0 (table : List Int) (age : Int) : Hint := (hL (I ((at_ 0 table (imin age (W (((table.length : Nat) : Int) - 1)))))))
abbrev z21r1 (table : List Int) (age : Int) : Prop := 0 ≤ (imin age (W (((table.length : Nat) : Int) - 1))) ∧ (imin age (W (((table.length : Nat) : Int) - 1))) < ((table.length : Nat) : Int)
abbrev z21r2 (table : List Int) (age : Int) : Prop := RowLd P 3 (encL cInt table) (0 + (imin age (W (((table.length : Nat) : Int) - 1))).toNat * 1) (I ((at_ 0 table (imin age (W (((table.length : Nat) : Int) - 1))))))
abbrev A_growth_atAge (table : List Int) (age : Int) (q10 : Nat) : List Value := [.slice (some ⟨10, 0, none⟩) (table.length) (q10), I (age)]
abbrev K_growth_atAge (table : List Int) : List (Nat × List Value) := [(10, encL cInt table)]
noncomputable def growth_atAge (table : List Int) (age : Int) : Option Int :=
  bif decide (0 ≤ (imin age (W (((table.length : Nat) : Int) - 1))) ∧ (imin age (W (((table.length : Nat) : Int) - 1))) < ((table.length : Nat) : Int)) then some (at_ 0 table (imin age (W (((table.length : Nat) : Int) - 1)))) else none
theorem growth_atAge_fc (table : List Int) (age : Int) (q10 : Nat) (r : Int) (hh : growth_atAge table age = some r) : FC P GG 122 (A_growth_atAge table age q10) (K_growth_atAge table) (I (r)) := by
  refine FC.of_fsat 13 100 Tryd.func122 (by kernel_rfl) (by kernel_rfl) (by kernel_rfl) ⟨PinL.pf (encL_pf cInt_pf _), trivial⟩ ?_
  unfold growth_atAge at hh
  rcases bb (decide (0 ≤ (imin age (W (((table.length : Nat) : Int) - 1))) ∧ (imin age (W (((table.length : Nat) : Int) - 1))) < ((table.length : Nat) : Int))) with h1 | h1
  rotate_left
  ·rw [h1, cF] at hh; cases hh
  ·rw [h1, cT] at hh
   rw [← sI hh]
   exact FSat.d pfT 10 (hR 7 [hX, (z21i0 table age), hE]) [] (pt (z21r1 table age) (of_decide_eq_true h1) <| pt (z21r2 table age) (RowLd.part cInt_len _ rfl rfl _ _ (of_decide_eq_true h1) 0 _ rfl (by decide)) <| pn) (by kernel_rfl) (by kernel_rfl)

/- (greenhew/growth.grower).inWeather -/
abbrev A_growth_grower_inWeather (usual : Int) (w : XWeather) : List Value := [.pointer (some ⟨10, 0, none⟩), I (usual), .agg #[I (w.Light), I (w.Browse), I (w.Mild)]]
abbrev K_growth_grower_inWeather (g : Xgrower) (q11 q12 q13 q14 : Nat) : List (Nat × List Value) := [(11, encL cInt g.Species.Rise), (12, encL cInt g.Species.Thick), (13, encL cXRung g.Species.Ladder), (14, encL cXSpan g.Species.Sprouts), (10, [.slice (some ⟨11, 0, none⟩) (g.Species.Rise.length) (q11), .slice (some ⟨12, 0, none⟩) (g.Species.Thick.length) (q12), I (g.Species.Top), I (g.Species.Stout), I (g.Species.Shade), I (g.Species.Reach), .slice (some ⟨13, 0, none⟩) (g.Species.Ladder.length) (q13), .slice (some ⟨14, 0, none⟩) (g.Species.Sprouts.length) (q14)])]
noncomputable def growth_grower_inWeather (g : Xgrower) (usual : Int) (w : XWeather) : Option Int :=
  bif decide ((W (100 * (W (100 - g.Species.Shade)))) ≠ 0) then some (W ((W ((W (usual * (imax 0 (W (w.Light - g.Species.Shade))))) * w.Mild)).tdiv (W (100 * (W (100 - g.Species.Shade)))))) else none
theorem growth_grower_inWeather_fc (g : Xgrower) (usual : Int) (w : XWeather) (q11 q12 q13 q14 : Nat) (r : Int) (hh : growth_grower_inWeather g usual w = some r) : FC P GG 121 (A_growth_grower_inWeather usual w) (K_growth_grower_inWeather g q11 q12 q13 q14) (I (r)) := by
  refine FC.of_fsat 31 100 Tryd.func121 (by kernel_rfl) (by kernel_rfl) (by kernel_rfl) ⟨PinL.pf (encL_pf cInt_pf _), PinL.pf (encL_pf cInt_pf _), PinL.pf (encL_pf cXRung_pf _), PinL.pf (encL_pf cXSpan_pf _), PinL.lit (by kernel_rfl), trivial⟩ ?_
  unfold growth_grower_inWeather at hh
  rcases bb (decide ((W (100 * (W (100 - g.Species.Shade)))) ≠ 0)) with h1 | h1
  rotate_left
  ·rw [h1, cF] at hh; cases hh
  ·rw [h1, cT] at hh
   rw [← sI hh]
   exact FSat.d pfT 12 (hR 25 [hD, hE]) [] (pt ((W (100 * (W (100 - g.Species.Shade)))) ≠ 0) (of_decide_eq_true h1) <| pn) (by kernel_rfl) (by kernel_rfl)

/- (greenhew/growth.grower).height -/
noncomputable abbrev z20i0 (g : Xgrower) (x_1 : XStand) (q11 : Nat) (x1 : Int) : Hint := (hM (I (x1)) (I (x1)) (A_growth_atAge g.Species.Rise x_1.Age q11) (K_growth_atAge g.Species.Rise) [(10, 11, 0)])
noncomputable abbrev z20i1 (g : Xgrower) (w : XWeather) (q11 q12 q13 q14 : Nat) (x1 x2 : Int) : Hint := (hM (I (x2)) (I (x2)) (A_growth_grower_inWeather x1 w) (K_growth_grower_inWeather g q11 q12 q13 q14) [(11, 11, 0), (12, 12, 0), (13, 13, 0), (14, 14, 0), (10, 10, 0)])
theorem z20p2 (g : Xgrower) (x_1 : XStand) (q11 : Nat) : VRs (Ren.emb [(10, 11, 0)]) (A_growth_atAge g.Species.Rise x_1.Age q11) [.slice (some ⟨11, 0, none⟩) (g.Species.Rise.length) (q11), I (x_1.Age)] := (.cons _ _ _ _ (.slc 10 0 _ _ _ ⟨11, 0, 0, 0⟩ rfl (.inl rfl)) (.cons _ _ _ _ (VR.of_pf rfl) .nil))
theorem z20p3 (w : XWeather) (x1 : Int) : VRs (Ren.emb [(11, 11, 0), (12, 12, 0), (13, 13, 0), (14, 14, 0), (10, 10, 0)]) (A_growth_grower_inWeather x1 w) [.pointer (some ⟨10, 0, none⟩), I (x1), .agg #[I (w.Light), I (w.Browse), I (w.Mild)]] := (.cons _ _ _ _ (.ptr 10 0 ⟨10, 0, 0, 0⟩ rfl) (.cons _ _ _ _ (VR.of_pf rfl) (.cons _ _ _ _ (VR.of_pf rfl) .nil)))
theorem z20p4 (g : Xgrower) (q11 q12 q13 q14 : Nat) : MemAt (Ren.emb [(11, 11, 0), (12, 12, 0), (13, 13, 0), (14, 14, 0), (10, 10, 0)]) (encL cInt g.Species.Rise) 0 (encL cInt g.Species.Rise) ∧ MemAt (Ren.emb [(11, 11, 0), (12, 12, 0), (13, 13, 0), (14, 14, 0), (10, 10, 0)]) (encL cInt g.Species.Thick) 0 (encL cInt g.Species.Thick) ∧ MemAt (Ren.emb [(11, 11, 0), (12, 12, 0), (13, 13, 0), (14, 14, 0), (10, 10, 0)]) (encL cXRung g.Species.Ladder) 0 (encL cXRung g.Species.Ladder) ∧ MemAt (Ren.emb [(11, 11, 0), (12, 12, 0), (13, 13, 0), (14, 14, 0), (10, 10, 0)]) (encL cXSpan g.Species.Sprouts) 0 (encL cXSpan g.Species.Sprouts) ∧ MemAt (Ren.emb [(11, 11, 0), (12, 12, 0), (13, 13, 0), (14, 14, 0), (10, 10, 0)]) [.slice (some ⟨11, 0, none⟩) (g.Species.Rise.length) (q11), .slice (some ⟨12, 0, none⟩) (g.Species.Thick.length) (q12), I (g.Species.Top), I (g.Species.Stout), I (g.Species.Shade), I (g.Species.Reach), .slice (some ⟨13, 0, none⟩) (g.Species.Ladder.length) (q13), .slice (some ⟨14, 0, none⟩) (g.Species.Sprouts.length) (q14)] 0 [.slice (some ⟨11, 0, none⟩) (g.Species.Rise.length) (q11), .slice (some ⟨12, 0, none⟩) (g.Species.Thick.length) (q12), I (g.Species.Top), I (g.Species.Stout), I (g.Species.Shade), I (g.Species.Reach), .slice (some ⟨13, 0, none⟩) (g.Species.Ladder.length) (q13), .slice (some ⟨14, 0, none⟩) (g.Species.Sprouts.length) (q14)] ∧ True := ⟨MemAt.same _ (encL_pf cInt_pf _), MemAt.same _ (encL_pf cInt_pf _), MemAt.same _ (encL_pf cXRung_pf _), MemAt.same _ (encL_pf cXSpan_pf _), MemAt.of (.cons _ _ _ _ (.slc 11 0 _ _ _ ⟨11, 0, 0, 0⟩ rfl (.inl rfl)) (.cons _ _ _ _ (.slc 12 0 _ _ _ ⟨12, 0, 0, 0⟩ rfl (.inl rfl)) (.cons _ _ _ _ (VR.of_pf rfl) (.cons _ _ _ _ (VR.of_pf rfl) (.cons _ _ _ _ (VR.of_pf rfl) (.cons _ _ _ _ (VR.of_pf rfl) (.cons _ _ _ _ (.slc 13 0 _ _ _ ⟨13, 0, 0, 0⟩ rfl (.inl rfl)) (.cons _ _ _ _ (.slc 14 0 _ _ _ ⟨14, 0, 0, 0⟩ rfl (.inl rfl)) .nil)))))))), trivial⟩
abbrev z20r5 (g : Xgrower) : Prop := MemAt (Ren.emb [(10, 11, 0)]) (encL cInt g.Species.Rise) 0 (encL cInt g.Species.Rise) ∧ True
abbrev z20r6 (x2 : Int) : Prop := VR (Ren.emb [(11, 11, 0), (12, 12, 0), (13, 13, 0), (14, 14, 0), (10, 10, 0)]) (I (x2)) (I (x2))
abbrev A_growth_grower_height (x_1 : XStand) (w : XWeather) : List Value := [.pointer (some ⟨10, 0, none⟩), .agg #[I (x_1.Age), I (x_1.Shoots), I (x_1.Height), I (x_1.Girth)], .agg #[I (w.Light), I (w.Browse), I (w.Mild)]]
abbrev K_growth_grower_height (g : Xgrower) (q11 q12 q13 q14 : Nat) : List (Nat × List Value) := [(11, encL cInt g.Species.Rise), (12, encL cInt g.Species.Thick), (13, encL cXRung g.Species.Ladder), (14, encL cXSpan g.Species.Sprouts), (10, [.slice (some ⟨11, 0, none⟩) (g.Species.Rise.length) (q11), .slice (some ⟨12, 0, none⟩) (g.Species.Thick.length) (q12), I (g.Species.Top), I (g.Species.Stout), I (g.Species.Shade), I (g.Species.Reach), .slice (some ⟨13, 0, none⟩) (g.Species.Ladder.length) (q13), .slice (some ⟨14, 0, none⟩) (g.Species.Sprouts.length) (q14)])]
noncomputable def growth_grower_height (g : Xgrower) (x_1 : XStand) (w : XWeather) : Option Int :=
  Option.bind (growth_atAge g.Species.Rise x_1.Age) fun x1 =>
  Option.bind (growth_grower_inWeather g x1 w) fun x2 =>
  bif decide (x_1.Height < g.Species.Reach) then some (imin (W (x_1.Height + (W ((W (x2 * (W (100 - w.Browse)))).tdiv 100)))) g.Species.Top)
  else some (imin (W (x_1.Height + x2)) g.Species.Top)
theorem growth_grower_height_fc (g : Xgrower) (x_1 : XStand) (w : XWeather) (q11 q12 q13 q14 : Nat) (r : Int) (hh : growth_grower_height g x_1 w = some r) : FC P GG 98 (A_growth_grower_height x_1 w) (K_growth_grower_height g q11 q12 q13 q14) (I (r)) := by
  refine FC.of_fsat 43 100 Tryd.func98 (by kernel_rfl) (by kernel_rfl) (by kernel_rfl) ⟨PinL.pf (encL_pf cInt_pf _), PinL.pf (encL_pf cInt_pf _), PinL.pf (encL_pf cXRung_pf _), PinL.pf (encL_pf cXSpan_pf _), PinL.lit (by kernel_rfl), trivial⟩ ?_
  unfold growth_grower_height at hh
  cases h1 : growth_atAge g.Species.Rise x_1.Age with
  | none => rw [h1, oN] at hh; cases hh
  | some x1 =>
   rw [h1, oS] at hh
   cases h2 : growth_grower_inWeather g x1 w with
   | none => rw [h2, oN] at hh; cases hh
   | some x2 =>
    rw [h2, oS] at hh
    rcases bb (decide (x_1.Height < g.Species.Reach)) with h3 | h3
    ·rw [h3, cT] at hh
     rw [← sI hh]
     exact FSat.d pfT 17 (hR 11 ((z20i0 g x_1 q11 x1) :: hE :: (z20i1 g w q11 q12 q13 q14 x1 x2) :: (hR 8 (hT :: (hR 18 []))))) [] (pc (growth_atAge_fc g.Species.Rise x_1.Age q11 x1 h1) <| pc (z20p2 g x_1 q11) <| pt (z20r5 g) (⟨MemAt.same _ (encL_pf cInt_pf _), trivial⟩) <| pt (VR (Ren.emb [(10, 11, 0)]) (I (x1)) (I (x1))) (selfB_self 9 _ rfl _) <| pc (growth_grower_inWeather_fc g x1 w q11 q12 q13 q14 x2 h2) <| pc (z20p3 w x1) <| pc (z20p4 g q11 q12 q13 q14) <| pt (z20r6 x2) (selfB_self 9 _ rfl _) <| pc h3 <| pn) (by kernel_rfl) (by kernel_rfl)
    ·rw [h3, cF] at hh
     rw [← sI hh]
     exact FSat.d pfT 17 (hR 11 ((z20i0 g x_1 q11 x1) :: hE :: (z20i1 g w q11 q12 q13 q14 x1 x2) :: (hR 8 (hF :: (hR 11 []))))) [] (pc (growth_atAge_fc g.Species.Rise x_1.Age q11 x1 h1) <| pc (z20p2 g x_1 q11) <| pt (z20r5 g) (⟨MemAt.same _ (encL_pf cInt_pf _), trivial⟩) <| pt (VR (Ren.emb [(10, 11, 0)]) (I (x1)) (I (x1))) (selfB_self 9 _ rfl _) <| pc (growth_grower_inWeather_fc g x1 w q11 q12 q13 q14 x2 h2) <| pc (z20p3 w x1) <| pc (z20p4 g q11 q12 q13 q14) <| pt (z20r6 x2) (selfB_self 9 _ rfl _) <| pc h3 <| pn) (by kernel_rfl) (by kernel_rfl)

/- (greenhew/growth.grower).shoots -/
noncomputable abbrev z19i0 (g : Xgrower) (v23 : Int) : Hint := (hL (.agg #[I ((at_ zXRung g.Species.Ladder v23).Height), I ((at_ zXRung g.Species.Ladder v23).Shoots)]))
abbrev z19r1 (g : Xgrower) (v23 : Int) : Prop := RowLd P 119 (encL cXRung g.Species.Ladder) (0 + v23.toNat * 2) (.agg #[I ((at_ zXRung g.Species.Ladder v23).Height), I ((at_ zXRung g.Species.Ladder v23).Shoots)])
noncomputable abbrev z19i2 (g : Xgrower) (x_1 : XStand) (w : XWeather) (q11 q12 q13 q14 : Nat) (x1 : Int) : Hint := (hM (I (x1)) (I (x1)) (A_growth_grower_height x_1 w) (K_growth_grower_height g q11 q12 q13 q14) [(11, 11, 0), (12, 12, 0), (13, 13, 0), (14, 14, 0), (10, 10, 0)])
theorem z19p3 (x_1 : XStand) (w : XWeather) : VRs (Ren.emb [(11, 11, 0), (12, 12, 0), (13, 13, 0), (14, 14, 0), (10, 10, 0)]) (A_growth_grower_height x_1 w) [.pointer (some ⟨10, 0, none⟩), .agg #[I (x_1.Age), I (x_1.Shoots), I (x_1.Height), I (x_1.Girth)], .agg #[I (w.Light), I (w.Browse), I (w.Mild)]] := (.cons _ _ _ _ (.ptr 10 0 ⟨10, 0, 0, 0⟩ rfl) (.cons _ _ _ _ (VR.of_pf rfl) (.cons _ _ _ _ (VR.of_pf rfl) .nil)))
theorem z19p4 (g : Xgrower) (q11 q12 q13 q14 : Nat) : MemAt (Ren.emb [(11, 11, 0), (12, 12, 0), (13, 13, 0), (14, 14, 0), (10, 10, 0)]) (encL cInt g.Species.Rise) 0 (encL cInt g.Species.Rise) ∧ MemAt (Ren.emb [(11, 11, 0), (12, 12, 0), (13, 13, 0), (14, 14, 0), (10, 10, 0)]) (encL cInt g.Species.Thick) 0 (encL cInt g.Species.Thick) ∧ MemAt (Ren.emb [(11, 11, 0), (12, 12, 0), (13, 13, 0), (14, 14, 0), (10, 10, 0)]) (encL cXRung g.Species.Ladder) 0 (encL cXRung g.Species.Ladder) ∧ MemAt (Ren.emb [(11, 11, 0), (12, 12, 0), (13, 13, 0), (14, 14, 0), (10, 10, 0)]) (encL cXSpan g.Species.Sprouts) 0 (encL cXSpan g.Species.Sprouts) ∧ MemAt (Ren.emb [(11, 11, 0), (12, 12, 0), (13, 13, 0), (14, 14, 0), (10, 10, 0)]) [.slice (some ⟨11, 0, none⟩) (g.Species.Rise.length) (q11), .slice (some ⟨12, 0, none⟩) (g.Species.Thick.length) (q12), I (g.Species.Top), I (g.Species.Stout), I (g.Species.Shade), I (g.Species.Reach), .slice (some ⟨13, 0, none⟩) (g.Species.Ladder.length) (q13), .slice (some ⟨14, 0, none⟩) (g.Species.Sprouts.length) (q14)] 0 [.slice (some ⟨11, 0, none⟩) (g.Species.Rise.length) (q11), .slice (some ⟨12, 0, none⟩) (g.Species.Thick.length) (q12), I (g.Species.Top), I (g.Species.Stout), I (g.Species.Shade), I (g.Species.Reach), .slice (some ⟨13, 0, none⟩) (g.Species.Ladder.length) (q13), .slice (some ⟨14, 0, none⟩) (g.Species.Sprouts.length) (q14)] ∧ True := ⟨MemAt.same _ (encL_pf cInt_pf _), MemAt.same _ (encL_pf cInt_pf _), MemAt.same _ (encL_pf cXRung_pf _), MemAt.same _ (encL_pf cXSpan_pf _), MemAt.of (.cons _ _ _ _ (.slc 11 0 _ _ _ ⟨11, 0, 0, 0⟩ rfl (.inl rfl)) (.cons _ _ _ _ (.slc 12 0 _ _ _ ⟨12, 0, 0, 0⟩ rfl (.inl rfl)) (.cons _ _ _ _ (VR.of_pf rfl) (.cons _ _ _ _ (VR.of_pf rfl) (.cons _ _ _ _ (VR.of_pf rfl) (.cons _ _ _ _ (VR.of_pf rfl) (.cons _ _ _ _ (.slc 13 0 _ _ _ ⟨13, 0, 0, 0⟩ rfl (.inl rfl)) (.cons _ _ _ _ (.slc 14 0 _ _ _ ⟨14, 0, 0, 0⟩ rfl (.inl rfl)) .nil)))))))), trivial⟩
abbrev z19r5 (x1 : Int) : Prop := VR (Ren.emb [(11, 11, 0), (12, 12, 0), (13, 13, 0), (14, 14, 0), (10, 10, 0)]) (I (x1)) (I (x1))
abbrev A_growth_grower_shoots (x_1 : XStand) (w : XWeather) : List Value := [.pointer (some ⟨10, 0, none⟩), .agg #[I (x_1.Age), I (x_1.Shoots), I (x_1.Height), I (x_1.Girth)], .agg #[I (w.Light), I (w.Browse), I (w.Mild)]]
abbrev K_growth_grower_shoots (g : Xgrower) (q11 q12 q13 q14 : Nat) : List (Nat × List Value) := [(11, encL cInt g.Species.Rise), (12, encL cInt g.Species.Thick), (13, encL cXRung g.Species.Ladder), (14, encL cXSpan g.Species.Sprouts), (10, [.slice (some ⟨11, 0, none⟩) (g.Species.Rise.length) (q11), .slice (some ⟨12, 0, none⟩) (g.Species.Thick.length) (q12), I (g.Species.Top), I (g.Species.Stout), I (g.Species.Shade), I (g.Species.Reach), .slice (some ⟨13, 0, none⟩) (g.Species.Ladder.length) (q13), .slice (some ⟨14, 0, none⟩) (g.Species.Sprouts.length) (q14)])]
noncomputable def growth_grower_shoots_L (fu : Nat) (g : Xgrower) (x_1 : XStand) (w : XWeather) : Nat → (Int → Int → Int → Option Int)
  | 0 => (fun _ _ _ => none)
  | fk + 1 => (fun v8 v23 x1 => bif decide (v23 < ((g.Species.Ladder.length : Nat) : Int)) then (bif decide (0 ≤ v23 ∧ v23 < ((g.Species.Ladder.length : Nat) : Int)) then (bif decide (((at_ zXRung g.Species.Ladder v23).Height) ≤ x1) then growth_grower_shoots_L fu g x_1 w fk (imin v8 ((at_ zXRung g.Species.Ladder v23).Shoots)) (W (v23 + 1)) x1
        else growth_grower_shoots_L fu g x_1 w fk v8 (W (v23 + 1)) x1) else none)
      else some v8)
theorem growth_grower_shoots_L_s0 (fu : Nat) (g : Xgrower) (x_1 : XStand) (w : XWeather) (fk : Nat) (v8 v23 x1 : Int) : growth_grower_shoots_L fu g x_1 w (fk + 1) v8 v23 x1 = (bif decide (v23 < ((g.Species.Ladder.length : Nat) : Int)) then (bif decide (0 ≤ v23 ∧ v23 < ((g.Species.Ladder.length : Nat) : Int)) then (bif decide (((at_ zXRung g.Species.Ladder v23).Height) ≤ x1) then growth_grower_shoots_L fu g x_1 w fk (imin v8 ((at_ zXRung g.Species.Ladder v23).Shoots)) (W (v23 + 1)) x1
        else growth_grower_shoots_L fu g x_1 w fk v8 (W (v23 + 1)) x1) else none)
      else some v8) := rfl
noncomputable def growth_grower_shoots (fu : Nat) (g : Xgrower) (x_1 : XStand) (w : XWeather) : Option Int :=
  Option.bind (growth_grower_height g x_1 w) fun x1 =>
  growth_grower_shoots_L fu g x_1 w fu x_1.Shoots 0 x1
theorem growth_grower_shoots_L_fs (fu : Nat) (g : Xgrower) (x_1 : XStand) (w : XWeather) (q11 q12 q13 q14 : Nat) : ∀ fk, (∀ (v8 v23 x1 r : Int), growth_grower_shoots_L fu g x_1 w fk v8 v23 x1 = some r → FSat P GG Tryd.f97 (I (r)) (ids (looses (K_growth_grower_shoots g q11 q12 q13 q14))) 37 [.lp (cA (bodyOf Tryd.f97) [1, 1, 0, 1, 0, 0]), .blk 0, .code (cA (bodyOf Tryd.f97) [1, 1, 1])] (tOf 37 [(6, I (0)), (7, I (x1)), (8, I (v8)), (21, .slice (some ⟨13, 0, none⟩) (g.Species.Ladder.length) (q13)), (22, I (((g.Species.Ladder.length : Nat) : Int))), (23, I (v23))]) (mOf 100 [(0, .rom [I (1), I (2), I (3)] .glob), (10, .rom ([.slice (some ⟨11, 0, none⟩) (g.Species.Rise.length) (q11), .slice (some ⟨12, 0, none⟩) (g.Species.Thick.length) (q12), I (g.Species.Top), I (g.Species.Stout), I (g.Species.Shade), I (g.Species.Reach), .slice (some ⟨13, 0, none⟩) (g.Species.Ladder.length) (q13), .slice (some ⟨14, 0, none⟩) (g.Species.Sprouts.length) (q14)]) .loose), (11, .rom (encL cInt g.Species.Rise) .loose), (12, .rom (encL cInt g.Species.Thick) .loose), (13, .rom (encL cXRung g.Species.Ladder) .loose), (14, .rom (encL cXSpan g.Species.Sprouts) .loose)])) := by
  intro fk
  induction fk with
  | zero => exact fun _ _ _ r hh => by cases hh
  | succ fk ih =>
    · intro v8 v23 x1 r hh
      rw [growth_grower_shoots_L_s0] at hh
      rcases bb (decide (v23 < ((g.Species.Ladder.length : Nat) : Int))) with h1 | h1
      ·rw [h1, cT] at hh
       rcases bb (decide (0 ≤ v23 ∧ v23 < ((g.Species.Ladder.length : Nat) : Int))) with h2 | h2
       rotate_left
       ·rw [h2, cF] at hh; cases hh
       ·rw [h2, cT] at hh
        rcases bb (decide (((at_ zXRung g.Species.Ladder v23).Height) ≤ x1)) with h3 | h3
        ·rw [h3, cT] at hh
         have nx := ih (imin v8 ((at_ zXRung g.Species.Ladder v23).Shoots)) (W (v23 + 1)) x1 r hh
         refine FSat.s pfT 22 (hT :: hX :: (z19i0 g v23) :: (hR 5 (hT :: (hR 7 [])))) [.go, .st [6, 7, 8, 21, 22, 23] [0, 10, 11, 12, 13, 14]] (pc h1 <| pt (0 ≤ v23 ∧ v23 < ((g.Species.Ladder.length : Nat) : Int)) (of_decide_eq_true h2) <| pt (z19r1 g v23) (RowLd.elem cXRung_len _ (.inl ⟨_, rfl⟩) rfl rfl _ _ (of_decide_eq_true h2)) <| pc h3 <| pn) (by kernel_rfl) 100 (by kernel_rfl) ?_ nx
         exact ⟨PinL.lit (by kernel_rfl), PinL.lit (by kernel_rfl), PinL.pf (encL_pf cInt_pf _), PinL.pf (encL_pf cInt_pf _), PinL.pf (encL_pf cXRung_pf _), PinL.pf (encL_pf cXSpan_pf _), trivial⟩
        ·rw [h3, cF] at hh
         have nx := ih v8 (W (v23 + 1)) x1 r hh
         refine FSat.s pfT 22 (hT :: hX :: (z19i0 g v23) :: (hR 5 [hF, hE, hE])) [.go, .st [6, 7, 8, 21, 22, 23] [0, 10, 11, 12, 13, 14]] (pc h1 <| pt (0 ≤ v23 ∧ v23 < ((g.Species.Ladder.length : Nat) : Int)) (of_decide_eq_true h2) <| pt (z19r1 g v23) (RowLd.elem cXRung_len _ (.inl ⟨_, rfl⟩) rfl rfl _ _ (of_decide_eq_true h2)) <| pc h3 <| pn) (by kernel_rfl) 100 (by kernel_rfl) ?_ nx
         exact ⟨PinL.lit (by kernel_rfl), PinL.lit (by kernel_rfl), PinL.pf (encL_pf cInt_pf _), PinL.pf (encL_pf cInt_pf _), PinL.pf (encL_pf cXRung_pf _), PinL.pf (encL_pf cXSpan_pf _), trivial⟩
      ·rw [h1, cF] at hh
       rw [← sI hh]
       exact FSat.d pfT 14 [hF, hE, hE] [.go] (pc h1 <| pn) (by kernel_rfl) (by kernel_rfl)
theorem growth_grower_shoots_fc (fu : Nat) (g : Xgrower) (x_1 : XStand) (w : XWeather) (q11 q12 q13 q14 : Nat) (r : Int) (hh : growth_grower_shoots fu g x_1 w = some r) : FC P GG 97 (A_growth_grower_shoots x_1 w) (K_growth_grower_shoots g q11 q12 q13 q14) (I (r)) := by
  refine FC.of_fsat 37 100 Tryd.func97 (by kernel_rfl) (by kernel_rfl) (by kernel_rfl) ⟨PinL.pf (encL_pf cInt_pf _), PinL.pf (encL_pf cInt_pf _), PinL.pf (encL_pf cXRung_pf _), PinL.pf (encL_pf cXSpan_pf _), PinL.lit (by kernel_rfl), trivial⟩ ?_
  unfold growth_grower_shoots at hh
  cases h1 : growth_grower_height g x_1 w with
  | none => rw [h1, oN] at hh; cases hh
  | some x1 =>
   rw [h1, oS] at hh
   have nx := growth_grower_shoots_L_fs fu g x_1 w q11 q12 q13 q14 fu x_1.Shoots 0 x1 r hh
   refine FSat.s pfT 15 (hR 6 ((z19i2 g x_1 w q11 q12 q13 q14 x1) :: (hR 11 []))) [.st [6, 7, 8, 21, 22, 23] [0, 10, 11, 12, 13, 14]] (pc (growth_grower_height_fc g x_1 w q11 q12 q13 q14 x1 h1) <| pc (z19p3 x_1 w) <| pc (z19p4 g q11 q12 q13 q14) <| pt (z19r5 x1) (selfB_self 9 _ rfl _) <| pn) (by kernel_rfl) 100 (by kernel_rfl) ?_ nx
   exact ⟨PinL.lit (by kernel_rfl), PinL.lit (by kernel_rfl), PinL.pf (encL_pf cInt_pf _), PinL.pf (encL_pf cInt_pf _), PinL.pf (encL_pf cXRung_pf _), PinL.pf (encL_pf cXSpan_pf _), trivial⟩

/- (greenhew/growth.grower).girth -/
noncomputable abbrev z23i0 (g : Xgrower) (x_1 : XStand) (q12 : Nat) (x1 : Int) : Hint := (hM (I (x1)) (I (x1)) (A_growth_atAge g.Species.Thick x_1.Age q12) (K_growth_atAge g.Species.Thick) [(10, 12, 0)])
noncomputable abbrev z23i1 (g : Xgrower) (w : XWeather) (q11 q12 q13 q14 : Nat) (x1 x2 : Int) : Hint := (hM (I (x2)) (I (x2)) (A_growth_grower_inWeather x1 w) (K_growth_grower_inWeather g q11 q12 q13 q14) [(11, 11, 0), (12, 12, 0), (13, 13, 0), (14, 14, 0), (10, 10, 0)])
theorem z23p2 (g : Xgrower) (x_1 : XStand) (q12 : Nat) : VRs (Ren.emb [(10, 12, 0)]) (A_growth_atAge g.Species.Thick x_1.Age q12) [.slice (some ⟨12, 0, none⟩) (g.Species.Thick.length) (q12), I (x_1.Age)] := (.cons _ _ _ _ (.slc 10 0 _ _ _ ⟨12, 0, 0, 0⟩ rfl (.inl rfl)) (.cons _ _ _ _ (VR.of_pf rfl) .nil))
theorem z23p3 (w : XWeather) (x1 : Int) : VRs (Ren.emb [(11, 11, 0), (12, 12, 0), (13, 13, 0), (14, 14, 0), (10, 10, 0)]) (A_growth_grower_inWeather x1 w) [.pointer (some ⟨10, 0, none⟩), I (x1), .agg #[I (w.Light), I (w.Browse), I (w.Mild)]] := (.cons _ _ _ _ (.ptr 10 0 ⟨10, 0, 0, 0⟩ rfl) (.cons _ _ _ _ (VR.of_pf rfl) (.cons _ _ _ _ (VR.of_pf rfl) .nil)))
theorem z23p4 (g : Xgrower) (q11 q12 q13 q14 : Nat) : MemAt (Ren.emb [(11, 11, 0), (12, 12, 0), (13, 13, 0), (14, 14, 0), (10, 10, 0)]) (encL cInt g.Species.Rise) 0 (encL cInt g.Species.Rise) ∧ MemAt (Ren.emb [(11, 11, 0), (12, 12, 0), (13, 13, 0), (14, 14, 0), (10, 10, 0)]) (encL cInt g.Species.Thick) 0 (encL cInt g.Species.Thick) ∧ MemAt (Ren.emb [(11, 11, 0), (12, 12, 0), (13, 13, 0), (14, 14, 0), (10, 10, 0)]) (encL cXRung g.Species.Ladder) 0 (encL cXRung g.Species.Ladder) ∧ MemAt (Ren.emb [(11, 11, 0), (12, 12, 0), (13, 13, 0), (14, 14, 0), (10, 10, 0)]) (encL cXSpan g.Species.Sprouts) 0 (encL cXSpan g.Species.Sprouts) ∧ MemAt (Ren.emb [(11, 11, 0), (12, 12, 0), (13, 13, 0), (14, 14, 0), (10, 10, 0)]) [.slice (some ⟨11, 0, none⟩) (g.Species.Rise.length) (q11), .slice (some ⟨12, 0, none⟩) (g.Species.Thick.length) (q12), I (g.Species.Top), I (g.Species.Stout), I (g.Species.Shade), I (g.Species.Reach), .slice (some ⟨13, 0, none⟩) (g.Species.Ladder.length) (q13), .slice (some ⟨14, 0, none⟩) (g.Species.Sprouts.length) (q14)] 0 [.slice (some ⟨11, 0, none⟩) (g.Species.Rise.length) (q11), .slice (some ⟨12, 0, none⟩) (g.Species.Thick.length) (q12), I (g.Species.Top), I (g.Species.Stout), I (g.Species.Shade), I (g.Species.Reach), .slice (some ⟨13, 0, none⟩) (g.Species.Ladder.length) (q13), .slice (some ⟨14, 0, none⟩) (g.Species.Sprouts.length) (q14)] ∧ True := ⟨MemAt.same _ (encL_pf cInt_pf _), MemAt.same _ (encL_pf cInt_pf _), MemAt.same _ (encL_pf cXRung_pf _), MemAt.same _ (encL_pf cXSpan_pf _), MemAt.of (.cons _ _ _ _ (.slc 11 0 _ _ _ ⟨11, 0, 0, 0⟩ rfl (.inl rfl)) (.cons _ _ _ _ (.slc 12 0 _ _ _ ⟨12, 0, 0, 0⟩ rfl (.inl rfl)) (.cons _ _ _ _ (VR.of_pf rfl) (.cons _ _ _ _ (VR.of_pf rfl) (.cons _ _ _ _ (VR.of_pf rfl) (.cons _ _ _ _ (VR.of_pf rfl) (.cons _ _ _ _ (.slc 13 0 _ _ _ ⟨13, 0, 0, 0⟩ rfl (.inl rfl)) (.cons _ _ _ _ (.slc 14 0 _ _ _ ⟨14, 0, 0, 0⟩ rfl (.inl rfl)) .nil)))))))), trivial⟩
abbrev z23r5 (g : Xgrower) : Prop := MemAt (Ren.emb [(10, 12, 0)]) (encL cInt g.Species.Thick) 0 (encL cInt g.Species.Thick) ∧ True
abbrev z23r6 (x2 : Int) : Prop := VR (Ren.emb [(11, 11, 0), (12, 12, 0), (13, 13, 0), (14, 14, 0), (10, 10, 0)]) (I (x2)) (I (x2))
abbrev A_growth_grower_girth (x_1 : XStand) (w : XWeather) : List Value := [.pointer (some ⟨10, 0, none⟩), .agg #[I (x_1.Age), I (x_1.Shoots), I (x_1.Height), I (x_1.Girth)], .agg #[I (w.Light), I (w.Browse), I (w.Mild)]]
abbrev K_growth_grower_girth (g : Xgrower) (q11 q12 q13 q14 : Nat) : List (Nat × List Value) := [(11, encL cInt g.Species.Rise), (12, encL cInt g.Species.Thick), (13, encL cXRung g.Species.Ladder), (14, encL cXSpan g.Species.Sprouts), (10, [.slice (some ⟨11, 0, none⟩) (g.Species.Rise.length) (q11), .slice (some ⟨12, 0, none⟩) (g.Species.Thick.length) (q12), I (g.Species.Top), I (g.Species.Stout), I (g.Species.Shade), I (g.Species.Reach), .slice (some ⟨13, 0, none⟩) (g.Species.Ladder.length) (q13), .slice (some ⟨14, 0, none⟩) (g.Species.Sprouts.length) (q14)])]
noncomputable def growth_grower_girth (g : Xgrower) (x_1 : XStand) (w : XWeather) : Option Int :=
  Option.bind (growth_atAge g.Species.Thick x_1.Age) fun x1 =>
  Option.bind (growth_grower_inWeather g x1 w) fun x2 =>
  bif decide ((W (100 + x_1.Shoots)) ≠ 0) then some (imin (W (x_1.Girth + (W ((W (x2 * 100)).tdiv (W (100 + x_1.Shoots)))))) g.Species.Stout) else none
theorem growth_grower_girth_fc (g : Xgrower) (x_1 : XStand) (w : XWeather) (q11 q12 q13 q14 : Nat) (r : Int) (hh : growth_grower_girth g x_1 w = some r) : FC P GG 99 (A_growth_grower_girth x_1 w) (K_growth_grower_girth g q11 q12 q13 q14) (I (r)) := by
  refine FC.of_fsat 34 100 Tryd.func99 (by kernel_rfl) (by kernel_rfl) (by kernel_rfl) ⟨PinL.pf (encL_pf cInt_pf _), PinL.pf (encL_pf cInt_pf _), PinL.pf (encL_pf cXRung_pf _), PinL.pf (encL_pf cXSpan_pf _), PinL.lit (by kernel_rfl), trivial⟩ ?_
  unfold growth_grower_girth at hh
  cases h1 : growth_atAge g.Species.Thick x_1.Age with
  | none => rw [h1, oN] at hh; cases hh
  | some x1 =>
   rw [h1, oS] at hh
   cases h2 : growth_grower_inWeather g x1 w with
   | none => rw [h2, oN] at hh; cases hh
   | some x2 =>
    rw [h2, oS] at hh
    rcases bb (decide ((W (100 + x_1.Shoots)) ≠ 0)) with h3 | h3
    rotate_left
    ·rw [h3, cF] at hh; cases hh
    ·rw [h3, cT] at hh
     rw [← sI hh]
     exact FSat.d pfT 12 (hR 11 ((z23i0 g x_1 q12 x1) :: hE :: (z23i1 g w q11 q12 q13 q14 x1 x2) :: (hR 8 (hD :: (hR 8 []))))) [] (pc (growth_atAge_fc g.Species.Thick x_1.Age q12 x1 h1) <| pc (z23p2 g x_1 q12) <| pt (z23r5 g) (⟨MemAt.same _ (encL_pf cInt_pf _), trivial⟩) <| pt (VR (Ren.emb [(10, 12, 0)]) (I (x1)) (I (x1))) (selfB_self 9 _ rfl _) <| pc (growth_grower_inWeather_fc g x1 w q11 q12 q13 q14 x2 h2) <| pc (z23p3 w x1) <| pc (z23p4 g q11 q12 q13 q14) <| pt (z23r6 x2) (selfB_self 9 _ rfl _) <| pt ((W (100 + x_1.Shoots)) ≠ 0) (of_decide_eq_true h3) <| pn) (by kernel_rfl) (by kernel_rfl)

/- (greenhew/growth.grower).grow -/
noncomputable abbrev z17i0 (x_1 : XStand) : Hint := (hM (.pointer (some ⟨10, 1, none⟩)) (.pointer (some ⟨104, 1, none⟩)) (A_growth_number 1) (K_growth_number (⟨imin (W (x_1.Age + 1)) 100000, 0, 0, 0⟩ : XStand)) [(10, 104, 0)])
noncomputable abbrev z17i1 (g : Xgrower) (x_1 : XStand) (w : XWeather) (q11 q12 q13 q14 : Nat) (x1 : Int) : Hint := (hM (I (x1)) (I (x1)) (A_growth_grower_shoots x_1 w) (K_growth_grower_shoots g q11 q12 q13 q14) [(11, 11, 0), (12, 12, 0), (13, 13, 0), (14, 14, 0), (10, 10, 0)])
noncomputable abbrev z17i2 (x_1 : XStand) (x1 : Int) : Hint := (hM (.pointer (some ⟨10, 2, none⟩)) (.pointer (some ⟨104, 2, none⟩)) (A_growth_number 2) (K_growth_number (⟨imin (W (x_1.Age + 1)) 100000, x1, 0, 0⟩ : XStand)) [(10, 104, 0)])
noncomputable abbrev z17i3 (g : Xgrower) (x_1 : XStand) (w : XWeather) (q11 q12 q13 q14 : Nat) (x2 : Int) : Hint := (hM (I (x2)) (I (x2)) (A_growth_grower_height x_1 w) (K_growth_grower_height g q11 q12 q13 q14) [(11, 11, 0), (12, 12, 0), (13, 13, 0), (14, 14, 0), (10, 10, 0)])
noncomputable abbrev z17i4 (x_1 : XStand) (x1 x2 : Int) : Hint := (hM (.pointer (some ⟨10, 3, none⟩)) (.pointer (some ⟨104, 3, none⟩)) (A_growth_number 3) (K_growth_number (⟨imin (W (x_1.Age + 1)) 100000, x1, x2, 0⟩ : XStand)) [(10, 104, 0)])
noncomputable abbrev z17i5 (g : Xgrower) (x_1 : XStand) (w : XWeather) (q11 q12 q13 q14 : Nat) (x3 : Int) : Hint := (hM (I (x3)) (I (x3)) (A_growth_grower_girth x_1 w) (K_growth_grower_girth g q11 q12 q13 q14) [(11, 11, 0), (12, 12, 0), (13, 13, 0), (14, 14, 0), (10, 10, 0)])
theorem z17p6 (x_1 : XStand) : FC P GG 100 (A_growth_number 1) (K_growth_number (⟨imin (W (x_1.Age + 1)) 100000, 0, 0, 0⟩ : XStand)) (.pointer (some ⟨10, 1, none⟩)) := growth_number_fc_1 (⟨imin (W (x_1.Age + 1)) 100000, 0, 0, 0⟩ : XStand) 1 rfl
theorem z17p7 : VRs (Ren.emb [(10, 104, 0)]) (A_growth_number 1) [.pointer (some ⟨104, 0, none⟩), I (1)] := (.cons _ _ _ _ (.ptr 10 0 ⟨104, 0, 0, 0⟩ rfl) (.cons _ _ _ _ (VR.of_pf rfl) .nil))
theorem z17p8 (x_1 : XStand) : MemAt (Ren.emb [(10, 104, 0)]) [I ((⟨imin (W (x_1.Age + 1)) 100000, 0, 0, 0⟩ : XStand).Age), I ((⟨imin (W (x_1.Age + 1)) 100000, 0, 0, 0⟩ : XStand).Shoots), I ((⟨imin (W (x_1.Age + 1)) 100000, 0, 0, 0⟩ : XStand).Height), I ((⟨imin (W (x_1.Age + 1)) 100000, 0, 0, 0⟩ : XStand).Girth)] 0 [I (imin (W (x_1.Age + 1)) 100000), I (0), I (0), I (0)] ∧ True := ⟨MemAt.of (.cons _ _ _ _ (VR.of_pf rfl) (.cons _ _ _ _ (VR.of_pf rfl) (.cons _ _ _ _ (VR.of_pf rfl) (.cons _ _ _ _ (VR.of_pf rfl) .nil)))), trivial⟩
theorem z17p9 (x_1 : XStand) (w : XWeather) : VRs (Ren.emb [(11, 11, 0), (12, 12, 0), (13, 13, 0), (14, 14, 0), (10, 10, 0)]) (A_growth_grower_shoots x_1 w) [.pointer (some ⟨10, 0, none⟩), .agg #[I (x_1.Age), I (x_1.Shoots), I (x_1.Height), I (x_1.Girth)], .agg #[I (w.Light), I (w.Browse), I (w.Mild)]] := (.cons _ _ _ _ (.ptr 10 0 ⟨10, 0, 0, 0⟩ rfl) (.cons _ _ _ _ (VR.of_pf rfl) (.cons _ _ _ _ (VR.of_pf rfl) .nil)))
theorem z17p10 (g : Xgrower) (q11 q12 q13 q14 : Nat) : MemAt (Ren.emb [(11, 11, 0), (12, 12, 0), (13, 13, 0), (14, 14, 0), (10, 10, 0)]) (encL cInt g.Species.Rise) 0 (encL cInt g.Species.Rise) ∧ MemAt (Ren.emb [(11, 11, 0), (12, 12, 0), (13, 13, 0), (14, 14, 0), (10, 10, 0)]) (encL cInt g.Species.Thick) 0 (encL cInt g.Species.Thick) ∧ MemAt (Ren.emb [(11, 11, 0), (12, 12, 0), (13, 13, 0), (14, 14, 0), (10, 10, 0)]) (encL cXRung g.Species.Ladder) 0 (encL cXRung g.Species.Ladder) ∧ MemAt (Ren.emb [(11, 11, 0), (12, 12, 0), (13, 13, 0), (14, 14, 0), (10, 10, 0)]) (encL cXSpan g.Species.Sprouts) 0 (encL cXSpan g.Species.Sprouts) ∧ MemAt (Ren.emb [(11, 11, 0), (12, 12, 0), (13, 13, 0), (14, 14, 0), (10, 10, 0)]) [.slice (some ⟨11, 0, none⟩) (g.Species.Rise.length) (q11), .slice (some ⟨12, 0, none⟩) (g.Species.Thick.length) (q12), I (g.Species.Top), I (g.Species.Stout), I (g.Species.Shade), I (g.Species.Reach), .slice (some ⟨13, 0, none⟩) (g.Species.Ladder.length) (q13), .slice (some ⟨14, 0, none⟩) (g.Species.Sprouts.length) (q14)] 0 [.slice (some ⟨11, 0, none⟩) (g.Species.Rise.length) (q11), .slice (some ⟨12, 0, none⟩) (g.Species.Thick.length) (q12), I (g.Species.Top), I (g.Species.Stout), I (g.Species.Shade), I (g.Species.Reach), .slice (some ⟨13, 0, none⟩) (g.Species.Ladder.length) (q13), .slice (some ⟨14, 0, none⟩) (g.Species.Sprouts.length) (q14)] ∧ True := ⟨MemAt.same _ (encL_pf cInt_pf _), MemAt.same _ (encL_pf cInt_pf _), MemAt.same _ (encL_pf cXRung_pf _), MemAt.same _ (encL_pf cXSpan_pf _), MemAt.of (.cons _ _ _ _ (.slc 11 0 _ _ _ ⟨11, 0, 0, 0⟩ rfl (.inl rfl)) (.cons _ _ _ _ (.slc 12 0 _ _ _ ⟨12, 0, 0, 0⟩ rfl (.inl rfl)) (.cons _ _ _ _ (VR.of_pf rfl) (.cons _ _ _ _ (VR.of_pf rfl) (.cons _ _ _ _ (VR.of_pf rfl) (.cons _ _ _ _ (VR.of_pf rfl) (.cons _ _ _ _ (.slc 13 0 _ _ _ ⟨13, 0, 0, 0⟩ rfl (.inl rfl)) (.cons _ _ _ _ (.slc 14 0 _ _ _ ⟨14, 0, 0, 0⟩ rfl (.inl rfl)) .nil)))))))), trivial⟩
theorem z17p11 (x_1 : XStand) (x1 : Int) : FC P GG 100 (A_growth_number 2) (K_growth_number (⟨imin (W (x_1.Age + 1)) 100000, x1, 0, 0⟩ : XStand)) (.pointer (some ⟨10, 2, none⟩)) := growth_number_fc_2 (⟨imin (W (x_1.Age + 1)) 100000, x1, 0, 0⟩ : XStand) 2 rfl rfl
theorem z17p12 : VRs (Ren.emb [(10, 104, 0)]) (A_growth_number 2) [.pointer (some ⟨104, 0, none⟩), I (2)] := (.cons _ _ _ _ (.ptr 10 0 ⟨104, 0, 0, 0⟩ rfl) (.cons _ _ _ _ (VR.of_pf rfl) .nil))
theorem z17p13 (x_1 : XStand) (x1 : Int) : MemAt (Ren.emb [(10, 104, 0)]) [I ((⟨imin (W (x_1.Age + 1)) 100000, x1, 0, 0⟩ : XStand).Age), I ((⟨imin (W (x_1.Age + 1)) 100000, x1, 0, 0⟩ : XStand).Shoots), I ((⟨imin (W (x_1.Age + 1)) 100000, x1, 0, 0⟩ : XStand).Height), I ((⟨imin (W (x_1.Age + 1)) 100000, x1, 0, 0⟩ : XStand).Girth)] 0 [I (imin (W (x_1.Age + 1)) 100000), I (x1), I (0), I (0)] ∧ True := ⟨MemAt.of (.cons _ _ _ _ (VR.of_pf rfl) (.cons _ _ _ _ (VR.of_pf rfl) (.cons _ _ _ _ (VR.of_pf rfl) (.cons _ _ _ _ (VR.of_pf rfl) .nil)))), trivial⟩
theorem z17p14 (x_1 : XStand) (w : XWeather) : VRs (Ren.emb [(11, 11, 0), (12, 12, 0), (13, 13, 0), (14, 14, 0), (10, 10, 0)]) (A_growth_grower_height x_1 w) [.pointer (some ⟨10, 0, none⟩), .agg #[I (x_1.Age), I (x_1.Shoots), I (x_1.Height), I (x_1.Girth)], .agg #[I (w.Light), I (w.Browse), I (w.Mild)]] := (.cons _ _ _ _ (.ptr 10 0 ⟨10, 0, 0, 0⟩ rfl) (.cons _ _ _ _ (VR.of_pf rfl) (.cons _ _ _ _ (VR.of_pf rfl) .nil)))
theorem z17p15 (x_1 : XStand) (x1 x2 : Int) : FC P GG 100 (A_growth_number 3) (K_growth_number (⟨imin (W (x_1.Age + 1)) 100000, x1, x2, 0⟩ : XStand)) (.pointer (some ⟨10, 3, none⟩)) := growth_number_fc_3 (⟨imin (W (x_1.Age + 1)) 100000, x1, x2, 0⟩ : XStand) 3 rfl rfl
theorem z17p16 : VRs (Ren.emb [(10, 104, 0)]) (A_growth_number 3) [.pointer (some ⟨104, 0, none⟩), I (3)] := (.cons _ _ _ _ (.ptr 10 0 ⟨104, 0, 0, 0⟩ rfl) (.cons _ _ _ _ (VR.of_pf rfl) .nil))
theorem z17p17 (x_1 : XStand) (x1 x2 : Int) : MemAt (Ren.emb [(10, 104, 0)]) [I ((⟨imin (W (x_1.Age + 1)) 100000, x1, x2, 0⟩ : XStand).Age), I ((⟨imin (W (x_1.Age + 1)) 100000, x1, x2, 0⟩ : XStand).Shoots), I ((⟨imin (W (x_1.Age + 1)) 100000, x1, x2, 0⟩ : XStand).Height), I ((⟨imin (W (x_1.Age + 1)) 100000, x1, x2, 0⟩ : XStand).Girth)] 0 [I (imin (W (x_1.Age + 1)) 100000), I (x1), I (x2), I (0)] ∧ True := ⟨MemAt.of (.cons _ _ _ _ (VR.of_pf rfl) (.cons _ _ _ _ (VR.of_pf rfl) (.cons _ _ _ _ (VR.of_pf rfl) (.cons _ _ _ _ (VR.of_pf rfl) .nil)))), trivial⟩
theorem z17p18 (x_1 : XStand) (w : XWeather) : VRs (Ren.emb [(11, 11, 0), (12, 12, 0), (13, 13, 0), (14, 14, 0), (10, 10, 0)]) (A_growth_grower_girth x_1 w) [.pointer (some ⟨10, 0, none⟩), .agg #[I (x_1.Age), I (x_1.Shoots), I (x_1.Height), I (x_1.Girth)], .agg #[I (w.Light), I (w.Browse), I (w.Mild)]] := (.cons _ _ _ _ (.ptr 10 0 ⟨10, 0, 0, 0⟩ rfl) (.cons _ _ _ _ (VR.of_pf rfl) (.cons _ _ _ _ (VR.of_pf rfl) .nil)))
abbrev z17r19 : Prop := VR (Ren.emb [(10, 104, 0)]) (.pointer (some ⟨10, 1, none⟩)) (.pointer (some ⟨104, 1, none⟩))
abbrev z17r20 (x1 : Int) : Prop := VR (Ren.emb [(11, 11, 0), (12, 12, 0), (13, 13, 0), (14, 14, 0), (10, 10, 0)]) (I (x1)) (I (x1))
abbrev z17r21 : Prop := VR (Ren.emb [(10, 104, 0)]) (.pointer (some ⟨10, 2, none⟩)) (.pointer (some ⟨104, 2, none⟩))
abbrev z17r22 (x2 : Int) : Prop := VR (Ren.emb [(11, 11, 0), (12, 12, 0), (13, 13, 0), (14, 14, 0), (10, 10, 0)]) (I (x2)) (I (x2))
abbrev z17r23 : Prop := VR (Ren.emb [(10, 104, 0)]) (.pointer (some ⟨10, 3, none⟩)) (.pointer (some ⟨104, 3, none⟩))
abbrev z17r24 (x3 : Int) : Prop := VR (Ren.emb [(11, 11, 0), (12, 12, 0), (13, 13, 0), (14, 14, 0), (10, 10, 0)]) (I (x3)) (I (x3))
abbrev A_growth_grower_grow (x_1 : XStand) (w : XWeather) : List Value := [.pointer (some ⟨10, 0, none⟩), .agg #[I (x_1.Age), I (x_1.Shoots), I (x_1.Height), I (x_1.Girth)], .agg #[I (w.Light), I (w.Browse), I (w.Mild)]]
abbrev K_growth_grower_grow (g : Xgrower) (q11 q12 q13 q14 : Nat) : List (Nat × List Value) := [(11, encL cInt g.Species.Rise), (12, encL cInt g.Species.Thick), (13, encL cXRung g.Species.Ladder), (14, encL cXSpan g.Species.Sprouts), (10, [.slice (some ⟨11, 0, none⟩) (g.Species.Rise.length) (q11), .slice (some ⟨12, 0, none⟩) (g.Species.Thick.length) (q12), I (g.Species.Top), I (g.Species.Stout), I (g.Species.Shade), I (g.Species.Reach), .slice (some ⟨13, 0, none⟩) (g.Species.Ladder.length) (q13), .slice (some ⟨14, 0, none⟩) (g.Species.Sprouts.length) (q14)])]
noncomputable def growth_grower_grow (fu : Nat) (g : Xgrower) (x_1 : XStand) (w : XWeather) : Option XStand :=
  Option.bind (growth_grower_shoots fu g x_1 w) fun x1 =>
  Option.bind (growth_grower_height g x_1 w) fun x2 =>
  Option.bind (growth_grower_girth g x_1 w) fun x3 =>
  some (⟨imin (W (x_1.Age + 1)) 100000, x1, x2, x3⟩ : XStand)
theorem growth_grower_grow_fc (fu : Nat) (g : Xgrower) (x_1 : XStand) (w : XWeather) (q11 q12 q13 q14 : Nat) (r : XStand) (hh : growth_grower_grow fu g x_1 w = some r) : FC P GG 60 (A_growth_grower_grow x_1 w) (K_growth_grower_grow g q11 q12 q13 q14) (.agg #[I (r.Age), I (r.Shoots), I (r.Height), I (r.Girth)]) := by
  refine FC.of_fsat 38 100 Tryd.func60 (by kernel_rfl) (by kernel_rfl) (by kernel_rfl) ⟨PinL.pf (encL_pf cInt_pf _), PinL.pf (encL_pf cInt_pf _), PinL.pf (encL_pf cXRung_pf _), PinL.pf (encL_pf cXSpan_pf _), PinL.lit (by kernel_rfl), trivial⟩ ?_
  unfold growth_grower_grow at hh
  cases h1 : growth_grower_shoots fu g x_1 w with
  | none => rw [h1, oN] at hh; cases hh
  | some x1 =>
   rw [h1, oS] at hh
   cases h2 : growth_grower_height g x_1 w with
   | none => rw [h2, oN] at hh; cases hh
   | some x2 =>
    rw [h2, oS] at hh
    cases h3 : growth_grower_girth g x_1 w with
    | none => rw [h3, oN] at hh; cases hh
    | some x3 =>
     rw [h3, oS] at hh
     rw [← sI hh]
     exact FSat.d pfT 64 (hR 25 ((z17i0 x_1) :: (hR 5 ((z17i1 g x_1 w q11 q12 q13 q14 x1) :: (hR 8 ((z17i2 x_1 x1) :: (hR 5 ((z17i3 g x_1 w q11 q12 q13 q14 x2) :: (hR 8 ((z17i4 x_1 x1 x2) :: (hR 5 ((z17i5 g x_1 w q11 q12 q13 q14 x3) :: (hR 7 []))))))))))))) [.go, .go, .go, .go] (pc (z17p6 x_1) <| pc z17p7 <| pc (z17p8 x_1) <| pt z17r19 (.ptr 10 1 ⟨104, 0, 0, 0⟩ rfl) <| pc (growth_grower_shoots_fc fu g x_1 w q11 q12 q13 q14 x1 h1) <| pc (z17p9 x_1 w) <| pc (z17p10 g q11 q12 q13 q14) <| pt (z17r20 x1) (selfB_self 9 _ rfl _) <| pc (z17p11 x_1 x1) <| pc z17p12 <| pc (z17p13 x_1 x1) <| pt z17r21 (.ptr 10 2 ⟨104, 0, 0, 0⟩ rfl) <| pc (growth_grower_height_fc g x_1 w q11 q12 q13 q14 x2 h2) <| pc (z17p14 x_1 w) <| pc (z17p10 g q11 q12 q13 q14) <| pt (z17r22 x2) (selfB_self 9 _ rfl _) <| pc (z17p15 x_1 x1 x2) <| pc z17p16 <| pc (z17p17 x_1 x1 x2) <| pt z17r23 (.ptr 10 3 ⟨104, 0, 0, 0⟩ rfl) <| pc (growth_grower_girth_fc g x_1 w q11 q12 q13 q14 x3 h3) <| pc (z17p18 x_1 w) <| pc (z17p10 g q11 q12 q13 q14) <| pt (z17r24 x3) (selfB_self 9 _ rfl _) <| pn) (by kernel_rfl) (by kernel_rfl)

/- greenhew/growth.Grow -/
noncomputable abbrev z4i0 (s : XSpecies) (q10 q11 q12 q13 : Nat) (x1 : Bool) : Hint := (hB (hM (.bool (x1)) (.bool (x1)) (A_growth_speciesIsDefined s q10 q11 q12 q13) (K_growth_speciesIsDefined s) [(10, 10, 0), (11, 11, 0), (12, 12, 0), (13, 13, 0)]) true)
noncomputable abbrev z4i1 (s : XSpecies) (x_1 : XStand) (w : XWeather) (q10 q11 q12 q13 : Nat) (x2 : XStand) : Hint := (hM (.agg #[I (x2.Age), I (x2.Shoots), I (x2.Height), I (x2.Girth)]) (.agg #[I (x2.Age), I (x2.Shoots), I (x2.Height), I (x2.Girth)]) (A_growth_grower_grow x_1 w) (K_growth_grower_grow (⟨s⟩ : Xgrower) q10 q11 q12 q13) [(11, 10, 0), (12, 11, 0), (13, 12, 0), (14, 13, 0), (10, 104, 0)])
theorem z4p2 (s : XSpecies) (q10 q11 q12 q13 : Nat) : VRs (Ren.emb [(10, 10, 0), (11, 11, 0), (12, 12, 0), (13, 13, 0)]) (A_growth_speciesIsDefined s q10 q11 q12 q13) [.agg #[.slice (some ⟨10, 0, none⟩) (s.Rise.length) (q10), .slice (some ⟨11, 0, none⟩) (s.Thick.length) (q11), I (s.Top), I (s.Stout), I (s.Shade), I (s.Reach), .slice (some ⟨12, 0, none⟩) (s.Ladder.length) (q12), .slice (some ⟨13, 0, none⟩) (s.Sprouts.length) (q13)]] := (.cons _ _ _ _ (.agg _ _ (.cons _ _ _ _ (.slc 10 0 _ _ _ ⟨10, 0, 0, 0⟩ rfl (.inl rfl)) (.cons _ _ _ _ (.slc 11 0 _ _ _ ⟨11, 0, 0, 0⟩ rfl (.inl rfl)) (.cons _ _ _ _ (VR.of_pf rfl) (.cons _ _ _ _ (VR.of_pf rfl) (.cons _ _ _ _ (VR.of_pf rfl) (.cons _ _ _ _ (VR.of_pf rfl) (.cons _ _ _ _ (.slc 12 0 _ _ _ ⟨12, 0, 0, 0⟩ rfl (.inl rfl)) (.cons _ _ _ _ (.slc 13 0 _ _ _ ⟨13, 0, 0, 0⟩ rfl (.inl rfl)) .nil))))))))) .nil)
theorem z4p3 (s : XSpecies) : MemAt (Ren.emb [(10, 10, 0), (11, 11, 0), (12, 12, 0), (13, 13, 0)]) (encL cInt s.Rise) 0 (encL cInt s.Rise) ∧ MemAt (Ren.emb [(10, 10, 0), (11, 11, 0), (12, 12, 0), (13, 13, 0)]) (encL cInt s.Thick) 0 (encL cInt s.Thick) ∧ MemAt (Ren.emb [(10, 10, 0), (11, 11, 0), (12, 12, 0), (13, 13, 0)]) (encL cXRung s.Ladder) 0 (encL cXRung s.Ladder) ∧ MemAt (Ren.emb [(10, 10, 0), (11, 11, 0), (12, 12, 0), (13, 13, 0)]) (encL cXSpan s.Sprouts) 0 (encL cXSpan s.Sprouts) ∧ True := ⟨MemAt.same _ (encL_pf cInt_pf _), MemAt.same _ (encL_pf cInt_pf _), MemAt.same _ (encL_pf cXRung_pf _), MemAt.same _ (encL_pf cXSpan_pf _), trivial⟩
theorem z4p4 (x_1 : XStand) (w : XWeather) : VRs (Ren.emb [(11, 10, 0), (12, 11, 0), (13, 12, 0), (14, 13, 0), (10, 104, 0)]) (A_growth_grower_grow x_1 w) [.pointer (some ⟨104, 0, none⟩), .agg #[I (x_1.Age), I (x_1.Shoots), I (x_1.Height), I (x_1.Girth)], .agg #[I (w.Light), I (w.Browse), I (w.Mild)]] := (.cons _ _ _ _ (.ptr 10 0 ⟨104, 0, 0, 0⟩ rfl) (.cons _ _ _ _ (VR.of_pf rfl) (.cons _ _ _ _ (VR.of_pf rfl) .nil)))
theorem z4p5 (s : XSpecies) (q10 q11 q12 q13 : Nat) : MemAt (Ren.emb [(11, 10, 0), (12, 11, 0), (13, 12, 0), (14, 13, 0), (10, 104, 0)]) (encL cInt (((⟨s⟩ : Xgrower).Species).Rise)) 0 (encL cInt s.Rise) ∧ MemAt (Ren.emb [(11, 10, 0), (12, 11, 0), (13, 12, 0), (14, 13, 0), (10, 104, 0)]) (encL cInt (((⟨s⟩ : Xgrower).Species).Thick)) 0 (encL cInt s.Thick) ∧ MemAt (Ren.emb [(11, 10, 0), (12, 11, 0), (13, 12, 0), (14, 13, 0), (10, 104, 0)]) (encL cXRung (((⟨s⟩ : Xgrower).Species).Ladder)) 0 (encL cXRung s.Ladder) ∧ MemAt (Ren.emb [(11, 10, 0), (12, 11, 0), (13, 12, 0), (14, 13, 0), (10, 104, 0)]) (encL cXSpan (((⟨s⟩ : Xgrower).Species).Sprouts)) 0 (encL cXSpan s.Sprouts) ∧ MemAt (Ren.emb [(11, 10, 0), (12, 11, 0), (13, 12, 0), (14, 13, 0), (10, 104, 0)]) [.slice (some ⟨11, 0, none⟩) ((((⟨s⟩ : Xgrower).Species).Rise).length) (q10), .slice (some ⟨12, 0, none⟩) ((((⟨s⟩ : Xgrower).Species).Thick).length) (q11), I (((⟨s⟩ : Xgrower).Species).Top), I (((⟨s⟩ : Xgrower).Species).Stout), I (((⟨s⟩ : Xgrower).Species).Shade), I (((⟨s⟩ : Xgrower).Species).Reach), .slice (some ⟨13, 0, none⟩) ((((⟨s⟩ : Xgrower).Species).Ladder).length) (q12), .slice (some ⟨14, 0, none⟩) ((((⟨s⟩ : Xgrower).Species).Sprouts).length) (q13)] 0 [.slice (some ⟨10, 0, none⟩) (s.Rise.length) (q10), .slice (some ⟨11, 0, none⟩) (s.Thick.length) (q11), I (s.Top), I (s.Stout), I (s.Shade), I (s.Reach), .slice (some ⟨12, 0, none⟩) (s.Ladder.length) (q12), .slice (some ⟨13, 0, none⟩) (s.Sprouts.length) (q13)] ∧ True := ⟨MemAt.same _ (encL_pf cInt_pf _), MemAt.same _ (encL_pf cInt_pf _), MemAt.same _ (encL_pf cXRung_pf _), MemAt.same _ (encL_pf cXSpan_pf _), MemAt.of (.cons _ _ _ _ (.slc 11 0 _ _ _ ⟨10, 0, 0, 0⟩ rfl (.inl rfl)) (.cons _ _ _ _ (.slc 12 0 _ _ _ ⟨11, 0, 0, 0⟩ rfl (.inl rfl)) (.cons _ _ _ _ (VR.of_pf rfl) (.cons _ _ _ _ (VR.of_pf rfl) (.cons _ _ _ _ (VR.of_pf rfl) (.cons _ _ _ _ (VR.of_pf rfl) (.cons _ _ _ _ (.slc 13 0 _ _ _ ⟨12, 0, 0, 0⟩ rfl (.inl rfl)) (.cons _ _ _ _ (.slc 14 0 _ _ _ ⟨13, 0, 0, 0⟩ rfl (.inl rfl)) .nil)))))))), trivial⟩
abbrev z4r6 (x1 : Bool) : Prop := VR (Ren.emb [(10, 10, 0), (11, 11, 0), (12, 12, 0), (13, 13, 0)]) (.bool (x1)) (.bool (x1))
abbrev z4r7 (x2 : XStand) : Prop := VR (Ren.emb [(11, 10, 0), (12, 11, 0), (13, 12, 0), (14, 13, 0), (10, 104, 0)]) (.agg #[I (x2.Age), I (x2.Shoots), I (x2.Height), I (x2.Girth)]) (.agg #[I (x2.Age), I (x2.Shoots), I (x2.Height), I (x2.Girth)])
noncomputable abbrev z4i8 (s : XSpecies) (q10 q11 q12 q13 : Nat) (x1 : Bool) : Hint := (hB (hM (.bool (x1)) (.bool (x1)) (A_growth_speciesIsDefined s q10 q11 q12 q13) (K_growth_speciesIsDefined s) [(10, 10, 0), (11, 11, 0), (12, 12, 0), (13, 13, 0)]) false)
abbrev A_growth_Grow (s : XSpecies) (x_1 : XStand) (w : XWeather) (q10 q11 q12 q13 : Nat) : List Value := [.agg #[.slice (some ⟨10, 0, none⟩) (s.Rise.length) (q10), .slice (some ⟨11, 0, none⟩) (s.Thick.length) (q11), I (s.Top), I (s.Stout), I (s.Shade), I (s.Reach), .slice (some ⟨12, 0, none⟩) (s.Ladder.length) (q12), .slice (some ⟨13, 0, none⟩) (s.Sprouts.length) (q13)], .agg #[I (x_1.Age), I (x_1.Shoots), I (x_1.Height), I (x_1.Girth)], .agg #[I (w.Light), I (w.Browse), I (w.Mild)]]
abbrev K_growth_Grow (s : XSpecies) : List (Nat × List Value) := [(10, encL cInt s.Rise), (11, encL cInt s.Thick), (12, encL cXRung s.Ladder), (13, encL cXSpan s.Sprouts)]
noncomputable def growth_Grow (fu : Nat) (s : XSpecies) (x_1 : XStand) (w : XWeather) : Option (XStand × Int) :=
  Option.bind (growth_speciesIsDefined fu s) fun x1 =>
  bif x1 then (bif growth_standIsDefined x_1 then (bif growth_weatherIsDefined w then (Option.bind (growth_grower_grow fu (⟨s⟩ : Xgrower) x_1 w) fun x2 =>
        some (x2, 0))
      else some ((⟨0, 0, 0, 0⟩ : XStand), 2))
    else some ((⟨0, 0, 0, 0⟩ : XStand), 2))
  else some ((⟨0, 0, 0, 0⟩ : XStand), 2)
theorem growth_Grow_fc (fu : Nat) (s : XSpecies) (x_1 : XStand) (w : XWeather) (q10 q11 q12 q13 : Nat) (r : XStand × Int) (hh : growth_Grow fu s x_1 w = some r) : FC P GG 19 (A_growth_Grow s x_1 w q10 q11 q12 q13) (K_growth_Grow s) (.tuple #[.agg #[I (r.1.Age), I (r.1.Shoots), I (r.1.Height), I (r.1.Girth)], I (r.2)]) := by
  refine FC.of_fsat 28 100 Tryd.func19 (by kernel_rfl) (by kernel_rfl) (by kernel_rfl) ⟨PinL.pf (encL_pf cInt_pf _), PinL.pf (encL_pf cInt_pf _), PinL.pf (encL_pf cXRung_pf _), PinL.pf (encL_pf cXSpan_pf _), trivial⟩ ?_
  unfold growth_Grow at hh
  cases h1 : growth_speciesIsDefined fu s with
  | none => rw [h1, oN] at hh; cases hh
  | some x1 =>
   rw [h1, oS] at hh
   rcases bb (x1) with h2 | h2
   ·rw [h2, cT] at hh
    rcases bb (growth_standIsDefined x_1) with h3 | h3
    ·rw [h3, cT] at hh
     rcases bb (growth_weatherIsDefined w) with h4 | h4
     ·rw [h4, cT] at hh
      cases h5 : growth_grower_grow fu (⟨s⟩ : Xgrower) x_1 w with
      | none => rw [h5, oN] at hh; cases hh
      | some x2 =>
       rw [h5, oS] at hh
       rw [← sI hh]
       exact FSat.d pfT 17 (hR 6 ((z4i0 s q10 q11 q12 q13 x1) :: hE :: hE :: hE :: (hB (hC (.bool (growth_standIsDefined x_1))) true) :: (hR 4 ((hB (hC (.bool (growth_weatherIsDefined w))) true) :: (hR 8 [(z4i1 s x_1 w q10 q11 q12 q13 x2), hE, hE]))))) [] (pc (growth_speciesIsDefined_fc fu s q10 q11 q12 q13 x1 h1) <| pc (z4p2 s q10 q11 q12 q13) <| pc (z4p3 s) <| pt (z4r6 x1) (selfB_self 9 _ rfl _) <| pc h2 <| pc (growth_standIsDefined_fc x_1) <| pc h3 <| pc (growth_weatherIsDefined_fc w) <| pc h4 <| pc (growth_grower_grow_fc fu (⟨s⟩ : Xgrower) x_1 w q10 q11 q12 q13 x2 h5) <| pc (z4p4 x_1 w) <| pc (z4p5 s q10 q11 q12 q13) <| pt (z4r7 x2) (selfB_self 9 _ rfl _) <| pn) (by kernel_rfl) (by kernel_rfl)
     ·rw [h4, cF] at hh
      rw [← sI hh]
      exact FSat.d pfT 14 (hR 6 ((z4i0 s q10 q11 q12 q13 x1) :: hE :: hE :: hE :: (hB (hC (.bool (growth_standIsDefined x_1))) true) :: (hR 4 ((hB (hC (.bool (growth_weatherIsDefined w))) false) :: (hR 5 []))))) [] (pc (growth_speciesIsDefined_fc fu s q10 q11 q12 q13 x1 h1) <| pc (z4p2 s q10 q11 q12 q13) <| pc (z4p3 s) <| pt (z4r6 x1) (selfB_self 9 _ rfl _) <| pc h2 <| pc (growth_standIsDefined_fc x_1) <| pc h3 <| pc (growth_weatherIsDefined_fc w) <| pc h4 <| pn) (by kernel_rfl) (by kernel_rfl)
    ·rw [h3, cF] at hh
     rw [← sI hh]
     exact FSat.d pfT 14 (hR 6 ((z4i0 s q10 q11 q12 q13 x1) :: hE :: hE :: hE :: (hB (hC (.bool (growth_standIsDefined x_1))) false) :: (hR 7 []))) [] (pc (growth_speciesIsDefined_fc fu s q10 q11 q12 q13 x1 h1) <| pc (z4p2 s q10 q11 q12 q13) <| pc (z4p3 s) <| pt (z4r6 x1) (selfB_self 9 _ rfl _) <| pc h2 <| pc (growth_standIsDefined_fc x_1) <| pc h3 <| pn) (by kernel_rfl) (by kernel_rfl)
   ·rw [h2, cF] at hh
    rw [← sI hh]
    exact FSat.d pfT 14 (hR 6 ((z4i8 s q10 q11 q12 q13 x1) :: (hR 8 []))) [] (pc (growth_speciesIsDefined_fc fu s q10 q11 q12 q13 x1 h1) <| pc (z4p2 s q10 q11 q12 q13) <| pc (z4p3 s) <| pt (z4r6 x1) (selfB_self 9 _ rfl _) <| pc h2 <| pn) (by kernel_rfl) (by kernel_rfl)

/- greenhew/growth.boxIsDefined -/
abbrev A_growth_boxIsDefined (b : XBox) : List Value := [.agg #[I (b.Low.Age), I (b.Low.Shoots), I (b.Low.Height), I (b.Low.Girth), I (b.High.Age), I (b.High.Shoots), I (b.High.Height), I (b.High.Girth)]]
noncomputable def growth_boxIsDefined (b : XBox) : Bool :=
  bif growth_standIsDefined b.Low then (bif growth_standIsDefined b.High then (bif b.Low.Age == b.High.Age then (bif decide (b.Low.Shoots ≤ b.High.Shoots) then (bif decide (b.Low.Height ≤ b.High.Height) then decide (b.Low.Girth ≤ b.High.Girth)
          else false)
        else false)
      else false)
    else false)
  else false
theorem growth_boxIsDefined_fc (b : XBox) : FC P GG 68 (A_growth_boxIsDefined b) [] (.bool (growth_boxIsDefined b)) := by
  refine FC.of_fsat 47 100 Tryd.func68 (by kernel_rfl) (by kernel_rfl) (by kernel_rfl) trivial ?_
  rcases bb (growth_standIsDefined b.Low) with h1 | h1
  ·rcases bb (growth_standIsDefined b.High) with h2 | h2
   ·rcases bb (b.Low.Age == b.High.Age) with h3 | h3
    ·rcases bb (decide (b.Low.Shoots ≤ b.High.Shoots)) with h4 | h4
     ·rcases bb (decide (b.Low.Height ≤ b.High.Height)) with h5 | h5
      ·have e : growth_boxIsDefined b = decide (b.Low.Girth ≤ b.High.Girth) := by unfold growth_boxIsDefined; rw [h1, cT, h2, cT, h3, cT, h4, cT, h5, cT]; first | done | rfl
       rw [e]
       exact FSat.d pfT 10 (hR 4 ((hB (hC (.bool (growth_standIsDefined b.Low))) true) :: hE :: hE :: hE :: (hB (hC (.bool (growth_standIsDefined b.High))) true) :: (hR 8 (hT :: (hR 8 (hT :: (hR 8 (hT :: (hR 11 []))))))))) [] (pc (growth_standIsDefined_fc b.Low) <| pc h1 <| pc (growth_standIsDefined_fc b.High) <| pc h2 <| pc h3 <| pc h4 <| pc h5 <| pn) (by kernel_rfl) (by kernel_rfl)
      ·have e : growth_boxIsDefined b = false := by unfold growth_boxIsDefined; rw [h1, cT, h2, cT, h3, cT, h4, cT, h5, cF]; first | done | rfl
       rw [e]
       exact FSat.d pfT 10 (hR 4 ((hB (hC (.bool (growth_standIsDefined b.Low))) true) :: hE :: hE :: hE :: (hB (hC (.bool (growth_standIsDefined b.High))) true) :: (hR 8 (hT :: (hR 8 (hT :: (hR 8 (hF :: (hR 4 []))))))))) [] (pc (growth_standIsDefined_fc b.Low) <| pc h1 <| pc (growth_standIsDefined_fc b.High) <| pc h2 <| pc h3 <| pc h4 <| pc h5 <| pn) (by kernel_rfl) (by kernel_rfl)
     ·have e : growth_boxIsDefined b = false := by unfold growth_boxIsDefined; rw [h1, cT, h2, cT, h3, cT, h4, cF]; first | done | rfl
      rw [e]
      exact FSat.d pfT 10 (hR 4 ((hB (hC (.bool (growth_standIsDefined b.Low))) true) :: hE :: hE :: hE :: (hB (hC (.bool (growth_standIsDefined b.High))) true) :: (hR 8 (hT :: (hR 8 (hF :: (hR 6 []))))))) [] (pc (growth_standIsDefined_fc b.Low) <| pc h1 <| pc (growth_standIsDefined_fc b.High) <| pc h2 <| pc h3 <| pc h4 <| pn) (by kernel_rfl) (by kernel_rfl)
    ·have e : growth_boxIsDefined b = false := by unfold growth_boxIsDefined; rw [h1, cT, h2, cT, h3, cF]; first | done | rfl
     rw [e]
     exact FSat.d pfT 10 (hR 4 ((hB (hC (.bool (growth_standIsDefined b.Low))) true) :: hE :: hE :: hE :: (hB (hC (.bool (growth_standIsDefined b.High))) true) :: (hR 8 (hF :: (hR 8 []))))) [] (pc (growth_standIsDefined_fc b.Low) <| pc h1 <| pc (growth_standIsDefined_fc b.High) <| pc h2 <| pc h3 <| pn) (by kernel_rfl) (by kernel_rfl)
   ·have e : growth_boxIsDefined b = false := by unfold growth_boxIsDefined; rw [h1, cT, h2, cF]; first | done | rfl
    rw [e]
    exact FSat.d pfT 10 (hR 4 ((hB (hC (.bool (growth_standIsDefined b.Low))) true) :: hE :: hE :: hE :: (hB (hC (.bool (growth_standIsDefined b.High))) false) :: (hR 10 []))) [] (pc (growth_standIsDefined_fc b.Low) <| pc h1 <| pc (growth_standIsDefined_fc b.High) <| pc h2 <| pn) (by kernel_rfl) (by kernel_rfl)
  ·have e : growth_boxIsDefined b = false := by unfold growth_boxIsDefined; rw [h1, cF]; first | done | rfl
   rw [e]
   exact FSat.d pfT 10 (hR 4 ((hB (hC (.bool (growth_standIsDefined b.Low))) false) :: (hR 11 []))) [] (pc (growth_standIsDefined_fc b.Low) <| pc h1 <| pn) (by kernel_rfl) (by kernel_rfl)

/- greenhew/growth.seasonIsDefined -/
abbrev A_growth_seasonIsDefined (q : XSeason) : List Value := [.agg #[I (q.Light.Low), I (q.Light.High), I (q.Browse.Low), I (q.Browse.High), I (q.Mild.Low), I (q.Mild.High), .bool (q.Cut)]]
noncomputable def growth_seasonIsDefined (q : XSeason) : Bool :=
  bif growth_isPart q.Light 100 then (bif growth_isPart q.Browse 100 then growth_isPart q.Mild 200
    else false)
  else false
theorem growth_seasonIsDefined_fc (q : XSeason) : FC P GG 72 (A_growth_seasonIsDefined q) [] (.bool (growth_seasonIsDefined q)) := by
  refine FC.of_fsat 16 100 Tryd.func72 (by kernel_rfl) (by kernel_rfl) (by kernel_rfl) trivial ?_
  rcases bb (growth_isPart q.Light 100) with h1 | h1
  ·rcases bb (growth_isPart q.Browse 100) with h2 | h2
   ·have e : growth_seasonIsDefined q = growth_isPart q.Mild 200 := by unfold growth_seasonIsDefined; rw [h1, cT, h2, cT]; first | done | rfl
    rw [e]
    exact FSat.d pfT 10 (hR 4 ((hB (hC (.bool (growth_isPart q.Light 100))) true) :: hE :: hE :: hE :: (hB (hC (.bool (growth_isPart q.Browse 100))) true) :: (hR 4 [(hC (.bool (growth_isPart q.Mild 200))), hE, hE]))) [] (pc (growth_isPart_fc q.Light 100) <| pc h1 <| pc (growth_isPart_fc q.Browse 100) <| pc h2 <| pc (growth_isPart_fc q.Mild 200) <| pn) (by kernel_rfl) (by kernel_rfl)
   ·have e : growth_seasonIsDefined q = false := by unfold growth_seasonIsDefined; rw [h1, cT, h2, cF]; first | done | rfl
    rw [e]
    exact FSat.d pfT 10 (hR 4 ((hB (hC (.bool (growth_isPart q.Light 100))) true) :: hE :: hE :: hE :: (hB (hC (.bool (growth_isPart q.Browse 100))) false) :: (hR 4 []))) [] (pc (growth_isPart_fc q.Light 100) <| pc h1 <| pc (growth_isPart_fc q.Browse 100) <| pc h2 <| pn) (by kernel_rfl) (by kernel_rfl)
  ·have e : growth_seasonIsDefined q = false := by unfold growth_seasonIsDefined; rw [h1, cF]; first | done | rfl
   rw [e]
   exact FSat.d pfT 10 (hR 4 ((hB (hC (.bool (growth_isPart q.Light 100))) false) :: (hR 5 []))) [] (pc (growth_isPart_fc q.Light 100) <| pc h1 <| pn) (by kernel_rfl) (by kernel_rfl)

/- greenhew/growth.atAge[greenhew/api.Span] -/
noncomputable abbrev z29i0 (table : List XSpan) (age : Int) : Hint := (hL (.agg #[I ((at_ zXSpan table (imin age (W (((table.length : Nat) : Int) - 1)))).Low), I ((at_ zXSpan table (imin age (W (((table.length : Nat) : Int) - 1)))).High)]))
abbrev z29r1 (table : List XSpan) (age : Int) : Prop := 0 ≤ (imin age (W (((table.length : Nat) : Int) - 1))) ∧ (imin age (W (((table.length : Nat) : Int) - 1))) < ((table.length : Nat) : Int)
abbrev z29r2 (table : List XSpan) (age : Int) : Prop := RowLd P 56 (encL cXSpan table) (0 + (imin age (W (((table.length : Nat) : Int) - 1))).toNat * 2) (.agg #[I ((at_ zXSpan table (imin age (W (((table.length : Nat) : Int) - 1)))).Low), I ((at_ zXSpan table (imin age (W (((table.length : Nat) : Int) - 1)))).High)])
abbrev A_api_Span_1 (table : List XSpan) (age : Int) (q10 : Nat) : List Value := [.slice (some ⟨10, 0, none⟩) (table.length) (q10), I (age)]
abbrev K_api_Span_1 (table : List XSpan) : List (Nat × List Value) := [(10, encL cXSpan table)]
noncomputable def api_Span_1 (table : List XSpan) (age : Int) : Option XSpan :=
  bif decide (0 ≤ (imin age (W (((table.length : Nat) : Int) - 1))) ∧ (imin age (W (((table.length : Nat) : Int) - 1))) < ((table.length : Nat) : Int)) then some (at_ zXSpan table (imin age (W (((table.length : Nat) : Int) - 1)))) else none
theorem api_Span_1_fc (table : List XSpan) (age : Int) (q10 : Nat) (r : XSpan) (hh : api_Span_1 table age = some r) : FC P GG 123 (A_api_Span_1 table age q10) (K_api_Span_1 table) (.agg #[I (r.Low), I (r.High)]) := by
  refine FC.of_fsat 13 100 Tryd.func123 (by kernel_rfl) (by kernel_rfl) (by kernel_rfl) ⟨PinL.pf (encL_pf cXSpan_pf _), trivial⟩ ?_
  unfold api_Span_1 at hh
  rcases bb (decide (0 ≤ (imin age (W (((table.length : Nat) : Int) - 1))) ∧ (imin age (W (((table.length : Nat) : Int) - 1))) < ((table.length : Nat) : Int))) with h1 | h1
  rotate_left
  ·rw [h1, cF] at hh; cases hh
  ·rw [h1, cT] at hh
   rw [← sI hh]
   exact FSat.d pfT 10 (hR 7 [hX, (z29i0 table age), hE]) [] (pt (z29r1 table age) (of_decide_eq_true h1) <| pt (z29r2 table age) (RowLd.elem cXSpan_len _ (.inl ⟨_, rfl⟩) rfl rfl _ _ (of_decide_eq_true h1)) <| pn) (by kernel_rfl) (by kernel_rfl)

/- (greenhew/growth.grower).cut -/
noncomputable abbrev z28i0 (g : Xgrower) (b : XBox) (q14 : Nat) (x1 : XSpan) : Hint := (hM (.agg #[I (x1.Low), I (x1.High)]) (.agg #[I (x1.Low), I (x1.High)]) (A_api_Span_1 g.Species.Sprouts b.Low.Age q14) (K_api_Span_1 g.Species.Sprouts) [(10, 14, 0)])
theorem z28p1 (g : Xgrower) (b : XBox) (q14 : Nat) : VRs (Ren.emb [(10, 14, 0)]) (A_api_Span_1 g.Species.Sprouts b.Low.Age q14) [.slice (some ⟨14, 0, none⟩) (g.Species.Sprouts.length) (q14), I (b.Low.Age)] := (.cons _ _ _ _ (.slc 10 0 _ _ _ ⟨14, 0, 0, 0⟩ rfl (.inl rfl)) (.cons _ _ _ _ (VR.of_pf rfl) .nil))
abbrev z28r2 (g : Xgrower) : Prop := MemAt (Ren.emb [(10, 14, 0)]) (encL cXSpan g.Species.Sprouts) 0 (encL cXSpan g.Species.Sprouts) ∧ True
abbrev z28r3 (x1 : XSpan) : Prop := VR (Ren.emb [(10, 14, 0)]) (.agg #[I (x1.Low), I (x1.High)]) (.agg #[I (x1.Low), I (x1.High)])
abbrev z28r4 : Prop := (.pointer (some ⟨10, 0, none⟩) : Value) = .pointer (some ⟨10, 0, none⟩)
abbrev z28r5 : Prop := (.pointer (some ⟨10, 7, none⟩) : Value) = .pointer (some ⟨10, 7, none⟩)
abbrev z28r6 (g : Xgrower) (q14 : Nat) : Prop := (.slice (some ⟨14, 0, none⟩) (g.Species.Sprouts.length) (q14) : Value) = .slice (some ⟨14, 0, none⟩) (g.Species.Sprouts.length) (q14)
abbrev z28r7 : Prop := (.pointer (some ⟨100, 0, none⟩) : Value) = .pointer (some ⟨100, 0, none⟩)
abbrev z28r8 (x1 : XSpan) : Prop := (.agg #[I (x1.Low), I (x1.High)] : Value) = .agg #[I (x1.Low), I (x1.High)]
abbrev A_growth_grower_cut (b : XBox) : List Value := [.pointer (some ⟨10, 0, none⟩), .agg #[I (b.Low.Age), I (b.Low.Shoots), I (b.Low.Height), I (b.Low.Girth), I (b.High.Age), I (b.High.Shoots), I (b.High.Height), I (b.High.Girth)]]
abbrev K_growth_grower_cut (g : Xgrower) (q11 q12 q13 q14 : Nat) : List (Nat × List Value) := [(11, encL cInt g.Species.Rise), (12, encL cInt g.Species.Thick), (13, encL cXRung g.Species.Ladder), (14, encL cXSpan g.Species.Sprouts), (10, [.slice (some ⟨11, 0, none⟩) (g.Species.Rise.length) (q11), .slice (some ⟨12, 0, none⟩) (g.Species.Thick.length) (q12), I (g.Species.Top), I (g.Species.Stout), I (g.Species.Shade), I (g.Species.Reach), .slice (some ⟨13, 0, none⟩) (g.Species.Ladder.length) (q13), .slice (some ⟨14, 0, none⟩) (g.Species.Sprouts.length) (q14)])]
noncomputable def growth_grower_cut (g : Xgrower) (b : XBox) : Option XBox :=
  Option.bind (api_Span_1 g.Species.Sprouts b.Low.Age) fun x1 =>
  some (⟨(⟨0, x1.Low, 0, 0⟩ : XStand), (⟨0, x1.High, 0, 0⟩ : XStand)⟩ : XBox)
theorem growth_grower_cut_fc (g : Xgrower) (b : XBox) (q11 q12 q13 q14 : Nat) (r : XBox) (hh : growth_grower_cut g b = some r) : FC P GG 108 (A_growth_grower_cut b) (K_growth_grower_cut g q11 q12 q13 q14) (.agg #[I (r.Low.Age), I (r.Low.Shoots), I (r.Low.Height), I (r.Low.Girth), I (r.High.Age), I (r.High.Shoots), I (r.High.Height), I (r.High.Girth)]) := by
  refine FC.of_fsat 22 100 Tryd.func108 (by kernel_rfl) (by kernel_rfl) (by kernel_rfl) ⟨PinL.pf (encL_pf cInt_pf _), PinL.pf (encL_pf cInt_pf _), PinL.pf (encL_pf cXRung_pf _), PinL.pf (encL_pf cXSpan_pf _), PinL.lit (by kernel_rfl), trivial⟩ ?_
  unfold growth_grower_cut at hh
  cases h1 : api_Span_1 g.Species.Sprouts b.Low.Age with
  | none => rw [h1, oN] at hh; cases hh
  | some x1 =>
   rw [h1, oS] at hh
   rw [← sI hh]
   exact FSat.d pfT 12 (hR 10 ((z28i0 g b q14 x1) :: (hR 10 []))) [] (pc (api_Span_1_fc g.Species.Sprouts b.Low.Age q14 x1 h1) <| pc (z28p1 g b q14) <| pt (z28r2 g) (⟨MemAt.same _ (encL_pf cXSpan_pf _), trivial⟩) <| pt (z28r3 x1) (selfB_self 9 _ rfl _) <| pt z28r4 rfl <| pt z28r4 rfl <| pt z28r4 rfl <| pt z28r5 rfl <| pt (z28r6 g q14) rfl <| pt z28r7 rfl <| pt z28r7 rfl <| pt ((I (b.Low.Age) : Value) = I (b.Low.Age)) rfl <| pc (api_Span_1_fc g.Species.Sprouts b.Low.Age q14 x1 h1) <| pc (z28p1 g b q14) <| pt (z28r2 g) (⟨MemAt.same _ (encL_pf cXSpan_pf _), trivial⟩) <| pt (z28r3 x1) (selfB_self 9 _ rfl _) <| pt (z28r8 x1) rfl <| pn) (by kernel_rfl) (by kernel_rfl)

/- greenhew/growth.crossed -/
abbrev A_growth_crossed (b : XBox) : List Value := [.agg #[I (b.Low.Age), I (b.Low.Shoots), I (b.Low.Height), I (b.Low.Girth), I (b.High.Age), I (b.High.Shoots), I (b.High.Height), I (b.High.Girth)]]
noncomputable def growth_crossed (b : XBox) : XBox :=
  (⟨(⟨b.Low.Age, b.High.Shoots, b.Low.Height, b.Low.Girth⟩ : XStand), (⟨b.High.Age, b.Low.Shoots, b.High.Height, b.High.Girth⟩ : XStand)⟩ : XBox)
theorem growth_crossed_fc (b : XBox) : FC P GG 109 (A_growth_crossed b) [] (.agg #[I (((growth_crossed b).Low).Age), I (((growth_crossed b).Low).Shoots), I (((growth_crossed b).Low).Height), I (((growth_crossed b).Low).Girth), I (((growth_crossed b).High).Age), I (((growth_crossed b).High).Shoots), I (((growth_crossed b).High).Height), I (((growth_crossed b).High).Girth)]) := by
  refine FC.of_fsat 14 100 Tryd.func109 (by kernel_rfl) (by kernel_rfl) (by kernel_rfl) trivial ?_
  have e : growth_crossed b = (⟨(⟨b.Low.Age, b.High.Shoots, b.Low.Height, b.Low.Girth⟩ : XStand), (⟨b.High.Age, b.Low.Shoots, b.High.Height, b.High.Girth⟩ : XStand)⟩ : XBox) := by unfold growth_crossed; rfl
  rw [e]
  exact FSat.d pfT 12 (hR 16 []) [] (pn) (by kernel_rfl) (by kernel_rfl)

/- (greenhew/growth.grower).step -/
noncomputable abbrev z27i0 (g : Xgrower) (b : XBox) (q11 q12 q13 q14 : Nat) (x1 : XBox) : Hint := (hM (.agg #[I (x1.Low.Age), I (x1.Low.Shoots), I (x1.Low.Height), I (x1.Low.Girth), I (x1.High.Age), I (x1.High.Shoots), I (x1.High.Height), I (x1.High.Girth)]) (.agg #[I (x1.Low.Age), I (x1.Low.Shoots), I (x1.Low.Height), I (x1.Low.Girth), I (x1.High.Age), I (x1.High.Shoots), I (x1.High.Height), I (x1.High.Girth)]) (A_growth_grower_cut b) (K_growth_grower_cut g q11 q12 q13 q14) [(11, 11, 0), (12, 12, 0), (13, 13, 0), (14, 14, 0), (10, 10, 0)])
noncomputable abbrev z27i1 (x1 : XBox) : Hint := (hC (.agg #[I (((growth_crossed x1).Low).Age), I (((growth_crossed x1).Low).Shoots), I (((growth_crossed x1).Low).Height), I (((growth_crossed x1).Low).Girth), I (((growth_crossed x1).High).Age), I (((growth_crossed x1).High).Shoots), I (((growth_crossed x1).High).Height), I (((growth_crossed x1).High).Girth)]))
noncomputable abbrev z27i2 (g : Xgrower) (q : XSeason) (q11 q12 q13 q14 : Nat) (x1 : XBox) (x2 : XStand) : Hint := (hM (.agg #[I (x2.Age), I (x2.Shoots), I (x2.Height), I (x2.Girth)]) (.agg #[I (x2.Age), I (x2.Shoots), I (x2.Height), I (x2.Girth)]) (A_growth_grower_grow ((growth_crossed x1).Low) (⟨q.Light.Low, q.Browse.High, q.Mild.Low⟩ : XWeather)) (K_growth_grower_grow g q11 q12 q13 q14) [(11, 11, 0), (12, 12, 0), (13, 13, 0), (14, 14, 0), (10, 10, 0)])
noncomputable abbrev z27i3 (g : Xgrower) (q : XSeason) (q11 q12 q13 q14 : Nat) (x1 : XBox) (x3 : XStand) : Hint := (hM (.agg #[I (x3.Age), I (x3.Shoots), I (x3.Height), I (x3.Girth)]) (.agg #[I (x3.Age), I (x3.Shoots), I (x3.Height), I (x3.Girth)]) (A_growth_grower_grow ((growth_crossed x1).High) (⟨q.Light.High, q.Browse.Low, q.Mild.High⟩ : XWeather)) (K_growth_grower_grow g q11 q12 q13 q14) [(11, 11, 0), (12, 12, 0), (13, 13, 0), (14, 14, 0), (10, 10, 0)])
noncomputable abbrev z27i4 (x2 x3 : XStand) : Hint := (hC (.agg #[I (((growth_crossed (⟨x2, x3⟩ : XBox)).Low).Age), I (((growth_crossed (⟨x2, x3⟩ : XBox)).Low).Shoots), I (((growth_crossed (⟨x2, x3⟩ : XBox)).Low).Height), I (((growth_crossed (⟨x2, x3⟩ : XBox)).Low).Girth), I (((growth_crossed (⟨x2, x3⟩ : XBox)).High).Age), I (((growth_crossed (⟨x2, x3⟩ : XBox)).High).Shoots), I (((growth_crossed (⟨x2, x3⟩ : XBox)).High).Height), I (((growth_crossed (⟨x2, x3⟩ : XBox)).High).Girth)]))
theorem z27p5 (b : XBox) : VRs (Ren.emb [(11, 11, 0), (12, 12, 0), (13, 13, 0), (14, 14, 0), (10, 10, 0)]) (A_growth_grower_cut b) [.pointer (some ⟨10, 0, none⟩), .agg #[I (b.Low.Age), I (b.Low.Shoots), I (b.Low.Height), I (b.Low.Girth), I (b.High.Age), I (b.High.Shoots), I (b.High.Height), I (b.High.Girth)]] := (.cons _ _ _ _ (.ptr 10 0 ⟨10, 0, 0, 0⟩ rfl) (.cons _ _ _ _ (VR.of_pf rfl) .nil))
theorem z27p6 (g : Xgrower) (q11 q12 q13 q14 : Nat) : MemAt (Ren.emb [(11, 11, 0), (12, 12, 0), (13, 13, 0), (14, 14, 0), (10, 10, 0)]) (encL cInt g.Species.Rise) 0 (encL cInt g.Species.Rise) ∧ MemAt (Ren.emb [(11, 11, 0), (12, 12, 0), (13, 13, 0), (14, 14, 0), (10, 10, 0)]) (encL cInt g.Species.Thick) 0 (encL cInt g.Species.Thick) ∧ MemAt (Ren.emb [(11, 11, 0), (12, 12, 0), (13, 13, 0), (14, 14, 0), (10, 10, 0)]) (encL cXRung g.Species.Ladder) 0 (encL cXRung g.Species.Ladder) ∧ MemAt (Ren.emb [(11, 11, 0), (12, 12, 0), (13, 13, 0), (14, 14, 0), (10, 10, 0)]) (encL cXSpan g.Species.Sprouts) 0 (encL cXSpan g.Species.Sprouts) ∧ MemAt (Ren.emb [(11, 11, 0), (12, 12, 0), (13, 13, 0), (14, 14, 0), (10, 10, 0)]) [.slice (some ⟨11, 0, none⟩) (g.Species.Rise.length) (q11), .slice (some ⟨12, 0, none⟩) (g.Species.Thick.length) (q12), I (g.Species.Top), I (g.Species.Stout), I (g.Species.Shade), I (g.Species.Reach), .slice (some ⟨13, 0, none⟩) (g.Species.Ladder.length) (q13), .slice (some ⟨14, 0, none⟩) (g.Species.Sprouts.length) (q14)] 0 [.slice (some ⟨11, 0, none⟩) (g.Species.Rise.length) (q11), .slice (some ⟨12, 0, none⟩) (g.Species.Thick.length) (q12), I (g.Species.Top), I (g.Species.Stout), I (g.Species.Shade), I (g.Species.Reach), .slice (some ⟨13, 0, none⟩) (g.Species.Ladder.length) (q13), .slice (some ⟨14, 0, none⟩) (g.Species.Sprouts.length) (q14)] ∧ True := ⟨MemAt.same _ (encL_pf cInt_pf _), MemAt.same _ (encL_pf cInt_pf _), MemAt.same _ (encL_pf cXRung_pf _), MemAt.same _ (encL_pf cXSpan_pf _), MemAt.of (.cons _ _ _ _ (.slc 11 0 _ _ _ ⟨11, 0, 0, 0⟩ rfl (.inl rfl)) (.cons _ _ _ _ (.slc 12 0 _ _ _ ⟨12, 0, 0, 0⟩ rfl (.inl rfl)) (.cons _ _ _ _ (VR.of_pf rfl) (.cons _ _ _ _ (VR.of_pf rfl) (.cons _ _ _ _ (VR.of_pf rfl) (.cons _ _ _ _ (VR.of_pf rfl) (.cons _ _ _ _ (.slc 13 0 _ _ _ ⟨13, 0, 0, 0⟩ rfl (.inl rfl)) (.cons _ _ _ _ (.slc 14 0 _ _ _ ⟨14, 0, 0, 0⟩ rfl (.inl rfl)) .nil)))))))), trivial⟩
theorem z27p7 (q : XSeason) (x1 : XBox) : VRs (Ren.emb [(11, 11, 0), (12, 12, 0), (13, 13, 0), (14, 14, 0), (10, 10, 0)]) (A_growth_grower_grow ((growth_crossed x1).Low) (⟨q.Light.Low, q.Browse.High, q.Mild.Low⟩ : XWeather)) [.pointer (some ⟨10, 0, none⟩), .agg #[I (((growth_crossed x1).Low).Age), I (((growth_crossed x1).Low).Shoots), I (((growth_crossed x1).Low).Height), I (((growth_crossed x1).Low).Girth)], .agg #[I (q.Light.Low), I (q.Browse.High), I (q.Mild.Low)]] := (.cons _ _ _ _ (.ptr 10 0 ⟨10, 0, 0, 0⟩ rfl) (.cons _ _ _ _ (VR.of_pf rfl) (.cons _ _ _ _ (VR.of_pf rfl) .nil)))
theorem z27p8 (q : XSeason) (x1 : XBox) : VRs (Ren.emb [(11, 11, 0), (12, 12, 0), (13, 13, 0), (14, 14, 0), (10, 10, 0)]) (A_growth_grower_grow ((growth_crossed x1).High) (⟨q.Light.High, q.Browse.Low, q.Mild.High⟩ : XWeather)) [.pointer (some ⟨10, 0, none⟩), .agg #[I (((growth_crossed x1).High).Age), I (((growth_crossed x1).High).Shoots), I (((growth_crossed x1).High).Height), I (((growth_crossed x1).High).Girth)], .agg #[I (q.Light.High), I (q.Browse.Low), I (q.Mild.High)]] := (.cons _ _ _ _ (.ptr 10 0 ⟨10, 0, 0, 0⟩ rfl) (.cons _ _ _ _ (VR.of_pf rfl) (.cons _ _ _ _ (VR.of_pf rfl) .nil)))
abbrev z27r9 (x1 : XBox) : Prop := VR (Ren.emb [(11, 11, 0), (12, 12, 0), (13, 13, 0), (14, 14, 0), (10, 10, 0)]) (.agg #[I (x1.Low.Age), I (x1.Low.Shoots), I (x1.Low.Height), I (x1.Low.Girth), I (x1.High.Age), I (x1.High.Shoots), I (x1.High.Height), I (x1.High.Girth)]) (.agg #[I (x1.Low.Age), I (x1.Low.Shoots), I (x1.Low.Height), I (x1.Low.Girth), I (x1.High.Age), I (x1.High.Shoots), I (x1.High.Height), I (x1.High.Girth)])
abbrev z27r10 (x2 : XStand) : Prop := VR (Ren.emb [(11, 11, 0), (12, 12, 0), (13, 13, 0), (14, 14, 0), (10, 10, 0)]) (.agg #[I (x2.Age), I (x2.Shoots), I (x2.Height), I (x2.Girth)]) (.agg #[I (x2.Age), I (x2.Shoots), I (x2.Height), I (x2.Girth)])
abbrev z27r11 (x3 : XStand) : Prop := VR (Ren.emb [(11, 11, 0), (12, 12, 0), (13, 13, 0), (14, 14, 0), (10, 10, 0)]) (.agg #[I (x3.Age), I (x3.Shoots), I (x3.Height), I (x3.Girth)]) (.agg #[I (x3.Age), I (x3.Shoots), I (x3.Height), I (x3.Girth)])
noncomputable abbrev z27i12 (b : XBox) : Hint := (hC (.agg #[I (((growth_crossed b).Low).Age), I (((growth_crossed b).Low).Shoots), I (((growth_crossed b).Low).Height), I (((growth_crossed b).Low).Girth), I (((growth_crossed b).High).Age), I (((growth_crossed b).High).Shoots), I (((growth_crossed b).High).Height), I (((growth_crossed b).High).Girth)]))
noncomputable abbrev z27i13 (g : Xgrower) (b : XBox) (q : XSeason) (q11 q12 q13 q14 : Nat) (x4 : XStand) : Hint := (hM (.agg #[I (x4.Age), I (x4.Shoots), I (x4.Height), I (x4.Girth)]) (.agg #[I (x4.Age), I (x4.Shoots), I (x4.Height), I (x4.Girth)]) (A_growth_grower_grow ((growth_crossed b).Low) (⟨q.Light.Low, q.Browse.High, q.Mild.Low⟩ : XWeather)) (K_growth_grower_grow g q11 q12 q13 q14) [(11, 11, 0), (12, 12, 0), (13, 13, 0), (14, 14, 0), (10, 10, 0)])
noncomputable abbrev z27i14 (g : Xgrower) (b : XBox) (q : XSeason) (q11 q12 q13 q14 : Nat) (x5 : XStand) : Hint := (hM (.agg #[I (x5.Age), I (x5.Shoots), I (x5.Height), I (x5.Girth)]) (.agg #[I (x5.Age), I (x5.Shoots), I (x5.Height), I (x5.Girth)]) (A_growth_grower_grow ((growth_crossed b).High) (⟨q.Light.High, q.Browse.Low, q.Mild.High⟩ : XWeather)) (K_growth_grower_grow g q11 q12 q13 q14) [(11, 11, 0), (12, 12, 0), (13, 13, 0), (14, 14, 0), (10, 10, 0)])
noncomputable abbrev z27i15 (x4 x5 : XStand) : Hint := (hC (.agg #[I (((growth_crossed (⟨x4, x5⟩ : XBox)).Low).Age), I (((growth_crossed (⟨x4, x5⟩ : XBox)).Low).Shoots), I (((growth_crossed (⟨x4, x5⟩ : XBox)).Low).Height), I (((growth_crossed (⟨x4, x5⟩ : XBox)).Low).Girth), I (((growth_crossed (⟨x4, x5⟩ : XBox)).High).Age), I (((growth_crossed (⟨x4, x5⟩ : XBox)).High).Shoots), I (((growth_crossed (⟨x4, x5⟩ : XBox)).High).Height), I (((growth_crossed (⟨x4, x5⟩ : XBox)).High).Girth)]))
theorem z27p16 (b : XBox) (q : XSeason) : VRs (Ren.emb [(11, 11, 0), (12, 12, 0), (13, 13, 0), (14, 14, 0), (10, 10, 0)]) (A_growth_grower_grow ((growth_crossed b).Low) (⟨q.Light.Low, q.Browse.High, q.Mild.Low⟩ : XWeather)) [.pointer (some ⟨10, 0, none⟩), .agg #[I (((growth_crossed b).Low).Age), I (((growth_crossed b).Low).Shoots), I (((growth_crossed b).Low).Height), I (((growth_crossed b).Low).Girth)], .agg #[I (q.Light.Low), I (q.Browse.High), I (q.Mild.Low)]] := (.cons _ _ _ _ (.ptr 10 0 ⟨10, 0, 0, 0⟩ rfl) (.cons _ _ _ _ (VR.of_pf rfl) (.cons _ _ _ _ (VR.of_pf rfl) .nil)))
theorem z27p17 (b : XBox) (q : XSeason) : VRs (Ren.emb [(11, 11, 0), (12, 12, 0), (13, 13, 0), (14, 14, 0), (10, 10, 0)]) (A_growth_grower_grow ((growth_crossed b).High) (⟨q.Light.High, q.Browse.Low, q.Mild.High⟩ : XWeather)) [.pointer (some ⟨10, 0, none⟩), .agg #[I (((growth_crossed b).High).Age), I (((growth_crossed b).High).Shoots), I (((growth_crossed b).High).Height), I (((growth_crossed b).High).Girth)], .agg #[I (q.Light.High), I (q.Browse.Low), I (q.Mild.High)]] := (.cons _ _ _ _ (.ptr 10 0 ⟨10, 0, 0, 0⟩ rfl) (.cons _ _ _ _ (VR.of_pf rfl) (.cons _ _ _ _ (VR.of_pf rfl) .nil)))
abbrev z27r18 (x4 : XStand) : Prop := VR (Ren.emb [(11, 11, 0), (12, 12, 0), (13, 13, 0), (14, 14, 0), (10, 10, 0)]) (.agg #[I (x4.Age), I (x4.Shoots), I (x4.Height), I (x4.Girth)]) (.agg #[I (x4.Age), I (x4.Shoots), I (x4.Height), I (x4.Girth)])
abbrev z27r19 (x5 : XStand) : Prop := VR (Ren.emb [(11, 11, 0), (12, 12, 0), (13, 13, 0), (14, 14, 0), (10, 10, 0)]) (.agg #[I (x5.Age), I (x5.Shoots), I (x5.Height), I (x5.Girth)]) (.agg #[I (x5.Age), I (x5.Shoots), I (x5.Height), I (x5.Girth)])
abbrev A_growth_grower_step (b : XBox) (q : XSeason) : List Value := [.pointer (some ⟨10, 0, none⟩), .agg #[I (b.Low.Age), I (b.Low.Shoots), I (b.Low.Height), I (b.Low.Girth), I (b.High.Age), I (b.High.Shoots), I (b.High.Height), I (b.High.Girth)], .agg #[I (q.Light.Low), I (q.Light.High), I (q.Browse.Low), I (q.Browse.High), I (q.Mild.Low), I (q.Mild.High), .bool (q.Cut)]]
abbrev K_growth_grower_step (g : Xgrower) (q11 q12 q13 q14 : Nat) : List (Nat × List Value) := [(11, encL cInt g.Species.Rise), (12, encL cInt g.Species.Thick), (13, encL cXRung g.Species.Ladder), (14, encL cXSpan g.Species.Sprouts), (10, [.slice (some ⟨11, 0, none⟩) (g.Species.Rise.length) (q11), .slice (some ⟨12, 0, none⟩) (g.Species.Thick.length) (q12), I (g.Species.Top), I (g.Species.Stout), I (g.Species.Shade), I (g.Species.Reach), .slice (some ⟨13, 0, none⟩) (g.Species.Ladder.length) (q13), .slice (some ⟨14, 0, none⟩) (g.Species.Sprouts.length) (q14)])]
noncomputable def growth_grower_step (fu : Nat) (g : Xgrower) (b : XBox) (q : XSeason) : Option XBox :=
  bif q.Cut then (Option.bind (growth_grower_cut g b) fun x1 =>
    Option.bind (growth_grower_grow fu g ((growth_crossed x1).Low) (⟨q.Light.Low, q.Browse.High, q.Mild.Low⟩ : XWeather)) fun x2 =>
    Option.bind (growth_grower_grow fu g ((growth_crossed x1).High) (⟨q.Light.High, q.Browse.Low, q.Mild.High⟩ : XWeather)) fun x3 =>
    some (⟨((growth_crossed (⟨x2, x3⟩ : XBox)).Low), ((growth_crossed (⟨x2, x3⟩ : XBox)).High)⟩ : XBox))
  else (Option.bind (growth_grower_grow fu g ((growth_crossed b).Low) (⟨q.Light.Low, q.Browse.High, q.Mild.Low⟩ : XWeather)) fun x4 =>
    Option.bind (growth_grower_grow fu g ((growth_crossed b).High) (⟨q.Light.High, q.Browse.Low, q.Mild.High⟩ : XWeather)) fun x5 =>
    some (⟨((growth_crossed (⟨x4, x5⟩ : XBox)).Low), ((growth_crossed (⟨x4, x5⟩ : XBox)).High)⟩ : XBox))
theorem growth_grower_step_fc (fu : Nat) (g : Xgrower) (b : XBox) (q : XSeason) (q11 q12 q13 q14 : Nat) (r : XBox) (hh : growth_grower_step fu g b q = some r) : FC P GG 73 (A_growth_grower_step b q) (K_growth_grower_step g q11 q12 q13 q14) (.agg #[I (r.Low.Age), I (r.Low.Shoots), I (r.Low.Height), I (r.Low.Girth), I (r.High.Age), I (r.High.Shoots), I (r.High.Height), I (r.High.Girth)]) := by
  refine FC.of_fsat 49 100 Tryd.func73 (by kernel_rfl) (by kernel_rfl) (by kernel_rfl) ⟨PinL.pf (encL_pf cInt_pf _), PinL.pf (encL_pf cInt_pf _), PinL.pf (encL_pf cXRung_pf _), PinL.pf (encL_pf cXSpan_pf _), PinL.lit (by kernel_rfl), trivial⟩ ?_
  unfold growth_grower_step at hh
  rcases bb (q.Cut) with h1 | h1
  ·rw [h1, cT] at hh
   cases h2 : growth_grower_cut g b with
   | none => rw [h2, oN] at hh; cases hh
   | some x1 =>
    rw [h2, oS] at hh
    cases h3 : growth_grower_grow fu g ((growth_crossed x1).Low) (⟨q.Light.Low, q.Browse.High, q.Mild.Low⟩ : XWeather) with
    | none => rw [h3, oN] at hh; cases hh
    | some x2 =>
     rw [h3, oS] at hh
     cases h4 : growth_grower_grow fu g ((growth_crossed x1).High) (⟨q.Light.High, q.Browse.Low, q.Mild.High⟩ : XWeather) with
     | none => rw [h4, oN] at hh; cases hh
     | some x3 =>
      rw [h4, oS] at hh
      rw [← sI hh]
      exact FSat.d pfT 21 (hR 4 (hT :: hE :: hE :: (z27i0 g b q11 q12 q13 q14 x1) :: (hR 26 ((z27i1 x1) :: (hR 6 ((z27i2 g q q11 q12 q13 q14 x1 x2) :: (hR 4 [(z27i3 g q q11 q12 q13 q14 x1 x3), hE, (z27i4 x2 x3), hE]))))))) [] (pc h1 <| pc (growth_grower_cut_fc g b q11 q12 q13 q14 x1 h2) <| pc (z27p5 b) <| pc (z27p6 g q11 q12 q13 q14) <| pt (z27r9 x1) (selfB_self 9 _ rfl _) <| pc (growth_crossed_fc x1) <| pc (growth_grower_grow_fc fu g ((growth_crossed x1).Low) (⟨q.Light.Low, q.Browse.High, q.Mild.Low⟩ : XWeather) q11 q12 q13 q14 x2 h3) <| pc (z27p7 q x1) <| pc (z27p6 g q11 q12 q13 q14) <| pt (z27r10 x2) (selfB_self 9 _ rfl _) <| pc (growth_grower_grow_fc fu g ((growth_crossed x1).High) (⟨q.Light.High, q.Browse.Low, q.Mild.High⟩ : XWeather) q11 q12 q13 q14 x3 h4) <| pc (z27p8 q x1) <| pc (z27p6 g q11 q12 q13 q14) <| pt (z27r11 x3) (selfB_self 9 _ rfl _) <| pc (growth_crossed_fc (⟨x2, x3⟩ : XBox)) <| pn) (by kernel_rfl) (by kernel_rfl)
  ·rw [h1, cF] at hh
   cases h2 : growth_grower_grow fu g ((growth_crossed b).Low) (⟨q.Light.Low, q.Browse.High, q.Mild.Low⟩ : XWeather) with
   | none => rw [h2, oN] at hh; cases hh
   | some x4 =>
    rw [h2, oS] at hh
    cases h3 : growth_grower_grow fu g ((growth_crossed b).High) (⟨q.Light.High, q.Browse.Low, q.Mild.High⟩ : XWeather) with
    | none => rw [h3, oN] at hh; cases hh
    | some x5 =>
     rw [h3, oS] at hh
     rw [← sI hh]
     exact FSat.d pfT 21 (hR 4 (hF :: (hR 25 ((z27i12 b) :: (hR 6 ((z27i13 g b q q11 q12 q13 q14 x4) :: (hR 4 [(z27i14 g b q q11 q12 q13 q14 x5), hE, (z27i15 x4 x5), hE]))))))) [] (pc h1 <| pc (growth_crossed_fc b) <| pc (growth_grower_grow_fc fu g ((growth_crossed b).Low) (⟨q.Light.Low, q.Browse.High, q.Mild.Low⟩ : XWeather) q11 q12 q13 q14 x4 h2) <| pc (z27p16 b q) <| pc (z27p6 g q11 q12 q13 q14) <| pt (z27r18 x4) (selfB_self 9 _ rfl _) <| pc (growth_grower_grow_fc fu g ((growth_crossed b).High) (⟨q.Light.High, q.Browse.Low, q.Mild.High⟩ : XWeather) q11 q12 q13 q14 x5 h3) <| pc (z27p17 b q) <| pc (z27p6 g q11 q12 q13 q14) <| pt (z27r19 x5) (selfB_self 9 _ rfl _) <| pc (growth_crossed_fc (⟨x4, x5⟩ : XBox)) <| pn) (by kernel_rfl) (by kernel_rfl)

/- greenhew/growth.Step -/
noncomputable abbrev z24i0 (s : XSpecies) (q10 q11 q12 q13 : Nat) (x1 : Bool) : Hint := (hB (hM (.bool (x1)) (.bool (x1)) (A_growth_speciesIsDefined s q10 q11 q12 q13) (K_growth_speciesIsDefined s) [(10, 10, 0), (11, 11, 0), (12, 12, 0), (13, 13, 0)]) true)
noncomputable abbrev z24i1 (s : XSpecies) (b : XBox) (q : XSeason) (q10 q11 q12 q13 : Nat) (x2 : XBox) : Hint := (hM (.agg #[I (x2.Low.Age), I (x2.Low.Shoots), I (x2.Low.Height), I (x2.Low.Girth), I (x2.High.Age), I (x2.High.Shoots), I (x2.High.Height), I (x2.High.Girth)]) (.agg #[I (x2.Low.Age), I (x2.Low.Shoots), I (x2.Low.Height), I (x2.Low.Girth), I (x2.High.Age), I (x2.High.Shoots), I (x2.High.Height), I (x2.High.Girth)]) (A_growth_grower_step b q) (K_growth_grower_step (⟨s⟩ : Xgrower) q10 q11 q12 q13) [(11, 10, 0), (12, 11, 0), (13, 12, 0), (14, 13, 0), (10, 104, 0)])
theorem z24p2 (s : XSpecies) (q10 q11 q12 q13 : Nat) : VRs (Ren.emb [(10, 10, 0), (11, 11, 0), (12, 12, 0), (13, 13, 0)]) (A_growth_speciesIsDefined s q10 q11 q12 q13) [.agg #[.slice (some ⟨10, 0, none⟩) (s.Rise.length) (q10), .slice (some ⟨11, 0, none⟩) (s.Thick.length) (q11), I (s.Top), I (s.Stout), I (s.Shade), I (s.Reach), .slice (some ⟨12, 0, none⟩) (s.Ladder.length) (q12), .slice (some ⟨13, 0, none⟩) (s.Sprouts.length) (q13)]] := (.cons _ _ _ _ (.agg _ _ (.cons _ _ _ _ (.slc 10 0 _ _ _ ⟨10, 0, 0, 0⟩ rfl (.inl rfl)) (.cons _ _ _ _ (.slc 11 0 _ _ _ ⟨11, 0, 0, 0⟩ rfl (.inl rfl)) (.cons _ _ _ _ (VR.of_pf rfl) (.cons _ _ _ _ (VR.of_pf rfl) (.cons _ _ _ _ (VR.of_pf rfl) (.cons _ _ _ _ (VR.of_pf rfl) (.cons _ _ _ _ (.slc 12 0 _ _ _ ⟨12, 0, 0, 0⟩ rfl (.inl rfl)) (.cons _ _ _ _ (.slc 13 0 _ _ _ ⟨13, 0, 0, 0⟩ rfl (.inl rfl)) .nil))))))))) .nil)
theorem z24p3 (s : XSpecies) : MemAt (Ren.emb [(10, 10, 0), (11, 11, 0), (12, 12, 0), (13, 13, 0)]) (encL cInt s.Rise) 0 (encL cInt s.Rise) ∧ MemAt (Ren.emb [(10, 10, 0), (11, 11, 0), (12, 12, 0), (13, 13, 0)]) (encL cInt s.Thick) 0 (encL cInt s.Thick) ∧ MemAt (Ren.emb [(10, 10, 0), (11, 11, 0), (12, 12, 0), (13, 13, 0)]) (encL cXRung s.Ladder) 0 (encL cXRung s.Ladder) ∧ MemAt (Ren.emb [(10, 10, 0), (11, 11, 0), (12, 12, 0), (13, 13, 0)]) (encL cXSpan s.Sprouts) 0 (encL cXSpan s.Sprouts) ∧ True := ⟨MemAt.same _ (encL_pf cInt_pf _), MemAt.same _ (encL_pf cInt_pf _), MemAt.same _ (encL_pf cXRung_pf _), MemAt.same _ (encL_pf cXSpan_pf _), trivial⟩
theorem z24p4 (b : XBox) (q : XSeason) : VRs (Ren.emb [(11, 10, 0), (12, 11, 0), (13, 12, 0), (14, 13, 0), (10, 104, 0)]) (A_growth_grower_step b q) [.pointer (some ⟨104, 0, none⟩), .agg #[I (b.Low.Age), I (b.Low.Shoots), I (b.Low.Height), I (b.Low.Girth), I (b.High.Age), I (b.High.Shoots), I (b.High.Height), I (b.High.Girth)], .agg #[I (q.Light.Low), I (q.Light.High), I (q.Browse.Low), I (q.Browse.High), I (q.Mild.Low), I (q.Mild.High), .bool (q.Cut)]] := (.cons _ _ _ _ (.ptr 10 0 ⟨104, 0, 0, 0⟩ rfl) (.cons _ _ _ _ (VR.of_pf rfl) (.cons _ _ _ _ (VR.of_pf rfl) .nil)))
theorem z24p5 (s : XSpecies) (q10 q11 q12 q13 : Nat) : MemAt (Ren.emb [(11, 10, 0), (12, 11, 0), (13, 12, 0), (14, 13, 0), (10, 104, 0)]) (encL cInt (((⟨s⟩ : Xgrower).Species).Rise)) 0 (encL cInt s.Rise) ∧ MemAt (Ren.emb [(11, 10, 0), (12, 11, 0), (13, 12, 0), (14, 13, 0), (10, 104, 0)]) (encL cInt (((⟨s⟩ : Xgrower).Species).Thick)) 0 (encL cInt s.Thick) ∧ MemAt (Ren.emb [(11, 10, 0), (12, 11, 0), (13, 12, 0), (14, 13, 0), (10, 104, 0)]) (encL cXRung (((⟨s⟩ : Xgrower).Species).Ladder)) 0 (encL cXRung s.Ladder) ∧ MemAt (Ren.emb [(11, 10, 0), (12, 11, 0), (13, 12, 0), (14, 13, 0), (10, 104, 0)]) (encL cXSpan (((⟨s⟩ : Xgrower).Species).Sprouts)) 0 (encL cXSpan s.Sprouts) ∧ MemAt (Ren.emb [(11, 10, 0), (12, 11, 0), (13, 12, 0), (14, 13, 0), (10, 104, 0)]) [.slice (some ⟨11, 0, none⟩) ((((⟨s⟩ : Xgrower).Species).Rise).length) (q10), .slice (some ⟨12, 0, none⟩) ((((⟨s⟩ : Xgrower).Species).Thick).length) (q11), I (((⟨s⟩ : Xgrower).Species).Top), I (((⟨s⟩ : Xgrower).Species).Stout), I (((⟨s⟩ : Xgrower).Species).Shade), I (((⟨s⟩ : Xgrower).Species).Reach), .slice (some ⟨13, 0, none⟩) ((((⟨s⟩ : Xgrower).Species).Ladder).length) (q12), .slice (some ⟨14, 0, none⟩) ((((⟨s⟩ : Xgrower).Species).Sprouts).length) (q13)] 0 [.slice (some ⟨10, 0, none⟩) (s.Rise.length) (q10), .slice (some ⟨11, 0, none⟩) (s.Thick.length) (q11), I (s.Top), I (s.Stout), I (s.Shade), I (s.Reach), .slice (some ⟨12, 0, none⟩) (s.Ladder.length) (q12), .slice (some ⟨13, 0, none⟩) (s.Sprouts.length) (q13)] ∧ True := ⟨MemAt.same _ (encL_pf cInt_pf _), MemAt.same _ (encL_pf cInt_pf _), MemAt.same _ (encL_pf cXRung_pf _), MemAt.same _ (encL_pf cXSpan_pf _), MemAt.of (.cons _ _ _ _ (.slc 11 0 _ _ _ ⟨10, 0, 0, 0⟩ rfl (.inl rfl)) (.cons _ _ _ _ (.slc 12 0 _ _ _ ⟨11, 0, 0, 0⟩ rfl (.inl rfl)) (.cons _ _ _ _ (VR.of_pf rfl) (.cons _ _ _ _ (VR.of_pf rfl) (.cons _ _ _ _ (VR.of_pf rfl) (.cons _ _ _ _ (VR.of_pf rfl) (.cons _ _ _ _ (.slc 13 0 _ _ _ ⟨12, 0, 0, 0⟩ rfl (.inl rfl)) (.cons _ _ _ _ (.slc 14 0 _ _ _ ⟨13, 0, 0, 0⟩ rfl (.inl rfl)) .nil)))))))), trivial⟩
abbrev z24r6 (x1 : Bool) : Prop := VR (Ren.emb [(10, 10, 0), (11, 11, 0), (12, 12, 0), (13, 13, 0)]) (.bool (x1)) (.bool (x1))
abbrev z24r7 (x2 : XBox) : Prop := VR (Ren.emb [(11, 10, 0), (12, 11, 0), (13, 12, 0), (14, 13, 0), (10, 104, 0)]) (.agg #[I (x2.Low.Age), I (x2.Low.Shoots), I (x2.Low.Height), I (x2.Low.Girth), I (x2.High.Age), I (x2.High.Shoots), I (x2.High.Height), I (x2.High.Girth)]) (.agg #[I (x2.Low.Age), I (x2.Low.Shoots), I (x2.Low.Height), I (x2.Low.Girth), I (x2.High.Age), I (x2.High.Shoots), I (x2.High.Height), I (x2.High.Girth)])
noncomputable abbrev z24i8 (s : XSpecies) (q10 q11 q12 q13 : Nat) (x1 : Bool) : Hint := (hB (hM (.bool (x1)) (.bool (x1)) (A_growth_speciesIsDefined s q10 q11 q12 q13) (K_growth_speciesIsDefined s) [(10, 10, 0), (11, 11, 0), (12, 12, 0), (13, 13, 0)]) false)
abbrev A_growth_Step (s : XSpecies) (b : XBox) (q : XSeason) (q10 q11 q12 q13 : Nat) : List Value := [.agg #[.slice (some ⟨10, 0, none⟩) (s.Rise.length) (q10), .slice (some ⟨11, 0, none⟩) (s.Thick.length) (q11), I (s.Top), I (s.Stout), I (s.Shade), I (s.Reach), .slice (some ⟨12, 0, none⟩) (s.Ladder.length) (q12), .slice (some ⟨13, 0, none⟩) (s.Sprouts.length) (q13)], .agg #[I (b.Low.Age), I (b.Low.Shoots), I (b.Low.Height), I (b.Low.Girth), I (b.High.Age), I (b.High.Shoots), I (b.High.Height), I (b.High.Girth)], .agg #[I (q.Light.Low), I (q.Light.High), I (q.Browse.Low), I (q.Browse.High), I (q.Mild.Low), I (q.Mild.High), .bool (q.Cut)]]
abbrev K_growth_Step (s : XSpecies) : List (Nat × List Value) := [(10, encL cInt s.Rise), (11, encL cInt s.Thick), (12, encL cXRung s.Ladder), (13, encL cXSpan s.Sprouts)]
noncomputable def growth_Step (fu : Nat) (s : XSpecies) (b : XBox) (q : XSeason) : Option (XBox × Int) :=
  Option.bind (growth_speciesIsDefined fu s) fun x1 =>
  bif x1 then (bif growth_boxIsDefined b then (bif growth_seasonIsDefined q then (Option.bind (growth_grower_step fu (⟨s⟩ : Xgrower) b q) fun x2 =>
        some (x2, 0))
      else some ((⟨(⟨0, 0, 0, 0⟩ : XStand), (⟨0, 0, 0, 0⟩ : XStand)⟩ : XBox), 2))
    else some ((⟨(⟨0, 0, 0, 0⟩ : XStand), (⟨0, 0, 0, 0⟩ : XStand)⟩ : XBox), 2))
  else some ((⟨(⟨0, 0, 0, 0⟩ : XStand), (⟨0, 0, 0, 0⟩ : XStand)⟩ : XBox), 2)
theorem growth_Step_fc (fu : Nat) (s : XSpecies) (b : XBox) (q : XSeason) (q10 q11 q12 q13 : Nat) (r : XBox × Int) (hh : growth_Step fu s b q = some r) : FC P GG 31 (A_growth_Step s b q q10 q11 q12 q13) (K_growth_Step s) (.tuple #[.agg #[I (r.1.Low.Age), I (r.1.Low.Shoots), I (r.1.Low.Height), I (r.1.Low.Girth), I (r.1.High.Age), I (r.1.High.Shoots), I (r.1.High.Height), I (r.1.High.Girth)], I (r.2)]) := by
  refine FC.of_fsat 28 100 Tryd.func31 (by kernel_rfl) (by kernel_rfl) (by kernel_rfl) ⟨PinL.pf (encL_pf cInt_pf _), PinL.pf (encL_pf cInt_pf _), PinL.pf (encL_pf cXRung_pf _), PinL.pf (encL_pf cXSpan_pf _), trivial⟩ ?_
  unfold growth_Step at hh
  cases h1 : growth_speciesIsDefined fu s with
  | none => rw [h1, oN] at hh; cases hh
  | some x1 =>
   rw [h1, oS] at hh
   rcases bb (x1) with h2 | h2
   ·rw [h2, cT] at hh
    rcases bb (growth_boxIsDefined b) with h3 | h3
    ·rw [h3, cT] at hh
     rcases bb (growth_seasonIsDefined q) with h4 | h4
     ·rw [h4, cT] at hh
      cases h5 : growth_grower_step fu (⟨s⟩ : Xgrower) b q with
      | none => rw [h5, oN] at hh; cases hh
      | some x2 =>
       rw [h5, oS] at hh
       rw [← sI hh]
       exact FSat.d pfT 17 (hR 6 ((z24i0 s q10 q11 q12 q13 x1) :: hE :: hE :: hE :: (hB (hC (.bool (growth_boxIsDefined b))) true) :: (hR 4 ((hB (hC (.bool (growth_seasonIsDefined q))) true) :: (hR 8 [(z24i1 s b q q10 q11 q12 q13 x2), hE, hE]))))) [] (pc (growth_speciesIsDefined_fc fu s q10 q11 q12 q13 x1 h1) <| pc (z24p2 s q10 q11 q12 q13) <| pc (z24p3 s) <| pt (z24r6 x1) (selfB_self 9 _ rfl _) <| pc h2 <| pc (growth_boxIsDefined_fc b) <| pc h3 <| pc (growth_seasonIsDefined_fc q) <| pc h4 <| pc (growth_grower_step_fc fu (⟨s⟩ : Xgrower) b q q10 q11 q12 q13 x2 h5) <| pc (z24p4 b q) <| pc (z24p5 s q10 q11 q12 q13) <| pt (z24r7 x2) (selfB_self 9 _ rfl _) <| pn) (by kernel_rfl) (by kernel_rfl)
     ·rw [h4, cF] at hh
      rw [← sI hh]
      exact FSat.d pfT 14 (hR 6 ((z24i0 s q10 q11 q12 q13 x1) :: hE :: hE :: hE :: (hB (hC (.bool (growth_boxIsDefined b))) true) :: (hR 4 ((hB (hC (.bool (growth_seasonIsDefined q))) false) :: (hR 5 []))))) [] (pc (growth_speciesIsDefined_fc fu s q10 q11 q12 q13 x1 h1) <| pc (z24p2 s q10 q11 q12 q13) <| pc (z24p3 s) <| pt (z24r6 x1) (selfB_self 9 _ rfl _) <| pc h2 <| pc (growth_boxIsDefined_fc b) <| pc h3 <| pc (growth_seasonIsDefined_fc q) <| pc h4 <| pn) (by kernel_rfl) (by kernel_rfl)
    ·rw [h3, cF] at hh
     rw [← sI hh]
     exact FSat.d pfT 14 (hR 6 ((z24i0 s q10 q11 q12 q13 x1) :: hE :: hE :: hE :: (hB (hC (.bool (growth_boxIsDefined b))) false) :: (hR 7 []))) [] (pc (growth_speciesIsDefined_fc fu s q10 q11 q12 q13 x1 h1) <| pc (z24p2 s q10 q11 q12 q13) <| pc (z24p3 s) <| pt (z24r6 x1) (selfB_self 9 _ rfl _) <| pc h2 <| pc (growth_boxIsDefined_fc b) <| pc h3 <| pn) (by kernel_rfl) (by kernel_rfl)
   ·rw [h2, cF] at hh
    rw [← sI hh]
    exact FSat.d pfT 14 (hR 6 ((z24i8 s q10 q11 q12 q13 x1) :: (hR 8 []))) [] (pc (growth_speciesIsDefined_fc fu s q10 q11 q12 q13 x1 h1) <| pc (z24p2 s q10 q11 q12 q13) <| pc (z24p3 s) <| pt (z24r6 x1) (selfB_self 9 _ rfl _) <| pc h2 <| pn) (by kernel_rfl) (by kernel_rfl)

/- greenhew/growth.wood -/
abbrev A_growth_wood (x_0 : XStand) : List Value := [.agg #[I (x_0.Age), I (x_0.Shoots), I (x_0.Height), I (x_0.Girth)]]
noncomputable def growth_wood (x_0 : XStand) : Int :=
  W ((W ((W ((W (x_0.Shoots * x_0.Height)) * x_0.Girth)) * x_0.Girth)).tdiv 25000000)
theorem growth_wood_fc (x_0 : XStand) : FC P GG 61 (A_growth_wood x_0) [] (I (growth_wood x_0)) := by
  refine FC.of_fsat 15 100 Tryd.func61 (by kernel_rfl) (by kernel_rfl) (by kernel_rfl) trivial ?_
  have e : growth_wood x_0 = W ((W ((W ((W (x_0.Shoots * x_0.Height)) * x_0.Girth)) * x_0.Girth)).tdiv 25000000) := by unfold growth_wood; rfl
  rw [e]
  exact FSat.d pfT 10 (hR 15 []) [] (pn) (by kernel_rfl) (by kernel_rfl)

/- greenhew/growth.Woods -/
abbrev A_growth_Woods (b : XBox) : List Value := [.agg #[I (b.Low.Age), I (b.Low.Shoots), I (b.Low.Height), I (b.Low.Girth), I (b.High.Age), I (b.High.Shoots), I (b.High.Height), I (b.High.Girth)]]
noncomputable def growth_Woods (b : XBox) : Int × Int × Int :=
  bif growth_boxIsDefined b then (growth_wood b.Low, growth_wood b.High, 0)
  else (0, 0, 2)
theorem growth_Woods_fc (b : XBox) : FC P GG 41 (A_growth_Woods b) [] (.tuple #[I ((growth_Woods b).1), I ((growth_Woods b).2.1), I ((growth_Woods b).2.2)]) := by
  refine FC.of_fsat 14 100 Tryd.func41 (by kernel_rfl) (by kernel_rfl) (by kernel_rfl) trivial ?_
  rcases bb (growth_boxIsDefined b) with h1 | h1
  ·have e : growth_Woods b = (growth_wood b.Low, growth_wood b.High, 0) := by unfold growth_Woods; rw [h1, cT]; first | done | rfl
   rw [e]
   exact FSat.d pfT 15 (hR 5 [(hB (hC (.bool (growth_boxIsDefined b))) true), hE, hE, hE, (hC (I (growth_wood b.Low))), hE, hE, (hC (I (growth_wood b.High))), hE, hE, hE]) [] (pc (growth_boxIsDefined_fc b) <| pc h1 <| pc (growth_wood_fc b.Low) <| pc (growth_wood_fc b.High) <| pn) (by kernel_rfl) (by kernel_rfl)
  ·have e : growth_Woods b = (0, 0, 2) := by unfold growth_Woods; rw [h1, cF]; first | done | rfl
   rw [e]
   exact FSat.d pfT 14 (hR 5 ((hB (hC (.bool (growth_boxIsDefined b))) false) :: (hR 4 []))) [] (pc (growth_boxIsDefined_fc b) <| pc h1 <| pn) (by kernel_rfl) (by kernel_rfl)

structure XTolerance where
  Shoots : Int
  Height : Int
  Girth : Int

def zXTolerance : XTolerance := ⟨0, 0, 0⟩

/- greenhew/growth.toleranceIsDefined -/
abbrev A_growth_toleranceIsDefined (t_0 : XTolerance) : List Value := [.agg #[I (t_0.Shoots), I (t_0.Height), I (t_0.Girth)]]
noncomputable def growth_toleranceIsDefined (t_0 : XTolerance) : Bool :=
  bif growth_within t_0.Shoots 0 100000 then (bif growth_within t_0.Height 0 100000 then growth_within t_0.Girth 0 100000
    else false)
  else false
theorem growth_toleranceIsDefined_fc (t_0 : XTolerance) : FC P GG 90 (A_growth_toleranceIsDefined t_0) [] (.bool (growth_toleranceIsDefined t_0)) := by
  refine FC.of_fsat 16 100 Tryd.func90 (by kernel_rfl) (by kernel_rfl) (by kernel_rfl) trivial ?_
  rcases bb (growth_within t_0.Shoots 0 100000) with h1 | h1
  ·rcases bb (growth_within t_0.Height 0 100000) with h2 | h2
   ·have e : growth_toleranceIsDefined t_0 = growth_within t_0.Girth 0 100000 := by unfold growth_toleranceIsDefined; rw [h1, cT, h2, cT]; first | done | rfl
    rw [e]
    exact FSat.d pfT 10 (hR 4 ((hB (hC (.bool (growth_within t_0.Shoots 0 100000))) true) :: hE :: hE :: hE :: (hB (hC (.bool (growth_within t_0.Height 0 100000))) true) :: (hR 4 [(hC (.bool (growth_within t_0.Girth 0 100000))), hE, hE]))) [] (pc (growth_within_fc t_0.Shoots 0 100000) <| pc h1 <| pc (growth_within_fc t_0.Height 0 100000) <| pc h2 <| pc (growth_within_fc t_0.Girth 0 100000) <| pn) (by kernel_rfl) (by kernel_rfl)
   ·have e : growth_toleranceIsDefined t_0 = false := by unfold growth_toleranceIsDefined; rw [h1, cT, h2, cF]; first | done | rfl
    rw [e]
    exact FSat.d pfT 10 (hR 4 ((hB (hC (.bool (growth_within t_0.Shoots 0 100000))) true) :: hE :: hE :: hE :: (hB (hC (.bool (growth_within t_0.Height 0 100000))) false) :: (hR 4 []))) [] (pc (growth_within_fc t_0.Shoots 0 100000) <| pc h1 <| pc (growth_within_fc t_0.Height 0 100000) <| pc h2 <| pn) (by kernel_rfl) (by kernel_rfl)
  ·have e : growth_toleranceIsDefined t_0 = false := by unfold growth_toleranceIsDefined; rw [h1, cF]; first | done | rfl
   rw [e]
   exact FSat.d pfT 10 (hR 4 ((hB (hC (.bool (growth_within t_0.Shoots 0 100000))) false) :: (hR 5 []))) [] (pc (growth_within_fc t_0.Shoots 0 100000) <| pc h1 <| pn) (by kernel_rfl) (by kernel_rfl)

/- greenhew/growth.spanOf -/
noncomputable abbrev z36i0 (b : XBox) (k : Int) : Hint := (hM (.pointer (some ⟨10, 1, none⟩)) (.pointer (some ⟨100, 1, none⟩)) (A_growth_number k) (K_growth_number b.Low) [(10, 100, 0)])
noncomputable abbrev z36i1 (b : XBox) (k : Int) : Hint := (hM (.pointer (some ⟨10, 1, none⟩)) (.pointer (some ⟨100, 5, none⟩)) (A_growth_number k) (K_growth_number b.High) [(10, 100, 4)])
theorem z36p2 (k : Int) : VRs (Ren.emb [(10, 100, 0)]) (A_growth_number k) [.pointer (some ⟨100, 0, none⟩), I (k)] := (.cons _ _ _ _ (.ptr 10 0 ⟨100, 0, 0, 0⟩ rfl) (.cons _ _ _ _ (VR.of_pf rfl) .nil))
theorem z36p3 (b : XBox) : MemAt (Ren.emb [(10, 100, 0)]) [I (b.Low.Age), I (b.Low.Shoots), I (b.Low.Height), I (b.Low.Girth)] 0 [I (b.Low.Age), I (b.Low.Shoots), I (b.Low.Height), I (b.Low.Girth), I (b.High.Age), I (b.High.Shoots), I (b.High.Height), I (b.High.Girth)] ∧ True := ⟨MemAt.of (.cons _ _ _ _ (VR.of_pf rfl) (.cons _ _ _ _ (VR.of_pf rfl) (.cons _ _ _ _ (VR.of_pf rfl) (.cons _ _ _ _ (VR.of_pf rfl) .nil)))), trivial⟩
theorem z36p4 (k : Int) : VRs (Ren.emb [(10, 100, 4)]) (A_growth_number k) [.pointer (some ⟨100, 4, none⟩), I (k)] := (.cons _ _ _ _ (.ptr 10 0 ⟨100, 4, 0, 0⟩ rfl) (.cons _ _ _ _ (VR.of_pf rfl) .nil))
theorem z36p5 (b : XBox) : MemAt (Ren.emb [(10, 100, 4)]) [I (b.High.Age), I (b.High.Shoots), I (b.High.Height), I (b.High.Girth)] 4 [I (b.Low.Age), I (b.Low.Shoots), I (b.Low.Height), I (b.Low.Girth), I (b.High.Age), I (b.High.Shoots), I (b.High.Height), I (b.High.Girth)] ∧ True := ⟨MemAt.of (.cons _ _ _ _ (VR.of_pf rfl) (.cons _ _ _ _ (VR.of_pf rfl) (.cons _ _ _ _ (VR.of_pf rfl) (.cons _ _ _ _ (VR.of_pf rfl) .nil)))), trivial⟩
abbrev z36r6 (b : XBox) (k : Int) : Prop := FC P GG 100 (A_growth_number k) (K_growth_number b.Low) (.pointer (some ⟨10, 1, none⟩))
abbrev z36r7 : Prop := VR (Ren.emb [(10, 100, 0)]) (.pointer (some ⟨10, 1, none⟩)) (.pointer (some ⟨100, 1, none⟩))
abbrev z36r8 (b : XBox) (k : Int) : Prop := FC P GG 100 (A_growth_number k) (K_growth_number b.High) (.pointer (some ⟨10, 1, none⟩))
abbrev z36r9 : Prop := VR (Ren.emb [(10, 100, 4)]) (.pointer (some ⟨10, 1, none⟩)) (.pointer (some ⟨100, 5, none⟩))
noncomputable abbrev z36i10 (b : XBox) (k : Int) : Hint := (hM (.pointer (some ⟨10, 2, none⟩)) (.pointer (some ⟨100, 2, none⟩)) (A_growth_number k) (K_growth_number b.Low) [(10, 100, 0)])
noncomputable abbrev z36i11 (b : XBox) (k : Int) : Hint := (hM (.pointer (some ⟨10, 2, none⟩)) (.pointer (some ⟨100, 6, none⟩)) (A_growth_number k) (K_growth_number b.High) [(10, 100, 4)])
abbrev z36r12 (b : XBox) (k : Int) : Prop := FC P GG 100 (A_growth_number k) (K_growth_number b.Low) (.pointer (some ⟨10, 2, none⟩))
abbrev z36r13 : Prop := VR (Ren.emb [(10, 100, 0)]) (.pointer (some ⟨10, 2, none⟩)) (.pointer (some ⟨100, 2, none⟩))
abbrev z36r14 (b : XBox) (k : Int) : Prop := FC P GG 100 (A_growth_number k) (K_growth_number b.High) (.pointer (some ⟨10, 2, none⟩))
abbrev z36r15 : Prop := VR (Ren.emb [(10, 100, 4)]) (.pointer (some ⟨10, 2, none⟩)) (.pointer (some ⟨100, 6, none⟩))
noncomputable abbrev z36i16 (b : XBox) (k : Int) : Hint := (hM (.pointer (some ⟨10, 3, none⟩)) (.pointer (some ⟨100, 3, none⟩)) (A_growth_number k) (K_growth_number b.Low) [(10, 100, 0)])
noncomputable abbrev z36i17 (b : XBox) (k : Int) : Hint := (hM (.pointer (some ⟨10, 3, none⟩)) (.pointer (some ⟨100, 7, none⟩)) (A_growth_number k) (K_growth_number b.High) [(10, 100, 4)])
abbrev z36r18 (b : XBox) (k : Int) : Prop := FC P GG 100 (A_growth_number k) (K_growth_number b.Low) (.pointer (some ⟨10, 3, none⟩))
abbrev z36r19 : Prop := VR (Ren.emb [(10, 100, 0)]) (.pointer (some ⟨10, 3, none⟩)) (.pointer (some ⟨100, 3, none⟩))
abbrev z36r20 (b : XBox) (k : Int) : Prop := FC P GG 100 (A_growth_number k) (K_growth_number b.High) (.pointer (some ⟨10, 3, none⟩))
abbrev z36r21 : Prop := VR (Ren.emb [(10, 100, 4)]) (.pointer (some ⟨10, 3, none⟩)) (.pointer (some ⟨100, 7, none⟩))
abbrev A_growth_spanOf (b : XBox) (k : Int) : List Value := [.agg #[I (b.Low.Age), I (b.Low.Shoots), I (b.Low.Height), I (b.Low.Girth), I (b.High.Age), I (b.High.Shoots), I (b.High.Height), I (b.High.Girth)], I (k)]
noncomputable def growth_spanOf (b : XBox) (k : Int) : XSpan :=
  bif k == 1 then (⟨b.Low.Shoots, b.High.Shoots⟩ : XSpan)
  else (bif k == 2 then (⟨b.Low.Height, b.High.Height⟩ : XSpan)
    else (⟨b.Low.Girth, b.High.Girth⟩ : XSpan))
theorem growth_spanOf_fc (b : XBox) (k : Int) : FC P GG 104 (A_growth_spanOf b k) [] (.agg #[I ((growth_spanOf b k).Low), I ((growth_spanOf b k).High)]) := by
  refine FC.of_fsat 16 100 Tryd.func104 (by kernel_rfl) (by kernel_rfl) (by kernel_rfl) trivial ?_
  rcases bb (k == 1) with h1 | h1
  ·have e : growth_spanOf b k = (⟨b.Low.Shoots, b.High.Shoots⟩ : XSpan) := by unfold growth_spanOf; rw [h1, cT]; first | done | rfl
   rw [e]
   exact FSat.d pfT 10 (hR 4 ((z36i0 b k) :: (hR 4 ((z36i1 b k) :: (hR 4 []))))) [] (pt (z36r6 b k) (growth_number_fc_1 b.Low k h1) <| pc (z36p2 k) <| pc (z36p3 b) <| pt z36r7 (.ptr 10 1 ⟨100, 0, 0, 0⟩ rfl) <| pt (z36r8 b k) (growth_number_fc_1 b.High k h1) <| pc (z36p4 k) <| pc (z36p5 b) <| pt z36r9 (.ptr 10 1 ⟨100, 4, 0, 0⟩ rfl) <| pn) (by kernel_rfl) (by kernel_rfl)
  ·rcases bb (k == 2) with h2 | h2
   ·have e : growth_spanOf b k = (⟨b.Low.Height, b.High.Height⟩ : XSpan) := by unfold growth_spanOf; rw [h1, cF, h2, cT]; first | done | rfl
    rw [e]
    exact FSat.d pfT 10 (hR 4 ((z36i10 b k) :: (hR 4 ((z36i11 b k) :: (hR 4 []))))) [] (pt (z36r12 b k) (growth_number_fc_2 b.Low k h1 h2) <| pc (z36p2 k) <| pc (z36p3 b) <| pt z36r13 (.ptr 10 2 ⟨100, 0, 0, 0⟩ rfl) <| pt (z36r14 b k) (growth_number_fc_2 b.High k h1 h2) <| pc (z36p4 k) <| pc (z36p5 b) <| pt z36r15 (.ptr 10 2 ⟨100, 4, 0, 0⟩ rfl) <| pn) (by kernel_rfl) (by kernel_rfl)
   ·have e : growth_spanOf b k = (⟨b.Low.Girth, b.High.Girth⟩ : XSpan) := by unfold growth_spanOf; rw [h1, cF, h2, cF]; first | done | rfl
    rw [e]
    exact FSat.d pfT 10 (hR 4 ((z36i16 b k) :: (hR 4 ((z36i17 b k) :: (hR 4 []))))) [] (pt (z36r18 b k) (growth_number_fc_3 b.Low k h1 h2) <| pc (z36p2 k) <| pc (z36p3 b) <| pt z36r19 (.ptr 10 3 ⟨100, 0, 0, 0⟩ rfl) <| pt (z36r20 b k) (growth_number_fc_3 b.High k h1 h2) <| pc (z36p4 k) <| pc (z36p5 b) <| pt z36r21 (.ptr 10 3 ⟨100, 4, 0, 0⟩ rfl) <| pn) (by kernel_rfl) (by kernel_rfl)

/- greenhew/growth.keep -/
noncomputable abbrev z37i0 (b : XBox) (k : Int) : Hint := (hM (.pointer (some ⟨10, 1, none⟩)) (.pointer (some ⟨100, 1, none⟩)) (A_growth_number k) (K_growth_number b.Low) [(10, 100, 0)])
noncomputable abbrev z37i1 (b : XBox) (k : Int) : Hint := (hM (.pointer (some ⟨10, 1, none⟩)) (.pointer (some ⟨100, 5, none⟩)) (A_growth_number k) (K_growth_number b.High) [(10, 100, 4)])
theorem z37p2 (k : Int) : VRs (Ren.emb [(10, 100, 0)]) (A_growth_number k) [.pointer (some ⟨100, 0, none⟩), I (k)] := (.cons _ _ _ _ (.ptr 10 0 ⟨100, 0, 0, 0⟩ rfl) (.cons _ _ _ _ (VR.of_pf rfl) .nil))
theorem z37p3 (b : XBox) : MemAt (Ren.emb [(10, 100, 0)]) [I (b.Low.Age), I (b.Low.Shoots), I (b.Low.Height), I (b.Low.Girth)] 0 [I (b.Low.Age), I (b.Low.Shoots), I (b.Low.Height), I (b.Low.Girth), I (b.High.Age), I (b.High.Shoots), I (b.High.Height), I (b.High.Girth)] ∧ True := ⟨MemAt.of (.cons _ _ _ _ (VR.of_pf rfl) (.cons _ _ _ _ (VR.of_pf rfl) (.cons _ _ _ _ (VR.of_pf rfl) (.cons _ _ _ _ (VR.of_pf rfl) .nil)))), trivial⟩
theorem z37p4 (k : Int) : VRs (Ren.emb [(10, 100, 4)]) (A_growth_number k) [.pointer (some ⟨100, 4, none⟩), I (k)] := (.cons _ _ _ _ (.ptr 10 0 ⟨100, 4, 0, 0⟩ rfl) (.cons _ _ _ _ (VR.of_pf rfl) .nil))
theorem z37p5 (b : XBox) : MemAt (Ren.emb [(10, 100, 4)]) [I (b.High.Age), I (b.High.Shoots), I (b.High.Height), I (b.High.Girth)] 4 [I (b.Low.Age), I (b.Low.Shoots), I (b.Low.Height), I (b.Low.Girth), I (b.High.Age), I (b.High.Shoots), I (b.High.Height), I (b.High.Girth)] ∧ True := ⟨MemAt.of (.cons _ _ _ _ (VR.of_pf rfl) (.cons _ _ _ _ (VR.of_pf rfl) (.cons _ _ _ _ (VR.of_pf rfl) (.cons _ _ _ _ (VR.of_pf rfl) .nil)))), trivial⟩
abbrev z37r6 (b : XBox) (k : Int) : Prop := FC P GG 100 (A_growth_number k) (K_growth_number b.Low) (.pointer (some ⟨10, 1, none⟩))
abbrev z37r7 : Prop := VR (Ren.emb [(10, 100, 0)]) (.pointer (some ⟨10, 1, none⟩)) (.pointer (some ⟨100, 1, none⟩))
abbrev z37r8 (b : XBox) (k : Int) : Prop := FC P GG 100 (A_growth_number k) (K_growth_number b.High) (.pointer (some ⟨10, 1, none⟩))
abbrev z37r9 : Prop := VR (Ren.emb [(10, 100, 4)]) (.pointer (some ⟨10, 1, none⟩)) (.pointer (some ⟨100, 5, none⟩))
abbrev z37r10 : Prop := (.pointer (some ⟨100, 5, none⟩) : Value) = .pointer (some ⟨100, 5, none⟩)
abbrev z37r11 : Prop := (.pointer (some ⟨101, 1, none⟩) : Value) = .pointer (some ⟨101, 1, none⟩)
abbrev z37r12 (b : XBox) (s : XSpan) : Prop := (I (imin b.High.Shoots s.High) : Value) = I (imin b.High.Shoots s.High)
noncomputable abbrev z37i13 (b : XBox) (k : Int) : Hint := (hM (.pointer (some ⟨10, 2, none⟩)) (.pointer (some ⟨100, 2, none⟩)) (A_growth_number k) (K_growth_number b.Low) [(10, 100, 0)])
noncomputable abbrev z37i14 (b : XBox) (k : Int) : Hint := (hM (.pointer (some ⟨10, 2, none⟩)) (.pointer (some ⟨100, 6, none⟩)) (A_growth_number k) (K_growth_number b.High) [(10, 100, 4)])
abbrev z37r15 (b : XBox) (k : Int) : Prop := FC P GG 100 (A_growth_number k) (K_growth_number b.Low) (.pointer (some ⟨10, 2, none⟩))
abbrev z37r16 : Prop := VR (Ren.emb [(10, 100, 0)]) (.pointer (some ⟨10, 2, none⟩)) (.pointer (some ⟨100, 2, none⟩))
abbrev z37r17 (b : XBox) (k : Int) : Prop := FC P GG 100 (A_growth_number k) (K_growth_number b.High) (.pointer (some ⟨10, 2, none⟩))
abbrev z37r18 : Prop := VR (Ren.emb [(10, 100, 4)]) (.pointer (some ⟨10, 2, none⟩)) (.pointer (some ⟨100, 6, none⟩))
abbrev z37r19 : Prop := (.pointer (some ⟨100, 6, none⟩) : Value) = .pointer (some ⟨100, 6, none⟩)
abbrev z37r20 (b : XBox) (s : XSpan) : Prop := (I (imin b.High.Height s.High) : Value) = I (imin b.High.Height s.High)
noncomputable abbrev z37i21 (b : XBox) (k : Int) : Hint := (hM (.pointer (some ⟨10, 3, none⟩)) (.pointer (some ⟨100, 3, none⟩)) (A_growth_number k) (K_growth_number b.Low) [(10, 100, 0)])
noncomputable abbrev z37i22 (b : XBox) (k : Int) : Hint := (hM (.pointer (some ⟨10, 3, none⟩)) (.pointer (some ⟨100, 7, none⟩)) (A_growth_number k) (K_growth_number b.High) [(10, 100, 4)])
abbrev z37r23 (b : XBox) (k : Int) : Prop := FC P GG 100 (A_growth_number k) (K_growth_number b.Low) (.pointer (some ⟨10, 3, none⟩))
abbrev z37r24 : Prop := VR (Ren.emb [(10, 100, 0)]) (.pointer (some ⟨10, 3, none⟩)) (.pointer (some ⟨100, 3, none⟩))
abbrev z37r25 (b : XBox) (k : Int) : Prop := FC P GG 100 (A_growth_number k) (K_growth_number b.High) (.pointer (some ⟨10, 3, none⟩))
abbrev z37r26 : Prop := VR (Ren.emb [(10, 100, 4)]) (.pointer (some ⟨10, 3, none⟩)) (.pointer (some ⟨100, 7, none⟩))
abbrev z37r27 : Prop := (.pointer (some ⟨100, 7, none⟩) : Value) = .pointer (some ⟨100, 7, none⟩)
abbrev z37r28 (b : XBox) (s : XSpan) : Prop := (I (imin b.High.Girth s.High) : Value) = I (imin b.High.Girth s.High)
abbrev A_growth_keep (b : XBox) (k : Int) (s : XSpan) : List Value := [.agg #[I (b.Low.Age), I (b.Low.Shoots), I (b.Low.Height), I (b.Low.Girth), I (b.High.Age), I (b.High.Shoots), I (b.High.Height), I (b.High.Girth)], I (k), .agg #[I (s.Low), I (s.High)]]
noncomputable def growth_keep (b : XBox) (k : Int) (s : XSpan) : XBox × Bool :=
  bif k == 1 then (bif decide ((imax b.Low.Shoots s.Low) > (imin b.High.Shoots s.High)) then ((⟨(⟨0, 0, 0, 0⟩ : XStand), (⟨0, 0, 0, 0⟩ : XStand)⟩ : XBox), false)
    else ((⟨(⟨b.Low.Age, imax b.Low.Shoots s.Low, b.Low.Height, b.Low.Girth⟩ : XStand), (⟨b.High.Age, imin b.High.Shoots s.High, b.High.Height, b.High.Girth⟩ : XStand)⟩ : XBox), true))
  else (bif k == 2 then (bif decide ((imax b.Low.Height s.Low) > (imin b.High.Height s.High)) then ((⟨(⟨0, 0, 0, 0⟩ : XStand), (⟨0, 0, 0, 0⟩ : XStand)⟩ : XBox), false)
      else ((⟨(⟨b.Low.Age, b.Low.Shoots, imax b.Low.Height s.Low, b.Low.Girth⟩ : XStand), (⟨b.High.Age, b.High.Shoots, imin b.High.Height s.High, b.High.Girth⟩ : XStand)⟩ : XBox), true))
    else (bif decide ((imax b.Low.Girth s.Low) > (imin b.High.Girth s.High)) then ((⟨(⟨0, 0, 0, 0⟩ : XStand), (⟨0, 0, 0, 0⟩ : XStand)⟩ : XBox), false)
      else ((⟨(⟨b.Low.Age, b.Low.Shoots, b.Low.Height, imax b.Low.Girth s.Low⟩ : XStand), (⟨b.High.Age, b.High.Shoots, b.High.Height, imin b.High.Girth s.High⟩ : XStand)⟩ : XBox), true)))
theorem growth_keep_fc (b : XBox) (k : Int) (s : XSpan) : FC P GG 103 (A_growth_keep b k s) [] (.tuple #[.agg #[I ((((growth_keep b k s).1).Low).Age), I ((((growth_keep b k s).1).Low).Shoots), I ((((growth_keep b k s).1).Low).Height), I ((((growth_keep b k s).1).Low).Girth), I ((((growth_keep b k s).1).High).Age), I ((((growth_keep b k s).1).High).Shoots), I ((((growth_keep b k s).1).High).Height), I ((((growth_keep b k s).1).High).Girth)], .bool ((growth_keep b k s).2)]) := by
  refine FC.of_fsat 41 100 Tryd.func103 (by kernel_rfl) (by kernel_rfl) (by kernel_rfl) trivial ?_
  rcases bb (k == 1) with h1 | h1
  ·rcases bb (decide ((imax b.Low.Shoots s.Low) > (imin b.High.Shoots s.High))) with h2 | h2
   ·have e : growth_keep b k s = ((⟨(⟨0, 0, 0, 0⟩ : XStand), (⟨0, 0, 0, 0⟩ : XStand)⟩ : XBox), false) := by unfold growth_keep; rw [h1, cT, h2, cT]; first | done | rfl
    rw [e]
    exact FSat.d pfT 18 (hR 6 ((z37i0 b k) :: hE :: hE :: (z37i1 b k) :: (hR 26 [hT, hE, hE, hE]))) [] (pt (z37r6 b k) (growth_number_fc_1 b.Low k h1) <| pc (z37p2 k) <| pc (z37p3 b) <| pt z37r7 (.ptr 10 1 ⟨100, 0, 0, 0⟩ rfl) <| pt (z37r8 b k) (growth_number_fc_1 b.High k h1) <| pc (z37p4 k) <| pc (z37p5 b) <| pt z37r9 (.ptr 10 1 ⟨100, 4, 0, 0⟩ rfl) <| pt z37r10 rfl <| pt z37r11 rfl <| pt ((I (s.High) : Value) = I (s.High)) rfl <| pt (z37r12 b s) rfl <| pc h2 <| pn) (by kernel_rfl) (by kernel_rfl)
   ·have e : growth_keep b k s = ((⟨(⟨b.Low.Age, imax b.Low.Shoots s.Low, b.Low.Height, b.Low.Girth⟩ : XStand), (⟨b.High.Age, imin b.High.Shoots s.High, b.High.Height, b.High.Girth⟩ : XStand)⟩ : XBox), true) := by unfold growth_keep; rw [h1, cT, h2, cF]; first | done | rfl
    rw [e]
    exact FSat.d pfT 19 (hR 6 ((z37i0 b k) :: hE :: hE :: (z37i1 b k) :: (hR 26 [hF, hE, hE, hE]))) [] (pt (z37r6 b k) (growth_number_fc_1 b.Low k h1) <| pc (z37p2 k) <| pc (z37p3 b) <| pt z37r7 (.ptr 10 1 ⟨100, 0, 0, 0⟩ rfl) <| pt (z37r8 b k) (growth_number_fc_1 b.High k h1) <| pc (z37p4 k) <| pc (z37p5 b) <| pt z37r9 (.ptr 10 1 ⟨100, 4, 0, 0⟩ rfl) <| pt z37r10 rfl <| pt z37r11 rfl <| pt ((I (s.High) : Value) = I (s.High)) rfl <| pt (z37r12 b s) rfl <| pc h2 <| pn) (by kernel_rfl) (by kernel_rfl)
  ·rcases bb (k == 2) with h2 | h2
   ·rcases bb (decide ((imax b.Low.Height s.Low) > (imin b.High.Height s.High))) with h3 | h3
    ·have e : growth_keep b k s = ((⟨(⟨0, 0, 0, 0⟩ : XStand), (⟨0, 0, 0, 0⟩ : XStand)⟩ : XBox), false) := by unfold growth_keep; rw [h1, cF, h2, cT, h3, cT]; first | done | rfl
     rw [e]
     exact FSat.d pfT 18 (hR 6 ((z37i13 b k) :: hE :: hE :: (z37i14 b k) :: (hR 26 [hT, hE, hE, hE]))) [] (pt (z37r15 b k) (growth_number_fc_2 b.Low k h1 h2) <| pc (z37p2 k) <| pc (z37p3 b) <| pt z37r16 (.ptr 10 2 ⟨100, 0, 0, 0⟩ rfl) <| pt (z37r17 b k) (growth_number_fc_2 b.High k h1 h2) <| pc (z37p4 k) <| pc (z37p5 b) <| pt z37r18 (.ptr 10 2 ⟨100, 4, 0, 0⟩ rfl) <| pt z37r19 rfl <| pt z37r11 rfl <| pt ((I (s.High) : Value) = I (s.High)) rfl <| pt (z37r20 b s) rfl <| pc h3 <| pn) (by kernel_rfl) (by kernel_rfl)
    ·have e : growth_keep b k s = ((⟨(⟨b.Low.Age, b.Low.Shoots, imax b.Low.Height s.Low, b.Low.Girth⟩ : XStand), (⟨b.High.Age, b.High.Shoots, imin b.High.Height s.High, b.High.Girth⟩ : XStand)⟩ : XBox), true) := by unfold growth_keep; rw [h1, cF, h2, cT, h3, cF]; first | done | rfl
     rw [e]
     exact FSat.d pfT 19 (hR 6 ((z37i13 b k) :: hE :: hE :: (z37i14 b k) :: (hR 26 [hF, hE, hE, hE]))) [] (pt (z37r15 b k) (growth_number_fc_2 b.Low k h1 h2) <| pc (z37p2 k) <| pc (z37p3 b) <| pt z37r16 (.ptr 10 2 ⟨100, 0, 0, 0⟩ rfl) <| pt (z37r17 b k) (growth_number_fc_2 b.High k h1 h2) <| pc (z37p4 k) <| pc (z37p5 b) <| pt z37r18 (.ptr 10 2 ⟨100, 4, 0, 0⟩ rfl) <| pt z37r19 rfl <| pt z37r11 rfl <| pt ((I (s.High) : Value) = I (s.High)) rfl <| pt (z37r20 b s) rfl <| pc h3 <| pn) (by kernel_rfl) (by kernel_rfl)
   ·rcases bb (decide ((imax b.Low.Girth s.Low) > (imin b.High.Girth s.High))) with h3 | h3
    ·have e : growth_keep b k s = ((⟨(⟨0, 0, 0, 0⟩ : XStand), (⟨0, 0, 0, 0⟩ : XStand)⟩ : XBox), false) := by unfold growth_keep; rw [h1, cF, h2, cF, h3, cT]; first | done | rfl
     rw [e]
     exact FSat.d pfT 18 (hR 6 ((z37i21 b k) :: hE :: hE :: (z37i22 b k) :: (hR 26 [hT, hE, hE, hE]))) [] (pt (z37r23 b k) (growth_number_fc_3 b.Low k h1 h2) <| pc (z37p2 k) <| pc (z37p3 b) <| pt z37r24 (.ptr 10 3 ⟨100, 0, 0, 0⟩ rfl) <| pt (z37r25 b k) (growth_number_fc_3 b.High k h1 h2) <| pc (z37p4 k) <| pc (z37p5 b) <| pt z37r26 (.ptr 10 3 ⟨100, 4, 0, 0⟩ rfl) <| pt z37r27 rfl <| pt z37r11 rfl <| pt ((I (s.High) : Value) = I (s.High)) rfl <| pt (z37r28 b s) rfl <| pc h3 <| pn) (by kernel_rfl) (by kernel_rfl)
    ·have e : growth_keep b k s = ((⟨(⟨b.Low.Age, b.Low.Shoots, b.Low.Height, imax b.Low.Girth s.Low⟩ : XStand), (⟨b.High.Age, b.High.Shoots, b.High.Height, imin b.High.Girth s.High⟩ : XStand)⟩ : XBox), true) := by unfold growth_keep; rw [h1, cF, h2, cF, h3, cF]; first | done | rfl
     rw [e]
     exact FSat.d pfT 19 (hR 6 ((z37i21 b k) :: hE :: hE :: (z37i22 b k) :: (hR 26 [hF, hE, hE, hE]))) [] (pt (z37r23 b k) (growth_number_fc_3 b.Low k h1 h2) <| pc (z37p2 k) <| pc (z37p3 b) <| pt z37r24 (.ptr 10 3 ⟨100, 0, 0, 0⟩ rfl) <| pt (z37r25 b k) (growth_number_fc_3 b.High k h1 h2) <| pc (z37p4 k) <| pc (z37p5 b) <| pt z37r26 (.ptr 10 3 ⟨100, 4, 0, 0⟩ rfl) <| pt z37r27 rfl <| pt z37r11 rfl <| pt ((I (s.High) : Value) = I (s.High)) rfl <| pt (z37r28 b s) rfl <| pc h3 <| pn) (by kernel_rfl) (by kernel_rfl)

/- greenhew/growth.promise -/
noncomputable abbrev z35i0 (b : XBox) (k wrong v9 : Int) : Hint := (hC (.tuple #[.agg #[I ((((growth_keep b k (⟨W (v9 - wrong), W (v9 + wrong)⟩ : XSpan)).1).Low).Age), I ((((growth_keep b k (⟨W (v9 - wrong), W (v9 + wrong)⟩ : XSpan)).1).Low).Shoots), I ((((growth_keep b k (⟨W (v9 - wrong), W (v9 + wrong)⟩ : XSpan)).1).Low).Height), I ((((growth_keep b k (⟨W (v9 - wrong), W (v9 + wrong)⟩ : XSpan)).1).Low).Girth), I ((((growth_keep b k (⟨W (v9 - wrong), W (v9 + wrong)⟩ : XSpan)).1).High).Age), I ((((growth_keep b k (⟨W (v9 - wrong), W (v9 + wrong)⟩ : XSpan)).1).High).Shoots), I ((((growth_keep b k (⟨W (v9 - wrong), W (v9 + wrong)⟩ : XSpan)).1).High).Height), I ((((growth_keep b k (⟨W (v9 - wrong), W (v9 + wrong)⟩ : XSpan)).1).High).Girth)], .bool ((growth_keep b k (⟨W (v9 - wrong), W (v9 + wrong)⟩ : XSpan)).2)]))
noncomputable abbrev z35i1 (b : XBox) (k wrong v9 : Int) : Hint := (hC (I (growth_wood (((growth_keep b k (⟨W (v9 - wrong), W (v9 + wrong)⟩ : XSpan)).1).High))))
noncomputable abbrev z35i2 (b : XBox) (k wrong v9 : Int) : Hint := (hC (I (growth_wood (((growth_keep b k (⟨W (v9 - wrong), W (v9 + wrong)⟩ : XSpan)).1).Low))))
theorem z35p3 (b : XBox) (k wrong v9 : Int) : FC P GG 103 (A_growth_keep b k (⟨W (v9 - wrong), W (v9 + wrong)⟩ : XSpan)) [] (.tuple #[.agg #[I ((((growth_keep b k (⟨W (v9 - wrong), W (v9 + wrong)⟩ : XSpan)).1).Low).Age), I ((((growth_keep b k (⟨W (v9 - wrong), W (v9 + wrong)⟩ : XSpan)).1).Low).Shoots), I ((((growth_keep b k (⟨W (v9 - wrong), W (v9 + wrong)⟩ : XSpan)).1).Low).Height), I ((((growth_keep b k (⟨W (v9 - wrong), W (v9 + wrong)⟩ : XSpan)).1).Low).Girth), I ((((growth_keep b k (⟨W (v9 - wrong), W (v9 + wrong)⟩ : XSpan)).1).High).Age), I ((((growth_keep b k (⟨W (v9 - wrong), W (v9 + wrong)⟩ : XSpan)).1).High).Shoots), I ((((growth_keep b k (⟨W (v9 - wrong), W (v9 + wrong)⟩ : XSpan)).1).High).Height), I ((((growth_keep b k (⟨W (v9 - wrong), W (v9 + wrong)⟩ : XSpan)).1).High).Girth)], .bool ((growth_keep b k (⟨W (v9 - wrong), W (v9 + wrong)⟩ : XSpan)).2)]) := growth_keep_fc b k (⟨W (v9 - wrong), W (v9 + wrong)⟩ : XSpan)
theorem z35p4 (b : XBox) (k wrong v9 : Int) : FC P GG 61 (A_growth_wood (((growth_keep b k (⟨W (v9 - wrong), W (v9 + wrong)⟩ : XSpan)).1).High)) [] (I (growth_wood (((growth_keep b k (⟨W (v9 - wrong), W (v9 + wrong)⟩ : XSpan)).1).High))) := growth_wood_fc (((growth_keep b k (⟨W (v9 - wrong), W (v9 + wrong)⟩ : XSpan)).1).High)
theorem z35p5 (b : XBox) (k wrong v9 : Int) : FC P GG 61 (A_growth_wood (((growth_keep b k (⟨W (v9 - wrong), W (v9 + wrong)⟩ : XSpan)).1).Low)) [] (I (growth_wood (((growth_keep b k (⟨W (v9 - wrong), W (v9 + wrong)⟩ : XSpan)).1).Low))) := growth_wood_fc (((growth_keep b k (⟨W (v9 - wrong), W (v9 + wrong)⟩ : XSpan)).1).Low)
noncomputable abbrev z35i6 (b : XBox) (k : Int) : Hint := (hC (.agg #[I ((growth_spanOf b k).Low), I ((growth_spanOf b k).High)]))
abbrev A_growth_promise (b : XBox) (k wrong : Int) : List Value := [.agg #[I (b.Low.Age), I (b.Low.Shoots), I (b.Low.Height), I (b.Low.Girth), I (b.High.Age), I (b.High.Shoots), I (b.High.Height), I (b.High.Girth)], I (k), I (wrong)]
noncomputable def growth_promise_L (fu : Nat) (b : XBox) (k wrong : Int) : Nat → (Int → Int → Option Int)
  | 0 => (fun _ _ => none)
  | fk + 1 => (fun v7 v9 => bif decide (v9 ≤ ((growth_spanOf b k).High)) then growth_promise_L fu b k wrong fk (imax v7 (W ((growth_wood (((growth_keep b k (⟨W (v9 - wrong), W (v9 + wrong)⟩ : XSpan)).1).High)) - (growth_wood (((growth_keep b k (⟨W (v9 - wrong), W (v9 + wrong)⟩ : XSpan)).1).Low))))) (W (v9 + 1))
      else some v7)
theorem growth_promise_L_s0 (fu : Nat) (b : XBox) (k wrong : Int) (fk : Nat) (v7 v9 : Int) : growth_promise_L fu b k wrong (fk + 1) v7 v9 = (bif decide (v9 ≤ ((growth_spanOf b k).High)) then growth_promise_L fu b k wrong fk (imax v7 (W ((growth_wood (((growth_keep b k (⟨W (v9 - wrong), W (v9 + wrong)⟩ : XSpan)).1).High)) - (growth_wood (((growth_keep b k (⟨W (v9 - wrong), W (v9 + wrong)⟩ : XSpan)).1).Low))))) (W (v9 + 1))
      else some v7) := rfl
noncomputable def growth_promise (fu : Nat) (b : XBox) (k wrong : Int) : Option Int :=
  growth_promise_L fu b k wrong fu 0 ((growth_spanOf b k).Low)
theorem growth_promise_L_fs (fu : Nat) (b : XBox) (k wrong : Int) : ∀ fk, (∀ (v7 v9 r : Int), growth_promise_L fu b k wrong fk v7 v9 = some r → FSat P GG Tryd.f91 (I (r)) (ids (looses [])) 46 [.lp (cA (bodyOf Tryd.f91) [1, 1, 1, 0, 1, 0, 0]), .blk 0, .code (cA (bodyOf Tryd.f91) [1, 1, 1, 1])] (tOf 46 [(1, I (k)), (2, I (wrong)), (3, .pointer (some ⟨100, 0, none⟩)), (6, I (0)), (7, I (v7)), (8, .pointer (some ⟨101, 0, none⟩)), (9, I (v9))]) (mOf 102 [(0, .rom [I (1), I (2), I (3)] .glob), (100, .row [I (b.Low.Age), I (b.Low.Shoots), I (b.Low.Height), I (b.Low.Girth), I (b.High.Age), I (b.High.Shoots), I (b.High.Height), I (b.High.Girth)] 0), (101, .row [I ((growth_spanOf b k).Low), I ((growth_spanOf b k).High)] 0)])) := by
  intro fk
  induction fk with
  | zero => exact fun _ _ r hh => by cases hh
  | succ fk ih =>
    · intro v7 v9 r hh
      rw [growth_promise_L_s0] at hh
      rcases bb (decide (v9 ≤ ((growth_spanOf b k).High))) with h1 | h1
      ·rw [h1, cT] at hh
       have nx := ih (imax v7 (W ((growth_wood (((growth_keep b k (⟨W (v9 - wrong), W (v9 + wrong)⟩ : XSpan)).1).High)) - (growth_wood (((growth_keep b k (⟨W (v9 - wrong), W (v9 + wrong)⟩ : XSpan)).1).Low))))) (W (v9 + 1)) r hh
       refine FSat.s pfT 19 (hE :: hE :: hE :: hT :: (hR 9 ((z35i0 b k wrong v9) :: (hR 9 ((z35i1 b k wrong v9) :: hE :: hE :: (z35i2 b k wrong v9) :: (hR 6 [])))))) [.go, .st [1, 2, 3, 6, 7, 8, 9] [0, 100, 101]] (pc h1 <| pc (z35p3 b k wrong v9) <| pc (z35p4 b k wrong v9) <| pc (z35p5 b k wrong v9) <| pn) (by kernel_rfl) 102 (by kernel_rfl) ?_ nx
       exact ⟨PinL.lit (by kernel_rfl), PinL.lit (by kernel_rfl), PinL.lit (by kernel_rfl), trivial⟩
      ·rw [h1, cF] at hh
       rw [← sI hh]
       exact FSat.d pfT 14 [hE, hE, hE, hF, hE, hE] [.go] (pc h1 <| pn) (by kernel_rfl) (by kernel_rfl)
theorem growth_promise_fc (fu : Nat) (b : XBox) (k wrong r : Int) (hh : growth_promise fu b k wrong = some r) : FC P GG 91 (A_growth_promise b k wrong) [] (I (r)) := by
  refine FC.of_fsat 46 100 Tryd.func91 (by kernel_rfl) (by kernel_rfl) (by kernel_rfl) trivial ?_
  unfold growth_promise at hh
  have nx := growth_promise_L_fs fu b k wrong fu 0 ((growth_spanOf b k).Low) r hh
  refine FSat.s pfT 17 (hR 5 ((z35i6 b k) :: (hR 5 []))) [.st [1, 2, 3, 6, 7, 8, 9] [0, 100, 101]] (pc (growth_spanOf_fc b k) <| pn) (by kernel_rfl) 102 (by kernel_rfl) ?_ nx
  exact ⟨PinL.lit (by kernel_rfl), PinL.lit (by kernel_rfl), PinL.lit (by kernel_rfl), trivial⟩

/- greenhew/growth.Ask -/
abbrev A_growth_Ask (b : XBox) (t_1 : XTolerance) : List Value := [.agg #[I (b.Low.Age), I (b.Low.Shoots), I (b.Low.Height), I (b.Low.Girth), I (b.High.Age), I (b.High.Shoots), I (b.High.Height), I (b.High.Girth)], .agg #[I (t_1.Shoots), I (t_1.Height), I (t_1.Girth)]]
noncomputable def growth_Ask (fu : Nat) (b : XBox) (t_1 : XTolerance) : Option (Int × Int × Int) :=
  bif growth_boxIsDefined b then (bif growth_toleranceIsDefined t_1 then (Option.bind (growth_promise fu b 1 t_1.Shoots) fun x1 =>
      Option.bind (growth_promise fu b 2 t_1.Height) fun x2 =>
      bif decide (x2 < x1) then (Option.bind (growth_promise fu b 3 t_1.Girth) fun x3 =>
        bif decide (x3 < x2) then some (3, x3, 0)
        else some (2, x2, 0))
      else (Option.bind (growth_promise fu b 3 t_1.Girth) fun x3 =>
        bif decide (x3 < x1) then some (3, x3, 0)
        else some (1, x1, 0)))
    else some (0, 0, 2))
  else some (0, 0, 2)
theorem growth_Ask_fc (fu : Nat) (b : XBox) (t_1 : XTolerance) (r : Int × Int × Int) (hh : growth_Ask fu b t_1 = some r) : FC P GG 52 (A_growth_Ask b t_1) [] (.tuple #[I (r.1), I (r.2.1), I (r.2.2)]) := by
  refine FC.of_fsat 50 100 Tryd.func52 (by kernel_rfl) (by kernel_rfl) (by kernel_rfl) trivial ?_
  unfold growth_Ask at hh
  rcases bb (growth_boxIsDefined b) with h1 | h1
  ·rw [h1, cT] at hh
   rcases bb (growth_toleranceIsDefined t_1) with h2 | h2
   ·rw [h2, cT] at hh
    cases h3 : growth_promise fu b 1 t_1.Shoots with
    | none => rw [h3, oN] at hh; cases hh
    | some x1 =>
     rw [h3, oS] at hh
     cases h4 : growth_promise fu b 2 t_1.Height with
     | none => rw [h4, oN] at hh; cases hh
     | some x2 =>
      rw [h4, oS] at hh
      rcases bb (decide (x2 < x1)) with h5 | h5
      ·rw [h5, cT] at hh
       cases h6 : growth_promise fu b 3 t_1.Girth with
       | none => rw [h6, oN] at hh; cases hh
       | some x3 =>
        rw [h6, oS] at hh
        rcases bb (decide (x3 < x2)) with h7 | h7
        ·rw [h7, cT] at hh
         rw [← sI hh]
         exact FSat.d pfT 84 (hR 6 ((hB (hC (.bool (growth_boxIsDefined b))) true) :: hE :: hE :: hE :: (hB (hC (.bool (growth_toleranceIsDefined t_1))) true) :: (hR 23 ((hC (I (x1))) :: (hR 19 ((hC (I (x2))) :: (hR 6 (hT :: (hR 15 ((hC (I (x3))) :: (hR 6 (hT :: (hR 13 []))))))))))))) [.go, .go, .go, .go] (pc (growth_boxIsDefined_fc b) <| pc h1 <| pc (growth_toleranceIsDefined_fc t_1) <| pc h2 <| pc (growth_promise_fc fu b 1 t_1.Shoots x1 h3) <| pc (growth_promise_fc fu b 2 t_1.Height x2 h4) <| pc h5 <| pc (growth_promise_fc fu b 3 t_1.Girth x3 h6) <| pc h7 <| pn) (by kernel_rfl) (by kernel_rfl)
        ·rw [h7, cF] at hh
         rw [← sI hh]
         exact FSat.d pfT 84 (hR 6 ((hB (hC (.bool (growth_boxIsDefined b))) true) :: hE :: hE :: hE :: (hB (hC (.bool (growth_toleranceIsDefined t_1))) true) :: (hR 23 ((hC (I (x1))) :: (hR 19 ((hC (I (x2))) :: (hR 6 (hT :: (hR 15 ((hC (I (x3))) :: (hR 6 (hF :: (hR 9 []))))))))))))) [.go, .go, .go, .go] (pc (growth_boxIsDefined_fc b) <| pc h1 <| pc (growth_toleranceIsDefined_fc t_1) <| pc h2 <| pc (growth_promise_fc fu b 1 t_1.Shoots x1 h3) <| pc (growth_promise_fc fu b 2 t_1.Height x2 h4) <| pc h5 <| pc (growth_promise_fc fu b 3 t_1.Girth x3 h6) <| pc h7 <| pn) (by kernel_rfl) (by kernel_rfl)
      ·rw [h5, cF] at hh
       cases h6 : growth_promise fu b 3 t_1.Girth with
       | none => rw [h6, oN] at hh; cases hh
       | some x3 =>
        rw [h6, oS] at hh
        rcases bb (decide (x3 < x1)) with h7 | h7
        ·rw [h7, cT] at hh
         rw [← sI hh]
         exact FSat.d pfT 84 (hR 6 ((hB (hC (.bool (growth_boxIsDefined b))) true) :: hE :: hE :: hE :: (hB (hC (.bool (growth_toleranceIsDefined t_1))) true) :: (hR 23 ((hC (I (x1))) :: (hR 19 ((hC (I (x2))) :: (hR 6 (hF :: (hR 11 ((hC (I (x3))) :: (hR 6 (hT :: (hR 13 []))))))))))))) [.go, .go, .go, .go] (pc (growth_boxIsDefined_fc b) <| pc h1 <| pc (growth_toleranceIsDefined_fc t_1) <| pc h2 <| pc (growth_promise_fc fu b 1 t_1.Shoots x1 h3) <| pc (growth_promise_fc fu b 2 t_1.Height x2 h4) <| pc h5 <| pc (growth_promise_fc fu b 3 t_1.Girth x3 h6) <| pc h7 <| pn) (by kernel_rfl) (by kernel_rfl)
        ·rw [h7, cF] at hh
         rw [← sI hh]
         exact FSat.d pfT 84 (hR 6 ((hB (hC (.bool (growth_boxIsDefined b))) true) :: hE :: hE :: hE :: (hB (hC (.bool (growth_toleranceIsDefined t_1))) true) :: (hR 23 ((hC (I (x1))) :: (hR 19 ((hC (I (x2))) :: (hR 6 (hF :: (hR 11 ((hC (I (x3))) :: (hR 6 (hF :: (hR 9 []))))))))))))) [.go, .go, .go, .go] (pc (growth_boxIsDefined_fc b) <| pc h1 <| pc (growth_toleranceIsDefined_fc t_1) <| pc h2 <| pc (growth_promise_fc fu b 1 t_1.Shoots x1 h3) <| pc (growth_promise_fc fu b 2 t_1.Height x2 h4) <| pc h5 <| pc (growth_promise_fc fu b 3 t_1.Girth x3 h6) <| pc h7 <| pn) (by kernel_rfl) (by kernel_rfl)
   ·rw [h2, cF] at hh
    rw [← sI hh]
    exact FSat.d pfT 14 (hR 6 ((hB (hC (.bool (growth_boxIsDefined b))) true) :: hE :: hE :: hE :: (hB (hC (.bool (growth_toleranceIsDefined t_1))) false) :: (hR 5 []))) [] (pc (growth_boxIsDefined_fc b) <| pc h1 <| pc (growth_toleranceIsDefined_fc t_1) <| pc h2 <| pn) (by kernel_rfl) (by kernel_rfl)
  ·rw [h1, cF] at hh
   rw [← sI hh]
   exact FSat.d pfT 14 (hR 6 ((hB (hC (.bool (growth_boxIsDefined b))) false) :: (hR 6 []))) [] (pc (growth_boxIsDefined_fc b) <| pc h1 <| pn) (by kernel_rfl) (by kernel_rfl)

/- greenhew/greenhewlaw02.known -/
noncomputable abbrev z3i0 (x1 : XStand × Int) : Hint := (hM (.tuple #[.agg #[I (x1.1.Age), I (x1.1.Shoots), I (x1.1.Height), I (x1.1.Girth)], I (x1.2)]) (.tuple #[.agg #[I (x1.1.Age), I (x1.1.Shoots), I (x1.1.Height), I (x1.1.Girth)], I (x1.2)]) (A_growth_Grow (⟨[1000, 500], [60, 40], 8000, 400, 20, 1500, [(⟨1000, 20⟩ : XRung), (⟨3000, 8⟩ : XRung)], [(⟨5, 10⟩ : XSpan), (⟨10, 30⟩ : XSpan)]⟩ : XSpecies) (⟨0, 30, 0, 0⟩ : XStand) (⟨100, 0, 100⟩ : XWeather) 2 2 2 2) (K_growth_Grow (⟨[1000, 500], [60, 40], 8000, 400, 20, 1500, [(⟨1000, 20⟩ : XRung), (⟨3000, 8⟩ : XRung)], [(⟨5, 10⟩ : XSpan), (⟨10, 30⟩ : XSpan)]⟩ : XSpecies)) [(10, 101, 0), (11, 102, 0), (12, 103, 0), (13, 104, 0)])
noncomputable abbrev z3i1 (x2 : XBox × Int) : Hint := (hM (.tuple #[.agg #[I (x2.1.Low.Age), I (x2.1.Low.Shoots), I (x2.1.Low.Height), I (x2.1.Low.Girth), I (x2.1.High.Age), I (x2.1.High.Shoots), I (x2.1.High.Height), I (x2.1.High.Girth)], I (x2.2)]) (.tuple #[.agg #[I (x2.1.Low.Age), I (x2.1.Low.Shoots), I (x2.1.Low.Height), I (x2.1.Low.Girth), I (x2.1.High.Age), I (x2.1.High.Shoots), I (x2.1.High.Height), I (x2.1.High.Girth)], I (x2.2)]) (A_growth_Step (⟨[1000, 500], [60, 40], 8000, 400, 20, 1500, [(⟨1000, 20⟩ : XRung), (⟨3000, 8⟩ : XRung)], [(⟨5, 10⟩ : XSpan), (⟨10, 30⟩ : XSpan)]⟩ : XSpecies) (⟨(⟨0, 30, 0, 0⟩ : XStand), (⟨0, 30, 0, 0⟩ : XStand)⟩ : XBox) (⟨(⟨100, 100⟩ : XSpan), (⟨0, 50⟩ : XSpan), (⟨100, 150⟩ : XSpan), false⟩ : XSeason) 2 2 2 2) (K_growth_Step (⟨[1000, 500], [60, 40], 8000, 400, 20, 1500, [(⟨1000, 20⟩ : XRung), (⟨3000, 8⟩ : XRung)], [(⟨5, 10⟩ : XSpan), (⟨10, 30⟩ : XSpan)]⟩ : XSpecies)) [(10, 101, 0), (11, 102, 0), (12, 103, 0), (13, 104, 0)])
noncomputable abbrev z3i2 (x2 : XBox × Int) : Hint := (hC (.tuple #[I ((growth_Woods x2.1).1), I ((growth_Woods x2.1).2.1), I ((growth_Woods x2.1).2.2)]))
theorem z3p3 : VRs (Ren.emb [(10, 101, 0), (11, 102, 0), (12, 103, 0), (13, 104, 0)]) (A_growth_Grow (⟨[1000, 500], [60, 40], 8000, 400, 20, 1500, [(⟨1000, 20⟩ : XRung), (⟨3000, 8⟩ : XRung)], [(⟨5, 10⟩ : XSpan), (⟨10, 30⟩ : XSpan)]⟩ : XSpecies) (⟨0, 30, 0, 0⟩ : XStand) (⟨100, 0, 100⟩ : XWeather) 2 2 2 2) [.agg #[.slice (some ⟨101, 0, none⟩) (2) (2), .slice (some ⟨102, 0, none⟩) (2) (2), I (8000), I (400), I (20), I (1500), .slice (some ⟨103, 0, none⟩) (2) (2), .slice (some ⟨104, 0, none⟩) (2) (2)], .agg #[I (0), I (30), I (0), I (0)], .agg #[I (100), I (0), I (100)]] := (.cons _ _ _ _ (.agg _ _ (.cons _ _ _ _ (.slc 10 0 _ _ _ ⟨101, 0, 0, 0⟩ rfl (.inl rfl)) (.cons _ _ _ _ (.slc 11 0 _ _ _ ⟨102, 0, 0, 0⟩ rfl (.inl rfl)) (.cons _ _ _ _ (VR.of_pf rfl) (.cons _ _ _ _ (VR.of_pf rfl) (.cons _ _ _ _ (VR.of_pf rfl) (.cons _ _ _ _ (VR.of_pf rfl) (.cons _ _ _ _ (.slc 12 0 _ _ _ ⟨103, 0, 0, 0⟩ rfl (.inl rfl)) (.cons _ _ _ _ (.slc 13 0 _ _ _ ⟨104, 0, 0, 0⟩ rfl (.inl rfl)) .nil))))))))) (.cons _ _ _ _ (VR.of_pf rfl) (.cons _ _ _ _ (VR.of_pf rfl) .nil)))
theorem z3p4 : MemAt (Ren.emb [(10, 101, 0), (11, 102, 0), (12, 103, 0), (13, 104, 0)]) (encL cInt ((⟨[1000, 500], [60, 40], 8000, 400, 20, 1500, [(⟨1000, 20⟩ : XRung), (⟨3000, 8⟩ : XRung)], [(⟨5, 10⟩ : XSpan), (⟨10, 30⟩ : XSpan)]⟩ : XSpecies).Rise)) 0 ([I (1000), I (500)]) ∧ MemAt (Ren.emb [(10, 101, 0), (11, 102, 0), (12, 103, 0), (13, 104, 0)]) (encL cInt ((⟨[1000, 500], [60, 40], 8000, 400, 20, 1500, [(⟨1000, 20⟩ : XRung), (⟨3000, 8⟩ : XRung)], [(⟨5, 10⟩ : XSpan), (⟨10, 30⟩ : XSpan)]⟩ : XSpecies).Thick)) 0 ([I (60), I (40)]) ∧ MemAt (Ren.emb [(10, 101, 0), (11, 102, 0), (12, 103, 0), (13, 104, 0)]) (encL cXRung ((⟨[1000, 500], [60, 40], 8000, 400, 20, 1500, [(⟨1000, 20⟩ : XRung), (⟨3000, 8⟩ : XRung)], [(⟨5, 10⟩ : XSpan), (⟨10, 30⟩ : XSpan)]⟩ : XSpecies).Ladder)) 0 ([I (1000), I (20), I (3000), I (8)]) ∧ MemAt (Ren.emb [(10, 101, 0), (11, 102, 0), (12, 103, 0), (13, 104, 0)]) (encL cXSpan ((⟨[1000, 500], [60, 40], 8000, 400, 20, 1500, [(⟨1000, 20⟩ : XRung), (⟨3000, 8⟩ : XRung)], [(⟨5, 10⟩ : XSpan), (⟨10, 30⟩ : XSpan)]⟩ : XSpecies).Sprouts)) 0 ([I (5), I (10), I (10), I (30)]) ∧ True := ⟨MemAt.same _ (encL_pf cInt_pf _), MemAt.same _ (encL_pf cInt_pf _), MemAt.same _ (encL_pf cXRung_pf _), MemAt.same _ (encL_pf cXSpan_pf _), trivial⟩
theorem z3p5 : VRs (Ren.emb [(10, 101, 0), (11, 102, 0), (12, 103, 0), (13, 104, 0)]) (A_growth_Step (⟨[1000, 500], [60, 40], 8000, 400, 20, 1500, [(⟨1000, 20⟩ : XRung), (⟨3000, 8⟩ : XRung)], [(⟨5, 10⟩ : XSpan), (⟨10, 30⟩ : XSpan)]⟩ : XSpecies) (⟨(⟨0, 30, 0, 0⟩ : XStand), (⟨0, 30, 0, 0⟩ : XStand)⟩ : XBox) (⟨(⟨100, 100⟩ : XSpan), (⟨0, 50⟩ : XSpan), (⟨100, 150⟩ : XSpan), false⟩ : XSeason) 2 2 2 2) [.agg #[.slice (some ⟨101, 0, none⟩) (2) (2), .slice (some ⟨102, 0, none⟩) (2) (2), I (8000), I (400), I (20), I (1500), .slice (some ⟨103, 0, none⟩) (2) (2), .slice (some ⟨104, 0, none⟩) (2) (2)], .agg #[I (0), I (30), I (0), I (0), I (0), I (30), I (0), I (0)], .agg #[I (100), I (100), I (0), I (50), I (100), I (150), .bool (false)]] := (.cons _ _ _ _ (.agg _ _ (.cons _ _ _ _ (.slc 10 0 _ _ _ ⟨101, 0, 0, 0⟩ rfl (.inl rfl)) (.cons _ _ _ _ (.slc 11 0 _ _ _ ⟨102, 0, 0, 0⟩ rfl (.inl rfl)) (.cons _ _ _ _ (VR.of_pf rfl) (.cons _ _ _ _ (VR.of_pf rfl) (.cons _ _ _ _ (VR.of_pf rfl) (.cons _ _ _ _ (VR.of_pf rfl) (.cons _ _ _ _ (.slc 12 0 _ _ _ ⟨103, 0, 0, 0⟩ rfl (.inl rfl)) (.cons _ _ _ _ (.slc 13 0 _ _ _ ⟨104, 0, 0, 0⟩ rfl (.inl rfl)) .nil))))))))) (.cons _ _ _ _ (VR.of_pf rfl) (.cons _ _ _ _ (VR.of_pf rfl) .nil)))
abbrev z3r6 (x1 : XStand × Int) : Prop := VR (Ren.emb [(10, 101, 0), (11, 102, 0), (12, 103, 0), (13, 104, 0)]) (.tuple #[.agg #[I (x1.1.Age), I (x1.1.Shoots), I (x1.1.Height), I (x1.1.Girth)], I (x1.2)]) (.tuple #[.agg #[I (x1.1.Age), I (x1.1.Shoots), I (x1.1.Height), I (x1.1.Girth)], I (x1.2)])
abbrev z3r7 (x2 : XBox × Int) : Prop := VR (Ren.emb [(10, 101, 0), (11, 102, 0), (12, 103, 0), (13, 104, 0)]) (.tuple #[.agg #[I (x2.1.Low.Age), I (x2.1.Low.Shoots), I (x2.1.Low.Height), I (x2.1.Low.Girth), I (x2.1.High.Age), I (x2.1.High.Shoots), I (x2.1.High.Height), I (x2.1.High.Girth)], I (x2.2)]) (.tuple #[.agg #[I (x2.1.Low.Age), I (x2.1.Low.Shoots), I (x2.1.Low.Height), I (x2.1.Low.Girth), I (x2.1.High.Age), I (x2.1.High.Shoots), I (x2.1.High.Height), I (x2.1.High.Girth)], I (x2.2)])
abbrev A_law02_known : List Value := []
noncomputable def law02_known (fu : Nat)  : Option Bool :=
  Option.bind (growth_Grow fu (⟨[1000, 500], [60, 40], 8000, 400, 20, 1500, [(⟨1000, 20⟩ : XRung), (⟨3000, 8⟩ : XRung)], [(⟨5, 10⟩ : XSpan), (⟨10, 30⟩ : XSpan)]⟩ : XSpecies) (⟨0, 30, 0, 0⟩ : XStand) (⟨100, 0, 100⟩ : XWeather)) fun x1 =>
  Option.bind (growth_Step fu (⟨[1000, 500], [60, 40], 8000, 400, 20, 1500, [(⟨1000, 20⟩ : XRung), (⟨3000, 8⟩ : XRung)], [(⟨5, 10⟩ : XSpan), (⟨10, 30⟩ : XSpan)]⟩ : XSpecies) (⟨(⟨0, 30, 0, 0⟩ : XStand), (⟨0, 30, 0, 0⟩ : XStand)⟩ : XBox) (⟨(⟨100, 100⟩ : XSpan), (⟨0, 50⟩ : XSpan), (⟨100, 150⟩ : XSpan), false⟩ : XSeason)) fun x2 =>
  Option.bind (growth_Ask fu (⟨(⟨4, 10, 3000, 150⟩ : XStand), (⟨4, 20, 5000, 250⟩ : XStand)⟩ : XBox) (⟨2, 500, 20⟩ : XTolerance)) fun x3 =>
  bif x1.2 != 0 then some false
  else (bif x2.2 != 0 then some false
    else (bif ((growth_Woods x2.1).2.2) != 0 then some false
      else (bif x3.2.2 != 0 then some false
        else (bif ((growth_Woods x2.1).1) != 0 then some false
          else (bif ((growth_Woods x2.1).2.1) != 8 then some false
            else (bif x3.1 != 3 then some false
              else (bif x3.2.1 != 198 then some false
                else (bif ((x1.1.Age == 1) && ((x1.1.Shoots == 20) && ((x1.1.Height == 1000) && ((x1.1.Girth == 46) && true)))) then some (((x2.1.Low.Age == 1) && ((x2.1.Low.Shoots == 20) && ((x2.1.Low.Height == 500) && ((x2.1.Low.Girth == 46) && true)))) && (((x2.1.High.Age == 1) && ((x2.1.High.Shoots == 30) && ((x2.1.High.Height == 1500) && ((x2.1.High.Girth == 69) && true)))) && true))
                  else some false))))))))
theorem law02_known_fc (fu : Nat)  (r : Bool) (hh : law02_known fu = some r) : FC P GG 18 (A_law02_known) [] (.bool (r)) := by
  refine FC.of_fsat 91 100 Tryd.func18 (by kernel_rfl) (by kernel_rfl) (by kernel_rfl) trivial ?_
  unfold law02_known at hh
  cases h1 : growth_Grow fu (⟨[1000, 500], [60, 40], 8000, 400, 20, 1500, [(⟨1000, 20⟩ : XRung), (⟨3000, 8⟩ : XRung)], [(⟨5, 10⟩ : XSpan), (⟨10, 30⟩ : XSpan)]⟩ : XSpecies) (⟨0, 30, 0, 0⟩ : XStand) (⟨100, 0, 100⟩ : XWeather) with
  | none => rw [h1, oN] at hh; cases hh
  | some x1 =>
   rw [h1, oS] at hh
   cases h2 : growth_Step fu (⟨[1000, 500], [60, 40], 8000, 400, 20, 1500, [(⟨1000, 20⟩ : XRung), (⟨3000, 8⟩ : XRung)], [(⟨5, 10⟩ : XSpan), (⟨10, 30⟩ : XSpan)]⟩ : XSpecies) (⟨(⟨0, 30, 0, 0⟩ : XStand), (⟨0, 30, 0, 0⟩ : XStand)⟩ : XBox) (⟨(⟨100, 100⟩ : XSpan), (⟨0, 50⟩ : XSpan), (⟨100, 150⟩ : XSpan), false⟩ : XSeason) with
   | none => rw [h2, oN] at hh; cases hh
   | some x2 =>
    rw [h2, oS] at hh
    cases h3 : growth_Ask fu (⟨(⟨4, 10, 3000, 150⟩ : XStand), (⟨4, 20, 5000, 250⟩ : XStand)⟩ : XBox) (⟨2, 500, 20⟩ : XTolerance) with
    | none => rw [h3, oN] at hh; cases hh
    | some x3 =>
     rw [h3, oS] at hh
     rcases bb (x1.2 != 0) with h4 | h4
     ·rw [h4, cT] at hh
      rw [← sI hh]
      exact FSat.d pfT 28 (hR 10 ((z3i0 x1) :: (hR 17 ((z3i1 x2) :: (hR 7 ((z3i2 x2) :: (hR 11 ((hC (.tuple #[I (x3.1), I (x3.2.1), I (x3.2.2)])) :: (hR 8 (hT :: (hR 15 []))))))))))) [] (pc (growth_Grow_fc fu (⟨[1000, 500], [60, 40], 8000, 400, 20, 1500, [(⟨1000, 20⟩ : XRung), (⟨3000, 8⟩ : XRung)], [(⟨5, 10⟩ : XSpan), (⟨10, 30⟩ : XSpan)]⟩ : XSpecies) (⟨0, 30, 0, 0⟩ : XStand) (⟨100, 0, 100⟩ : XWeather) 2 2 2 2 x1 h1) <| pc z3p3 <| pc z3p4 <| pt (z3r6 x1) (selfB_self 9 _ rfl _) <| pc (growth_Step_fc fu (⟨[1000, 500], [60, 40], 8000, 400, 20, 1500, [(⟨1000, 20⟩ : XRung), (⟨3000, 8⟩ : XRung)], [(⟨5, 10⟩ : XSpan), (⟨10, 30⟩ : XSpan)]⟩ : XSpecies) (⟨(⟨0, 30, 0, 0⟩ : XStand), (⟨0, 30, 0, 0⟩ : XStand)⟩ : XBox) (⟨(⟨100, 100⟩ : XSpan), (⟨0, 50⟩ : XSpan), (⟨100, 150⟩ : XSpan), false⟩ : XSeason) 2 2 2 2 x2 h2) <| pc z3p5 <| pc z3p4 <| pt (z3r7 x2) (selfB_self 9 _ rfl _) <| pc (growth_Woods_fc x2.1) <| pc (growth_Ask_fc fu (⟨(⟨4, 10, 3000, 150⟩ : XStand), (⟨4, 20, 5000, 250⟩ : XStand)⟩ : XBox) (⟨2, 500, 20⟩ : XTolerance) x3 h3) <| pc h4 <| pn) (by kernel_rfl) (by kernel_rfl)
     ·rw [h4, cF] at hh
      rcases bb (x2.2 != 0) with h5 | h5
      ·rw [h5, cT] at hh
       rw [← sI hh]
       exact FSat.d pfT 28 (hR 10 ((z3i0 x1) :: (hR 17 ((z3i1 x2) :: (hR 7 ((z3i2 x2) :: (hR 11 ((hC (.tuple #[I (x3.1), I (x3.2.1), I (x3.2.2)])) :: (hR 8 (hF :: hE :: hE :: hT :: (hR 14 []))))))))))) [] (pc (growth_Grow_fc fu (⟨[1000, 500], [60, 40], 8000, 400, 20, 1500, [(⟨1000, 20⟩ : XRung), (⟨3000, 8⟩ : XRung)], [(⟨5, 10⟩ : XSpan), (⟨10, 30⟩ : XSpan)]⟩ : XSpecies) (⟨0, 30, 0, 0⟩ : XStand) (⟨100, 0, 100⟩ : XWeather) 2 2 2 2 x1 h1) <| pc z3p3 <| pc z3p4 <| pt (z3r6 x1) (selfB_self 9 _ rfl _) <| pc (growth_Step_fc fu (⟨[1000, 500], [60, 40], 8000, 400, 20, 1500, [(⟨1000, 20⟩ : XRung), (⟨3000, 8⟩ : XRung)], [(⟨5, 10⟩ : XSpan), (⟨10, 30⟩ : XSpan)]⟩ : XSpecies) (⟨(⟨0, 30, 0, 0⟩ : XStand), (⟨0, 30, 0, 0⟩ : XStand)⟩ : XBox) (⟨(⟨100, 100⟩ : XSpan), (⟨0, 50⟩ : XSpan), (⟨100, 150⟩ : XSpan), false⟩ : XSeason) 2 2 2 2 x2 h2) <| pc z3p5 <| pc z3p4 <| pt (z3r7 x2) (selfB_self 9 _ rfl _) <| pc (growth_Woods_fc x2.1) <| pc (growth_Ask_fc fu (⟨(⟨4, 10, 3000, 150⟩ : XStand), (⟨4, 20, 5000, 250⟩ : XStand)⟩ : XBox) (⟨2, 500, 20⟩ : XTolerance) x3 h3) <| pc h4 <| pc h5 <| pn) (by kernel_rfl) (by kernel_rfl)
      ·rw [h5, cF] at hh
       rcases bb (((growth_Woods x2.1).2.2) != 0) with h6 | h6
       ·rw [h6, cT] at hh
        rw [← sI hh]
        exact FSat.d pfT 28 (hR 10 ((z3i0 x1) :: (hR 17 ((z3i1 x2) :: (hR 7 ((z3i2 x2) :: (hR 11 ((hC (.tuple #[I (x3.1), I (x3.2.1), I (x3.2.2)])) :: (hR 8 (hF :: hE :: hE :: hF :: hE :: hE :: hE :: hT :: (hR 12 []))))))))))) [] (pc (growth_Grow_fc fu (⟨[1000, 500], [60, 40], 8000, 400, 20, 1500, [(⟨1000, 20⟩ : XRung), (⟨3000, 8⟩ : XRung)], [(⟨5, 10⟩ : XSpan), (⟨10, 30⟩ : XSpan)]⟩ : XSpecies) (⟨0, 30, 0, 0⟩ : XStand) (⟨100, 0, 100⟩ : XWeather) 2 2 2 2 x1 h1) <| pc z3p3 <| pc z3p4 <| pt (z3r6 x1) (selfB_self 9 _ rfl _) <| pc (growth_Step_fc fu (⟨[1000, 500], [60, 40], 8000, 400, 20, 1500, [(⟨1000, 20⟩ : XRung), (⟨3000, 8⟩ : XRung)], [(⟨5, 10⟩ : XSpan), (⟨10, 30⟩ : XSpan)]⟩ : XSpecies) (⟨(⟨0, 30, 0, 0⟩ : XStand), (⟨0, 30, 0, 0⟩ : XStand)⟩ : XBox) (⟨(⟨100, 100⟩ : XSpan), (⟨0, 50⟩ : XSpan), (⟨100, 150⟩ : XSpan), false⟩ : XSeason) 2 2 2 2 x2 h2) <| pc z3p5 <| pc z3p4 <| pt (z3r7 x2) (selfB_self 9 _ rfl _) <| pc (growth_Woods_fc x2.1) <| pc (growth_Ask_fc fu (⟨(⟨4, 10, 3000, 150⟩ : XStand), (⟨4, 20, 5000, 250⟩ : XStand)⟩ : XBox) (⟨2, 500, 20⟩ : XTolerance) x3 h3) <| pc h4 <| pc h5 <| pc h6 <| pn) (by kernel_rfl) (by kernel_rfl)
       ·rw [h6, cF] at hh
        rcases bb (x3.2.2 != 0) with h7 | h7
        ·rw [h7, cT] at hh
         rw [← sI hh]
         exact FSat.d pfT 28 (hR 10 ((z3i0 x1) :: (hR 17 ((z3i1 x2) :: (hR 7 ((z3i2 x2) :: (hR 11 ((hC (.tuple #[I (x3.1), I (x3.2.1), I (x3.2.2)])) :: (hR 8 (hF :: hE :: hE :: hF :: hE :: hE :: hE :: hF :: hE :: hE :: hE :: hT :: (hR 10 []))))))))))) [] (pc (growth_Grow_fc fu (⟨[1000, 500], [60, 40], 8000, 400, 20, 1500, [(⟨1000, 20⟩ : XRung), (⟨3000, 8⟩ : XRung)], [(⟨5, 10⟩ : XSpan), (⟨10, 30⟩ : XSpan)]⟩ : XSpecies) (⟨0, 30, 0, 0⟩ : XStand) (⟨100, 0, 100⟩ : XWeather) 2 2 2 2 x1 h1) <| pc z3p3 <| pc z3p4 <| pt (z3r6 x1) (selfB_self 9 _ rfl _) <| pc (growth_Step_fc fu (⟨[1000, 500], [60, 40], 8000, 400, 20, 1500, [(⟨1000, 20⟩ : XRung), (⟨3000, 8⟩ : XRung)], [(⟨5, 10⟩ : XSpan), (⟨10, 30⟩ : XSpan)]⟩ : XSpecies) (⟨(⟨0, 30, 0, 0⟩ : XStand), (⟨0, 30, 0, 0⟩ : XStand)⟩ : XBox) (⟨(⟨100, 100⟩ : XSpan), (⟨0, 50⟩ : XSpan), (⟨100, 150⟩ : XSpan), false⟩ : XSeason) 2 2 2 2 x2 h2) <| pc z3p5 <| pc z3p4 <| pt (z3r7 x2) (selfB_self 9 _ rfl _) <| pc (growth_Woods_fc x2.1) <| pc (growth_Ask_fc fu (⟨(⟨4, 10, 3000, 150⟩ : XStand), (⟨4, 20, 5000, 250⟩ : XStand)⟩ : XBox) (⟨2, 500, 20⟩ : XTolerance) x3 h3) <| pc h4 <| pc h5 <| pc h6 <| pc h7 <| pn) (by kernel_rfl) (by kernel_rfl)
        ·rw [h7, cF] at hh
         rcases bb (((growth_Woods x2.1).1) != 0) with h8 | h8
         ·rw [h8, cT] at hh
          rw [← sI hh]
          exact FSat.d pfT 28 (hR 10 ((z3i0 x1) :: (hR 17 ((z3i1 x2) :: (hR 7 ((z3i2 x2) :: (hR 11 ((hC (.tuple #[I (x3.1), I (x3.2.1), I (x3.2.2)])) :: (hR 8 (hF :: hE :: hE :: hF :: hE :: hE :: hE :: hF :: hE :: hE :: hE :: hF :: hE :: hE :: hE :: hT :: (hR 8 []))))))))))) [] (pc (growth_Grow_fc fu (⟨[1000, 500], [60, 40], 8000, 400, 20, 1500, [(⟨1000, 20⟩ : XRung), (⟨3000, 8⟩ : XRung)], [(⟨5, 10⟩ : XSpan), (⟨10, 30⟩ : XSpan)]⟩ : XSpecies) (⟨0, 30, 0, 0⟩ : XStand) (⟨100, 0, 100⟩ : XWeather) 2 2 2 2 x1 h1) <| pc z3p3 <| pc z3p4 <| pt (z3r6 x1) (selfB_self 9 _ rfl _) <| pc (growth_Step_fc fu (⟨[1000, 500], [60, 40], 8000, 400, 20, 1500, [(⟨1000, 20⟩ : XRung), (⟨3000, 8⟩ : XRung)], [(⟨5, 10⟩ : XSpan), (⟨10, 30⟩ : XSpan)]⟩ : XSpecies) (⟨(⟨0, 30, 0, 0⟩ : XStand), (⟨0, 30, 0, 0⟩ : XStand)⟩ : XBox) (⟨(⟨100, 100⟩ : XSpan), (⟨0, 50⟩ : XSpan), (⟨100, 150⟩ : XSpan), false⟩ : XSeason) 2 2 2 2 x2 h2) <| pc z3p5 <| pc z3p4 <| pt (z3r7 x2) (selfB_self 9 _ rfl _) <| pc (growth_Woods_fc x2.1) <| pc (growth_Ask_fc fu (⟨(⟨4, 10, 3000, 150⟩ : XStand), (⟨4, 20, 5000, 250⟩ : XStand)⟩ : XBox) (⟨2, 500, 20⟩ : XTolerance) x3 h3) <| pc h4 <| pc h5 <| pc h6 <| pc h7 <| pc h8 <| pn) (by kernel_rfl) (by kernel_rfl)
         ·rw [h8, cF] at hh
          rcases bb (((growth_Woods x2.1).2.1) != 8) with h9 | h9
          ·rw [h9, cT] at hh
           rw [← sI hh]
           exact FSat.d pfT 28 (hR 10 ((z3i0 x1) :: (hR 17 ((z3i1 x2) :: (hR 7 ((z3i2 x2) :: (hR 11 ((hC (.tuple #[I (x3.1), I (x3.2.1), I (x3.2.2)])) :: (hR 8 (hF :: hE :: hE :: hF :: hE :: hE :: hE :: hF :: hE :: hE :: hE :: hF :: hE :: hE :: hE :: hF :: hE :: hE :: hE :: hT :: (hR 6 []))))))))))) [] (pc (growth_Grow_fc fu (⟨[1000, 500], [60, 40], 8000, 400, 20, 1500, [(⟨1000, 20⟩ : XRung), (⟨3000, 8⟩ : XRung)], [(⟨5, 10⟩ : XSpan), (⟨10, 30⟩ : XSpan)]⟩ : XSpecies) (⟨0, 30, 0, 0⟩ : XStand) (⟨100, 0, 100⟩ : XWeather) 2 2 2 2 x1 h1) <| pc z3p3 <| pc z3p4 <| pt (z3r6 x1) (selfB_self 9 _ rfl _) <| pc (growth_Step_fc fu (⟨[1000, 500], [60, 40], 8000, 400, 20, 1500, [(⟨1000, 20⟩ : XRung), (⟨3000, 8⟩ : XRung)], [(⟨5, 10⟩ : XSpan), (⟨10, 30⟩ : XSpan)]⟩ : XSpecies) (⟨(⟨0, 30, 0, 0⟩ : XStand), (⟨0, 30, 0, 0⟩ : XStand)⟩ : XBox) (⟨(⟨100, 100⟩ : XSpan), (⟨0, 50⟩ : XSpan), (⟨100, 150⟩ : XSpan), false⟩ : XSeason) 2 2 2 2 x2 h2) <| pc z3p5 <| pc z3p4 <| pt (z3r7 x2) (selfB_self 9 _ rfl _) <| pc (growth_Woods_fc x2.1) <| pc (growth_Ask_fc fu (⟨(⟨4, 10, 3000, 150⟩ : XStand), (⟨4, 20, 5000, 250⟩ : XStand)⟩ : XBox) (⟨2, 500, 20⟩ : XTolerance) x3 h3) <| pc h4 <| pc h5 <| pc h6 <| pc h7 <| pc h8 <| pc h9 <| pn) (by kernel_rfl) (by kernel_rfl)
          ·rw [h9, cF] at hh
           rcases bb (x3.1 != 3) with h10 | h10
           ·rw [h10, cT] at hh
            rw [← sI hh]
            exact FSat.d pfT 28 (hR 10 ((z3i0 x1) :: (hR 17 ((z3i1 x2) :: (hR 7 ((z3i2 x2) :: (hR 11 ((hC (.tuple #[I (x3.1), I (x3.2.1), I (x3.2.2)])) :: (hR 8 (hF :: hE :: hE :: hF :: hE :: hE :: hE :: hF :: hE :: hE :: hE :: hF :: hE :: hE :: hE :: hF :: hE :: hE :: hE :: hF :: hE :: hE :: hE :: hT :: (hR 4 []))))))))))) [] (pc (growth_Grow_fc fu (⟨[1000, 500], [60, 40], 8000, 400, 20, 1500, [(⟨1000, 20⟩ : XRung), (⟨3000, 8⟩ : XRung)], [(⟨5, 10⟩ : XSpan), (⟨10, 30⟩ : XSpan)]⟩ : XSpecies) (⟨0, 30, 0, 0⟩ : XStand) (⟨100, 0, 100⟩ : XWeather) 2 2 2 2 x1 h1) <| pc z3p3 <| pc z3p4 <| pt (z3r6 x1) (selfB_self 9 _ rfl _) <| pc (growth_Step_fc fu (⟨[1000, 500], [60, 40], 8000, 400, 20, 1500, [(⟨1000, 20⟩ : XRung), (⟨3000, 8⟩ : XRung)], [(⟨5, 10⟩ : XSpan), (⟨10, 30⟩ : XSpan)]⟩ : XSpecies) (⟨(⟨0, 30, 0, 0⟩ : XStand), (⟨0, 30, 0, 0⟩ : XStand)⟩ : XBox) (⟨(⟨100, 100⟩ : XSpan), (⟨0, 50⟩ : XSpan), (⟨100, 150⟩ : XSpan), false⟩ : XSeason) 2 2 2 2 x2 h2) <| pc z3p5 <| pc z3p4 <| pt (z3r7 x2) (selfB_self 9 _ rfl _) <| pc (growth_Woods_fc x2.1) <| pc (growth_Ask_fc fu (⟨(⟨4, 10, 3000, 150⟩ : XStand), (⟨4, 20, 5000, 250⟩ : XStand)⟩ : XBox) (⟨2, 500, 20⟩ : XTolerance) x3 h3) <| pc h4 <| pc h5 <| pc h6 <| pc h7 <| pc h8 <| pc h9 <| pc h10 <| pn) (by kernel_rfl) (by kernel_rfl)
           ·rw [h10, cF] at hh
            rcases bb (x3.2.1 != 198) with h11 | h11
            ·rw [h11, cT] at hh
             rw [← sI hh]
             exact FSat.d pfT 28 (hR 10 ((z3i0 x1) :: (hR 17 ((z3i1 x2) :: (hR 7 ((z3i2 x2) :: (hR 11 ((hC (.tuple #[I (x3.1), I (x3.2.1), I (x3.2.2)])) :: (hR 8 [hF, hE, hE, hF, hE, hE, hE, hF, hE, hE, hE, hF, hE, hE, hE, hF, hE, hE, hE, hF, hE, hE, hE, hF, hE, hE, hE, hT, hE, hE]))))))))) [] (pc (growth_Grow_fc fu (⟨[1000, 500], [60, 40], 8000, 400, 20, 1500, [(⟨1000, 20⟩ : XRung), (⟨3000, 8⟩ : XRung)], [(⟨5, 10⟩ : XSpan), (⟨10, 30⟩ : XSpan)]⟩ : XSpecies) (⟨0, 30, 0, 0⟩ : XStand) (⟨100, 0, 100⟩ : XWeather) 2 2 2 2 x1 h1) <| pc z3p3 <| pc z3p4 <| pt (z3r6 x1) (selfB_self 9 _ rfl _) <| pc (growth_Step_fc fu (⟨[1000, 500], [60, 40], 8000, 400, 20, 1500, [(⟨1000, 20⟩ : XRung), (⟨3000, 8⟩ : XRung)], [(⟨5, 10⟩ : XSpan), (⟨10, 30⟩ : XSpan)]⟩ : XSpecies) (⟨(⟨0, 30, 0, 0⟩ : XStand), (⟨0, 30, 0, 0⟩ : XStand)⟩ : XBox) (⟨(⟨100, 100⟩ : XSpan), (⟨0, 50⟩ : XSpan), (⟨100, 150⟩ : XSpan), false⟩ : XSeason) 2 2 2 2 x2 h2) <| pc z3p5 <| pc z3p4 <| pt (z3r7 x2) (selfB_self 9 _ rfl _) <| pc (growth_Woods_fc x2.1) <| pc (growth_Ask_fc fu (⟨(⟨4, 10, 3000, 150⟩ : XStand), (⟨4, 20, 5000, 250⟩ : XStand)⟩ : XBox) (⟨2, 500, 20⟩ : XTolerance) x3 h3) <| pc h4 <| pc h5 <| pc h6 <| pc h7 <| pc h8 <| pc h9 <| pc h10 <| pc h11 <| pn) (by kernel_rfl) (by kernel_rfl)
            ·rw [h11, cF] at hh
             rcases bb (((x1.1.Age == 1) && ((x1.1.Shoots == 20) && ((x1.1.Height == 1000) && ((x1.1.Girth == 46) && true))))) with h12 | h12
             ·rw [h12, cT] at hh
              rw [← sI hh]
              exact FSat.d pfT 29 (hR 10 ((z3i0 x1) :: (hR 17 ((z3i1 x2) :: (hR 7 ((z3i2 x2) :: (hR 11 ((hC (.tuple #[I (x3.1), I (x3.2.1), I (x3.2.2)])) :: (hR 8 (hF :: hE :: hE :: hF :: hE :: hE :: hE :: hF :: hE :: hE :: hE :: hF :: hE :: hE :: hE :: hF :: hE :: hE :: hE :: hF :: hE :: hE :: hE :: hF :: hE :: hE :: hE :: hF :: hE :: hE :: hE :: (hB hQ true) :: (hR 5 [hQ, hE, hE]))))))))))) [] (pc (growth_Grow_fc fu (⟨[1000, 500], [60, 40], 8000, 400, 20, 1500, [(⟨1000, 20⟩ : XRung), (⟨3000, 8⟩ : XRung)], [(⟨5, 10⟩ : XSpan), (⟨10, 30⟩ : XSpan)]⟩ : XSpecies) (⟨0, 30, 0, 0⟩ : XStand) (⟨100, 0, 100⟩ : XWeather) 2 2 2 2 x1 h1) <| pc z3p3 <| pc z3p4 <| pt (z3r6 x1) (selfB_self 9 _ rfl _) <| pc (growth_Step_fc fu (⟨[1000, 500], [60, 40], 8000, 400, 20, 1500, [(⟨1000, 20⟩ : XRung), (⟨3000, 8⟩ : XRung)], [(⟨5, 10⟩ : XSpan), (⟨10, 30⟩ : XSpan)]⟩ : XSpecies) (⟨(⟨0, 30, 0, 0⟩ : XStand), (⟨0, 30, 0, 0⟩ : XStand)⟩ : XBox) (⟨(⟨100, 100⟩ : XSpan), (⟨0, 50⟩ : XSpan), (⟨100, 150⟩ : XSpan), false⟩ : XSeason) 2 2 2 2 x2 h2) <| pc z3p5 <| pc z3p4 <| pt (z3r7 x2) (selfB_self 9 _ rfl _) <| pc (growth_Woods_fc x2.1) <| pc (growth_Ask_fc fu (⟨(⟨4, 10, 3000, 150⟩ : XStand), (⟨4, 20, 5000, 250⟩ : XStand)⟩ : XBox) (⟨2, 500, 20⟩ : XTolerance) x3 h3) <| pc h4 <| pc h5 <| pc h6 <| pc h7 <| pc h8 <| pc h9 <| pc h10 <| pc h11 <| pc h12 <| pn) (by kernel_rfl) (by kernel_rfl)
             ·rw [h12, cF] at hh
              rw [← sI hh]
              exact FSat.d pfT 29 (hR 10 ((z3i0 x1) :: (hR 17 ((z3i1 x2) :: (hR 7 ((z3i2 x2) :: (hR 11 ((hC (.tuple #[I (x3.1), I (x3.2.1), I (x3.2.2)])) :: (hR 8 [hF, hE, hE, hF, hE, hE, hE, hF, hE, hE, hE, hF, hE, hE, hE, hF, hE, hE, hE, hF, hE, hE, hE, hF, hE, hE, hE, hF, hE, hE, hE, (hB hQ false), hE, hE, hE]))))))))) [] (pc (growth_Grow_fc fu (⟨[1000, 500], [60, 40], 8000, 400, 20, 1500, [(⟨1000, 20⟩ : XRung), (⟨3000, 8⟩ : XRung)], [(⟨5, 10⟩ : XSpan), (⟨10, 30⟩ : XSpan)]⟩ : XSpecies) (⟨0, 30, 0, 0⟩ : XStand) (⟨100, 0, 100⟩ : XWeather) 2 2 2 2 x1 h1) <| pc z3p3 <| pc z3p4 <| pt (z3r6 x1) (selfB_self 9 _ rfl _) <| pc (growth_Step_fc fu (⟨[1000, 500], [60, 40], 8000, 400, 20, 1500, [(⟨1000, 20⟩ : XRung), (⟨3000, 8⟩ : XRung)], [(⟨5, 10⟩ : XSpan), (⟨10, 30⟩ : XSpan)]⟩ : XSpecies) (⟨(⟨0, 30, 0, 0⟩ : XStand), (⟨0, 30, 0, 0⟩ : XStand)⟩ : XBox) (⟨(⟨100, 100⟩ : XSpan), (⟨0, 50⟩ : XSpan), (⟨100, 150⟩ : XSpan), false⟩ : XSeason) 2 2 2 2 x2 h2) <| pc z3p5 <| pc z3p4 <| pt (z3r7 x2) (selfB_self 9 _ rfl _) <| pc (growth_Woods_fc x2.1) <| pc (growth_Ask_fc fu (⟨(⟨4, 10, 3000, 150⟩ : XStand), (⟨4, 20, 5000, 250⟩ : XStand)⟩ : XBox) (⟨2, 500, 20⟩ : XTolerance) x3 h3) <| pc h4 <| pc h5 <| pc h6 <| pc h7 <| pc h8 <| pc h9 <| pc h10 <| pc h11 <| pc h12 <| pn) (by kernel_rfl) (by kernel_rfl)

/- greenhew/greenhewref02.in -/
abbrev A_ref02_in (n low high : Int) : List Value := [I (n), I (low), I (high)]
noncomputable def ref02_in (n low high : Int) : Bool :=
  bif decide (n ≥ low) then decide (n ≤ high)
  else false
theorem ref02_in_fc (n low high : Int) : FC P GG 63 (A_ref02_in n low high) [] (.bool (ref02_in n low high)) := by
  refine FC.of_fsat 15 100 Tryd.func63 (by kernel_rfl) (by kernel_rfl) (by kernel_rfl) trivial ?_
  rcases bb (decide (n ≥ low)) with h1 | h1
  ·have e : ref02_in n low high = decide (n ≤ high) := by unfold ref02_in; rw [h1, cT]; first | done | rfl
   rw [e]
   exact FSat.d pfT 10 (hE :: hE :: hE :: hT :: (hR 6 [])) [] (pc h1 <| pn) (by kernel_rfl) (by kernel_rfl)
  ·have e : ref02_in n low high = false := by unfold ref02_in; rw [h1, cF]; first | done | rfl
   rw [e]
   exact FSat.d pfT 10 [hE, hE, hE, hF, hE, hE, hE] [] (pc h1 <| pn) (by kernel_rfl) (by kernel_rfl)

/- greenhew/greenhewref02.Stand -/
abbrev A_ref02_Stand (x_0 : XStand) : List Value := [.agg #[I (x_0.Age), I (x_0.Shoots), I (x_0.Height), I (x_0.Girth)]]
noncomputable def ref02_Stand (x_0 : XStand) : Bool :=
  bif ref02_in x_0.Age 0 100000 then (bif ref02_in x_0.Shoots 0 300 then (bif ref02_in x_0.Height 0 40000 then ref02_in x_0.Girth 0 3000
      else false)
    else false)
  else false
theorem ref02_Stand_fc (x_0 : XStand) : FC P GG 23 (A_ref02_Stand x_0) [] (.bool (ref02_Stand x_0)) := by
  refine FC.of_fsat 21 100 Tryd.func23 (by kernel_rfl) (by kernel_rfl) (by kernel_rfl) trivial ?_
  rcases bb (ref02_in x_0.Age 0 100000) with h1 | h1
  ·rcases bb (ref02_in x_0.Shoots 0 300) with h2 | h2
   ·rcases bb (ref02_in x_0.Height 0 40000) with h3 | h3
    ·have e : ref02_Stand x_0 = ref02_in x_0.Girth 0 3000 := by unfold ref02_Stand; rw [h1, cT, h2, cT, h3, cT]; first | done | rfl
     rw [e]
     exact FSat.d pfT 10 (hR 4 ((hB (hC (.bool (ref02_in x_0.Age 0 100000))) true) :: hE :: hE :: hE :: (hB (hC (.bool (ref02_in x_0.Shoots 0 300))) true) :: (hR 4 ((hB (hC (.bool (ref02_in x_0.Height 0 40000))) true) :: (hR 4 [(hC (.bool (ref02_in x_0.Girth 0 3000))), hE, hE]))))) [] (pc (ref02_in_fc x_0.Age 0 100000) <| pc h1 <| pc (ref02_in_fc x_0.Shoots 0 300) <| pc h2 <| pc (ref02_in_fc x_0.Height 0 40000) <| pc h3 <| pc (ref02_in_fc x_0.Girth 0 3000) <| pn) (by kernel_rfl) (by kernel_rfl)
    ·have e : ref02_Stand x_0 = false := by unfold ref02_Stand; rw [h1, cT, h2, cT, h3, cF]; first | done | rfl
     rw [e]
     exact FSat.d pfT 10 (hR 4 ((hB (hC (.bool (ref02_in x_0.Age 0 100000))) true) :: hE :: hE :: hE :: (hB (hC (.bool (ref02_in x_0.Shoots 0 300))) true) :: (hR 4 ((hB (hC (.bool (ref02_in x_0.Height 0 40000))) false) :: (hR 4 []))))) [] (pc (ref02_in_fc x_0.Age 0 100000) <| pc h1 <| pc (ref02_in_fc x_0.Shoots 0 300) <| pc h2 <| pc (ref02_in_fc x_0.Height 0 40000) <| pc h3 <| pn) (by kernel_rfl) (by kernel_rfl)
   ·have e : ref02_Stand x_0 = false := by unfold ref02_Stand; rw [h1, cT, h2, cF]; first | done | rfl
    rw [e]
    exact FSat.d pfT 10 (hR 4 ((hB (hC (.bool (ref02_in x_0.Age 0 100000))) true) :: hE :: hE :: hE :: (hB (hC (.bool (ref02_in x_0.Shoots 0 300))) false) :: (hR 6 []))) [] (pc (ref02_in_fc x_0.Age 0 100000) <| pc h1 <| pc (ref02_in_fc x_0.Shoots 0 300) <| pc h2 <| pn) (by kernel_rfl) (by kernel_rfl)
  ·have e : ref02_Stand x_0 = false := by unfold ref02_Stand; rw [h1, cF]; first | done | rfl
   rw [e]
   exact FSat.d pfT 10 (hR 4 ((hB (hC (.bool (ref02_in x_0.Age 0 100000))) false) :: (hR 7 []))) [] (pc (ref02_in_fc x_0.Age 0 100000) <| pc h1 <| pn) (by kernel_rfl) (by kernel_rfl)

/- greenhew/greenhewref02.Box -/
abbrev A_ref02_Box (b : XBox) : List Value := [.agg #[I (b.Low.Age), I (b.Low.Shoots), I (b.Low.Height), I (b.Low.Girth), I (b.High.Age), I (b.High.Shoots), I (b.High.Height), I (b.High.Girth)]]
noncomputable def ref02_Box (b : XBox) : Bool :=
  bif ref02_Stand b.Low then (bif ref02_Stand b.High then (bif b.Low.Age == b.High.Age then (bif decide (b.Low.Shoots ≤ b.High.Shoots) then (bif decide (b.Low.Height ≤ b.High.Height) then decide (b.Low.Girth ≤ b.High.Girth)
          else false)
        else false)
      else false)
    else false)
  else false
theorem ref02_Box_fc (b : XBox) : FC P GG 28 (A_ref02_Box b) [] (.bool (ref02_Box b)) := by
  refine FC.of_fsat 47 100 Tryd.func28 (by kernel_rfl) (by kernel_rfl) (by kernel_rfl) trivial ?_
  rcases bb (ref02_Stand b.Low) with h1 | h1
  ·rcases bb (ref02_Stand b.High) with h2 | h2
   ·rcases bb (b.Low.Age == b.High.Age) with h3 | h3
    ·rcases bb (decide (b.Low.Shoots ≤ b.High.Shoots)) with h4 | h4
     ·rcases bb (decide (b.Low.Height ≤ b.High.Height)) with h5 | h5
      ·have e : ref02_Box b = decide (b.Low.Girth ≤ b.High.Girth) := by unfold ref02_Box; rw [h1, cT, h2, cT, h3, cT, h4, cT, h5, cT]; first | done | rfl
       rw [e]
       exact FSat.d pfT 10 (hR 4 ((hB (hC (.bool (ref02_Stand b.Low))) true) :: hE :: hE :: hE :: (hB (hC (.bool (ref02_Stand b.High))) true) :: (hR 8 (hT :: (hR 8 (hT :: (hR 8 (hT :: (hR 11 []))))))))) [] (pc (ref02_Stand_fc b.Low) <| pc h1 <| pc (ref02_Stand_fc b.High) <| pc h2 <| pc h3 <| pc h4 <| pc h5 <| pn) (by kernel_rfl) (by kernel_rfl)
      ·have e : ref02_Box b = false := by unfold ref02_Box; rw [h1, cT, h2, cT, h3, cT, h4, cT, h5, cF]; first | done | rfl
       rw [e]
       exact FSat.d pfT 10 (hR 4 ((hB (hC (.bool (ref02_Stand b.Low))) true) :: hE :: hE :: hE :: (hB (hC (.bool (ref02_Stand b.High))) true) :: (hR 8 (hT :: (hR 8 (hT :: (hR 8 (hF :: (hR 4 []))))))))) [] (pc (ref02_Stand_fc b.Low) <| pc h1 <| pc (ref02_Stand_fc b.High) <| pc h2 <| pc h3 <| pc h4 <| pc h5 <| pn) (by kernel_rfl) (by kernel_rfl)
     ·have e : ref02_Box b = false := by unfold ref02_Box; rw [h1, cT, h2, cT, h3, cT, h4, cF]; first | done | rfl
      rw [e]
      exact FSat.d pfT 10 (hR 4 ((hB (hC (.bool (ref02_Stand b.Low))) true) :: hE :: hE :: hE :: (hB (hC (.bool (ref02_Stand b.High))) true) :: (hR 8 (hT :: (hR 8 (hF :: (hR 6 []))))))) [] (pc (ref02_Stand_fc b.Low) <| pc h1 <| pc (ref02_Stand_fc b.High) <| pc h2 <| pc h3 <| pc h4 <| pn) (by kernel_rfl) (by kernel_rfl)
    ·have e : ref02_Box b = false := by unfold ref02_Box; rw [h1, cT, h2, cT, h3, cF]; first | done | rfl
     rw [e]
     exact FSat.d pfT 10 (hR 4 ((hB (hC (.bool (ref02_Stand b.Low))) true) :: hE :: hE :: hE :: (hB (hC (.bool (ref02_Stand b.High))) true) :: (hR 8 (hF :: (hR 8 []))))) [] (pc (ref02_Stand_fc b.Low) <| pc h1 <| pc (ref02_Stand_fc b.High) <| pc h2 <| pc h3 <| pn) (by kernel_rfl) (by kernel_rfl)
   ·have e : ref02_Box b = false := by unfold ref02_Box; rw [h1, cT, h2, cF]; first | done | rfl
    rw [e]
    exact FSat.d pfT 10 (hR 4 ((hB (hC (.bool (ref02_Stand b.Low))) true) :: hE :: hE :: hE :: (hB (hC (.bool (ref02_Stand b.High))) false) :: (hR 10 []))) [] (pc (ref02_Stand_fc b.Low) <| pc h1 <| pc (ref02_Stand_fc b.High) <| pc h2 <| pn) (by kernel_rfl) (by kernel_rfl)
  ·have e : ref02_Box b = false := by unfold ref02_Box; rw [h1, cF]; first | done | rfl
   rw [e]
   exact FSat.d pfT 10 (hR 4 ((hB (hC (.bool (ref02_Stand b.Low))) false) :: (hR 11 []))) [] (pc (ref02_Stand_fc b.Low) <| pc h1 <| pn) (by kernel_rfl) (by kernel_rfl)

/- greenhew/greenhewref02.Wood -/
abbrev A_ref02_Wood (x_0 : XStand) : List Value := [.agg #[I (x_0.Age), I (x_0.Shoots), I (x_0.Height), I (x_0.Girth)]]
noncomputable def ref02_Wood (x_0 : XStand) : Int :=
  W ((W ((W ((W (x_0.Shoots * x_0.Height)) * x_0.Girth)) * x_0.Girth)).tdiv 25000000)
theorem ref02_Wood_fc (x_0 : XStand) : FC P GG 24 (A_ref02_Wood x_0) [] (I (ref02_Wood x_0)) := by
  refine FC.of_fsat 15 100 Tryd.func24 (by kernel_rfl) (by kernel_rfl) (by kernel_rfl) trivial ?_
  have e : ref02_Wood x_0 = W ((W ((W ((W (x_0.Shoots * x_0.Height)) * x_0.Girth)) * x_0.Girth)).tdiv 25000000) := by unfold ref02_Wood; rfl
  rw [e]
  exact FSat.d pfT 10 (hR 15 []) [] (pn) (by kernel_rfl) (by kernel_rfl)

/- greenhew/growth.all[greenhew/api.Season] -/
noncomputable abbrev z44i0 (l : List XSeason) (v9 : Int) : Hint := (hL (.agg #[I (((at_ zXSeason l v9).Light).Low), I (((at_ zXSeason l v9).Light).High), I (((at_ zXSeason l v9).Browse).Low), I (((at_ zXSeason l v9).Browse).High), I (((at_ zXSeason l v9).Mild).Low), I (((at_ zXSeason l v9).Mild).High), .bool ((at_ zXSeason l v9).Cut)]))
noncomputable abbrev z44i1 (l : List XSeason) (v9 : Int) : Hint := (hB (hC (.bool (growth_seasonIsDefined (⟨((at_ zXSeason l v9).Light), ((at_ zXSeason l v9).Browse), ((at_ zXSeason l v9).Mild), (at_ zXSeason l v9).Cut⟩ : XSeason)))) true)
theorem z44p2 (l : List XSeason) (v9 : Int) : FC P GG 72 (A_growth_seasonIsDefined (⟨((at_ zXSeason l v9).Light), ((at_ zXSeason l v9).Browse), ((at_ zXSeason l v9).Mild), (at_ zXSeason l v9).Cut⟩ : XSeason)) [] (.bool (growth_seasonIsDefined (⟨((at_ zXSeason l v9).Light), ((at_ zXSeason l v9).Browse), ((at_ zXSeason l v9).Mild), (at_ zXSeason l v9).Cut⟩ : XSeason))) := growth_seasonIsDefined_fc (⟨((at_ zXSeason l v9).Light), ((at_ zXSeason l v9).Browse), ((at_ zXSeason l v9).Mild), (at_ zXSeason l v9).Cut⟩ : XSeason)
abbrev z44r3 (l : List XSeason) (v9 : Int) : Prop := RowLd P 58 (encL cXSeason l) (0 + v9.toNat * 7) (.agg #[I (((at_ zXSeason l v9).Light).Low), I (((at_ zXSeason l v9).Light).High), I (((at_ zXSeason l v9).Browse).Low), I (((at_ zXSeason l v9).Browse).High), I (((at_ zXSeason l v9).Mild).Low), I (((at_ zXSeason l v9).Mild).High), .bool ((at_ zXSeason l v9).Cut)])
noncomputable abbrev z44i4 (l : List XSeason) (v9 : Int) : Hint := (hB (hC (.bool (growth_seasonIsDefined (⟨((at_ zXSeason l v9).Light), ((at_ zXSeason l v9).Browse), ((at_ zXSeason l v9).Mild), (at_ zXSeason l v9).Cut⟩ : XSeason)))) false)
abbrev A_api_Season (l : List XSeason) (q10 : Nat) : List Value := [.slice (some ⟨10, 0, none⟩) (l.length) (q10), .func (.func 72) #[] #[]]
abbrev K_api_Season (l : List XSeason) : List (Nat × List Value) := [(10, encL cXSeason l)]
noncomputable def api_Season_L (fu : Nat) (l : List XSeason) : Nat → (Bool → Int → Option Bool)
  | 0 => (fun _ _ => none)
  | fk + 1 => (fun v4 v9 => bif decide (v9 < ((l.length : Nat) : Int)) then (bif decide (0 ≤ v9 ∧ v9 < ((l.length : Nat) : Int)) then (bif growth_seasonIsDefined (⟨((at_ zXSeason l v9).Light), ((at_ zXSeason l v9).Browse), ((at_ zXSeason l v9).Mild), (at_ zXSeason l v9).Cut⟩ : XSeason) then api_Season_L fu l fk v4 (W (v9 + 1))
        else some false) else none)
      else some true)
theorem api_Season_L_s0 (fu : Nat) (l : List XSeason) (fk : Nat) (v4 : Bool) (v9 : Int) : api_Season_L fu l (fk + 1) v4 v9 = (bif decide (v9 < ((l.length : Nat) : Int)) then (bif decide (0 ≤ v9 ∧ v9 < ((l.length : Nat) : Int)) then (bif growth_seasonIsDefined (⟨((at_ zXSeason l v9).Light), ((at_ zXSeason l v9).Browse), ((at_ zXSeason l v9).Mild), (at_ zXSeason l v9).Cut⟩ : XSeason) then api_Season_L fu l fk v4 (W (v9 + 1))
        else some false) else none)
      else some true) := rfl
noncomputable def api_Season (fu : Nat) (l : List XSeason) : Option Bool :=
  api_Season_L fu l fu false 0
theorem api_Season_L_fs (fu : Nat) (l : List XSeason) (q10 : Nat) : ∀ fk, (∀ (v4 : Bool) (v9 : Int) (r : Bool), api_Season_L fu l fk v4 v9 = some r → FSat P GG Tryd.f105 (.bool (r)) (ids (looses (K_api_Season l))) 18 [.lp (cA (bodyOf Tryd.f105) [1, 0, 1, 0, 0]), .blk 0, .code (cA (bodyOf Tryd.f105) [1, 1])] (tOf 18 [(1, .func (.func 72) #[] #[]), (4, .bool (v4)), (7, .slice (some ⟨10, 0, none⟩) (l.length) (q10)), (8, I (((l.length : Nat) : Int))), (9, I (v9))]) (mOf 100 [(0, .rom [I (1), I (2), I (3)] .glob), (10, .rom (encL cXSeason l) .loose)])) := by
  intro fk
  induction fk with
  | zero => exact fun _ _ r hh => by cases hh
  | succ fk ih =>
    · intro v4 v9 r hh
      rw [api_Season_L_s0] at hh
      rcases bb (decide (v9 < ((l.length : Nat) : Int))) with h1 | h1
      ·rw [h1, cT] at hh
       rcases bb (decide (0 ≤ v9 ∧ v9 < ((l.length : Nat) : Int))) with h2 | h2
       rotate_left
       ·rw [h2, cF] at hh; cases hh
       ·rw [h2, cT] at hh
        rcases bb (growth_seasonIsDefined (⟨((at_ zXSeason l v9).Light), ((at_ zXSeason l v9).Browse), ((at_ zXSeason l v9).Mild), (at_ zXSeason l v9).Cut⟩ : XSeason)) with h3 | h3
        ·rw [h3, cT] at hh
         have nx := ih v4 (W (v9 + 1)) r hh
         refine FSat.s pfT 22 (hT :: hX :: (z44i0 l v9) :: (hR 4 [(z44i1 l v9), hE, hE, hE])) [.go, .st [1, 4, 7, 8, 9] [0, 10]] (pc h1 <| pt (0 ≤ v9 ∧ v9 < ((l.length : Nat) : Int)) (of_decide_eq_true h2) <| pt (z44r3 l v9) (RowLd.elem cXSeason_len _ (.inl ⟨_, rfl⟩) rfl rfl _ _ (of_decide_eq_true h2)) <| pc (z44p2 l v9) <| pc h3 <| pn) (by kernel_rfl) 100 (by kernel_rfl) ?_ nx
         exact ⟨PinL.lit (by kernel_rfl), PinL.pf (encL_pf cXSeason_pf _), trivial⟩
        ·rw [h3, cF] at hh
         rw [← sI hh]
         exact FSat.d pfT 21 (hT :: hX :: (z44i0 l v9) :: (hR 4 [(z44i4 l v9), hE, hE])) [.go] (pc h1 <| pt (0 ≤ v9 ∧ v9 < ((l.length : Nat) : Int)) (of_decide_eq_true h2) <| pt (z44r3 l v9) (RowLd.elem cXSeason_len _ (.inl ⟨_, rfl⟩) rfl rfl _ _ (of_decide_eq_true h2)) <| pc (z44p2 l v9) <| pc h3 <| pn) (by kernel_rfl) (by kernel_rfl)
      ·rw [h1, cF] at hh
       rw [← sI hh]
       exact FSat.d pfT 14 [hF, hE] [.go] (pc h1 <| pn) (by kernel_rfl) (by kernel_rfl)
theorem api_Season_fc (fu : Nat) (l : List XSeason) (q10 : Nat) (r : Bool) (hh : api_Season fu l = some r) : FC P GG 105 (A_api_Season l q10) (K_api_Season l) (.bool (r)) := by
  refine FC.of_fsat 18 100 Tryd.func105 (by kernel_rfl) (by kernel_rfl) (by kernel_rfl) ⟨PinL.pf (encL_pf cXSeason_pf _), trivial⟩ ?_
  unfold api_Season at hh
  have nx := api_Season_L_fs fu l q10 fu false 0 r hh
  refine FSat.s pfT 13 (hR 4 []) [.st [1, 4, 7, 8, 9] [0, 10]] (pn) (by kernel_rfl) 100 (by kernel_rfl) ?_ nx
  exact ⟨PinL.lit (by kernel_rfl), PinL.pf (encL_pf cXSeason_pf _), trivial⟩

/- greenhew/growth.checkHistory -/
noncomputable abbrev z43i0 (s : XSpecies) (q10 q11 q12 q13 : Nat) (x1 : Bool) : Hint := (hB (hM (.bool (x1)) (.bool (x1)) (A_growth_speciesIsDefined s q10 q11 q12 q13) (K_growth_speciesIsDefined s) [(10, 10, 0), (11, 11, 0), (12, 12, 0), (13, 13, 0)]) true)
noncomputable abbrev z43i1 (l : List XSeason) (q14 : Nat) (x2 : Bool) : Hint := (hB (hM (.bool (x2)) (.bool (x2)) (A_api_Season l q14) (K_api_Season l) [(10, 14, 0)]) true)
theorem z43p2 (s : XSpecies) (q10 q11 q12 q13 : Nat) : VRs (Ren.emb [(10, 10, 0), (11, 11, 0), (12, 12, 0), (13, 13, 0)]) (A_growth_speciesIsDefined s q10 q11 q12 q13) [.agg #[.slice (some ⟨10, 0, none⟩) (s.Rise.length) (q10), .slice (some ⟨11, 0, none⟩) (s.Thick.length) (q11), I (s.Top), I (s.Stout), I (s.Shade), I (s.Reach), .slice (some ⟨12, 0, none⟩) (s.Ladder.length) (q12), .slice (some ⟨13, 0, none⟩) (s.Sprouts.length) (q13)]] := (.cons _ _ _ _ (.agg _ _ (.cons _ _ _ _ (.slc 10 0 _ _ _ ⟨10, 0, 0, 0⟩ rfl (.inl rfl)) (.cons _ _ _ _ (.slc 11 0 _ _ _ ⟨11, 0, 0, 0⟩ rfl (.inl rfl)) (.cons _ _ _ _ (VR.of_pf rfl) (.cons _ _ _ _ (VR.of_pf rfl) (.cons _ _ _ _ (VR.of_pf rfl) (.cons _ _ _ _ (VR.of_pf rfl) (.cons _ _ _ _ (.slc 12 0 _ _ _ ⟨12, 0, 0, 0⟩ rfl (.inl rfl)) (.cons _ _ _ _ (.slc 13 0 _ _ _ ⟨13, 0, 0, 0⟩ rfl (.inl rfl)) .nil))))))))) .nil)
theorem z43p3 (s : XSpecies) : MemAt (Ren.emb [(10, 10, 0), (11, 11, 0), (12, 12, 0), (13, 13, 0)]) (encL cInt s.Rise) 0 (encL cInt s.Rise) ∧ MemAt (Ren.emb [(10, 10, 0), (11, 11, 0), (12, 12, 0), (13, 13, 0)]) (encL cInt s.Thick) 0 (encL cInt s.Thick) ∧ MemAt (Ren.emb [(10, 10, 0), (11, 11, 0), (12, 12, 0), (13, 13, 0)]) (encL cXRung s.Ladder) 0 (encL cXRung s.Ladder) ∧ MemAt (Ren.emb [(10, 10, 0), (11, 11, 0), (12, 12, 0), (13, 13, 0)]) (encL cXSpan s.Sprouts) 0 (encL cXSpan s.Sprouts) ∧ True := ⟨MemAt.same _ (encL_pf cInt_pf _), MemAt.same _ (encL_pf cInt_pf _), MemAt.same _ (encL_pf cXRung_pf _), MemAt.same _ (encL_pf cXSpan_pf _), trivial⟩
theorem z43p4 (l : List XSeason) (q14 : Nat) : VRs (Ren.emb [(10, 14, 0)]) (A_api_Season l q14) [.slice (some ⟨14, 0, none⟩) (l.length) (q14), .func (.func 72) #[] #[]] := (.cons _ _ _ _ (.slc 10 0 _ _ _ ⟨14, 0, 0, 0⟩ rfl (.inl rfl)) (.cons _ _ _ _ (.func _ _ _ _ _ (fun _ h => by cases h) .nil .nil) .nil))
abbrev z43r5 (x1 : Bool) : Prop := VR (Ren.emb [(10, 10, 0), (11, 11, 0), (12, 12, 0), (13, 13, 0)]) (.bool (x1)) (.bool (x1))
abbrev z43r6 (l : List XSeason) : Prop := MemAt (Ren.emb [(10, 14, 0)]) (encL cXSeason l) 0 (encL cXSeason l) ∧ True
noncomputable abbrev z43i7 (l : List XSeason) (q14 : Nat) (x2 : Bool) : Hint := (hB (hM (.bool (x2)) (.bool (x2)) (A_api_Season l q14) (K_api_Season l) [(10, 14, 0)]) false)
noncomputable abbrev z43i8 (s : XSpecies) (q10 q11 q12 q13 : Nat) (x1 : Bool) : Hint := (hB (hM (.bool (x1)) (.bool (x1)) (A_growth_speciesIsDefined s q10 q11 q12 q13) (K_growth_speciesIsDefined s) [(10, 10, 0), (11, 11, 0), (12, 12, 0), (13, 13, 0)]) false)
abbrev A_growth_checkHistory (s : XSpecies) (b : XBox) (l : List XSeason) (q10 q11 q12 q13 q14 : Nat) : List Value := [.agg #[.slice (some ⟨10, 0, none⟩) (s.Rise.length) (q10), .slice (some ⟨11, 0, none⟩) (s.Thick.length) (q11), I (s.Top), I (s.Stout), I (s.Shade), I (s.Reach), .slice (some ⟨12, 0, none⟩) (s.Ladder.length) (q12), .slice (some ⟨13, 0, none⟩) (s.Sprouts.length) (q13)], .agg #[I (b.Low.Age), I (b.Low.Shoots), I (b.Low.Height), I (b.Low.Girth), I (b.High.Age), I (b.High.Shoots), I (b.High.Height), I (b.High.Girth)], .slice (some ⟨14, 0, none⟩) (l.length) (q14)]
abbrev K_growth_checkHistory (s : XSpecies) (l : List XSeason) : List (Nat × List Value) := [(10, encL cInt s.Rise), (11, encL cInt s.Thick), (12, encL cXRung s.Ladder), (13, encL cXSpan s.Sprouts), (14, encL cXSeason l)]
noncomputable def growth_checkHistory (fu : Nat) (s : XSpecies) (b : XBox) (l : List XSeason) : Option Int :=
  bif decide (((l.length : Nat) : Int) > 100) then some 3
  else (Option.bind (growth_speciesIsDefined fu s) fun x1 =>
    bif x1 then (bif growth_boxIsDefined b then (Option.bind (api_Season fu l) fun x2 =>
        bif x2 then some 0
        else some 2)
      else some 2)
    else some 2)
theorem growth_checkHistory_fc (fu : Nat) (s : XSpecies) (b : XBox) (l : List XSeason) (q10 q11 q12 q13 q14 : Nat) (r : Int) (hh : growth_checkHistory fu s b l = some r) : FC P GG 70 (A_growth_checkHistory s b l q10 q11 q12 q13 q14) (K_growth_checkHistory s l) (I (r)) := by
  refine FC.of_fsat 23 100 Tryd.func70 (by kernel_rfl) (by kernel_rfl) (by kernel_rfl) ⟨PinL.pf (encL_pf cInt_pf _), PinL.pf (encL_pf cInt_pf _), PinL.pf (encL_pf cXRung_pf _), PinL.pf (encL_pf cXSpan_pf _), PinL.pf (encL_pf cXSeason_pf _), trivial⟩ ?_
  unfold growth_checkHistory at hh
  rcases bb (decide (((l.length : Nat) : Int) > 100)) with h1 | h1
  ·rw [h1, cT] at hh
   rw [← sI hh]
   exact FSat.d pfT 14 (hR 5 [hT, hE]) [] (pc h1 <| pn) (by kernel_rfl) (by kernel_rfl)
  ·rw [h1, cF] at hh
   cases h2 : growth_speciesIsDefined fu s with
   | none => rw [h2, oN] at hh; cases hh
   | some x1 =>
    rw [h2, oS] at hh
    rcases bb (x1) with h3 | h3
    ·rw [h3, cT] at hh
     rcases bb (growth_boxIsDefined b) with h4 | h4
     ·rw [h4, cT] at hh
      cases h5 : api_Season fu l with
      | none => rw [h5, oN] at hh; cases hh
      | some x2 =>
       rw [h5, oS] at hh
       rcases bb (x2) with h6 | h6
       ·rw [h6, cT] at hh
        rw [← sI hh]
        exact FSat.d pfT 20 (hR 5 (hF :: hE :: (z43i0 s q10 q11 q12 q13 x1) :: hE :: hE :: hE :: (hB (hC (.bool (growth_boxIsDefined b))) true) :: (hR 4 [(z43i1 l q14 x2), hE, hE, hE]))) [] (pc h1 <| pc (growth_speciesIsDefined_fc fu s q10 q11 q12 q13 x1 h2) <| pc (z43p2 s q10 q11 q12 q13) <| pc (z43p3 s) <| pt (z43r5 x1) (selfB_self 9 _ rfl _) <| pc h3 <| pc (growth_boxIsDefined_fc b) <| pc h4 <| pc (api_Season_fc fu l q14 x2 h5) <| pc (z43p4 l q14) <| pt (z43r6 l) (⟨MemAt.same _ (encL_pf cXSeason_pf _), trivial⟩) <| pt (VR (Ren.emb [(10, 14, 0)]) (.bool (x2)) (.bool (x2))) (selfB_self 9 _ rfl _) <| pc h6 <| pn) (by kernel_rfl) (by kernel_rfl)
       ·rw [h6, cF] at hh
        rw [← sI hh]
        exact FSat.d pfT 19 (hR 5 (hF :: hE :: (z43i0 s q10 q11 q12 q13 x1) :: hE :: hE :: hE :: (hB (hC (.bool (growth_boxIsDefined b))) true) :: (hR 4 [(z43i7 l q14 x2), hE, hE, hE]))) [] (pc h1 <| pc (growth_speciesIsDefined_fc fu s q10 q11 q12 q13 x1 h2) <| pc (z43p2 s q10 q11 q12 q13) <| pc (z43p3 s) <| pt (z43r5 x1) (selfB_self 9 _ rfl _) <| pc h3 <| pc (growth_boxIsDefined_fc b) <| pc h4 <| pc (api_Season_fc fu l q14 x2 h5) <| pc (z43p4 l q14) <| pt (z43r6 l) (⟨MemAt.same _ (encL_pf cXSeason_pf _), trivial⟩) <| pt (VR (Ren.emb [(10, 14, 0)]) (.bool (x2)) (.bool (x2))) (selfB_self 9 _ rfl _) <| pc h6 <| pn) (by kernel_rfl) (by kernel_rfl)
     ·rw [h4, cF] at hh
      rw [← sI hh]
      exact FSat.d pfT 19 (hR 5 (hF :: hE :: (z43i0 s q10 q11 q12 q13 x1) :: hE :: hE :: hE :: (hB (hC (.bool (growth_boxIsDefined b))) false) :: (hR 5 []))) [] (pc h1 <| pc (growth_speciesIsDefined_fc fu s q10 q11 q12 q13 x1 h2) <| pc (z43p2 s q10 q11 q12 q13) <| pc (z43p3 s) <| pt (z43r5 x1) (selfB_self 9 _ rfl _) <| pc h3 <| pc (growth_boxIsDefined_fc b) <| pc h4 <| pn) (by kernel_rfl) (by kernel_rfl)
    ·rw [h3, cF] at hh
     rw [← sI hh]
     exact FSat.d pfT 19 (hR 5 (hF :: hE :: (z43i8 s q10 q11 q12 q13 x1) :: (hR 6 []))) [] (pc h1 <| pc (growth_speciesIsDefined_fc fu s q10 q11 q12 q13 x1 h2) <| pc (z43p2 s q10 q11 q12 q13) <| pc (z43p3 s) <| pt (z43r5 x1) (selfB_self 9 _ rfl _) <| pc h3 <| pn) (by kernel_rfl) (by kernel_rfl)

end Go.Proofs.G2
