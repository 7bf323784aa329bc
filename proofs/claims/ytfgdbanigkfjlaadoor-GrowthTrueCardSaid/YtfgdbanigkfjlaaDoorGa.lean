/- Contracts of the functions that the law runs, part 1: made by a program, checked by the kernel. No conditions. -/
import Derived.Test.YtfgdbanigkfjlaaDoorProg
import Derived.KernelRfl
import Derived.Test.YtfgdbanigkfjlaaDoorLa
namespace Go.Proofs.G2
open Go.Sim Go.Proofs
set_option maxRecDepth 20000
set_option maxHeartbeats 1000000
noncomputable abbrev P : Program := Tryd.prog
theorem zB : (Tryd.prog.types.toList.all zeroB) = true := by kernel_rfl
theorem pfT : PF P := ⟨info_zero zB, by kernel_rfl⟩
noncomputable def GG : Globals := [(0, [.int .i64 1, .int .i64 2, .int .i64 3])]
abbrev I (n : Int) : Value := .int .i64 n
abbrev W (n : Int) : Int := IntKind.i64.wrap n
def imin (x y : Int) : Int := if y < x then y else x
def imax (x y : Int) : Int := if y > x then y else x
def hE : Hint := ⟨.ev, none⟩
def hT : Hint := ⟨.ev, some true⟩
def hF : Hint := ⟨.ev, some false⟩
def hX : Hint := ⟨.ix, none⟩
def hQ : Hint := ⟨.eq, none⟩
def hR (n : Nat) (l : List Hint) : List Hint := Nat.rec (motive := fun _ => List Hint) l (fun _ r => hE :: r) n
def hD : Hint := ⟨.dv, none⟩
def hL (v : Value) : Hint := ⟨.ld v, none⟩
def hC (v : Value) : Hint := ⟨.cf v, none⟩
def hM (v0 v : Value) (ca : List Value) (km : List (Nat × List Value)) (σ : Ren) : Hint := ⟨.cm v0 v ca km σ, none⟩
def hZ (v : Value) : Hint := ⟨.lz v, none⟩
def hZS : Hint := ⟨.lzs, none⟩
def hI : Hint := ⟨.inl, none⟩
def hN (v0 v : Value) (ca : List Value) (km : List (Nat × List Value)) (σ : Ren) (b : Nat) (c : List Value) (sz : Nat) : Hint := ⟨.cn v0 v ca km σ b c sz, none⟩
def hB (h : Hint) (b : Bool) : Hint := ⟨h.h, some b⟩
structure XRung where
  Height : Int
  Shoots : Int

def zXRung : XRung := ⟨0, 0⟩

structure XSpan where
  Low : Int
  High : Int

def zXSpan : XSpan := ⟨0, 0⟩

structure XSpecies where
  Rise : List Int
  Thick : List Int
  Top : Int
  Stout : Int
  Shade : Int
  Reach : Int
  Ladder : List XRung
  Sprouts : List XSpan

def zXSpecies : XSpecies := ⟨[], [], 0, 0, 0, 0, [], []⟩

def cInt (x : Int) : List Value := [I (x)]
theorem cInt_len (x : Int) : (cInt x).length = 1 := rfl
theorem cInt_pf : ∀ (x : Int), ∀ v ∈ cInt x, pf v = true := by
  intro x v hv
  simp only [cInt, List.mem_cons, List.not_mem_nil, or_false] at hv
  subst hv; rfl

def cXRung (x : XRung) : List Value := [I (x.Height), I (x.Shoots)]
theorem cXRung_len (x : XRung) : (cXRung x).length = 2 := rfl
theorem cXRung_pf : ∀ (x : XRung), ∀ v ∈ cXRung x, pf v = true := by
  intro x v hv
  simp only [cXRung, List.mem_cons, List.not_mem_nil, or_false] at hv
  rcases hv with rfl | rfl <;> rfl

def cXSpan (x : XSpan) : List Value := [I (x.Low), I (x.High)]
theorem cXSpan_len (x : XSpan) : (cXSpan x).length = 2 := rfl
theorem cXSpan_pf : ∀ (x : XSpan), ∀ v ∈ cXSpan x, pf v = true := by
  intro x v hv
  simp only [cXSpan, List.mem_cons, List.not_mem_nil, or_false] at hv
  rcases hv with rfl | rfl <;> rfl

structure XStand where
  Age : Int
  Shoots : Int
  Height : Int
  Girth : Int

def zXStand : XStand := ⟨0, 0, 0, 0⟩

structure XBox where
  Low : XStand
  High : XStand

def zXBox : XBox := ⟨zXStand, zXStand⟩

structure XSeason where
  Light : XSpan
  Browse : XSpan
  Mild : XSpan
  Cut : Bool

def zXSeason : XSeason := ⟨zXSpan, zXSpan, zXSpan, false⟩

def cXSeason (x : XSeason) : List Value := [I (x.Light.Low), I (x.Light.High), I (x.Browse.Low), I (x.Browse.High), I (x.Mild.Low), I (x.Mild.High), .bool (x.Cut)]
theorem cXSeason_len (x : XSeason) : (cXSeason x).length = 7 := rfl
theorem cXSeason_pf : ∀ (x : XSeason), ∀ v ∈ cXSeason x, pf v = true := by
  intro x v hv
  simp only [cXSeason, List.mem_cons, List.not_mem_nil, or_false] at hv
  rcases hv with rfl | rfl | rfl | rfl | rfl | rfl | rfl <;> rfl

structure XTrue where
  Light : Int
  Browse : Int
  Mild : Int
  Sprouts : Int

def zXTrue : XTrue := ⟨0, 0, 0, 0⟩

def cXTrue (x : XTrue) : List Value := [I (x.Light), I (x.Browse), I (x.Mild), I (x.Sprouts)]
theorem cXTrue_len (x : XTrue) : (cXTrue x).length = 4 := rfl
theorem cXTrue_pf : ∀ (x : XTrue), ∀ v ∈ cXTrue x, pf v = true := by
  intro x v hv
  simp only [cXTrue, List.mem_cons, List.not_mem_nil, or_false] at hv
  rcases hv with rfl | rfl | rfl | rfl <;> rfl

/- greenhew/greenhewlaw02.short -/
abbrev A_law02_short (s : XSpecies) (q10 : Nat) (q11 : Nat) (q12 : Nat) (q13 : Nat) : List Value := [.agg #[.slice (some ⟨10, 0, none⟩) (s.Rise.length) (q10), .slice (some ⟨11, 0, none⟩) (s.Thick.length) (q11), I (s.Top), I (s.Stout), I (s.Shade), I (s.Reach), .slice (some ⟨12, 0, none⟩) (s.Ladder.length) (q12), .slice (some ⟨13, 0, none⟩) (s.Sprouts.length) (q13)]]
abbrev K_law02_short (s : XSpecies) : List (Nat × List Value) := [(10, encL cInt s.Rise), (11, encL cInt s.Thick), (12, encL cXRung s.Ladder), (13, encL cXSpan s.Sprouts)]
noncomputable def law02_short (s : XSpecies) : Bool :=
  bif decide (((s.Rise.length : Nat) : Int) ≤ 70) then (bif decide (((s.Thick.length : Nat) : Int) ≤ 70) then (bif decide (((s.Ladder.length : Nat) : Int) ≤ 25) then decide (((s.Sprouts.length : Nat) : Int) ≤ 70)
      else false)
    else false)
  else false
theorem law02_short_fc (s : XSpecies) (q10 q11 q12 q13 : Nat) : FC P GG 17 (A_law02_short s q10 q11 q12 q13) (K_law02_short s) (.bool (law02_short s)) := by
  refine FC.of_fsat 25 100 Tryd.func17 (by kernel_rfl) (by kernel_rfl) (by kernel_rfl) ⟨PinL.pf (encL_pf cInt_pf _), PinL.pf (encL_pf cInt_pf _), PinL.pf (encL_pf cXRung_pf _), PinL.pf (encL_pf cXSpan_pf _), trivial⟩ ?_
  rcases Bool.eq_false_or_eq_true (decide (((s.Rise.length : Nat) : Int) ≤ 70)) with h1 | h1
  · skip
    rcases Bool.eq_false_or_eq_true (decide (((s.Thick.length : Nat) : Int) ≤ 70)) with h2 | h2
    · skip
      rcases Bool.eq_false_or_eq_true (decide (((s.Ladder.length : Nat) : Int) ≤ 25)) with h3 | h3
      · skip
        have e : law02_short s = decide (((s.Sprouts.length : Nat) : Int) ≤ 70) := by unfold law02_short; rw [h1, cond_true, h2, cond_true, h3, cond_true]; first | done | rfl
        rw [e]
        exact FSat.done pfT (fuel := 10) (hs := (hR 5 (hT :: (hR 4 (hT :: (hR 5 (hT :: (hR 8 [])))))))) (ss := []) (R := [(decide (((s.Rise.length : Nat) : Int) ≤ 70)) = true, (decide (((s.Thick.length : Nat) : Int) ≤ 70)) = true, (decide (((s.Ladder.length : Nat) : Int) ≤ 25)) = true]) (by kernel_rfl) ⟨h1, h2, h3, trivial⟩ (by kernel_rfl)
      · skip
        have e : law02_short s = false := by unfold law02_short; rw [h1, cond_true, h2, cond_true, h3, cond_false]; first | done | rfl
        rw [e]
        exact FSat.done pfT (fuel := 10) (hs := (hR 5 (hT :: (hR 4 (hT :: (hR 5 (hF :: (hR 4 [])))))))) (ss := []) (R := [(decide (((s.Rise.length : Nat) : Int) ≤ 70)) = true, (decide (((s.Thick.length : Nat) : Int) ≤ 70)) = true, (decide (((s.Ladder.length : Nat) : Int) ≤ 25)) = false]) (by kernel_rfl) ⟨h1, h2, h3, trivial⟩ (by kernel_rfl)
    · skip
      have e : law02_short s = false := by unfold law02_short; rw [h1, cond_true, h2, cond_false]; first | done | rfl
      rw [e]
      exact FSat.done pfT (fuel := 10) (hs := (hR 5 (hT :: (hR 4 (hF :: (hR 6 [])))))) (ss := []) (R := [(decide (((s.Rise.length : Nat) : Int) ≤ 70)) = true, (decide (((s.Thick.length : Nat) : Int) ≤ 70)) = false]) (by kernel_rfl) ⟨h1, h2, trivial⟩ (by kernel_rfl)
  · skip
    have e : law02_short s = false := by unfold law02_short; rw [h1, cond_false]; first | done | rfl
    rw [e]
    exact FSat.done pfT (fuel := 10) (hs := (hR 5 (hF :: (hR 7 [])))) (ss := []) (R := [(decide (((s.Rise.length : Nat) : Int) ≤ 70)) = false]) (by kernel_rfl) ⟨h1, trivial⟩ (by kernel_rfl)

structure XWeather where
  Light : Int
  Browse : Int
  Mild : Int

def zXWeather : XWeather := ⟨0, 0, 0⟩

/- greenhew/growth.within -/
abbrev A_growth_within (n : Int) (least : Int) (most : Int) : List Value := [I (n), I (least), I (most)]
noncomputable def growth_within (n : Int) (least : Int) (most : Int) : Bool :=
  bif decide (n ≥ least) then decide (n ≤ most)
  else false
theorem growth_within_fc (n : Int) (least : Int) (most : Int) : FC P GG 94 (A_growth_within n least most) [] (.bool (growth_within n least most)) := by
  refine FC.of_fsat 15 100 Tryd.func94 (by kernel_rfl) (by kernel_rfl) (by kernel_rfl) trivial ?_
  rcases Bool.eq_false_or_eq_true (decide (n ≥ least)) with h1 | h1
  · skip
    have e : growth_within n least most = decide (n ≤ most) := by unfold growth_within; rw [h1, cond_true]; first | done | rfl
    rw [e]
    exact FSat.done pfT (fuel := 10) (hs := (hE :: hE :: hE :: hT :: (hR 6 []))) (ss := []) (R := [(decide (n ≥ least)) = true]) (by kernel_rfl) ⟨h1, trivial⟩ (by kernel_rfl)
  · skip
    have e : growth_within n least most = false := by unfold growth_within; rw [h1, cond_false]; first | done | rfl
    rw [e]
    exact FSat.done pfT (fuel := 10) (hs := [hE, hE, hE, hF, hE, hE, hE]) (ss := []) (R := [(decide (n ≥ least)) = false]) (by kernel_rfl) ⟨h1, trivial⟩ (by kernel_rfl)

/- greenhew/growth.yearsAreDefined$1 -/
abbrev z9r0 (n : Int) (a1 : Int) : Prop := FC P GG 94 (A_growth_within n 0 a1) [] (.bool (growth_within n 0 a1))
abbrev A_growth_yearsAreDefined_1 (n : Int) : List Value := [I (n), .pointer (some ⟨10, 0, none⟩)]
abbrev K_growth_yearsAreDefined_1 (a1 : Int) : List (Nat × List Value) := [(10, [I (a1)])]
noncomputable def growth_yearsAreDefined_1 (n : Int) (a1 : Int) : Bool :=
  growth_within n 0 a1
theorem growth_yearsAreDefined_1_fc (n : Int) (a1 : Int) : FC P GG 118 (A_growth_yearsAreDefined_1 n) (K_growth_yearsAreDefined_1 a1) (.bool (growth_yearsAreDefined_1 n a1)) := by
  refine FC.of_fsat 7 100 Tryd.func118 (by kernel_rfl) (by kernel_rfl) (by kernel_rfl) ⟨PinL.lit (by kernel_rfl), trivial⟩ ?_
  have e : growth_yearsAreDefined_1 n a1 = growth_within n 0 a1 := by unfold growth_yearsAreDefined_1; rfl
  rw [e]
  exact FSat.done pfT (fuel := 10) (hs := [hE, hE, hE, (hC (.bool (growth_within n 0 a1))), hE]) (ss := []) (R := [(z9r0 n a1)]) (by kernel_rfl) ⟨growth_within_fc n 0 a1, trivial⟩ (by kernel_rfl)

/- greenhew/growth.all[int] -/
noncomputable abbrev z8i0 (l : List Int) (holds_0 : Int) (v9 : Int) : Hint := (hB (hM (.bool (growth_yearsAreDefined_1 (at_ 0 l v9) holds_0)) (.bool (growth_yearsAreDefined_1 (at_ 0 l v9) holds_0)) (A_growth_yearsAreDefined_1 (at_ 0 l v9)) (K_growth_yearsAreDefined_1 holds_0) [(10, 11, 0)]) true)
abbrev z8r1 (l : List Int) (v9 : Int) : Prop := RowLd P 3 (encL cInt l) (0 + v9.toNat * 1) (I ((at_ 0 l v9)))
abbrev z8r2 (l : List Int) (holds_0 : Int) (v9 : Int) : Prop := FC P GG 118 (A_growth_yearsAreDefined_1 (at_ 0 l v9)) (K_growth_yearsAreDefined_1 holds_0) (.bool (growth_yearsAreDefined_1 (at_ 0 l v9) holds_0))
abbrev z8r3 (l : List Int) (v9 : Int) : Prop := VRs (Ren.emb [(10, 11, 0)]) (A_growth_yearsAreDefined_1 (at_ 0 l v9)) [I ((at_ 0 l v9)), .pointer (some ⟨11, 0, none⟩)]
abbrev z8r4 (holds_0 : Int) : Prop := MemAt (Ren.emb [(10, 11, 0)]) [I (holds_0)] 0 [I (holds_0)] ∧ True
abbrev z8r5 (l : List Int) (holds_0 : Int) (v9 : Int) : Prop := VR (Ren.emb [(10, 11, 0)]) (.bool (growth_yearsAreDefined_1 (at_ 0 l v9) holds_0)) (.bool (growth_yearsAreDefined_1 (at_ 0 l v9) holds_0))
theorem z8p6 (l : List Int) (v9 : Int) : (z8r3 l v9) := (.cons _ _ _ _ (VR.of_pf rfl) (.cons _ _ _ _ (.ptr 10 0 ⟨11, 0, 0, 0⟩ rfl) .nil))
noncomputable abbrev z8i7 (l : List Int) (holds_0 : Int) (v9 : Int) : Hint := (hB (hM (.bool (growth_yearsAreDefined_1 (at_ 0 l v9) holds_0)) (.bool (growth_yearsAreDefined_1 (at_ 0 l v9) holds_0)) (A_growth_yearsAreDefined_1 (at_ 0 l v9)) (K_growth_yearsAreDefined_1 holds_0) [(10, 11, 0)]) false)
abbrev A_growth_all (l : List Int) (q10 : Nat) : List Value := [.slice (some ⟨10, 0, none⟩) (l.length) (q10), .func (.func 118) #[] #[.pointer (some ⟨11, 0, none⟩)]]
abbrev K_growth_all (l : List Int) (holds_0 : Int) : List (Nat × List Value) := [(10, encL cInt l), (11, [I (holds_0)])]
noncomputable def growth_all_L (fu : Nat) (l : List Int) (holds_0 : Int) : Nat → (Bool → Int → Option Bool)
  | 0 => (fun _ _ => none)
  | fk + 1 => (fun v4 v9 => bif decide (v9 < ((l.length : Nat) : Int)) then (bif decide (0 ≤ v9 ∧ v9 < ((l.length : Nat) : Int)) then (bif growth_yearsAreDefined_1 (at_ 0 l v9) holds_0 then growth_all_L fu l holds_0 fk v4 (W (v9 + 1))
        else some false) else none)
      else some true)
theorem growth_all_L_s0 (fu : Nat) (l : List Int) (holds_0 : Int) (fk : Nat) (v4 : Bool) (v9 : Int) : growth_all_L fu l holds_0 (fk + 1) v4 v9 = (bif decide (v9 < ((l.length : Nat) : Int)) then (bif decide (0 ≤ v9 ∧ v9 < ((l.length : Nat) : Int)) then (bif growth_yearsAreDefined_1 (at_ 0 l v9) holds_0 then growth_all_L fu l holds_0 fk v4 (W (v9 + 1))
        else some false) else none)
      else some true) := rfl
noncomputable def growth_all (fu : Nat) (l : List Int) (holds_0 : Int) : Option Bool :=
  growth_all_L fu l holds_0 fu false 0
theorem growth_all_L_fs (fu : Nat) (l : List Int) (holds_0 : Int) (q10 : Nat) : ∀ fk, (∀ (v4 : Bool) (v9 : Int) (r : Bool), growth_all_L fu l holds_0 fk v4 v9 = some r → FSat P GG Tryd.f117 (.bool (r)) (ids (looses (K_growth_all l holds_0))) 18 [.lp (cA (bodyOf Tryd.f117) [1, 0, 1, 0, 0]), .blk 0, .code (cA (bodyOf Tryd.f117) [1, 1])] (tOf 18 [(1, .func (.func 118) #[] #[.pointer (some ⟨11, 0, none⟩)]), (4, .bool (v4)), (7, .slice (some ⟨10, 0, none⟩) (l.length) (q10)), (8, I (((l.length : Nat) : Int))), (9, I (v9))]) (mOf 100 [(0, .rom [I (1), I (2), I (3)] .glob), (10, .rom (encL cInt l) .loose), (11, .rom ([I (holds_0)]) .loose)])) := by
  intro fk
  induction fk with
  | zero => exact fun _ _ r hh => by cases hh
  | succ fk ih =>
    · intro v4 v9 r hh
      rcases Bool.eq_false_or_eq_true (decide (v9 < ((l.length : Nat) : Int))) with h1 | h1
      · skip
        rcases Bool.eq_false_or_eq_true (decide (0 ≤ v9 ∧ v9 < ((l.length : Nat) : Int))) with h2 | h2
        rotate_left
        · skip
          have e : growth_all_L fu l holds_0 (fk + 1) v4 v9 = none := by rw [growth_all_L_s0]; rw [h1, cond_true, h2, cond_false]; first | done | rfl
          rw [e] at hh; cases hh
        · skip
          rcases Bool.eq_false_or_eq_true (growth_yearsAreDefined_1 (at_ 0 l v9) holds_0) with h3 | h3
          · skip
            have e : growth_all_L fu l holds_0 (fk + 1) v4 v9 = growth_all_L fu l holds_0 fk v4 (W (v9 + 1)) := by rw [growth_all_L_s0]; rw [h1, cond_true, h2, cond_true, h3, cond_true]; first | done | rfl
            rw [e] at hh
            have nx := ih v4 (W (v9 + 1)) r hh
            refine FSat.stop pfT (fuel := 22) (hs := [hT, hX, (hL (I ((at_ 0 l v9)))), hE, hE, hE, (z8i0 l holds_0 v9), hE, hE, hE]) (ss := [.go, .st [1, 4, 7, 8, 9] [0, 10, 11]]) (R := [(decide (v9 < ((l.length : Nat) : Int))) = true, 0 ≤ v9 ∧ v9 < ((l.length : Nat) : Int), (z8r1 l v9), (z8r2 l holds_0 v9), (z8r3 l v9), (z8r4 holds_0), (z8r5 l holds_0 v9), (growth_yearsAreDefined_1 (at_ 0 l v9) holds_0) = true]) (by kernel_rfl) ⟨h1, of_decide_eq_true h2, RowLd.part cInt_len _ rfl rfl _ _ (of_decide_eq_true h2) 0 _ rfl (by decide), growth_yearsAreDefined_1_fc (at_ 0 l v9) holds_0, z8p6 l v9, ⟨MemAt.of (.cons _ _ _ _ (VR.of_pf rfl) .nil), trivial⟩, selfB_self 9 _ rfl _, h3, trivial⟩ 100 (by kernel_rfl) ?_ nx
            exact ⟨PinL.lit (by kernel_rfl), PinL.pf (encL_pf cInt_pf _), PinL.lit (by kernel_rfl), trivial⟩
          · skip
            have e : growth_all_L fu l holds_0 (fk + 1) v4 v9 = some false := by rw [growth_all_L_s0]; rw [h1, cond_true, h2, cond_true, h3, cond_false]; first | done | rfl
            rw [e] at hh
            have hr := Option.some.inj hh
            rw [← hr]
            exact FSat.done pfT (fuel := 21) (hs := [hT, hX, (hL (I ((at_ 0 l v9)))), hE, hE, hE, (z8i7 l holds_0 v9), hE, hE]) (ss := [.go]) (R := [(decide (v9 < ((l.length : Nat) : Int))) = true, 0 ≤ v9 ∧ v9 < ((l.length : Nat) : Int), (z8r1 l v9), (z8r2 l holds_0 v9), (z8r3 l v9), (z8r4 holds_0), (z8r5 l holds_0 v9), (growth_yearsAreDefined_1 (at_ 0 l v9) holds_0) = false]) (by kernel_rfl) ⟨h1, of_decide_eq_true h2, RowLd.part cInt_len _ rfl rfl _ _ (of_decide_eq_true h2) 0 _ rfl (by decide), growth_yearsAreDefined_1_fc (at_ 0 l v9) holds_0, z8p6 l v9, ⟨MemAt.of (.cons _ _ _ _ (VR.of_pf rfl) .nil), trivial⟩, selfB_self 9 _ rfl _, h3, trivial⟩ (by kernel_rfl)
      · skip
        have e : growth_all_L fu l holds_0 (fk + 1) v4 v9 = some true := by rw [growth_all_L_s0]; rw [h1, cond_false]; first | done | rfl
        rw [e] at hh
        have hr := Option.some.inj hh
        rw [← hr]
        exact FSat.done pfT (fuel := 14) (hs := [hF, hE]) (ss := [.go]) (R := [(decide (v9 < ((l.length : Nat) : Int))) = false]) (by kernel_rfl) ⟨h1, trivial⟩ (by kernel_rfl)
theorem growth_all_fc (fu : Nat) (l : List Int) (holds_0 : Int) (q10 : Nat) (r : Bool) (hh : growth_all fu l holds_0 = some r) : FC P GG 117 (A_growth_all l q10) (K_growth_all l holds_0) (.bool (r)) := by
  refine FC.of_fsat 18 100 Tryd.func117 (by kernel_rfl) (by kernel_rfl) (by kernel_rfl) ⟨PinL.pf (encL_pf cInt_pf _), PinL.lit (by kernel_rfl), trivial⟩ ?_
  have e : growth_all fu l holds_0 = growth_all_L fu l holds_0 fu false 0 := by unfold growth_all; rfl
  rw [e] at hh
  have nx := growth_all_L_fs fu l holds_0 q10 fu false 0 r hh
  refine FSat.stop pfT (fuel := 13) (hs := (hR 4 [])) (ss := [.st [1, 4, 7, 8, 9] [0, 10, 11]]) (R := []) (by kernel_rfl) trivial 100 (by kernel_rfl) ?_ nx
  exact ⟨PinL.lit (by kernel_rfl), PinL.pf (encL_pf cInt_pf _), PinL.lit (by kernel_rfl), trivial⟩

/- greenhew/growth.yearsAreDefined -/
noncomputable abbrev z6i0 (table : List Int) : Hint := (hB (hC (.bool (growth_within ((table.length : Nat) : Int) 1 60))) true)
noncomputable abbrev z6i1 (table : List Int) (most : Int) (q10 : Nat) (x2 : Bool) : Hint := (hM (.bool (x2)) (.bool (x2)) (A_growth_all table q10) (K_growth_all table most) [(10, 10, 0), (11, 100, 0)])
abbrev z6r2 (table : List Int) : Prop := FC P GG 94 (A_growth_within ((table.length : Nat) : Int) 1 60) [] (.bool (growth_within ((table.length : Nat) : Int) 1 60))
abbrev z6r3 (table : List Int) (most : Int) (q10 : Nat) (x2 : Bool) : Prop := FC P GG 117 (A_growth_all table q10) (K_growth_all table most) (.bool (x2))
abbrev z6r4 (table : List Int) (q10 : Nat) : Prop := VRs (Ren.emb [(10, 10, 0), (11, 100, 0)]) (A_growth_all table q10) [.slice (some ⟨10, 0, none⟩) (table.length) (q10), .func (.func 118) #[] #[.pointer (some ⟨100, 0, none⟩)]]
abbrev z6r5 (table : List Int) (most : Int) : Prop := MemAt (Ren.emb [(10, 10, 0), (11, 100, 0)]) (encL cInt table) 0 (encL cInt table) ∧ MemAt (Ren.emb [(10, 10, 0), (11, 100, 0)]) [I (most)] 0 [I (most)] ∧ True
abbrev z6r6 (x2 : Bool) : Prop := VR (Ren.emb [(10, 10, 0), (11, 100, 0)]) (.bool (x2)) (.bool (x2))
theorem z6p7 (table : List Int) (q10 : Nat) : (z6r4 table q10) := (.cons _ _ _ _ (.slc 10 0 _ _ _ ⟨10, 0, 0, 0⟩ rfl (.inl rfl)) (.cons _ _ _ _ (.func _ _ _ _ _ (fun _ h => by cases h) .nil (.cons _ _ _ _ (.ptr 11 0 ⟨100, 0, 0, 0⟩ rfl) .nil)) .nil))
theorem z6p8 (table : List Int) (most : Int) : (z6r5 table most) := ⟨MemAt.same _ (encL_pf cInt_pf _), MemAt.of (.cons _ _ _ _ (VR.of_pf rfl) .nil), trivial⟩
noncomputable abbrev z6i9 (table : List Int) : Hint := (hB (hC (.bool (growth_within ((table.length : Nat) : Int) 1 60))) false)
abbrev A_growth_yearsAreDefined (table : List Int) (most : Int) (q10 : Nat) : List Value := [.slice (some ⟨10, 0, none⟩) (table.length) (q10), I (most)]
abbrev K_growth_yearsAreDefined (table : List Int) : List (Nat × List Value) := [(10, encL cInt table)]
noncomputable def growth_yearsAreDefined (fu : Nat) (table : List Int) (most : Int) : Option Bool :=
  bif growth_within ((table.length : Nat) : Int) 1 60 then (Option.bind (growth_all fu table most) fun x2 =>
    some x2)
  else some false
theorem growth_yearsAreDefined_fc (fu : Nat) (table : List Int) (most : Int) (q10 : Nat) (r : Bool) (hh : growth_yearsAreDefined fu table most = some r) : FC P GG 93 (A_growth_yearsAreDefined table most q10) (K_growth_yearsAreDefined table) (.bool (r)) := by
  refine FC.of_fsat 13 100 Tryd.func93 (by kernel_rfl) (by kernel_rfl) (by kernel_rfl) ⟨PinL.pf (encL_pf cInt_pf _), trivial⟩ ?_
  rcases Bool.eq_false_or_eq_true (growth_within ((table.length : Nat) : Int) 1 60) with h1 | h1
  · skip
    cases h2 : growth_all fu table most with
    | none =>
      have e : growth_yearsAreDefined fu table most = none := by unfold growth_yearsAreDefined; rw [h1, cond_true, h2, Option.bind_none]; first | done | rfl
      rw [e] at hh; cases hh
    | some x2 =>
      have e : growth_yearsAreDefined fu table most = some x2 := by unfold growth_yearsAreDefined; rw [h1, cond_true, h2, Option.bind_some]; first | done | rfl
      rw [e] at hh
      have hr := Option.some.inj hh
      rw [← hr]
      exact FSat.done pfT (fuel := 10) (hs := (hR 4 [(z6i0 table), hE, hE, hE, (z6i1 table most q10 x2), hE, hE])) (ss := []) (R := [(z6r2 table), (growth_within ((table.length : Nat) : Int) 1 60) = true, (z6r3 table most q10 x2), (z6r4 table q10), (z6r5 table most), (z6r6 x2)]) (by kernel_rfl) ⟨growth_within_fc ((table.length : Nat) : Int) 1 60, h1, growth_all_fc fu table most q10 x2 h2, z6p7 table q10, z6p8 table most, selfB_self 9 _ rfl _, trivial⟩ (by kernel_rfl)
  · skip
    have e : growth_yearsAreDefined fu table most = some false := by unfold growth_yearsAreDefined; rw [h1, cond_false]; first | done | rfl
    rw [e] at hh
    have hr := Option.some.inj hh
    rw [← hr]
    exact FSat.done pfT (fuel := 10) (hs := (hR 4 [(z6i9 table), hE, hE, hE])) (ss := []) (R := [(z6r2 table), (growth_within ((table.length : Nat) : Int) 1 60) = false]) (by kernel_rfl) ⟨growth_within_fc ((table.length : Nat) : Int) 1 60, h1, trivial⟩ (by kernel_rfl)

/- greenhew/growth.ladderIsDefined -/
noncomputable abbrev z10i0 (l : List XRung) (v10 : Int) : Hint := (hL (.agg #[I ((at_ zXRung l v10).Height), I ((at_ zXRung l v10).Shoots)]))
noncomputable abbrev z10i1 (l : List XRung) (v10 : Int) : Hint := (hB (hC (.bool (growth_within ((at_ zXRung l v10).Height) 1 40000))) true)
noncomputable abbrev z10i2 (l : List XRung) (v10 : Int) : Hint := (hB (hC (.bool (growth_within ((at_ zXRung l v10).Shoots) 0 300))) true)
abbrev z10r3 (l : List XRung) (v10 : Int) : Prop := RowLd P 119 (encL cXRung l) (0 + v10.toNat * 2) (.agg #[I ((at_ zXRung l v10).Height), I ((at_ zXRung l v10).Shoots)])
abbrev z10r4 (l : List XRung) (v10 : Int) : Prop := FC P GG 94 (A_growth_within ((at_ zXRung l v10).Height) 1 40000) [] (.bool (growth_within ((at_ zXRung l v10).Height) 1 40000))
abbrev z10r5 (l : List XRung) (v10 : Int) : Prop := FC P GG 94 (A_growth_within ((at_ zXRung l v10).Shoots) 0 300) [] (.bool (growth_within ((at_ zXRung l v10).Shoots) 0 300))
abbrev z10r6 (l : List XRung) (v10 : Int) : Prop := 0 ≤ (W (v10 - 1)) ∧ (W (v10 - 1)) < ((l.length : Nat) : Int)
abbrev z10r7 (l : List XRung) (v10 : Int) : Prop := RowLd P 3 (encL cXRung l) (0 + (W (v10 - 1)).toNat * 2) (I ((at_ zXRung l (W (v10 - 1))).Height))
abbrev z10r8 (l : List XRung) (v10 : Int) : Prop := (decide (((at_ zXRung l v10).Height) ≤ ((at_ zXRung l (W (v10 - 1))).Height))) = true
abbrev z10r9 (l : List XRung) (v10 : Int) : Prop := (decide (((at_ zXRung l v10).Height) ≤ ((at_ zXRung l (W (v10 - 1))).Height))) = false
abbrev z10r10 (l : List XRung) (v10 : Int) : Prop := RowLd P 3 (encL cXRung l) (0 + (W (v10 - 1)).toNat * 2 + 1) (I ((at_ zXRung l (W (v10 - 1))).Shoots))
abbrev z10r11 (l : List XRung) (v10 : Int) : Prop := (decide (((at_ zXRung l v10).Shoots) ≥ ((at_ zXRung l (W (v10 - 1))).Shoots))) = true
abbrev z10r12 (l : List XRung) (v10 : Int) : Prop := (decide (((at_ zXRung l v10).Shoots) ≥ ((at_ zXRung l (W (v10 - 1))).Shoots))) = false
noncomputable abbrev z10i13 (l : List XRung) (v10 : Int) : Hint := (hB (hC (.bool (growth_within ((at_ zXRung l v10).Shoots) 0 300))) false)
noncomputable abbrev z10i14 (l : List XRung) (v10 : Int) : Hint := (hB (hC (.bool (growth_within ((at_ zXRung l v10).Height) 1 40000))) false)
abbrev A_growth_ladderIsDefined (l : List XRung) (q10 : Nat) : List Value := [.slice (some ⟨10, 0, none⟩) (l.length) (q10)]
abbrev K_growth_ladderIsDefined (l : List XRung) : List (Nat × List Value) := [(10, encL cXRung l)]
noncomputable def growth_ladderIsDefined_L (fu : Nat) (l : List XRung) : Nat → (Bool → Int → Option Bool)
  | 0 => (fun _ _ => none)
  | fk + 1 => (fun v2 v10 => bif decide (v10 < ((l.length : Nat) : Int)) then (bif decide (0 ≤ v10 ∧ v10 < ((l.length : Nat) : Int)) then (bif growth_within ((at_ zXRung l v10).Height) 1 40000 then (bif growth_within ((at_ zXRung l v10).Shoots) 0 300 then (bif decide (v10 > 0) then (bif decide (0 ≤ (W (v10 - 1)) ∧ (W (v10 - 1)) < ((l.length : Nat) : Int)) then (bif decide (((at_ zXRung l v10).Height) ≤ ((at_ zXRung l (W (v10 - 1))).Height)) then some false
              else (bif decide (((at_ zXRung l v10).Shoots) ≥ ((at_ zXRung l (W (v10 - 1))).Shoots)) then some false
                else growth_ladderIsDefined_L fu l fk v2 (W (v10 + 1)))) else none)
            else growth_ladderIsDefined_L fu l fk v2 (W (v10 + 1)))
          else some false)
        else some false) else none)
      else some true)
theorem growth_ladderIsDefined_L_s0 (fu : Nat) (l : List XRung) (fk : Nat) (v2 : Bool) (v10 : Int) : growth_ladderIsDefined_L fu l (fk + 1) v2 v10 = (bif decide (v10 < ((l.length : Nat) : Int)) then (bif decide (0 ≤ v10 ∧ v10 < ((l.length : Nat) : Int)) then (bif growth_within ((at_ zXRung l v10).Height) 1 40000 then (bif growth_within ((at_ zXRung l v10).Shoots) 0 300 then (bif decide (v10 > 0) then (bif decide (0 ≤ (W (v10 - 1)) ∧ (W (v10 - 1)) < ((l.length : Nat) : Int)) then (bif decide (((at_ zXRung l v10).Height) ≤ ((at_ zXRung l (W (v10 - 1))).Height)) then some false
              else (bif decide (((at_ zXRung l v10).Shoots) ≥ ((at_ zXRung l (W (v10 - 1))).Shoots)) then some false
                else growth_ladderIsDefined_L fu l fk v2 (W (v10 + 1)))) else none)
            else growth_ladderIsDefined_L fu l fk v2 (W (v10 + 1)))
          else some false)
        else some false) else none)
      else some true) := rfl
noncomputable def growth_ladderIsDefined (fu : Nat) (l : List XRung) : Option Bool :=
  bif decide (((l.length : Nat) : Int) > 20) then some false
  else growth_ladderIsDefined_L fu l fu false 0
theorem growth_ladderIsDefined_L_fs (fu : Nat) (l : List XRung) (q10 : Nat) : ∀ fk, (∀ (v2 : Bool) (v10 : Int) (r : Bool), growth_ladderIsDefined_L fu l fk v2 v10 = some r → FSat P GG Tryd.f95 (.bool (r)) (ids (looses (K_growth_ladderIsDefined l))) 50 [.lp (cA (bodyOf Tryd.f95) [1, 1, 0, 1, 0, 0]), .blk 0, .code (cA (bodyOf Tryd.f95) [1, 1, 1])] (tOf 50 [(0, .slice (some ⟨10, 0, none⟩) (l.length) (q10)), (2, .bool (v2)), (8, .slice (some ⟨10, 0, none⟩) (l.length) (q10)), (9, I (((l.length : Nat) : Int))), (10, I (v10))]) (mOf 100 [(0, .rom [I (1), I (2), I (3)] .glob), (10, .rom (encL cXRung l) .loose)])) := by
  intro fk
  induction fk with
  | zero => exact fun _ _ r hh => by cases hh
  | succ fk ih =>
    · intro v2 v10 r hh
      rcases Bool.eq_false_or_eq_true (decide (v10 < ((l.length : Nat) : Int))) with h1 | h1
      · skip
        rcases Bool.eq_false_or_eq_true (decide (0 ≤ v10 ∧ v10 < ((l.length : Nat) : Int))) with h2 | h2
        rotate_left
        · skip
          have e : growth_ladderIsDefined_L fu l (fk + 1) v2 v10 = none := by rw [growth_ladderIsDefined_L_s0]; rw [h1, cond_true, h2, cond_false]; first | done | rfl
          rw [e] at hh; cases hh
        · skip
          rcases Bool.eq_false_or_eq_true (growth_within ((at_ zXRung l v10).Height) 1 40000) with h3 | h3
          · skip
            rcases Bool.eq_false_or_eq_true (growth_within ((at_ zXRung l v10).Shoots) 0 300) with h4 | h4
            · skip
              rcases Bool.eq_false_or_eq_true (decide (v10 > 0)) with h5 | h5
              · skip
                rcases Bool.eq_false_or_eq_true (decide (0 ≤ (W (v10 - 1)) ∧ (W (v10 - 1)) < ((l.length : Nat) : Int))) with h6 | h6
                rotate_left
                · skip
                  have e : growth_ladderIsDefined_L fu l (fk + 1) v2 v10 = none := by rw [growth_ladderIsDefined_L_s0]; rw [h1, cond_true, h2, cond_true, h3, cond_true, h4, cond_true, h5, cond_true, h6, cond_false]; first | done | rfl
                  rw [e] at hh; cases hh
                · skip
                  rcases Bool.eq_false_or_eq_true (decide (((at_ zXRung l v10).Height) ≤ ((at_ zXRung l (W (v10 - 1))).Height))) with h7 | h7
                  · skip
                    have e : growth_ladderIsDefined_L fu l (fk + 1) v2 v10 = some false := by rw [growth_ladderIsDefined_L_s0]; rw [h1, cond_true, h2, cond_true, h3, cond_true, h4, cond_true, h5, cond_true, h6, cond_true, h7, cond_true]; first | done | rfl
                    rw [e] at hh
                    have hr := Option.some.inj hh
                    rw [← hr]
                    exact FSat.done pfT (fuel := 26) (hs := (hT :: hE :: hX :: (z10i0 l v10) :: (hR 5 ((z10i1 l v10) :: (hR 4 ((z10i2 l v10) :: hE :: hE :: hE :: hT :: (hR 6 (hX :: hE :: (hL (I ((at_ zXRung l (W (v10 - 1))).Height))) :: hT :: (hR 4 []))))))))) (ss := [.go]) (R := [(decide (v10 < ((l.length : Nat) : Int))) = true, 0 ≤ v10 ∧ v10 < ((l.length : Nat) : Int), (z10r3 l v10), (z10r4 l v10), (growth_within ((at_ zXRung l v10).Height) 1 40000) = true, (z10r5 l v10), (growth_within ((at_ zXRung l v10).Shoots) 0 300) = true, (decide (v10 > 0)) = true, (z10r6 l v10), (z10r7 l v10), (z10r8 l v10)]) (by kernel_rfl) ⟨h1, of_decide_eq_true h2, RowLd.elem cXRung_len _ (.inl ⟨_, rfl⟩) rfl rfl _ _ (of_decide_eq_true h2), growth_within_fc ((at_ zXRung l v10).Height) 1 40000, h3, growth_within_fc ((at_ zXRung l v10).Shoots) 0 300, h4, h5, of_decide_eq_true h6, RowLd.part cXRung_len _ rfl rfl _ _ (of_decide_eq_true h6) 0 _ rfl (by decide), h7, trivial⟩ (by kernel_rfl)
                  · skip
                    rcases Bool.eq_false_or_eq_true (decide (((at_ zXRung l v10).Shoots) ≥ ((at_ zXRung l (W (v10 - 1))).Shoots))) with h8 | h8
                    · skip
                      have e : growth_ladderIsDefined_L fu l (fk + 1) v2 v10 = some false := by rw [growth_ladderIsDefined_L_s0]; rw [h1, cond_true, h2, cond_true, h3, cond_true, h4, cond_true, h5, cond_true, h6, cond_true, h7, cond_false, h8, cond_true]; first | done | rfl
                      rw [e] at hh
                      have hr := Option.some.inj hh
                      rw [← hr]
                      exact FSat.done pfT (fuel := 26) (hs := (hT :: hE :: hX :: (z10i0 l v10) :: (hR 5 ((z10i1 l v10) :: (hR 4 ((z10i2 l v10) :: hE :: hE :: hE :: hT :: (hR 6 (hX :: hE :: (hL (I ((at_ zXRung l (W (v10 - 1))).Height))) :: hF :: (hR 6 [hX, hE, (hL (I ((at_ zXRung l (W (v10 - 1))).Shoots))), hT, hE, hE, hE]))))))))) (ss := [.go]) (R := [(decide (v10 < ((l.length : Nat) : Int))) = true, 0 ≤ v10 ∧ v10 < ((l.length : Nat) : Int), (z10r3 l v10), (z10r4 l v10), (growth_within ((at_ zXRung l v10).Height) 1 40000) = true, (z10r5 l v10), (growth_within ((at_ zXRung l v10).Shoots) 0 300) = true, (decide (v10 > 0)) = true, (z10r6 l v10), (z10r7 l v10), (z10r9 l v10), (z10r6 l v10), (z10r10 l v10), (z10r11 l v10)]) (by kernel_rfl) ⟨h1, of_decide_eq_true h2, RowLd.elem cXRung_len _ (.inl ⟨_, rfl⟩) rfl rfl _ _ (of_decide_eq_true h2), growth_within_fc ((at_ zXRung l v10).Height) 1 40000, h3, growth_within_fc ((at_ zXRung l v10).Shoots) 0 300, h4, h5, of_decide_eq_true h6, RowLd.part cXRung_len _ rfl rfl _ _ (of_decide_eq_true h6) 0 _ rfl (by decide), h7, of_decide_eq_true h6, RowLd.part cXRung_len _ rfl rfl _ _ (of_decide_eq_true h6) 1 _ rfl (by decide), h8, trivial⟩ (by kernel_rfl)
                    · skip
                      have e : growth_ladderIsDefined_L fu l (fk + 1) v2 v10 = growth_ladderIsDefined_L fu l fk v2 (W (v10 + 1)) := by rw [growth_ladderIsDefined_L_s0]; rw [h1, cond_true, h2, cond_true, h3, cond_true, h4, cond_true, h5, cond_true, h6, cond_true, h7, cond_false, h8, cond_false]; first | done | rfl
                      rw [e] at hh
                      have nx := ih v2 (W (v10 + 1)) r hh
                      refine FSat.stop pfT (fuel := 27) (hs := (hT :: hE :: hX :: (z10i0 l v10) :: (hR 5 ((z10i1 l v10) :: (hR 4 ((z10i2 l v10) :: hE :: hE :: hE :: hT :: (hR 6 (hX :: hE :: (hL (I ((at_ zXRung l (W (v10 - 1))).Height))) :: hF :: (hR 6 (hX :: hE :: (hL (I ((at_ zXRung l (W (v10 - 1))).Shoots))) :: hF :: (hR 4 []))))))))))) (ss := [.go, .st [0, 2, 8, 9, 10] [0, 10]]) (R := [(decide (v10 < ((l.length : Nat) : Int))) = true, 0 ≤ v10 ∧ v10 < ((l.length : Nat) : Int), (z10r3 l v10), (z10r4 l v10), (growth_within ((at_ zXRung l v10).Height) 1 40000) = true, (z10r5 l v10), (growth_within ((at_ zXRung l v10).Shoots) 0 300) = true, (decide (v10 > 0)) = true, (z10r6 l v10), (z10r7 l v10), (z10r9 l v10), (z10r6 l v10), (z10r10 l v10), (z10r12 l v10)]) (by kernel_rfl) ⟨h1, of_decide_eq_true h2, RowLd.elem cXRung_len _ (.inl ⟨_, rfl⟩) rfl rfl _ _ (of_decide_eq_true h2), growth_within_fc ((at_ zXRung l v10).Height) 1 40000, h3, growth_within_fc ((at_ zXRung l v10).Shoots) 0 300, h4, h5, of_decide_eq_true h6, RowLd.part cXRung_len _ rfl rfl _ _ (of_decide_eq_true h6) 0 _ rfl (by decide), h7, of_decide_eq_true h6, RowLd.part cXRung_len _ rfl rfl _ _ (of_decide_eq_true h6) 1 _ rfl (by decide), h8, trivial⟩ 100 (by kernel_rfl) ?_ nx
                      exact ⟨PinL.lit (by kernel_rfl), PinL.pf (encL_pf cXRung_pf _), trivial⟩
              · skip
                have e : growth_ladderIsDefined_L fu l (fk + 1) v2 v10 = growth_ladderIsDefined_L fu l fk v2 (W (v10 + 1)) := by rw [growth_ladderIsDefined_L_s0]; rw [h1, cond_true, h2, cond_true, h3, cond_true, h4, cond_true, h5, cond_false]; first | done | rfl
                rw [e] at hh
                have nx := ih v2 (W (v10 + 1)) r hh
                refine FSat.stop pfT (fuel := 27) (hs := (hT :: hE :: hX :: (z10i0 l v10) :: (hR 5 ((z10i1 l v10) :: (hR 4 ((z10i2 l v10) :: hE :: hE :: hE :: hF :: (hR 4 []))))))) (ss := [.go, .st [0, 2, 8, 9, 10] [0, 10]]) (R := [(decide (v10 < ((l.length : Nat) : Int))) = true, 0 ≤ v10 ∧ v10 < ((l.length : Nat) : Int), (z10r3 l v10), (z10r4 l v10), (growth_within ((at_ zXRung l v10).Height) 1 40000) = true, (z10r5 l v10), (growth_within ((at_ zXRung l v10).Shoots) 0 300) = true, (decide (v10 > 0)) = false]) (by kernel_rfl) ⟨h1, of_decide_eq_true h2, RowLd.elem cXRung_len _ (.inl ⟨_, rfl⟩) rfl rfl _ _ (of_decide_eq_true h2), growth_within_fc ((at_ zXRung l v10).Height) 1 40000, h3, growth_within_fc ((at_ zXRung l v10).Shoots) 0 300, h4, h5, trivial⟩ 100 (by kernel_rfl) ?_ nx
                exact ⟨PinL.lit (by kernel_rfl), PinL.pf (encL_pf cXRung_pf _), trivial⟩
            · skip
              have e : growth_ladderIsDefined_L fu l (fk + 1) v2 v10 = some false := by rw [growth_ladderIsDefined_L_s0]; rw [h1, cond_true, h2, cond_true, h3, cond_true, h4, cond_false]; first | done | rfl
              rw [e] at hh
              have hr := Option.some.inj hh
              rw [← hr]
              exact FSat.done pfT (fuel := 22) (hs := (hT :: hE :: hX :: (z10i0 l v10) :: (hR 5 ((z10i1 l v10) :: (hR 4 [(z10i13 l v10), hE, hE, hE]))))) (ss := [.go]) (R := [(decide (v10 < ((l.length : Nat) : Int))) = true, 0 ≤ v10 ∧ v10 < ((l.length : Nat) : Int), (z10r3 l v10), (z10r4 l v10), (growth_within ((at_ zXRung l v10).Height) 1 40000) = true, (z10r5 l v10), (growth_within ((at_ zXRung l v10).Shoots) 0 300) = false]) (by kernel_rfl) ⟨h1, of_decide_eq_true h2, RowLd.elem cXRung_len _ (.inl ⟨_, rfl⟩) rfl rfl _ _ (of_decide_eq_true h2), growth_within_fc ((at_ zXRung l v10).Height) 1 40000, h3, growth_within_fc ((at_ zXRung l v10).Shoots) 0 300, h4, trivial⟩ (by kernel_rfl)
          · skip
            have e : growth_ladderIsDefined_L fu l (fk + 1) v2 v10 = some false := by rw [growth_ladderIsDefined_L_s0]; rw [h1, cond_true, h2, cond_true, h3, cond_false]; first | done | rfl
            rw [e] at hh
            have hr := Option.some.inj hh
            rw [← hr]
            exact FSat.done pfT (fuel := 22) (hs := (hT :: hE :: hX :: (z10i0 l v10) :: (hR 5 ((z10i14 l v10) :: (hR 4 []))))) (ss := [.go]) (R := [(decide (v10 < ((l.length : Nat) : Int))) = true, 0 ≤ v10 ∧ v10 < ((l.length : Nat) : Int), (z10r3 l v10), (z10r4 l v10), (growth_within ((at_ zXRung l v10).Height) 1 40000) = false]) (by kernel_rfl) ⟨h1, of_decide_eq_true h2, RowLd.elem cXRung_len _ (.inl ⟨_, rfl⟩) rfl rfl _ _ (of_decide_eq_true h2), growth_within_fc ((at_ zXRung l v10).Height) 1 40000, h3, trivial⟩ (by kernel_rfl)
      · skip
        have e : growth_ladderIsDefined_L fu l (fk + 1) v2 v10 = some true := by rw [growth_ladderIsDefined_L_s0]; rw [h1, cond_false]; first | done | rfl
        rw [e] at hh
        have hr := Option.some.inj hh
        rw [← hr]
        exact FSat.done pfT (fuel := 14) (hs := [hF, hE]) (ss := [.go]) (R := [(decide (v10 < ((l.length : Nat) : Int))) = false]) (by kernel_rfl) ⟨h1, trivial⟩ (by kernel_rfl)
theorem growth_ladderIsDefined_fc (fu : Nat) (l : List XRung) (q10 : Nat) (r : Bool) (hh : growth_ladderIsDefined fu l = some r) : FC P GG 95 (A_growth_ladderIsDefined l q10) (K_growth_ladderIsDefined l) (.bool (r)) := by
  refine FC.of_fsat 50 100 Tryd.func95 (by kernel_rfl) (by kernel_rfl) (by kernel_rfl) ⟨PinL.pf (encL_pf cXRung_pf _), trivial⟩ ?_
  rcases Bool.eq_false_or_eq_true (decide (((l.length : Nat) : Int) > 20)) with h1 | h1
  · skip
    have e : growth_ladderIsDefined fu l = some false := by unfold growth_ladderIsDefined; rw [h1, cond_true]; first | done | rfl
    rw [e] at hh
    have hr := Option.some.inj hh
    rw [← hr]
    exact FSat.done pfT (fuel := 14) (hs := [hE, hE, hE, hT, hE]) (ss := []) (R := [(decide (((l.length : Nat) : Int) > 20)) = true]) (by kernel_rfl) ⟨h1, trivial⟩ (by kernel_rfl)
  · skip
    have e : growth_ladderIsDefined fu l = growth_ladderIsDefined_L fu l fu false 0 := by unfold growth_ladderIsDefined; rw [h1, cond_false]; first | done | rfl
    rw [e] at hh
    have nx := growth_ladderIsDefined_L_fs fu l q10 fu false 0 r hh
    refine FSat.stop pfT (fuel := 18) (hs := [hE, hE, hE, hF, hE, hE, hE]) (ss := [.st [0, 2, 8, 9, 10] [0, 10]]) (R := [(decide (((l.length : Nat) : Int) > 20)) = false]) (by kernel_rfl) ⟨h1, trivial⟩ 100 (by kernel_rfl) ?_ nx
    exact ⟨PinL.lit (by kernel_rfl), PinL.pf (encL_pf cXRung_pf _), trivial⟩

/- greenhew/growth.isPart -/
abbrev A_growth_isPart (s : XSpan) (most : Int) : List Value := [.agg #[I (s.Low), I (s.High)], I (most)]
noncomputable def growth_isPart (s : XSpan) (most : Int) : Bool :=
  bif decide (s.Low ≥ 0) then (bif decide (s.Low ≤ s.High) then decide (s.High ≤ most)
    else false)
  else false
theorem growth_isPart_fc (s : XSpan) (most : Int) : FC P GG 107 (A_growth_isPart s most) [] (.bool (growth_isPart s most)) := by
  refine FC.of_fsat 21 100 Tryd.func107 (by kernel_rfl) (by kernel_rfl) (by kernel_rfl) trivial ?_
  rcases Bool.eq_false_or_eq_true (decide (s.Low ≥ 0)) with h1 | h1
  · skip
    rcases Bool.eq_false_or_eq_true (decide (s.Low ≤ s.High)) with h2 | h2
    · skip
      have e : growth_isPart s most = decide (s.High ≤ most) := by unfold growth_isPart; rw [h1, cond_true, h2, cond_true]; first | done | rfl
      rw [e]
      exact FSat.done pfT (fuel := 10) (hs := (hR 4 (hT :: (hR 5 (hT :: (hR 8 [])))))) (ss := []) (R := [(decide (s.Low ≥ 0)) = true, (decide (s.Low ≤ s.High)) = true]) (by kernel_rfl) ⟨h1, h2, trivial⟩ (by kernel_rfl)
    · skip
      have e : growth_isPart s most = false := by unfold growth_isPart; rw [h1, cond_true, h2, cond_false]; first | done | rfl
      rw [e]
      exact FSat.done pfT (fuel := 10) (hs := (hR 4 (hT :: (hR 5 (hF :: (hR 4 [])))))) (ss := []) (R := [(decide (s.Low ≥ 0)) = true, (decide (s.Low ≤ s.High)) = false]) (by kernel_rfl) ⟨h1, h2, trivial⟩ (by kernel_rfl)
  · skip
    have e : growth_isPart s most = false := by unfold growth_isPart; rw [h1, cond_false]; first | done | rfl
    rw [e]
    exact FSat.done pfT (fuel := 10) (hs := (hR 4 (hF :: (hR 5 [])))) (ss := []) (R := [(decide (s.Low ≥ 0)) = false]) (by kernel_rfl) ⟨h1, trivial⟩ (by kernel_rfl)

/- greenhew/growth.sproutsAreDefined$1 -/
abbrev z13r0 (s : XSpan) : Prop := FC P GG 107 (A_growth_isPart s 300) [] (.bool (growth_isPart s 300))
abbrev A_growth_sproutsAreDefined_1 (s : XSpan) : List Value := [.agg #[I (s.Low), I (s.High)]]
noncomputable def growth_sproutsAreDefined_1 (s : XSpan) : Bool :=
  growth_isPart s 300
theorem growth_sproutsAreDefined_1_fc (s : XSpan) : FC P GG 120 (A_growth_sproutsAreDefined_1 s) [] (.bool (growth_sproutsAreDefined_1 s)) := by
  refine FC.of_fsat 5 100 Tryd.func120 (by kernel_rfl) (by kernel_rfl) (by kernel_rfl) trivial ?_
  have e : growth_sproutsAreDefined_1 s = growth_isPart s 300 := by unfold growth_sproutsAreDefined_1; rfl
  rw [e]
  exact FSat.done pfT (fuel := 10) (hs := [hE, hE, hE, (hC (.bool (growth_isPart s 300))), hE]) (ss := []) (R := [(z13r0 s)]) (by kernel_rfl) ⟨growth_isPart_fc s 300, trivial⟩ (by kernel_rfl)

/- greenhew/growth.all[greenhew/api.Span] -/
noncomputable abbrev z12i0 (l : List XSpan) (v9 : Int) : Hint := (hL (.agg #[I ((at_ zXSpan l v9).Low), I ((at_ zXSpan l v9).High)]))
noncomputable abbrev z12i1 (l : List XSpan) (v9 : Int) : Hint := (hB (hC (.bool (growth_sproutsAreDefined_1 (at_ zXSpan l v9)))) true)
abbrev z12r2 (l : List XSpan) (v9 : Int) : Prop := RowLd P 56 (encL cXSpan l) (0 + v9.toNat * 2) (.agg #[I ((at_ zXSpan l v9).Low), I ((at_ zXSpan l v9).High)])
abbrev z12r3 (l : List XSpan) (v9 : Int) : Prop := FC P GG 120 (A_growth_sproutsAreDefined_1 (at_ zXSpan l v9)) [] (.bool (growth_sproutsAreDefined_1 (at_ zXSpan l v9)))
noncomputable abbrev z12i4 (l : List XSpan) (v9 : Int) : Hint := (hB (hC (.bool (growth_sproutsAreDefined_1 (at_ zXSpan l v9)))) false)
abbrev A_api_Span (l : List XSpan) (q10 : Nat) : List Value := [.slice (some ⟨10, 0, none⟩) (l.length) (q10), .func (.func 120) #[] #[]]
abbrev K_api_Span (l : List XSpan) : List (Nat × List Value) := [(10, encL cXSpan l)]
noncomputable def api_Span_L (fu : Nat) (l : List XSpan) : Nat → (Bool → Int → Option Bool)
  | 0 => (fun _ _ => none)
  | fk + 1 => (fun v4 v9 => bif decide (v9 < ((l.length : Nat) : Int)) then (bif decide (0 ≤ v9 ∧ v9 < ((l.length : Nat) : Int)) then (bif growth_sproutsAreDefined_1 (at_ zXSpan l v9) then api_Span_L fu l fk v4 (W (v9 + 1))
        else some false) else none)
      else some true)
theorem api_Span_L_s0 (fu : Nat) (l : List XSpan) (fk : Nat) (v4 : Bool) (v9 : Int) : api_Span_L fu l (fk + 1) v4 v9 = (bif decide (v9 < ((l.length : Nat) : Int)) then (bif decide (0 ≤ v9 ∧ v9 < ((l.length : Nat) : Int)) then (bif growth_sproutsAreDefined_1 (at_ zXSpan l v9) then api_Span_L fu l fk v4 (W (v9 + 1))
        else some false) else none)
      else some true) := rfl
noncomputable def api_Span (fu : Nat) (l : List XSpan) : Option Bool :=
  api_Span_L fu l fu false 0
theorem api_Span_L_fs (fu : Nat) (l : List XSpan) (q10 : Nat) : ∀ fk, (∀ (v4 : Bool) (v9 : Int) (r : Bool), api_Span_L fu l fk v4 v9 = some r → FSat P GG Tryd.f119 (.bool (r)) (ids (looses (K_api_Span l))) 18 [.lp (cA (bodyOf Tryd.f119) [1, 0, 1, 0, 0]), .blk 0, .code (cA (bodyOf Tryd.f119) [1, 1])] (tOf 18 [(1, .func (.func 120) #[] #[]), (4, .bool (v4)), (7, .slice (some ⟨10, 0, none⟩) (l.length) (q10)), (8, I (((l.length : Nat) : Int))), (9, I (v9))]) (mOf 100 [(0, .rom [I (1), I (2), I (3)] .glob), (10, .rom (encL cXSpan l) .loose)])) := by
  intro fk
  induction fk with
  | zero => exact fun _ _ r hh => by cases hh
  | succ fk ih =>
    · intro v4 v9 r hh
      rcases Bool.eq_false_or_eq_true (decide (v9 < ((l.length : Nat) : Int))) with h1 | h1
      · skip
        rcases Bool.eq_false_or_eq_true (decide (0 ≤ v9 ∧ v9 < ((l.length : Nat) : Int))) with h2 | h2
        rotate_left
        · skip
          have e : api_Span_L fu l (fk + 1) v4 v9 = none := by rw [api_Span_L_s0]; rw [h1, cond_true, h2, cond_false]; first | done | rfl
          rw [e] at hh; cases hh
        · skip
          rcases Bool.eq_false_or_eq_true (growth_sproutsAreDefined_1 (at_ zXSpan l v9)) with h3 | h3
          · skip
            have e : api_Span_L fu l (fk + 1) v4 v9 = api_Span_L fu l fk v4 (W (v9 + 1)) := by rw [api_Span_L_s0]; rw [h1, cond_true, h2, cond_true, h3, cond_true]; first | done | rfl
            rw [e] at hh
            have nx := ih v4 (W (v9 + 1)) r hh
            refine FSat.stop pfT (fuel := 22) (hs := (hT :: hX :: (z12i0 l v9) :: (hR 4 [(z12i1 l v9), hE, hE, hE]))) (ss := [.go, .st [1, 4, 7, 8, 9] [0, 10]]) (R := [(decide (v9 < ((l.length : Nat) : Int))) = true, 0 ≤ v9 ∧ v9 < ((l.length : Nat) : Int), (z12r2 l v9), (z12r3 l v9), (growth_sproutsAreDefined_1 (at_ zXSpan l v9)) = true]) (by kernel_rfl) ⟨h1, of_decide_eq_true h2, RowLd.elem cXSpan_len _ (.inl ⟨_, rfl⟩) rfl rfl _ _ (of_decide_eq_true h2), growth_sproutsAreDefined_1_fc (at_ zXSpan l v9), h3, trivial⟩ 100 (by kernel_rfl) ?_ nx
            exact ⟨PinL.lit (by kernel_rfl), PinL.pf (encL_pf cXSpan_pf _), trivial⟩
          · skip
            have e : api_Span_L fu l (fk + 1) v4 v9 = some false := by rw [api_Span_L_s0]; rw [h1, cond_true, h2, cond_true, h3, cond_false]; first | done | rfl
            rw [e] at hh
            have hr := Option.some.inj hh
            rw [← hr]
            exact FSat.done pfT (fuel := 21) (hs := (hT :: hX :: (z12i0 l v9) :: (hR 4 [(z12i4 l v9), hE, hE]))) (ss := [.go]) (R := [(decide (v9 < ((l.length : Nat) : Int))) = true, 0 ≤ v9 ∧ v9 < ((l.length : Nat) : Int), (z12r2 l v9), (z12r3 l v9), (growth_sproutsAreDefined_1 (at_ zXSpan l v9)) = false]) (by kernel_rfl) ⟨h1, of_decide_eq_true h2, RowLd.elem cXSpan_len _ (.inl ⟨_, rfl⟩) rfl rfl _ _ (of_decide_eq_true h2), growth_sproutsAreDefined_1_fc (at_ zXSpan l v9), h3, trivial⟩ (by kernel_rfl)
      · skip
        have e : api_Span_L fu l (fk + 1) v4 v9 = some true := by rw [api_Span_L_s0]; rw [h1, cond_false]; first | done | rfl
        rw [e] at hh
        have hr := Option.some.inj hh
        rw [← hr]
        exact FSat.done pfT (fuel := 14) (hs := [hF, hE]) (ss := [.go]) (R := [(decide (v9 < ((l.length : Nat) : Int))) = false]) (by kernel_rfl) ⟨h1, trivial⟩ (by kernel_rfl)
theorem api_Span_fc (fu : Nat) (l : List XSpan) (q10 : Nat) (r : Bool) (hh : api_Span fu l = some r) : FC P GG 119 (A_api_Span l q10) (K_api_Span l) (.bool (r)) := by
  refine FC.of_fsat 18 100 Tryd.func119 (by kernel_rfl) (by kernel_rfl) (by kernel_rfl) ⟨PinL.pf (encL_pf cXSpan_pf _), trivial⟩ ?_
  have e : api_Span fu l = api_Span_L fu l fu false 0 := by unfold api_Span; rfl
  rw [e] at hh
  have nx := api_Span_L_fs fu l q10 fu false 0 r hh
  refine FSat.stop pfT (fuel := 13) (hs := (hR 4 [])) (ss := [.st [1, 4, 7, 8, 9] [0, 10]]) (R := []) (by kernel_rfl) trivial 100 (by kernel_rfl) ?_ nx
  exact ⟨PinL.lit (by kernel_rfl), PinL.pf (encL_pf cXSpan_pf _), trivial⟩

/- greenhew/growth.sproutsAreDefined -/
noncomputable abbrev z11i0 (l : List XSpan) : Hint := (hB (hC (.bool (growth_within ((l.length : Nat) : Int) 1 60))) true)
noncomputable abbrev z11i1 (l : List XSpan) (q10 : Nat) (x2 : Bool) : Hint := (hM (.bool (x2)) (.bool (x2)) (A_api_Span l q10) (K_api_Span l) [(10, 10, 0)])
abbrev z11r2 (l : List XSpan) : Prop := FC P GG 94 (A_growth_within ((l.length : Nat) : Int) 1 60) [] (.bool (growth_within ((l.length : Nat) : Int) 1 60))
abbrev z11r3 (l : List XSpan) (q10 : Nat) : Prop := VRs (Ren.emb [(10, 10, 0)]) (A_api_Span l q10) [.slice (some ⟨10, 0, none⟩) (l.length) (q10), .func (.func 120) #[] #[]]
abbrev z11r4 (l : List XSpan) : Prop := MemAt (Ren.emb [(10, 10, 0)]) (encL cXSpan l) 0 (encL cXSpan l) ∧ True
theorem z11p5 (l : List XSpan) (q10 : Nat) : (z11r3 l q10) := (.cons _ _ _ _ (.slc 10 0 _ _ _ ⟨10, 0, 0, 0⟩ rfl (.inl rfl)) (.cons _ _ _ _ (.func _ _ _ _ _ (fun _ h => by cases h) .nil .nil) .nil))
noncomputable abbrev z11i6 (l : List XSpan) : Hint := (hB (hC (.bool (growth_within ((l.length : Nat) : Int) 1 60))) false)
abbrev A_growth_sproutsAreDefined (l : List XSpan) (q10 : Nat) : List Value := [.slice (some ⟨10, 0, none⟩) (l.length) (q10)]
abbrev K_growth_sproutsAreDefined (l : List XSpan) : List (Nat × List Value) := [(10, encL cXSpan l)]
noncomputable def growth_sproutsAreDefined (fu : Nat) (l : List XSpan) : Option Bool :=
  bif growth_within ((l.length : Nat) : Int) 1 60 then (Option.bind (api_Span fu l) fun x2 =>
    some x2)
  else some false
theorem growth_sproutsAreDefined_fc (fu : Nat) (l : List XSpan) (q10 : Nat) (r : Bool) (hh : growth_sproutsAreDefined fu l = some r) : FC P GG 96 (A_growth_sproutsAreDefined l q10) (K_growth_sproutsAreDefined l) (.bool (r)) := by
  refine FC.of_fsat 10 100 Tryd.func96 (by kernel_rfl) (by kernel_rfl) (by kernel_rfl) ⟨PinL.pf (encL_pf cXSpan_pf _), trivial⟩ ?_
  rcases Bool.eq_false_or_eq_true (growth_within ((l.length : Nat) : Int) 1 60) with h1 | h1
  · skip
    cases h2 : api_Span fu l with
    | none =>
      have e : growth_sproutsAreDefined fu l = none := by unfold growth_sproutsAreDefined; rw [h1, cond_true, h2, Option.bind_none]; first | done | rfl
      rw [e] at hh; cases hh
    | some x2 =>
      have e : growth_sproutsAreDefined fu l = some x2 := by unfold growth_sproutsAreDefined; rw [h1, cond_true, h2, Option.bind_some]; first | done | rfl
      rw [e] at hh
      have hr := Option.some.inj hh
      rw [← hr]
      exact FSat.done pfT (fuel := 10) (hs := [hE, hE, hE, (z11i0 l), hE, hE, (z11i1 l q10 x2), hE, hE]) (ss := []) (R := [(z11r2 l), (growth_within ((l.length : Nat) : Int) 1 60) = true, FC P GG 119 (A_api_Span l q10) (K_api_Span l) (.bool (x2)), (z11r3 l q10), (z11r4 l), VR (Ren.emb [(10, 10, 0)]) (.bool (x2)) (.bool (x2))]) (by kernel_rfl) ⟨growth_within_fc ((l.length : Nat) : Int) 1 60, h1, api_Span_fc fu l q10 x2 h2, z11p5 l q10, ⟨MemAt.same _ (encL_pf cXSpan_pf _), trivial⟩, selfB_self 9 _ rfl _, trivial⟩ (by kernel_rfl)
  · skip
    have e : growth_sproutsAreDefined fu l = some false := by unfold growth_sproutsAreDefined; rw [h1, cond_false]; first | done | rfl
    rw [e] at hh
    have hr := Option.some.inj hh
    rw [← hr]
    exact FSat.done pfT (fuel := 10) (hs := [hE, hE, hE, (z11i6 l), hE, hE, hE]) (ss := []) (R := [(z11r2 l), (growth_within ((l.length : Nat) : Int) 1 60) = false]) (by kernel_rfl) ⟨growth_within_fc ((l.length : Nat) : Int) 1 60, h1, trivial⟩ (by kernel_rfl)

/- greenhew/growth.speciesIsDefined -/
noncomputable abbrev z5i0 (s : XSpecies) (q10 : Nat) (x1 : Bool) : Hint := (hB (hM (.bool (x1)) (.bool (x1)) (A_growth_yearsAreDefined s.Rise 5000 q10) (K_growth_yearsAreDefined s.Rise) [(10, 10, 0)]) true)
noncomputable abbrev z5i1 (s : XSpecies) (q11 : Nat) (x3 : Bool) : Hint := (hB (hM (.bool (x3)) (.bool (x3)) (A_growth_yearsAreDefined s.Thick 300 q11) (K_growth_yearsAreDefined s.Thick) [(10, 11, 0)]) true)
noncomputable abbrev z5i2 (s : XSpecies) (q12 : Nat) (x9 : Bool) : Hint := (hB (hM (.bool (x9)) (.bool (x9)) (A_growth_ladderIsDefined s.Ladder q12) (K_growth_ladderIsDefined s.Ladder) [(10, 12, 0)]) true)
noncomputable abbrev z5i3 (s : XSpecies) (q13 : Nat) (x11 : Bool) : Hint := (hM (.bool (x11)) (.bool (x11)) (A_growth_sproutsAreDefined s.Sprouts q13) (K_growth_sproutsAreDefined s.Sprouts) [(10, 13, 0)])
abbrev z5r4 (s : XSpecies) (q10 : Nat) (x1 : Bool) : Prop := FC P GG 93 (A_growth_yearsAreDefined s.Rise 5000 q10) (K_growth_yearsAreDefined s.Rise) (.bool (x1))
abbrev z5r5 (s : XSpecies) (q10 : Nat) : Prop := VRs (Ren.emb [(10, 10, 0)]) (A_growth_yearsAreDefined s.Rise 5000 q10) [.slice (some ⟨10, 0, none⟩) (s.Rise.length) (q10), I (5000)]
abbrev z5r6 (s : XSpecies) : Prop := MemAt (Ren.emb [(10, 10, 0)]) (encL cInt s.Rise) 0 (encL cInt s.Rise) ∧ True
abbrev z5r7 (s : XSpecies) (q11 : Nat) (x3 : Bool) : Prop := FC P GG 93 (A_growth_yearsAreDefined s.Thick 300 q11) (K_growth_yearsAreDefined s.Thick) (.bool (x3))
abbrev z5r8 (s : XSpecies) (q11 : Nat) : Prop := VRs (Ren.emb [(10, 11, 0)]) (A_growth_yearsAreDefined s.Thick 300 q11) [.slice (some ⟨11, 0, none⟩) (s.Thick.length) (q11), I (300)]
abbrev z5r9 (s : XSpecies) : Prop := MemAt (Ren.emb [(10, 11, 0)]) (encL cInt s.Thick) 0 (encL cInt s.Thick) ∧ True
abbrev z5r10 (s : XSpecies) : Prop := FC P GG 94 (A_growth_within s.Top 1 40000) [] (.bool (growth_within s.Top 1 40000))
abbrev z5r11 (s : XSpecies) : Prop := FC P GG 94 (A_growth_within s.Stout 1 3000) [] (.bool (growth_within s.Stout 1 3000))
abbrev z5r12 (s : XSpecies) : Prop := FC P GG 94 (A_growth_within s.Shade 0 99) [] (.bool (growth_within s.Shade 0 99))
abbrev z5r13 (s : XSpecies) : Prop := FC P GG 94 (A_growth_within s.Reach 0 40000) [] (.bool (growth_within s.Reach 0 40000))
abbrev z5r14 (s : XSpecies) (q12 : Nat) (x9 : Bool) : Prop := FC P GG 95 (A_growth_ladderIsDefined s.Ladder q12) (K_growth_ladderIsDefined s.Ladder) (.bool (x9))
abbrev z5r15 (s : XSpecies) (q12 : Nat) : Prop := VRs (Ren.emb [(10, 12, 0)]) (A_growth_ladderIsDefined s.Ladder q12) [.slice (some ⟨12, 0, none⟩) (s.Ladder.length) (q12)]
abbrev z5r16 (s : XSpecies) : Prop := MemAt (Ren.emb [(10, 12, 0)]) (encL cXRung s.Ladder) 0 (encL cXRung s.Ladder) ∧ True
abbrev z5r17 (s : XSpecies) (q13 : Nat) (x11 : Bool) : Prop := FC P GG 96 (A_growth_sproutsAreDefined s.Sprouts q13) (K_growth_sproutsAreDefined s.Sprouts) (.bool (x11))
abbrev z5r18 (s : XSpecies) (q13 : Nat) : Prop := VRs (Ren.emb [(10, 13, 0)]) (A_growth_sproutsAreDefined s.Sprouts q13) [.slice (some ⟨13, 0, none⟩) (s.Sprouts.length) (q13)]
abbrev z5r19 (s : XSpecies) : Prop := MemAt (Ren.emb [(10, 13, 0)]) (encL cXSpan s.Sprouts) 0 (encL cXSpan s.Sprouts) ∧ True
theorem z5p20 (s : XSpecies) (q10 : Nat) : (z5r5 s q10) := (.cons _ _ _ _ (.slc 10 0 _ _ _ ⟨10, 0, 0, 0⟩ rfl (.inl rfl)) (.cons _ _ _ _ (VR.of_pf rfl) .nil))
theorem z5p21 (s : XSpecies) (q11 : Nat) : (z5r8 s q11) := (.cons _ _ _ _ (.slc 10 0 _ _ _ ⟨11, 0, 0, 0⟩ rfl (.inl rfl)) (.cons _ _ _ _ (VR.of_pf rfl) .nil))
theorem z5p22 (s : XSpecies) (q12 : Nat) : (z5r15 s q12) := (.cons _ _ _ _ (.slc 10 0 _ _ _ ⟨12, 0, 0, 0⟩ rfl (.inl rfl)) .nil)
theorem z5p23 (s : XSpecies) (q13 : Nat) : (z5r18 s q13) := (.cons _ _ _ _ (.slc 10 0 _ _ _ ⟨13, 0, 0, 0⟩ rfl (.inl rfl)) .nil)
noncomputable abbrev z5i24 (s : XSpecies) (q12 : Nat) (x9 : Bool) : Hint := (hB (hM (.bool (x9)) (.bool (x9)) (A_growth_ladderIsDefined s.Ladder q12) (K_growth_ladderIsDefined s.Ladder) [(10, 12, 0)]) false)
noncomputable abbrev z5i25 (s : XSpecies) (q11 : Nat) (x3 : Bool) : Hint := (hB (hM (.bool (x3)) (.bool (x3)) (A_growth_yearsAreDefined s.Thick 300 q11) (K_growth_yearsAreDefined s.Thick) [(10, 11, 0)]) false)
noncomputable abbrev z5i26 (s : XSpecies) (q10 : Nat) (x1 : Bool) : Hint := (hB (hM (.bool (x1)) (.bool (x1)) (A_growth_yearsAreDefined s.Rise 5000 q10) (K_growth_yearsAreDefined s.Rise) [(10, 10, 0)]) false)
abbrev A_growth_speciesIsDefined (s : XSpecies) (q10 : Nat) (q11 : Nat) (q12 : Nat) (q13 : Nat) : List Value := [.agg #[.slice (some ⟨10, 0, none⟩) (s.Rise.length) (q10), .slice (some ⟨11, 0, none⟩) (s.Thick.length) (q11), I (s.Top), I (s.Stout), I (s.Shade), I (s.Reach), .slice (some ⟨12, 0, none⟩) (s.Ladder.length) (q12), .slice (some ⟨13, 0, none⟩) (s.Sprouts.length) (q13)]]
abbrev K_growth_speciesIsDefined (s : XSpecies) : List (Nat × List Value) := [(10, encL cInt s.Rise), (11, encL cInt s.Thick), (12, encL cXRung s.Ladder), (13, encL cXSpan s.Sprouts)]
noncomputable def growth_speciesIsDefined (fu : Nat) (s : XSpecies) : Option Bool :=
  Option.bind (growth_yearsAreDefined fu s.Rise 5000) fun x1 =>
  bif x1 then (Option.bind (growth_yearsAreDefined fu s.Thick 300) fun x3 =>
    bif x3 then (bif growth_within s.Top 1 40000 then (bif growth_within s.Stout 1 3000 then (bif growth_within s.Shade 0 99 then (bif growth_within s.Reach 0 40000 then (Option.bind (growth_ladderIsDefined fu s.Ladder) fun x9 =>
              bif x9 then (Option.bind (growth_sproutsAreDefined fu s.Sprouts) fun x11 =>
                some x11)
              else some false)
            else some false)
          else some false)
        else some false)
      else some false)
    else some false)
  else some false
theorem growth_speciesIsDefined_fc (fu : Nat) (s : XSpecies) (q10 q11 q12 q13 : Nat) (r : Bool) (hh : growth_speciesIsDefined fu s = some r) : FC P GG 57 (A_growth_speciesIsDefined s q10 q11 q12 q13) (K_growth_speciesIsDefined s) (.bool (r)) := by
  refine FC.of_fsat 41 100 Tryd.func57 (by kernel_rfl) (by kernel_rfl) (by kernel_rfl) ⟨PinL.pf (encL_pf cInt_pf _), PinL.pf (encL_pf cInt_pf _), PinL.pf (encL_pf cXRung_pf _), PinL.pf (encL_pf cXSpan_pf _), trivial⟩ ?_
  cases h1 : growth_yearsAreDefined fu s.Rise 5000 with
  | none =>
    have e : growth_speciesIsDefined fu s = none := by unfold growth_speciesIsDefined; rw [h1, Option.bind_none]; first | done | rfl
    rw [e] at hh; cases hh
  | some x1 =>
    rcases Bool.eq_false_or_eq_true (x1) with h2 | h2
    · skip
      cases h3 : growth_yearsAreDefined fu s.Thick 300 with
      | none =>
        have e : growth_speciesIsDefined fu s = none := by unfold growth_speciesIsDefined; rw [h1, Option.bind_some, h2, cond_true, h3, Option.bind_none]; first | done | rfl
        rw [e] at hh; cases hh
      | some x3 =>
        rcases Bool.eq_false_or_eq_true (x3) with h4 | h4
        · skip
          rcases Bool.eq_false_or_eq_true (growth_within s.Top 1 40000) with h5 | h5
          · skip
            rcases Bool.eq_false_or_eq_true (growth_within s.Stout 1 3000) with h6 | h6
            · skip
              rcases Bool.eq_false_or_eq_true (growth_within s.Shade 0 99) with h7 | h7
              · skip
                rcases Bool.eq_false_or_eq_true (growth_within s.Reach 0 40000) with h8 | h8
                · skip
                  cases h9 : growth_ladderIsDefined fu s.Ladder with
                  | none =>
                    have e : growth_speciesIsDefined fu s = none := by unfold growth_speciesIsDefined; rw [h1, Option.bind_some, h2, cond_true, h3, Option.bind_some, h4, cond_true, h5, cond_true, h6, cond_true, h7, cond_true, h8, cond_true, h9, Option.bind_none]; first | done | rfl
                    rw [e] at hh; cases hh
                  | some x9 =>
                    rcases Bool.eq_false_or_eq_true (x9) with h10 | h10
                    · skip
                      cases h11 : growth_sproutsAreDefined fu s.Sprouts with
                      | none =>
                        have e : growth_speciesIsDefined fu s = none := by unfold growth_speciesIsDefined; rw [h1, Option.bind_some, h2, cond_true, h3, Option.bind_some, h4, cond_true, h5, cond_true, h6, cond_true, h7, cond_true, h8, cond_true, h9, Option.bind_some, h10, cond_true, h11, Option.bind_none]; first | done | rfl
                        rw [e] at hh; cases hh
                      | some x11 =>
                        have e : growth_speciesIsDefined fu s = some x11 := by unfold growth_speciesIsDefined; rw [h1, Option.bind_some, h2, cond_true, h3, Option.bind_some, h4, cond_true, h5, cond_true, h6, cond_true, h7, cond_true, h8, cond_true, h9, Option.bind_some, h10, cond_true, h11, Option.bind_some]; first | done | rfl
                        rw [e] at hh
                        have hr := Option.some.inj hh
                        rw [← hr]
                        exact FSat.done pfT (fuel := 10) (hs := (hR 4 ((z5i0 s q10 x1) :: hE :: hE :: hE :: (z5i1 s q11 x3) :: (hR 4 ((hB (hC (.bool (growth_within s.Top 1 40000))) true) :: (hR 4 ((hB (hC (.bool (growth_within s.Stout 1 3000))) true) :: (hR 4 ((hB (hC (.bool (growth_within s.Shade 0 99))) true) :: (hR 4 ((hB (hC (.bool (growth_within s.Reach 0 40000))) true) :: (hR 4 ((z5i2 s q12 x9) :: (hR 4 [(z5i3 s q13 x11), hE, hE])))))))))))))) (ss := []) (R := [(z5r4 s q10 x1), (z5r5 s q10), (z5r6 s), VR (Ren.emb [(10, 10, 0)]) (.bool (x1)) (.bool (x1)), (x1) = true, (z5r7 s q11 x3), (z5r8 s q11), (z5r9 s), VR (Ren.emb [(10, 11, 0)]) (.bool (x3)) (.bool (x3)), (x3) = true, (z5r10 s), (growth_within s.Top 1 40000) = true, (z5r11 s), (growth_within s.Stout 1 3000) = true, (z5r12 s), (growth_within s.Shade 0 99) = true, (z5r13 s), (growth_within s.Reach 0 40000) = true, (z5r14 s q12 x9), (z5r15 s q12), (z5r16 s), VR (Ren.emb [(10, 12, 0)]) (.bool (x9)) (.bool (x9)), (x9) = true, (z5r17 s q13 x11), (z5r18 s q13), (z5r19 s), VR (Ren.emb [(10, 13, 0)]) (.bool (x11)) (.bool (x11))]) (by kernel_rfl) ⟨growth_yearsAreDefined_fc fu s.Rise 5000 q10 x1 h1, z5p20 s q10, ⟨MemAt.same _ (encL_pf cInt_pf _), trivial⟩, selfB_self 9 _ rfl _, h2, growth_yearsAreDefined_fc fu s.Thick 300 q11 x3 h3, z5p21 s q11, ⟨MemAt.same _ (encL_pf cInt_pf _), trivial⟩, selfB_self 9 _ rfl _, h4, growth_within_fc s.Top 1 40000, h5, growth_within_fc s.Stout 1 3000, h6, growth_within_fc s.Shade 0 99, h7, growth_within_fc s.Reach 0 40000, h8, growth_ladderIsDefined_fc fu s.Ladder q12 x9 h9, z5p22 s q12, ⟨MemAt.same _ (encL_pf cXRung_pf _), trivial⟩, selfB_self 9 _ rfl _, h10, growth_sproutsAreDefined_fc fu s.Sprouts q13 x11 h11, z5p23 s q13, ⟨MemAt.same _ (encL_pf cXSpan_pf _), trivial⟩, selfB_self 9 _ rfl _, trivial⟩ (by kernel_rfl)
                    · skip
                      have e : growth_speciesIsDefined fu s = some false := by unfold growth_speciesIsDefined; rw [h1, Option.bind_some, h2, cond_true, h3, Option.bind_some, h4, cond_true, h5, cond_true, h6, cond_true, h7, cond_true, h8, cond_true, h9, Option.bind_some, h10, cond_false]; first | done | rfl
                      rw [e] at hh
                      have hr := Option.some.inj hh
                      rw [← hr]
                      exact FSat.done pfT (fuel := 10) (hs := (hR 4 ((z5i0 s q10 x1) :: hE :: hE :: hE :: (z5i1 s q11 x3) :: (hR 4 ((hB (hC (.bool (growth_within s.Top 1 40000))) true) :: (hR 4 ((hB (hC (.bool (growth_within s.Stout 1 3000))) true) :: (hR 4 ((hB (hC (.bool (growth_within s.Shade 0 99))) true) :: (hR 4 ((hB (hC (.bool (growth_within s.Reach 0 40000))) true) :: (hR 4 ((z5i24 s q12 x9) :: (hR 4 [])))))))))))))) (ss := []) (R := [(z5r4 s q10 x1), (z5r5 s q10), (z5r6 s), VR (Ren.emb [(10, 10, 0)]) (.bool (x1)) (.bool (x1)), (x1) = true, (z5r7 s q11 x3), (z5r8 s q11), (z5r9 s), VR (Ren.emb [(10, 11, 0)]) (.bool (x3)) (.bool (x3)), (x3) = true, (z5r10 s), (growth_within s.Top 1 40000) = true, (z5r11 s), (growth_within s.Stout 1 3000) = true, (z5r12 s), (growth_within s.Shade 0 99) = true, (z5r13 s), (growth_within s.Reach 0 40000) = true, (z5r14 s q12 x9), (z5r15 s q12), (z5r16 s), VR (Ren.emb [(10, 12, 0)]) (.bool (x9)) (.bool (x9)), (x9) = false]) (by kernel_rfl) ⟨growth_yearsAreDefined_fc fu s.Rise 5000 q10 x1 h1, z5p20 s q10, ⟨MemAt.same _ (encL_pf cInt_pf _), trivial⟩, selfB_self 9 _ rfl _, h2, growth_yearsAreDefined_fc fu s.Thick 300 q11 x3 h3, z5p21 s q11, ⟨MemAt.same _ (encL_pf cInt_pf _), trivial⟩, selfB_self 9 _ rfl _, h4, growth_within_fc s.Top 1 40000, h5, growth_within_fc s.Stout 1 3000, h6, growth_within_fc s.Shade 0 99, h7, growth_within_fc s.Reach 0 40000, h8, growth_ladderIsDefined_fc fu s.Ladder q12 x9 h9, z5p22 s q12, ⟨MemAt.same _ (encL_pf cXRung_pf _), trivial⟩, selfB_self 9 _ rfl _, h10, trivial⟩ (by kernel_rfl)
                · skip
                  have e : growth_speciesIsDefined fu s = some false := by unfold growth_speciesIsDefined; rw [h1, Option.bind_some, h2, cond_true, h3, Option.bind_some, h4, cond_true, h5, cond_true, h6, cond_true, h7, cond_true, h8, cond_false]; first | done | rfl
                  rw [e] at hh
                  have hr := Option.some.inj hh
                  rw [← hr]
                  exact FSat.done pfT (fuel := 10) (hs := (hR 4 ((z5i0 s q10 x1) :: hE :: hE :: hE :: (z5i1 s q11 x3) :: (hR 4 ((hB (hC (.bool (growth_within s.Top 1 40000))) true) :: (hR 4 ((hB (hC (.bool (growth_within s.Stout 1 3000))) true) :: (hR 4 ((hB (hC (.bool (growth_within s.Shade 0 99))) true) :: (hR 4 ((hB (hC (.bool (growth_within s.Reach 0 40000))) false) :: (hR 6 [])))))))))))) (ss := []) (R := [(z5r4 s q10 x1), (z5r5 s q10), (z5r6 s), VR (Ren.emb [(10, 10, 0)]) (.bool (x1)) (.bool (x1)), (x1) = true, (z5r7 s q11 x3), (z5r8 s q11), (z5r9 s), VR (Ren.emb [(10, 11, 0)]) (.bool (x3)) (.bool (x3)), (x3) = true, (z5r10 s), (growth_within s.Top 1 40000) = true, (z5r11 s), (growth_within s.Stout 1 3000) = true, (z5r12 s), (growth_within s.Shade 0 99) = true, (z5r13 s), (growth_within s.Reach 0 40000) = false]) (by kernel_rfl) ⟨growth_yearsAreDefined_fc fu s.Rise 5000 q10 x1 h1, z5p20 s q10, ⟨MemAt.same _ (encL_pf cInt_pf _), trivial⟩, selfB_self 9 _ rfl _, h2, growth_yearsAreDefined_fc fu s.Thick 300 q11 x3 h3, z5p21 s q11, ⟨MemAt.same _ (encL_pf cInt_pf _), trivial⟩, selfB_self 9 _ rfl _, h4, growth_within_fc s.Top 1 40000, h5, growth_within_fc s.Stout 1 3000, h6, growth_within_fc s.Shade 0 99, h7, growth_within_fc s.Reach 0 40000, h8, trivial⟩ (by kernel_rfl)
              · skip
                have e : growth_speciesIsDefined fu s = some false := by unfold growth_speciesIsDefined; rw [h1, Option.bind_some, h2, cond_true, h3, Option.bind_some, h4, cond_true, h5, cond_true, h6, cond_true, h7, cond_false]; first | done | rfl
                rw [e] at hh
                have hr := Option.some.inj hh
                rw [← hr]
                exact FSat.done pfT (fuel := 10) (hs := (hR 4 ((z5i0 s q10 x1) :: hE :: hE :: hE :: (z5i1 s q11 x3) :: (hR 4 ((hB (hC (.bool (growth_within s.Top 1 40000))) true) :: (hR 4 ((hB (hC (.bool (growth_within s.Stout 1 3000))) true) :: (hR 4 ((hB (hC (.bool (growth_within s.Shade 0 99))) false) :: (hR 8 [])))))))))) (ss := []) (R := [(z5r4 s q10 x1), (z5r5 s q10), (z5r6 s), VR (Ren.emb [(10, 10, 0)]) (.bool (x1)) (.bool (x1)), (x1) = true, (z5r7 s q11 x3), (z5r8 s q11), (z5r9 s), VR (Ren.emb [(10, 11, 0)]) (.bool (x3)) (.bool (x3)), (x3) = true, (z5r10 s), (growth_within s.Top 1 40000) = true, (z5r11 s), (growth_within s.Stout 1 3000) = true, (z5r12 s), (growth_within s.Shade 0 99) = false]) (by kernel_rfl) ⟨growth_yearsAreDefined_fc fu s.Rise 5000 q10 x1 h1, z5p20 s q10, ⟨MemAt.same _ (encL_pf cInt_pf _), trivial⟩, selfB_self 9 _ rfl _, h2, growth_yearsAreDefined_fc fu s.Thick 300 q11 x3 h3, z5p21 s q11, ⟨MemAt.same _ (encL_pf cInt_pf _), trivial⟩, selfB_self 9 _ rfl _, h4, growth_within_fc s.Top 1 40000, h5, growth_within_fc s.Stout 1 3000, h6, growth_within_fc s.Shade 0 99, h7, trivial⟩ (by kernel_rfl)
            · skip
              have e : growth_speciesIsDefined fu s = some false := by unfold growth_speciesIsDefined; rw [h1, Option.bind_some, h2, cond_true, h3, Option.bind_some, h4, cond_true, h5, cond_true, h6, cond_false]; first | done | rfl
              rw [e] at hh
              have hr := Option.some.inj hh
              rw [← hr]
              exact FSat.done pfT (fuel := 10) (hs := (hR 4 ((z5i0 s q10 x1) :: hE :: hE :: hE :: (z5i1 s q11 x3) :: (hR 4 ((hB (hC (.bool (growth_within s.Top 1 40000))) true) :: (hR 4 ((hB (hC (.bool (growth_within s.Stout 1 3000))) false) :: (hR 10 [])))))))) (ss := []) (R := [(z5r4 s q10 x1), (z5r5 s q10), (z5r6 s), VR (Ren.emb [(10, 10, 0)]) (.bool (x1)) (.bool (x1)), (x1) = true, (z5r7 s q11 x3), (z5r8 s q11), (z5r9 s), VR (Ren.emb [(10, 11, 0)]) (.bool (x3)) (.bool (x3)), (x3) = true, (z5r10 s), (growth_within s.Top 1 40000) = true, (z5r11 s), (growth_within s.Stout 1 3000) = false]) (by kernel_rfl) ⟨growth_yearsAreDefined_fc fu s.Rise 5000 q10 x1 h1, z5p20 s q10, ⟨MemAt.same _ (encL_pf cInt_pf _), trivial⟩, selfB_self 9 _ rfl _, h2, growth_yearsAreDefined_fc fu s.Thick 300 q11 x3 h3, z5p21 s q11, ⟨MemAt.same _ (encL_pf cInt_pf _), trivial⟩, selfB_self 9 _ rfl _, h4, growth_within_fc s.Top 1 40000, h5, growth_within_fc s.Stout 1 3000, h6, trivial⟩ (by kernel_rfl)
          · skip
            have e : growth_speciesIsDefined fu s = some false := by unfold growth_speciesIsDefined; rw [h1, Option.bind_some, h2, cond_true, h3, Option.bind_some, h4, cond_true, h5, cond_false]; first | done | rfl
            rw [e] at hh
            have hr := Option.some.inj hh
            rw [← hr]
            exact FSat.done pfT (fuel := 10) (hs := (hR 4 ((z5i0 s q10 x1) :: hE :: hE :: hE :: (z5i1 s q11 x3) :: (hR 4 ((hB (hC (.bool (growth_within s.Top 1 40000))) false) :: (hR 12 [])))))) (ss := []) (R := [(z5r4 s q10 x1), (z5r5 s q10), (z5r6 s), VR (Ren.emb [(10, 10, 0)]) (.bool (x1)) (.bool (x1)), (x1) = true, (z5r7 s q11 x3), (z5r8 s q11), (z5r9 s), VR (Ren.emb [(10, 11, 0)]) (.bool (x3)) (.bool (x3)), (x3) = true, (z5r10 s), (growth_within s.Top 1 40000) = false]) (by kernel_rfl) ⟨growth_yearsAreDefined_fc fu s.Rise 5000 q10 x1 h1, z5p20 s q10, ⟨MemAt.same _ (encL_pf cInt_pf _), trivial⟩, selfB_self 9 _ rfl _, h2, growth_yearsAreDefined_fc fu s.Thick 300 q11 x3 h3, z5p21 s q11, ⟨MemAt.same _ (encL_pf cInt_pf _), trivial⟩, selfB_self 9 _ rfl _, h4, growth_within_fc s.Top 1 40000, h5, trivial⟩ (by kernel_rfl)
        · skip
          have e : growth_speciesIsDefined fu s = some false := by unfold growth_speciesIsDefined; rw [h1, Option.bind_some, h2, cond_true, h3, Option.bind_some, h4, cond_false]; first | done | rfl
          rw [e] at hh
          have hr := Option.some.inj hh
          rw [← hr]
          exact FSat.done pfT (fuel := 10) (hs := (hR 4 ((z5i0 s q10 x1) :: hE :: hE :: hE :: (z5i25 s q11 x3) :: (hR 14 [])))) (ss := []) (R := [(z5r4 s q10 x1), (z5r5 s q10), (z5r6 s), VR (Ren.emb [(10, 10, 0)]) (.bool (x1)) (.bool (x1)), (x1) = true, (z5r7 s q11 x3), (z5r8 s q11), (z5r9 s), VR (Ren.emb [(10, 11, 0)]) (.bool (x3)) (.bool (x3)), (x3) = false]) (by kernel_rfl) ⟨growth_yearsAreDefined_fc fu s.Rise 5000 q10 x1 h1, z5p20 s q10, ⟨MemAt.same _ (encL_pf cInt_pf _), trivial⟩, selfB_self 9 _ rfl _, h2, growth_yearsAreDefined_fc fu s.Thick 300 q11 x3 h3, z5p21 s q11, ⟨MemAt.same _ (encL_pf cInt_pf _), trivial⟩, selfB_self 9 _ rfl _, h4, trivial⟩ (by kernel_rfl)
    · skip
      have e : growth_speciesIsDefined fu s = some false := by unfold growth_speciesIsDefined; rw [h1, Option.bind_some, h2, cond_false]; first | done | rfl
      rw [e] at hh
      have hr := Option.some.inj hh
      rw [← hr]
      exact FSat.done pfT (fuel := 10) (hs := (hR 4 ((z5i26 s q10 x1) :: (hR 15 [])))) (ss := []) (R := [(z5r4 s q10 x1), (z5r5 s q10), (z5r6 s), VR (Ren.emb [(10, 10, 0)]) (.bool (x1)) (.bool (x1)), (x1) = false]) (by kernel_rfl) ⟨growth_yearsAreDefined_fc fu s.Rise 5000 q10 x1 h1, z5p20 s q10, ⟨MemAt.same _ (encL_pf cInt_pf _), trivial⟩, selfB_self 9 _ rfl _, h2, trivial⟩ (by kernel_rfl)

/- greenhew/growth.standIsDefined -/
abbrev z15r0 (x_0 : XStand) : Prop := FC P GG 94 (A_growth_within x_0.Age 0 100000) [] (.bool (growth_within x_0.Age 0 100000))
abbrev z15r1 (x_0 : XStand) : Prop := FC P GG 94 (A_growth_within x_0.Shoots 0 300) [] (.bool (growth_within x_0.Shoots 0 300))
abbrev z15r2 (x_0 : XStand) : Prop := FC P GG 94 (A_growth_within x_0.Height 0 40000) [] (.bool (growth_within x_0.Height 0 40000))
abbrev z15r3 (x_0 : XStand) : Prop := FC P GG 94 (A_growth_within x_0.Girth 0 3000) [] (.bool (growth_within x_0.Girth 0 3000))
abbrev A_growth_standIsDefined (x_0 : XStand) : List Value := [.agg #[I (x_0.Age), I (x_0.Shoots), I (x_0.Height), I (x_0.Girth)]]
noncomputable def growth_standIsDefined (x_0 : XStand) : Bool :=
  bif growth_within x_0.Age 0 100000 then (bif growth_within x_0.Shoots 0 300 then (bif growth_within x_0.Height 0 40000 then growth_within x_0.Girth 0 3000
      else false)
    else false)
  else false
theorem growth_standIsDefined_fc (x_0 : XStand) : FC P GG 58 (A_growth_standIsDefined x_0) [] (.bool (growth_standIsDefined x_0)) := by
  refine FC.of_fsat 21 100 Tryd.func58 (by kernel_rfl) (by kernel_rfl) (by kernel_rfl) trivial ?_
  rcases Bool.eq_false_or_eq_true (growth_within x_0.Age 0 100000) with h1 | h1
  · skip
    rcases Bool.eq_false_or_eq_true (growth_within x_0.Shoots 0 300) with h2 | h2
    · skip
      rcases Bool.eq_false_or_eq_true (growth_within x_0.Height 0 40000) with h3 | h3
      · skip
        have e : growth_standIsDefined x_0 = growth_within x_0.Girth 0 3000 := by unfold growth_standIsDefined; rw [h1, cond_true, h2, cond_true, h3, cond_true]; first | done | rfl
        rw [e]
        exact FSat.done pfT (fuel := 10) (hs := (hR 4 ((hB (hC (.bool (growth_within x_0.Age 0 100000))) true) :: hE :: hE :: hE :: (hB (hC (.bool (growth_within x_0.Shoots 0 300))) true) :: (hR 4 ((hB (hC (.bool (growth_within x_0.Height 0 40000))) true) :: (hR 4 [(hC (.bool (growth_within x_0.Girth 0 3000))), hE, hE])))))) (ss := []) (R := [(z15r0 x_0), (growth_within x_0.Age 0 100000) = true, (z15r1 x_0), (growth_within x_0.Shoots 0 300) = true, (z15r2 x_0), (growth_within x_0.Height 0 40000) = true, (z15r3 x_0)]) (by kernel_rfl) ⟨growth_within_fc x_0.Age 0 100000, h1, growth_within_fc x_0.Shoots 0 300, h2, growth_within_fc x_0.Height 0 40000, h3, growth_within_fc x_0.Girth 0 3000, trivial⟩ (by kernel_rfl)
      · skip
        have e : growth_standIsDefined x_0 = false := by unfold growth_standIsDefined; rw [h1, cond_true, h2, cond_true, h3, cond_false]; first | done | rfl
        rw [e]
        exact FSat.done pfT (fuel := 10) (hs := (hR 4 ((hB (hC (.bool (growth_within x_0.Age 0 100000))) true) :: hE :: hE :: hE :: (hB (hC (.bool (growth_within x_0.Shoots 0 300))) true) :: (hR 4 ((hB (hC (.bool (growth_within x_0.Height 0 40000))) false) :: (hR 4 [])))))) (ss := []) (R := [(z15r0 x_0), (growth_within x_0.Age 0 100000) = true, (z15r1 x_0), (growth_within x_0.Shoots 0 300) = true, (z15r2 x_0), (growth_within x_0.Height 0 40000) = false]) (by kernel_rfl) ⟨growth_within_fc x_0.Age 0 100000, h1, growth_within_fc x_0.Shoots 0 300, h2, growth_within_fc x_0.Height 0 40000, h3, trivial⟩ (by kernel_rfl)
    · skip
      have e : growth_standIsDefined x_0 = false := by unfold growth_standIsDefined; rw [h1, cond_true, h2, cond_false]; first | done | rfl
      rw [e]
      exact FSat.done pfT (fuel := 10) (hs := (hR 4 ((hB (hC (.bool (growth_within x_0.Age 0 100000))) true) :: hE :: hE :: hE :: (hB (hC (.bool (growth_within x_0.Shoots 0 300))) false) :: (hR 6 [])))) (ss := []) (R := [(z15r0 x_0), (growth_within x_0.Age 0 100000) = true, (z15r1 x_0), (growth_within x_0.Shoots 0 300) = false]) (by kernel_rfl) ⟨growth_within_fc x_0.Age 0 100000, h1, growth_within_fc x_0.Shoots 0 300, h2, trivial⟩ (by kernel_rfl)
  · skip
    have e : growth_standIsDefined x_0 = false := by unfold growth_standIsDefined; rw [h1, cond_false]; first | done | rfl
    rw [e]
    exact FSat.done pfT (fuel := 10) (hs := (hR 4 ((hB (hC (.bool (growth_within x_0.Age 0 100000))) false) :: (hR 7 [])))) (ss := []) (R := [(z15r0 x_0), (growth_within x_0.Age 0 100000) = false]) (by kernel_rfl) ⟨growth_within_fc x_0.Age 0 100000, h1, trivial⟩ (by kernel_rfl)

/- greenhew/growth.weatherIsDefined -/
abbrev z16r0 (w : XWeather) : Prop := FC P GG 94 (A_growth_within w.Light 0 100) [] (.bool (growth_within w.Light 0 100))
abbrev z16r1 (w : XWeather) : Prop := FC P GG 94 (A_growth_within w.Browse 0 100) [] (.bool (growth_within w.Browse 0 100))
abbrev z16r2 (w : XWeather) : Prop := FC P GG 94 (A_growth_within w.Mild 0 200) [] (.bool (growth_within w.Mild 0 200))
abbrev A_growth_weatherIsDefined (w : XWeather) : List Value := [.agg #[I (w.Light), I (w.Browse), I (w.Mild)]]
noncomputable def growth_weatherIsDefined (w : XWeather) : Bool :=
  bif growth_within w.Light 0 100 then (bif growth_within w.Browse 0 100 then growth_within w.Mild 0 200
    else false)
  else false
theorem growth_weatherIsDefined_fc (w : XWeather) : FC P GG 59 (A_growth_weatherIsDefined w) [] (.bool (growth_weatherIsDefined w)) := by
  refine FC.of_fsat 16 100 Tryd.func59 (by kernel_rfl) (by kernel_rfl) (by kernel_rfl) trivial ?_
  rcases Bool.eq_false_or_eq_true (growth_within w.Light 0 100) with h1 | h1
  · skip
    rcases Bool.eq_false_or_eq_true (growth_within w.Browse 0 100) with h2 | h2
    · skip
      have e : growth_weatherIsDefined w = growth_within w.Mild 0 200 := by unfold growth_weatherIsDefined; rw [h1, cond_true, h2, cond_true]; first | done | rfl
      rw [e]
      exact FSat.done pfT (fuel := 10) (hs := (hR 4 ((hB (hC (.bool (growth_within w.Light 0 100))) true) :: hE :: hE :: hE :: (hB (hC (.bool (growth_within w.Browse 0 100))) true) :: (hR 4 [(hC (.bool (growth_within w.Mild 0 200))), hE, hE])))) (ss := []) (R := [(z16r0 w), (growth_within w.Light 0 100) = true, (z16r1 w), (growth_within w.Browse 0 100) = true, (z16r2 w)]) (by kernel_rfl) ⟨growth_within_fc w.Light 0 100, h1, growth_within_fc w.Browse 0 100, h2, growth_within_fc w.Mild 0 200, trivial⟩ (by kernel_rfl)
    · skip
      have e : growth_weatherIsDefined w = false := by unfold growth_weatherIsDefined; rw [h1, cond_true, h2, cond_false]; first | done | rfl
      rw [e]
      exact FSat.done pfT (fuel := 10) (hs := (hR 4 ((hB (hC (.bool (growth_within w.Light 0 100))) true) :: hE :: hE :: hE :: (hB (hC (.bool (growth_within w.Browse 0 100))) false) :: (hR 4 [])))) (ss := []) (R := [(z16r0 w), (growth_within w.Light 0 100) = true, (z16r1 w), (growth_within w.Browse 0 100) = false]) (by kernel_rfl) ⟨growth_within_fc w.Light 0 100, h1, growth_within_fc w.Browse 0 100, h2, trivial⟩ (by kernel_rfl)
  · skip
    have e : growth_weatherIsDefined w = false := by unfold growth_weatherIsDefined; rw [h1, cond_false]; first | done | rfl
    rw [e]
    exact FSat.done pfT (fuel := 10) (hs := (hR 4 ((hB (hC (.bool (growth_within w.Light 0 100))) false) :: (hR 5 [])))) (ss := []) (R := [(z16r0 w), (growth_within w.Light 0 100) = false]) (by kernel_rfl) ⟨growth_within_fc w.Light 0 100, h1, trivial⟩ (by kernel_rfl)

structure Xgrower where
  Species : XSpecies

def zXgrower : Xgrower := ⟨zXSpecies⟩

/- greenhew/growth.number -/
abbrev A_growth_number (k : Int) : List Value := [.pointer (some ⟨10, 0, none⟩), I (k)]
abbrev K_growth_number (x_0 : XStand) : List (Nat × List Value) := [(10, [I (x_0.Age), I (x_0.Shoots), I (x_0.Height), I (x_0.Girth)])]
theorem growth_number_fc_1 (x_0 : XStand) (k : Int) (h1 : (k == 1) = true) : FC P GG 100 (A_growth_number k) (K_growth_number x_0) (.pointer (some ⟨10, 1, none⟩)) := by
  refine FC.of_fsat 19 100 Tryd.func100 (by kernel_rfl) (by kernel_rfl) (by kernel_rfl) ⟨PinL.lit (by kernel_rfl), trivial⟩ ?_
  exact FSat.done pfT (fuel := 16) (hs := (hE :: hE :: hT :: (hR 5 []))) (ss := []) (R := [(k == 1) = true]) (by kernel_rfl) ⟨h1, trivial⟩ (by kernel_rfl)
theorem growth_number_fc_2 (x_0 : XStand) (k : Int) (h1 : (k == 1) = false) (h2 : (k == 2) = true) : FC P GG 100 (A_growth_number k) (K_growth_number x_0) (.pointer (some ⟨10, 2, none⟩)) := by
  refine FC.of_fsat 19 100 Tryd.func100 (by kernel_rfl) (by kernel_rfl) (by kernel_rfl) ⟨PinL.lit (by kernel_rfl), trivial⟩ ?_
  exact FSat.done pfT (fuel := 19) (hs := (hE :: hE :: hF :: hE :: hT :: (hR 5 []))) (ss := []) (R := [(k == 1) = false, (k == 2) = true]) (by kernel_rfl) ⟨h1, h2, trivial⟩ (by kernel_rfl)
theorem growth_number_fc_3 (x_0 : XStand) (k : Int) (h1 : (k == 1) = false) (h2 : (k == 2) = false) : FC P GG 100 (A_growth_number k) (K_growth_number x_0) (.pointer (some ⟨10, 3, none⟩)) := by
  refine FC.of_fsat 19 100 Tryd.func100 (by kernel_rfl) (by kernel_rfl) (by kernel_rfl) ⟨PinL.lit (by kernel_rfl), trivial⟩ ?_
  exact FSat.done pfT (fuel := 19) (hs := (hE :: hE :: hF :: hE :: hF :: (hR 5 []))) (ss := []) (R := [(k == 1) = false, (k == 2) = false]) (by kernel_rfl) ⟨h1, h2, trivial⟩ (by kernel_rfl)

/- greenhew/growth.atAge[int] -/
noncomputable abbrev z21i0 (table : List Int) (age : Int) : Hint := (hL (I ((at_ 0 table (imin age (W (((table.length : Nat) : Int) - 1)))))))
abbrev z21r1 (table : List Int) (age : Int) : Prop := 0 ≤ (imin age (W (((table.length : Nat) : Int) - 1))) ∧ (imin age (W (((table.length : Nat) : Int) - 1))) < ((table.length : Nat) : Int)
abbrev z21r2 (table : List Int) (age : Int) : Prop := RowLd P 3 (encL cInt table) (0 + (imin age (W (((table.length : Nat) : Int) - 1))).toNat * 1) (I ((at_ 0 table (imin age (W (((table.length : Nat) : Int) - 1))))))
abbrev A_growth_atAge (table : List Int) (age : Int) (q10 : Nat) : List Value := [.slice (some ⟨10, 0, none⟩) (table.length) (q10), I (age)]
abbrev K_growth_atAge (table : List Int) : List (Nat × List Value) := [(10, encL cInt table)]
noncomputable def growth_atAge (table : List Int) (age : Int) : Option Int :=
  bif decide (0 ≤ (imin age (W (((table.length : Nat) : Int) - 1))) ∧ (imin age (W (((table.length : Nat) : Int) - 1))) < ((table.length : Nat) : Int)) then some (at_ 0 table (imin age (W (((table.length : Nat) : Int) - 1)))) else none
theorem growth_atAge_fc (table : List Int) (age : Int) (q10 : Nat) (r : Int) (hh : growth_atAge table age = some r) : FC P GG 122 (A_growth_atAge table age q10) (K_growth_atAge table) (I (r)) := by
  refine FC.of_fsat 13 100 Tryd.func122 (by kernel_rfl) (by kernel_rfl) (by kernel_rfl) ⟨PinL.pf (encL_pf cInt_pf _), trivial⟩ ?_
  rcases Bool.eq_false_or_eq_true (decide (0 ≤ (imin age (W (((table.length : Nat) : Int) - 1))) ∧ (imin age (W (((table.length : Nat) : Int) - 1))) < ((table.length : Nat) : Int))) with h1 | h1
  rotate_left
  · skip
    have e : growth_atAge table age = none := by unfold growth_atAge; rw [h1, cond_false]; first | done | rfl
    rw [e] at hh; cases hh
  · skip
    have e : growth_atAge table age = some (at_ 0 table (imin age (W (((table.length : Nat) : Int) - 1)))) := by unfold growth_atAge; rw [h1, cond_true]; first | done | rfl
    rw [e] at hh
    have hr := Option.some.inj hh
    rw [← hr]
    exact FSat.done pfT (fuel := 10) (hs := (hR 7 [hX, (z21i0 table age), hE])) (ss := []) (R := [(z21r1 table age), (z21r2 table age)]) (by kernel_rfl) ⟨of_decide_eq_true h1, RowLd.part cInt_len _ rfl rfl _ _ (of_decide_eq_true h1) 0 _ rfl (by decide), trivial⟩ (by kernel_rfl)

/- (greenhew/growth.grower).inWeather -/
abbrev A_growth_grower_inWeather (usual : Int) (w : XWeather) : List Value := [.pointer (some ⟨10, 0, none⟩), I (usual), .agg #[I (w.Light), I (w.Browse), I (w.Mild)]]
abbrev K_growth_grower_inWeather (g : Xgrower) (q11 : Nat) (q12 : Nat) (q13 : Nat) (q14 : Nat) : List (Nat × List Value) := [(11, encL cInt g.Species.Rise), (12, encL cInt g.Species.Thick), (13, encL cXRung g.Species.Ladder), (14, encL cXSpan g.Species.Sprouts), (10, [.slice (some ⟨11, 0, none⟩) (g.Species.Rise.length) (q11), .slice (some ⟨12, 0, none⟩) (g.Species.Thick.length) (q12), I (g.Species.Top), I (g.Species.Stout), I (g.Species.Shade), I (g.Species.Reach), .slice (some ⟨13, 0, none⟩) (g.Species.Ladder.length) (q13), .slice (some ⟨14, 0, none⟩) (g.Species.Sprouts.length) (q14)])]
noncomputable def growth_grower_inWeather (g : Xgrower) (usual : Int) (w : XWeather) : Option Int :=
  bif decide ((W (100 * (W (100 - g.Species.Shade)))) ≠ 0) then some (W ((W ((W (usual * (imax 0 (W (w.Light - g.Species.Shade))))) * w.Mild)).tdiv (W (100 * (W (100 - g.Species.Shade)))))) else none
theorem growth_grower_inWeather_fc (g : Xgrower) (usual : Int) (w : XWeather) (q11 q12 q13 q14 : Nat) (r : Int) (hh : growth_grower_inWeather g usual w = some r) : FC P GG 121 (A_growth_grower_inWeather usual w) (K_growth_grower_inWeather g q11 q12 q13 q14) (I (r)) := by
  refine FC.of_fsat 31 100 Tryd.func121 (by kernel_rfl) (by kernel_rfl) (by kernel_rfl) ⟨PinL.pf (encL_pf cInt_pf _), PinL.pf (encL_pf cInt_pf _), PinL.pf (encL_pf cXRung_pf _), PinL.pf (encL_pf cXSpan_pf _), PinL.lit (by kernel_rfl), trivial⟩ ?_
  rcases Bool.eq_false_or_eq_true (decide ((W (100 * (W (100 - g.Species.Shade)))) ≠ 0)) with h1 | h1
  rotate_left
  · skip
    have e : growth_grower_inWeather g usual w = none := by unfold growth_grower_inWeather; rw [h1, cond_false]; first | done | rfl
    rw [e] at hh; cases hh
  · skip
    have e : growth_grower_inWeather g usual w = some (W ((W ((W (usual * (imax 0 (W (w.Light - g.Species.Shade))))) * w.Mild)).tdiv (W (100 * (W (100 - g.Species.Shade)))))) := by unfold growth_grower_inWeather; rw [h1, cond_true]; first | done | rfl
    rw [e] at hh
    have hr := Option.some.inj hh
    rw [← hr]
    exact FSat.done pfT (fuel := 12) (hs := (hR 25 [hD, hE])) (ss := []) (R := [(W (100 * (W (100 - g.Species.Shade)))) ≠ 0]) (by kernel_rfl) ⟨of_decide_eq_true h1, trivial⟩ (by kernel_rfl)

/- (greenhew/growth.grower).height -/
noncomputable abbrev z20i0 (g : Xgrower) (x_1 : XStand) (q11 : Nat) (x1 : Int) : Hint := (hM (I (x1)) (I (x1)) (A_growth_atAge g.Species.Rise x_1.Age q11) (K_growth_atAge g.Species.Rise) [(10, 11, 0)])
noncomputable abbrev z20i1 (g : Xgrower) (w : XWeather) (q11 : Nat) (q12 : Nat) (q13 : Nat) (q14 : Nat) (x1 : Int) (x2 : Int) : Hint := (hM (I (x2)) (I (x2)) (A_growth_grower_inWeather x1 w) (K_growth_grower_inWeather g q11 q12 q13 q14) [(11, 11, 0), (12, 12, 0), (13, 13, 0), (14, 14, 0), (10, 10, 0)])
abbrev z20r2 (g : Xgrower) (x_1 : XStand) (q11 : Nat) (x1 : Int) : Prop := FC P GG 122 (A_growth_atAge g.Species.Rise x_1.Age q11) (K_growth_atAge g.Species.Rise) (I (x1))
abbrev z20r3 (g : Xgrower) (x_1 : XStand) (q11 : Nat) : Prop := VRs (Ren.emb [(10, 11, 0)]) (A_growth_atAge g.Species.Rise x_1.Age q11) [.slice (some ⟨11, 0, none⟩) (g.Species.Rise.length) (q11), I (x_1.Age)]
abbrev z20r4 (g : Xgrower) : Prop := MemAt (Ren.emb [(10, 11, 0)]) (encL cInt g.Species.Rise) 0 (encL cInt g.Species.Rise) ∧ True
abbrev z20r5 (g : Xgrower) (w : XWeather) (q11 : Nat) (q12 : Nat) (q13 : Nat) (q14 : Nat) (x1 : Int) (x2 : Int) : Prop := FC P GG 121 (A_growth_grower_inWeather x1 w) (K_growth_grower_inWeather g q11 q12 q13 q14) (I (x2))
abbrev z20r6 (w : XWeather) (x1 : Int) : Prop := VRs (Ren.emb [(11, 11, 0), (12, 12, 0), (13, 13, 0), (14, 14, 0), (10, 10, 0)]) (A_growth_grower_inWeather x1 w) [.pointer (some ⟨10, 0, none⟩), I (x1), .agg #[I (w.Light), I (w.Browse), I (w.Mild)]]
abbrev z20r7 (g : Xgrower) (q11 : Nat) (q12 : Nat) (q13 : Nat) (q14 : Nat) : Prop := MemAt (Ren.emb [(11, 11, 0), (12, 12, 0), (13, 13, 0), (14, 14, 0), (10, 10, 0)]) (encL cInt g.Species.Rise) 0 (encL cInt g.Species.Rise) ∧ MemAt (Ren.emb [(11, 11, 0), (12, 12, 0), (13, 13, 0), (14, 14, 0), (10, 10, 0)]) (encL cInt g.Species.Thick) 0 (encL cInt g.Species.Thick) ∧ MemAt (Ren.emb [(11, 11, 0), (12, 12, 0), (13, 13, 0), (14, 14, 0), (10, 10, 0)]) (encL cXRung g.Species.Ladder) 0 (encL cXRung g.Species.Ladder) ∧ MemAt (Ren.emb [(11, 11, 0), (12, 12, 0), (13, 13, 0), (14, 14, 0), (10, 10, 0)]) (encL cXSpan g.Species.Sprouts) 0 (encL cXSpan g.Species.Sprouts) ∧ MemAt (Ren.emb [(11, 11, 0), (12, 12, 0), (13, 13, 0), (14, 14, 0), (10, 10, 0)]) [.slice (some ⟨11, 0, none⟩) (g.Species.Rise.length) (q11), .slice (some ⟨12, 0, none⟩) (g.Species.Thick.length) (q12), I (g.Species.Top), I (g.Species.Stout), I (g.Species.Shade), I (g.Species.Reach), .slice (some ⟨13, 0, none⟩) (g.Species.Ladder.length) (q13), .slice (some ⟨14, 0, none⟩) (g.Species.Sprouts.length) (q14)] 0 [.slice (some ⟨11, 0, none⟩) (g.Species.Rise.length) (q11), .slice (some ⟨12, 0, none⟩) (g.Species.Thick.length) (q12), I (g.Species.Top), I (g.Species.Stout), I (g.Species.Shade), I (g.Species.Reach), .slice (some ⟨13, 0, none⟩) (g.Species.Ladder.length) (q13), .slice (some ⟨14, 0, none⟩) (g.Species.Sprouts.length) (q14)] ∧ True
abbrev z20r8 (x2 : Int) : Prop := VR (Ren.emb [(11, 11, 0), (12, 12, 0), (13, 13, 0), (14, 14, 0), (10, 10, 0)]) (I (x2)) (I (x2))
theorem z20p9 (g : Xgrower) (x_1 : XStand) (q11 : Nat) : (z20r3 g x_1 q11) := (.cons _ _ _ _ (.slc 10 0 _ _ _ ⟨11, 0, 0, 0⟩ rfl (.inl rfl)) (.cons _ _ _ _ (VR.of_pf rfl) .nil))
theorem z20p10 (w : XWeather) (x1 : Int) : (z20r6 w x1) := (.cons _ _ _ _ (.ptr 10 0 ⟨10, 0, 0, 0⟩ rfl) (.cons _ _ _ _ (VR.of_pf rfl) (.cons _ _ _ _ (VR.of_pf rfl) .nil)))
theorem z20p11 (g : Xgrower) (q11 : Nat) (q12 : Nat) (q13 : Nat) (q14 : Nat) : (z20r7 g q11 q12 q13 q14) := ⟨MemAt.same _ (encL_pf cInt_pf _), MemAt.same _ (encL_pf cInt_pf _), MemAt.same _ (encL_pf cXRung_pf _), MemAt.same _ (encL_pf cXSpan_pf _), MemAt.of (.cons _ _ _ _ (.slc 11 0 _ _ _ ⟨11, 0, 0, 0⟩ rfl (.inl rfl)) (.cons _ _ _ _ (.slc 12 0 _ _ _ ⟨12, 0, 0, 0⟩ rfl (.inl rfl)) (.cons _ _ _ _ (VR.of_pf rfl) (.cons _ _ _ _ (VR.of_pf rfl) (.cons _ _ _ _ (VR.of_pf rfl) (.cons _ _ _ _ (VR.of_pf rfl) (.cons _ _ _ _ (.slc 13 0 _ _ _ ⟨13, 0, 0, 0⟩ rfl (.inl rfl)) (.cons _ _ _ _ (.slc 14 0 _ _ _ ⟨14, 0, 0, 0⟩ rfl (.inl rfl)) .nil)))))))), trivial⟩
abbrev A_growth_grower_height (x_1 : XStand) (w : XWeather) : List Value := [.pointer (some ⟨10, 0, none⟩), .agg #[I (x_1.Age), I (x_1.Shoots), I (x_1.Height), I (x_1.Girth)], .agg #[I (w.Light), I (w.Browse), I (w.Mild)]]
abbrev K_growth_grower_height (g : Xgrower) (q11 : Nat) (q12 : Nat) (q13 : Nat) (q14 : Nat) : List (Nat × List Value) := [(11, encL cInt g.Species.Rise), (12, encL cInt g.Species.Thick), (13, encL cXRung g.Species.Ladder), (14, encL cXSpan g.Species.Sprouts), (10, [.slice (some ⟨11, 0, none⟩) (g.Species.Rise.length) (q11), .slice (some ⟨12, 0, none⟩) (g.Species.Thick.length) (q12), I (g.Species.Top), I (g.Species.Stout), I (g.Species.Shade), I (g.Species.Reach), .slice (some ⟨13, 0, none⟩) (g.Species.Ladder.length) (q13), .slice (some ⟨14, 0, none⟩) (g.Species.Sprouts.length) (q14)])]
noncomputable def growth_grower_height (g : Xgrower) (x_1 : XStand) (w : XWeather) : Option Int :=
  Option.bind (growth_atAge g.Species.Rise x_1.Age) fun x1 =>
  Option.bind (growth_grower_inWeather g x1 w) fun x2 =>
  bif decide (x_1.Height < g.Species.Reach) then some (imin (W (x_1.Height + (W ((W (x2 * (W (100 - w.Browse)))).tdiv 100)))) g.Species.Top)
  else some (imin (W (x_1.Height + x2)) g.Species.Top)
theorem growth_grower_height_fc (g : Xgrower) (x_1 : XStand) (w : XWeather) (q11 q12 q13 q14 : Nat) (r : Int) (hh : growth_grower_height g x_1 w = some r) : FC P GG 98 (A_growth_grower_height x_1 w) (K_growth_grower_height g q11 q12 q13 q14) (I (r)) := by
  refine FC.of_fsat 43 100 Tryd.func98 (by kernel_rfl) (by kernel_rfl) (by kernel_rfl) ⟨PinL.pf (encL_pf cInt_pf _), PinL.pf (encL_pf cInt_pf _), PinL.pf (encL_pf cXRung_pf _), PinL.pf (encL_pf cXSpan_pf _), PinL.lit (by kernel_rfl), trivial⟩ ?_
  cases h1 : growth_atAge g.Species.Rise x_1.Age with
  | none =>
    have e : growth_grower_height g x_1 w = none := by unfold growth_grower_height; rw [h1, Option.bind_none]; first | done | rfl
    rw [e] at hh; cases hh
  | some x1 =>
    cases h2 : growth_grower_inWeather g x1 w with
    | none =>
      have e : growth_grower_height g x_1 w = none := by unfold growth_grower_height; rw [h1, Option.bind_some, h2, Option.bind_none]; first | done | rfl
      rw [e] at hh; cases hh
    | some x2 =>
      rcases Bool.eq_false_or_eq_true (decide (x_1.Height < g.Species.Reach)) with h3 | h3
      · skip
        have e : growth_grower_height g x_1 w = some (imin (W (x_1.Height + (W ((W (x2 * (W (100 - w.Browse)))).tdiv 100)))) g.Species.Top) := by unfold growth_grower_height; rw [h1, Option.bind_some, h2, Option.bind_some, h3, cond_true]; first | done | rfl
        rw [e] at hh
        have hr := Option.some.inj hh
        rw [← hr]
        exact FSat.done pfT (fuel := 17) (hs := (hR 11 ((z20i0 g x_1 q11 x1) :: hE :: (z20i1 g w q11 q12 q13 q14 x1 x2) :: (hR 8 (hT :: (hR 18 [])))))) (ss := []) (R := [(z20r2 g x_1 q11 x1), (z20r3 g x_1 q11), (z20r4 g), VR (Ren.emb [(10, 11, 0)]) (I (x1)) (I (x1)), (z20r5 g w q11 q12 q13 q14 x1 x2), (z20r6 w x1), (z20r7 g q11 q12 q13 q14), (z20r8 x2), (decide (x_1.Height < g.Species.Reach)) = true]) (by kernel_rfl) ⟨growth_atAge_fc g.Species.Rise x_1.Age q11 x1 h1, z20p9 g x_1 q11, ⟨MemAt.same _ (encL_pf cInt_pf _), trivial⟩, selfB_self 9 _ rfl _, growth_grower_inWeather_fc g x1 w q11 q12 q13 q14 x2 h2, z20p10 w x1, z20p11 g q11 q12 q13 q14, selfB_self 9 _ rfl _, h3, trivial⟩ (by kernel_rfl)
      · skip
        have e : growth_grower_height g x_1 w = some (imin (W (x_1.Height + x2)) g.Species.Top) := by unfold growth_grower_height; rw [h1, Option.bind_some, h2, Option.bind_some, h3, cond_false]; first | done | rfl
        rw [e] at hh
        have hr := Option.some.inj hh
        rw [← hr]
        exact FSat.done pfT (fuel := 17) (hs := (hR 11 ((z20i0 g x_1 q11 x1) :: hE :: (z20i1 g w q11 q12 q13 q14 x1 x2) :: (hR 8 (hF :: (hR 11 [])))))) (ss := []) (R := [(z20r2 g x_1 q11 x1), (z20r3 g x_1 q11), (z20r4 g), VR (Ren.emb [(10, 11, 0)]) (I (x1)) (I (x1)), (z20r5 g w q11 q12 q13 q14 x1 x2), (z20r6 w x1), (z20r7 g q11 q12 q13 q14), (z20r8 x2), (decide (x_1.Height < g.Species.Reach)) = false]) (by kernel_rfl) ⟨growth_atAge_fc g.Species.Rise x_1.Age q11 x1 h1, z20p9 g x_1 q11, ⟨MemAt.same _ (encL_pf cInt_pf _), trivial⟩, selfB_self 9 _ rfl _, growth_grower_inWeather_fc g x1 w q11 q12 q13 q14 x2 h2, z20p10 w x1, z20p11 g q11 q12 q13 q14, selfB_self 9 _ rfl _, h3, trivial⟩ (by kernel_rfl)

/- (greenhew/growth.grower).shoots -/
noncomputable abbrev z19i0 (g : Xgrower) (v23 : Int) : Hint := (hL (.agg #[I ((at_ zXRung g.Species.Ladder v23).Height), I ((at_ zXRung g.Species.Ladder v23).Shoots)]))
abbrev z19r1 (g : Xgrower) (v23 : Int) : Prop := (decide (v23 < ((g.Species.Ladder.length : Nat) : Int))) = true
abbrev z19r2 (g : Xgrower) (v23 : Int) : Prop := RowLd P 119 (encL cXRung g.Species.Ladder) (0 + v23.toNat * 2) (.agg #[I ((at_ zXRung g.Species.Ladder v23).Height), I ((at_ zXRung g.Species.Ladder v23).Shoots)])
abbrev z19r3 (g : Xgrower) (v23 : Int) (x1 : Int) : Prop := (decide (((at_ zXRung g.Species.Ladder v23).Height) ≤ x1)) = true
abbrev z19r4 (g : Xgrower) (v23 : Int) (x1 : Int) : Prop := (decide (((at_ zXRung g.Species.Ladder v23).Height) ≤ x1)) = false
abbrev z19r5 (g : Xgrower) (v23 : Int) : Prop := (decide (v23 < ((g.Species.Ladder.length : Nat) : Int))) = false
noncomputable abbrev z19i6 (g : Xgrower) (x_1 : XStand) (w : XWeather) (q11 : Nat) (q12 : Nat) (q13 : Nat) (q14 : Nat) (x1 : Int) : Hint := (hM (I (x1)) (I (x1)) (A_growth_grower_height x_1 w) (K_growth_grower_height g q11 q12 q13 q14) [(11, 11, 0), (12, 12, 0), (13, 13, 0), (14, 14, 0), (10, 10, 0)])
abbrev z19r7 (g : Xgrower) (x_1 : XStand) (w : XWeather) (q11 : Nat) (q12 : Nat) (q13 : Nat) (q14 : Nat) (x1 : Int) : Prop := FC P GG 98 (A_growth_grower_height x_1 w) (K_growth_grower_height g q11 q12 q13 q14) (I (x1))
abbrev z19r8 (x_1 : XStand) (w : XWeather) : Prop := VRs (Ren.emb [(11, 11, 0), (12, 12, 0), (13, 13, 0), (14, 14, 0), (10, 10, 0)]) (A_growth_grower_height x_1 w) [.pointer (some ⟨10, 0, none⟩), .agg #[I (x_1.Age), I (x_1.Shoots), I (x_1.Height), I (x_1.Girth)], .agg #[I (w.Light), I (w.Browse), I (w.Mild)]]
abbrev z19r9 (g : Xgrower) (q11 : Nat) (q12 : Nat) (q13 : Nat) (q14 : Nat) : Prop := MemAt (Ren.emb [(11, 11, 0), (12, 12, 0), (13, 13, 0), (14, 14, 0), (10, 10, 0)]) (encL cInt g.Species.Rise) 0 (encL cInt g.Species.Rise) ∧ MemAt (Ren.emb [(11, 11, 0), (12, 12, 0), (13, 13, 0), (14, 14, 0), (10, 10, 0)]) (encL cInt g.Species.Thick) 0 (encL cInt g.Species.Thick) ∧ MemAt (Ren.emb [(11, 11, 0), (12, 12, 0), (13, 13, 0), (14, 14, 0), (10, 10, 0)]) (encL cXRung g.Species.Ladder) 0 (encL cXRung g.Species.Ladder) ∧ MemAt (Ren.emb [(11, 11, 0), (12, 12, 0), (13, 13, 0), (14, 14, 0), (10, 10, 0)]) (encL cXSpan g.Species.Sprouts) 0 (encL cXSpan g.Species.Sprouts) ∧ MemAt (Ren.emb [(11, 11, 0), (12, 12, 0), (13, 13, 0), (14, 14, 0), (10, 10, 0)]) [.slice (some ⟨11, 0, none⟩) (g.Species.Rise.length) (q11), .slice (some ⟨12, 0, none⟩) (g.Species.Thick.length) (q12), I (g.Species.Top), I (g.Species.Stout), I (g.Species.Shade), I (g.Species.Reach), .slice (some ⟨13, 0, none⟩) (g.Species.Ladder.length) (q13), .slice (some ⟨14, 0, none⟩) (g.Species.Sprouts.length) (q14)] 0 [.slice (some ⟨11, 0, none⟩) (g.Species.Rise.length) (q11), .slice (some ⟨12, 0, none⟩) (g.Species.Thick.length) (q12), I (g.Species.Top), I (g.Species.Stout), I (g.Species.Shade), I (g.Species.Reach), .slice (some ⟨13, 0, none⟩) (g.Species.Ladder.length) (q13), .slice (some ⟨14, 0, none⟩) (g.Species.Sprouts.length) (q14)] ∧ True
abbrev z19r10 (x1 : Int) : Prop := VR (Ren.emb [(11, 11, 0), (12, 12, 0), (13, 13, 0), (14, 14, 0), (10, 10, 0)]) (I (x1)) (I (x1))
theorem z19p11 (x_1 : XStand) (w : XWeather) : (z19r8 x_1 w) := (.cons _ _ _ _ (.ptr 10 0 ⟨10, 0, 0, 0⟩ rfl) (.cons _ _ _ _ (VR.of_pf rfl) (.cons _ _ _ _ (VR.of_pf rfl) .nil)))
theorem z19p12 (g : Xgrower) (q11 : Nat) (q12 : Nat) (q13 : Nat) (q14 : Nat) : (z19r9 g q11 q12 q13 q14) := ⟨MemAt.same _ (encL_pf cInt_pf _), MemAt.same _ (encL_pf cInt_pf _), MemAt.same _ (encL_pf cXRung_pf _), MemAt.same _ (encL_pf cXSpan_pf _), MemAt.of (.cons _ _ _ _ (.slc 11 0 _ _ _ ⟨11, 0, 0, 0⟩ rfl (.inl rfl)) (.cons _ _ _ _ (.slc 12 0 _ _ _ ⟨12, 0, 0, 0⟩ rfl (.inl rfl)) (.cons _ _ _ _ (VR.of_pf rfl) (.cons _ _ _ _ (VR.of_pf rfl) (.cons _ _ _ _ (VR.of_pf rfl) (.cons _ _ _ _ (VR.of_pf rfl) (.cons _ _ _ _ (.slc 13 0 _ _ _ ⟨13, 0, 0, 0⟩ rfl (.inl rfl)) (.cons _ _ _ _ (.slc 14 0 _ _ _ ⟨14, 0, 0, 0⟩ rfl (.inl rfl)) .nil)))))))), trivial⟩
abbrev A_growth_grower_shoots (x_1 : XStand) (w : XWeather) : List Value := [.pointer (some ⟨10, 0, none⟩), .agg #[I (x_1.Age), I (x_1.Shoots), I (x_1.Height), I (x_1.Girth)], .agg #[I (w.Light), I (w.Browse), I (w.Mild)]]
abbrev K_growth_grower_shoots (g : Xgrower) (q11 : Nat) (q12 : Nat) (q13 : Nat) (q14 : Nat) : List (Nat × List Value) := [(11, encL cInt g.Species.Rise), (12, encL cInt g.Species.Thick), (13, encL cXRung g.Species.Ladder), (14, encL cXSpan g.Species.Sprouts), (10, [.slice (some ⟨11, 0, none⟩) (g.Species.Rise.length) (q11), .slice (some ⟨12, 0, none⟩) (g.Species.Thick.length) (q12), I (g.Species.Top), I (g.Species.Stout), I (g.Species.Shade), I (g.Species.Reach), .slice (some ⟨13, 0, none⟩) (g.Species.Ladder.length) (q13), .slice (some ⟨14, 0, none⟩) (g.Species.Sprouts.length) (q14)])]
noncomputable def growth_grower_shoots_L (fu : Nat) (g : Xgrower) (x_1 : XStand) (w : XWeather) : Nat → (Int → Int → Int → Option Int)
  | 0 => (fun _ _ _ => none)
  | fk + 1 => (fun v8 v23 x1 => bif decide (v23 < ((g.Species.Ladder.length : Nat) : Int)) then (bif decide (0 ≤ v23 ∧ v23 < ((g.Species.Ladder.length : Nat) : Int)) then (bif decide (((at_ zXRung g.Species.Ladder v23).Height) ≤ x1) then growth_grower_shoots_L fu g x_1 w fk (imin v8 ((at_ zXRung g.Species.Ladder v23).Shoots)) (W (v23 + 1)) x1
        else growth_grower_shoots_L fu g x_1 w fk v8 (W (v23 + 1)) x1) else none)
      else some v8)
theorem growth_grower_shoots_L_s0 (fu : Nat) (g : Xgrower) (x_1 : XStand) (w : XWeather) (fk : Nat) (v8 : Int) (v23 : Int) (x1 : Int) : growth_grower_shoots_L fu g x_1 w (fk + 1) v8 v23 x1 = (bif decide (v23 < ((g.Species.Ladder.length : Nat) : Int)) then (bif decide (0 ≤ v23 ∧ v23 < ((g.Species.Ladder.length : Nat) : Int)) then (bif decide (((at_ zXRung g.Species.Ladder v23).Height) ≤ x1) then growth_grower_shoots_L fu g x_1 w fk (imin v8 ((at_ zXRung g.Species.Ladder v23).Shoots)) (W (v23 + 1)) x1
        else growth_grower_shoots_L fu g x_1 w fk v8 (W (v23 + 1)) x1) else none)
      else some v8) := rfl
noncomputable def growth_grower_shoots (fu : Nat) (g : Xgrower) (x_1 : XStand) (w : XWeather) : Option Int :=
  Option.bind (growth_grower_height g x_1 w) fun x1 =>
  growth_grower_shoots_L fu g x_1 w fu x_1.Shoots 0 x1
theorem growth_grower_shoots_L_fs (fu : Nat) (g : Xgrower) (x_1 : XStand) (w : XWeather) (q11 q12 q13 q14 : Nat) : ∀ fk, (∀ (v8 : Int) (v23 : Int) (x1 : Int) (r : Int), growth_grower_shoots_L fu g x_1 w fk v8 v23 x1 = some r → FSat P GG Tryd.f97 (I (r)) (ids (looses (K_growth_grower_shoots g q11 q12 q13 q14))) 37 [.lp (cA (bodyOf Tryd.f97) [1, 1, 0, 1, 0, 0]), .blk 0, .code (cA (bodyOf Tryd.f97) [1, 1, 1])] (tOf 37 [(6, I (0)), (7, I (x1)), (8, I (v8)), (21, .slice (some ⟨13, 0, none⟩) (g.Species.Ladder.length) (q13)), (22, I (((g.Species.Ladder.length : Nat) : Int))), (23, I (v23))]) (mOf 100 [(0, .rom [I (1), I (2), I (3)] .glob), (10, .rom ([.slice (some ⟨11, 0, none⟩) (g.Species.Rise.length) (q11), .slice (some ⟨12, 0, none⟩) (g.Species.Thick.length) (q12), I (g.Species.Top), I (g.Species.Stout), I (g.Species.Shade), I (g.Species.Reach), .slice (some ⟨13, 0, none⟩) (g.Species.Ladder.length) (q13), .slice (some ⟨14, 0, none⟩) (g.Species.Sprouts.length) (q14)]) .loose), (11, .rom (encL cInt g.Species.Rise) .loose), (12, .rom (encL cInt g.Species.Thick) .loose), (13, .rom (encL cXRung g.Species.Ladder) .loose), (14, .rom (encL cXSpan g.Species.Sprouts) .loose)])) := by
  intro fk
  induction fk with
  | zero => exact fun _ _ _ r hh => by cases hh
  | succ fk ih =>
    · intro v8 v23 x1 r hh
      rcases Bool.eq_false_or_eq_true (decide (v23 < ((g.Species.Ladder.length : Nat) : Int))) with h1 | h1
      · skip
        rcases Bool.eq_false_or_eq_true (decide (0 ≤ v23 ∧ v23 < ((g.Species.Ladder.length : Nat) : Int))) with h2 | h2
        rotate_left
        · skip
          have e : growth_grower_shoots_L fu g x_1 w (fk + 1) v8 v23 x1 = none := by rw [growth_grower_shoots_L_s0]; rw [h1, cond_true, h2, cond_false]; first | done | rfl
          rw [e] at hh; cases hh
        · skip
          rcases Bool.eq_false_or_eq_true (decide (((at_ zXRung g.Species.Ladder v23).Height) ≤ x1)) with h3 | h3
          · skip
            have e : growth_grower_shoots_L fu g x_1 w (fk + 1) v8 v23 x1 = growth_grower_shoots_L fu g x_1 w fk (imin v8 ((at_ zXRung g.Species.Ladder v23).Shoots)) (W (v23 + 1)) x1 := by rw [growth_grower_shoots_L_s0]; rw [h1, cond_true, h2, cond_true, h3, cond_true]; first | done | rfl
            rw [e] at hh
            have nx := ih (imin v8 ((at_ zXRung g.Species.Ladder v23).Shoots)) (W (v23 + 1)) x1 r hh
            refine FSat.stop pfT (fuel := 22) (hs := (hT :: hX :: (z19i0 g v23) :: (hR 5 (hT :: (hR 7 []))))) (ss := [.go, .st [6, 7, 8, 21, 22, 23] [0, 10, 11, 12, 13, 14]]) (R := [(z19r1 g v23), 0 ≤ v23 ∧ v23 < ((g.Species.Ladder.length : Nat) : Int), (z19r2 g v23), (z19r3 g v23 x1)]) (by kernel_rfl) ⟨h1, of_decide_eq_true h2, RowLd.elem cXRung_len _ (.inl ⟨_, rfl⟩) rfl rfl _ _ (of_decide_eq_true h2), h3, trivial⟩ 100 (by kernel_rfl) ?_ nx
            exact ⟨PinL.lit (by kernel_rfl), PinL.lit (by kernel_rfl), PinL.pf (encL_pf cInt_pf _), PinL.pf (encL_pf cInt_pf _), PinL.pf (encL_pf cXRung_pf _), PinL.pf (encL_pf cXSpan_pf _), trivial⟩
          · skip
            have e : growth_grower_shoots_L fu g x_1 w (fk + 1) v8 v23 x1 = growth_grower_shoots_L fu g x_1 w fk v8 (W (v23 + 1)) x1 := by rw [growth_grower_shoots_L_s0]; rw [h1, cond_true, h2, cond_true, h3, cond_false]; first | done | rfl
            rw [e] at hh
            have nx := ih v8 (W (v23 + 1)) x1 r hh
            refine FSat.stop pfT (fuel := 22) (hs := (hT :: hX :: (z19i0 g v23) :: (hR 5 [hF, hE, hE]))) (ss := [.go, .st [6, 7, 8, 21, 22, 23] [0, 10, 11, 12, 13, 14]]) (R := [(z19r1 g v23), 0 ≤ v23 ∧ v23 < ((g.Species.Ladder.length : Nat) : Int), (z19r2 g v23), (z19r4 g v23 x1)]) (by kernel_rfl) ⟨h1, of_decide_eq_true h2, RowLd.elem cXRung_len _ (.inl ⟨_, rfl⟩) rfl rfl _ _ (of_decide_eq_true h2), h3, trivial⟩ 100 (by kernel_rfl) ?_ nx
            exact ⟨PinL.lit (by kernel_rfl), PinL.lit (by kernel_rfl), PinL.pf (encL_pf cInt_pf _), PinL.pf (encL_pf cInt_pf _), PinL.pf (encL_pf cXRung_pf _), PinL.pf (encL_pf cXSpan_pf _), trivial⟩
      · skip
        have e : growth_grower_shoots_L fu g x_1 w (fk + 1) v8 v23 x1 = some v8 := by rw [growth_grower_shoots_L_s0]; rw [h1, cond_false]; first | done | rfl
        rw [e] at hh
        have hr := Option.some.inj hh
        rw [← hr]
        exact FSat.done pfT (fuel := 14) (hs := [hF, hE, hE]) (ss := [.go]) (R := [(z19r5 g v23)]) (by kernel_rfl) ⟨h1, trivial⟩ (by kernel_rfl)
theorem growth_grower_shoots_fc (fu : Nat) (g : Xgrower) (x_1 : XStand) (w : XWeather) (q11 q12 q13 q14 : Nat) (r : Int) (hh : growth_grower_shoots fu g x_1 w = some r) : FC P GG 97 (A_growth_grower_shoots x_1 w) (K_growth_grower_shoots g q11 q12 q13 q14) (I (r)) := by
  refine FC.of_fsat 37 100 Tryd.func97 (by kernel_rfl) (by kernel_rfl) (by kernel_rfl) ⟨PinL.pf (encL_pf cInt_pf _), PinL.pf (encL_pf cInt_pf _), PinL.pf (encL_pf cXRung_pf _), PinL.pf (encL_pf cXSpan_pf _), PinL.lit (by kernel_rfl), trivial⟩ ?_
  cases h1 : growth_grower_height g x_1 w with
  | none =>
    have e : growth_grower_shoots fu g x_1 w = none := by unfold growth_grower_shoots; rw [h1, Option.bind_none]; first | done | rfl
    rw [e] at hh; cases hh
  | some x1 =>
    have e : growth_grower_shoots fu g x_1 w = growth_grower_shoots_L fu g x_1 w fu x_1.Shoots 0 x1 := by unfold growth_grower_shoots; rw [h1, Option.bind_some]; first | done | rfl
    rw [e] at hh
    have nx := growth_grower_shoots_L_fs fu g x_1 w q11 q12 q13 q14 fu x_1.Shoots 0 x1 r hh
    refine FSat.stop pfT (fuel := 15) (hs := (hR 6 ((z19i6 g x_1 w q11 q12 q13 q14 x1) :: (hR 11 [])))) (ss := [.st [6, 7, 8, 21, 22, 23] [0, 10, 11, 12, 13, 14]]) (R := [(z19r7 g x_1 w q11 q12 q13 q14 x1), (z19r8 x_1 w), (z19r9 g q11 q12 q13 q14), (z19r10 x1)]) (by kernel_rfl) ⟨growth_grower_height_fc g x_1 w q11 q12 q13 q14 x1 h1, z19p11 x_1 w, z19p12 g q11 q12 q13 q14, selfB_self 9 _ rfl _, trivial⟩ 100 (by kernel_rfl) ?_ nx
    exact ⟨PinL.lit (by kernel_rfl), PinL.lit (by kernel_rfl), PinL.pf (encL_pf cInt_pf _), PinL.pf (encL_pf cInt_pf _), PinL.pf (encL_pf cXRung_pf _), PinL.pf (encL_pf cXSpan_pf _), trivial⟩

/- (greenhew/growth.grower).girth -/
noncomputable abbrev z23i0 (g : Xgrower) (x_1 : XStand) (q12 : Nat) (x1 : Int) : Hint := (hM (I (x1)) (I (x1)) (A_growth_atAge g.Species.Thick x_1.Age q12) (K_growth_atAge g.Species.Thick) [(10, 12, 0)])
noncomputable abbrev z23i1 (g : Xgrower) (w : XWeather) (q11 : Nat) (q12 : Nat) (q13 : Nat) (q14 : Nat) (x1 : Int) (x2 : Int) : Hint := (hM (I (x2)) (I (x2)) (A_growth_grower_inWeather x1 w) (K_growth_grower_inWeather g q11 q12 q13 q14) [(11, 11, 0), (12, 12, 0), (13, 13, 0), (14, 14, 0), (10, 10, 0)])
abbrev z23r2 (g : Xgrower) (x_1 : XStand) (q12 : Nat) (x1 : Int) : Prop := FC P GG 122 (A_growth_atAge g.Species.Thick x_1.Age q12) (K_growth_atAge g.Species.Thick) (I (x1))
abbrev z23r3 (g : Xgrower) (x_1 : XStand) (q12 : Nat) : Prop := VRs (Ren.emb [(10, 12, 0)]) (A_growth_atAge g.Species.Thick x_1.Age q12) [.slice (some ⟨12, 0, none⟩) (g.Species.Thick.length) (q12), I (x_1.Age)]
abbrev z23r4 (g : Xgrower) : Prop := MemAt (Ren.emb [(10, 12, 0)]) (encL cInt g.Species.Thick) 0 (encL cInt g.Species.Thick) ∧ True
abbrev z23r5 (g : Xgrower) (w : XWeather) (q11 : Nat) (q12 : Nat) (q13 : Nat) (q14 : Nat) (x1 : Int) (x2 : Int) : Prop := FC P GG 121 (A_growth_grower_inWeather x1 w) (K_growth_grower_inWeather g q11 q12 q13 q14) (I (x2))
abbrev z23r6 (w : XWeather) (x1 : Int) : Prop := VRs (Ren.emb [(11, 11, 0), (12, 12, 0), (13, 13, 0), (14, 14, 0), (10, 10, 0)]) (A_growth_grower_inWeather x1 w) [.pointer (some ⟨10, 0, none⟩), I (x1), .agg #[I (w.Light), I (w.Browse), I (w.Mild)]]
abbrev z23r7 (g : Xgrower) (q11 : Nat) (q12 : Nat) (q13 : Nat) (q14 : Nat) : Prop := MemAt (Ren.emb [(11, 11, 0), (12, 12, 0), (13, 13, 0), (14, 14, 0), (10, 10, 0)]) (encL cInt g.Species.Rise) 0 (encL cInt g.Species.Rise) ∧ MemAt (Ren.emb [(11, 11, 0), (12, 12, 0), (13, 13, 0), (14, 14, 0), (10, 10, 0)]) (encL cInt g.Species.Thick) 0 (encL cInt g.Species.Thick) ∧ MemAt (Ren.emb [(11, 11, 0), (12, 12, 0), (13, 13, 0), (14, 14, 0), (10, 10, 0)]) (encL cXRung g.Species.Ladder) 0 (encL cXRung g.Species.Ladder) ∧ MemAt (Ren.emb [(11, 11, 0), (12, 12, 0), (13, 13, 0), (14, 14, 0), (10, 10, 0)]) (encL cXSpan g.Species.Sprouts) 0 (encL cXSpan g.Species.Sprouts) ∧ MemAt (Ren.emb [(11, 11, 0), (12, 12, 0), (13, 13, 0), (14, 14, 0), (10, 10, 0)]) [.slice (some ⟨11, 0, none⟩) (g.Species.Rise.length) (q11), .slice (some ⟨12, 0, none⟩) (g.Species.Thick.length) (q12), I (g.Species.Top), I (g.Species.Stout), I (g.Species.Shade), I (g.Species.Reach), .slice (some ⟨13, 0, none⟩) (g.Species.Ladder.length) (q13), .slice (some ⟨14, 0, none⟩) (g.Species.Sprouts.length) (q14)] 0 [.slice (some ⟨11, 0, none⟩) (g.Species.Rise.length) (q11), .slice (some ⟨12, 0, none⟩) (g.Species.Thick.length) (q12), I (g.Species.Top), I (g.Species.Stout), I (g.Species.Shade), I (g.Species.Reach), .slice (some ⟨13, 0, none⟩) (g.Species.Ladder.length) (q13), .slice (some ⟨14, 0, none⟩) (g.Species.Sprouts.length) (q14)] ∧ True
abbrev z23r8 (x2 : Int) : Prop := VR (Ren.emb [(11, 11, 0), (12, 12, 0), (13, 13, 0), (14, 14, 0), (10, 10, 0)]) (I (x2)) (I (x2))
theorem z23p9 (g : Xgrower) (x_1 : XStand) (q12 : Nat) : (z23r3 g x_1 q12) := (.cons _ _ _ _ (.slc 10 0 _ _ _ ⟨12, 0, 0, 0⟩ rfl (.inl rfl)) (.cons _ _ _ _ (VR.of_pf rfl) .nil))
theorem z23p10 (w : XWeather) (x1 : Int) : (z23r6 w x1) := (.cons _ _ _ _ (.ptr 10 0 ⟨10, 0, 0, 0⟩ rfl) (.cons _ _ _ _ (VR.of_pf rfl) (.cons _ _ _ _ (VR.of_pf rfl) .nil)))
theorem z23p11 (g : Xgrower) (q11 : Nat) (q12 : Nat) (q13 : Nat) (q14 : Nat) : (z23r7 g q11 q12 q13 q14) := ⟨MemAt.same _ (encL_pf cInt_pf _), MemAt.same _ (encL_pf cInt_pf _), MemAt.same _ (encL_pf cXRung_pf _), MemAt.same _ (encL_pf cXSpan_pf _), MemAt.of (.cons _ _ _ _ (.slc 11 0 _ _ _ ⟨11, 0, 0, 0⟩ rfl (.inl rfl)) (.cons _ _ _ _ (.slc 12 0 _ _ _ ⟨12, 0, 0, 0⟩ rfl (.inl rfl)) (.cons _ _ _ _ (VR.of_pf rfl) (.cons _ _ _ _ (VR.of_pf rfl) (.cons _ _ _ _ (VR.of_pf rfl) (.cons _ _ _ _ (VR.of_pf rfl) (.cons _ _ _ _ (.slc 13 0 _ _ _ ⟨13, 0, 0, 0⟩ rfl (.inl rfl)) (.cons _ _ _ _ (.slc 14 0 _ _ _ ⟨14, 0, 0, 0⟩ rfl (.inl rfl)) .nil)))))))), trivial⟩
abbrev A_growth_grower_girth (x_1 : XStand) (w : XWeather) : List Value := [.pointer (some ⟨10, 0, none⟩), .agg #[I (x_1.Age), I (x_1.Shoots), I (x_1.Height), I (x_1.Girth)], .agg #[I (w.Light), I (w.Browse), I (w.Mild)]]
abbrev K_growth_grower_girth (g : Xgrower) (q11 : Nat) (q12 : Nat) (q13 : Nat) (q14 : Nat) : List (Nat × List Value) := [(11, encL cInt g.Species.Rise), (12, encL cInt g.Species.Thick), (13, encL cXRung g.Species.Ladder), (14, encL cXSpan g.Species.Sprouts), (10, [.slice (some ⟨11, 0, none⟩) (g.Species.Rise.length) (q11), .slice (some ⟨12, 0, none⟩) (g.Species.Thick.length) (q12), I (g.Species.Top), I (g.Species.Stout), I (g.Species.Shade), I (g.Species.Reach), .slice (some ⟨13, 0, none⟩) (g.Species.Ladder.length) (q13), .slice (some ⟨14, 0, none⟩) (g.Species.Sprouts.length) (q14)])]
noncomputable def growth_grower_girth (g : Xgrower) (x_1 : XStand) (w : XWeather) : Option Int :=
  Option.bind (growth_atAge g.Species.Thick x_1.Age) fun x1 =>
  Option.bind (growth_grower_inWeather g x1 w) fun x2 =>
  bif decide ((W (100 + x_1.Shoots)) ≠ 0) then some (imin (W (x_1.Girth + (W ((W (x2 * 100)).tdiv (W (100 + x_1.Shoots)))))) g.Species.Stout) else none
theorem growth_grower_girth_fc (g : Xgrower) (x_1 : XStand) (w : XWeather) (q11 q12 q13 q14 : Nat) (r : Int) (hh : growth_grower_girth g x_1 w = some r) : FC P GG 99 (A_growth_grower_girth x_1 w) (K_growth_grower_girth g q11 q12 q13 q14) (I (r)) := by
  refine FC.of_fsat 34 100 Tryd.func99 (by kernel_rfl) (by kernel_rfl) (by kernel_rfl) ⟨PinL.pf (encL_pf cInt_pf _), PinL.pf (encL_pf cInt_pf _), PinL.pf (encL_pf cXRung_pf _), PinL.pf (encL_pf cXSpan_pf _), PinL.lit (by kernel_rfl), trivial⟩ ?_
  cases h1 : growth_atAge g.Species.Thick x_1.Age with
  | none =>
    have e : growth_grower_girth g x_1 w = none := by unfold growth_grower_girth; rw [h1, Option.bind_none]; first | done | rfl
    rw [e] at hh; cases hh
  | some x1 =>
    cases h2 : growth_grower_inWeather g x1 w with
    | none =>
      have e : growth_grower_girth g x_1 w = none := by unfold growth_grower_girth; rw [h1, Option.bind_some, h2, Option.bind_none]; first | done | rfl
      rw [e] at hh; cases hh
    | some x2 =>
      rcases Bool.eq_false_or_eq_true (decide ((W (100 + x_1.Shoots)) ≠ 0)) with h3 | h3
      rotate_left
      · skip
        have e : growth_grower_girth g x_1 w = none := by unfold growth_grower_girth; rw [h1, Option.bind_some, h2, Option.bind_some, h3, cond_false]; first | done | rfl
        rw [e] at hh; cases hh
      · skip
        have e : growth_grower_girth g x_1 w = some (imin (W (x_1.Girth + (W ((W (x2 * 100)).tdiv (W (100 + x_1.Shoots)))))) g.Species.Stout) := by unfold growth_grower_girth; rw [h1, Option.bind_some, h2, Option.bind_some, h3, cond_true]; first | done | rfl
        rw [e] at hh
        have hr := Option.some.inj hh
        rw [← hr]
        exact FSat.done pfT (fuel := 12) (hs := (hR 11 ((z23i0 g x_1 q12 x1) :: hE :: (z23i1 g w q11 q12 q13 q14 x1 x2) :: (hR 8 (hD :: (hR 8 [])))))) (ss := []) (R := [(z23r2 g x_1 q12 x1), (z23r3 g x_1 q12), (z23r4 g), VR (Ren.emb [(10, 12, 0)]) (I (x1)) (I (x1)), (z23r5 g w q11 q12 q13 q14 x1 x2), (z23r6 w x1), (z23r7 g q11 q12 q13 q14), (z23r8 x2), (W (100 + x_1.Shoots)) ≠ 0]) (by kernel_rfl) ⟨growth_atAge_fc g.Species.Thick x_1.Age q12 x1 h1, z23p9 g x_1 q12, ⟨MemAt.same _ (encL_pf cInt_pf _), trivial⟩, selfB_self 9 _ rfl _, growth_grower_inWeather_fc g x1 w q11 q12 q13 q14 x2 h2, z23p10 w x1, z23p11 g q11 q12 q13 q14, selfB_self 9 _ rfl _, of_decide_eq_true h3, trivial⟩ (by kernel_rfl)

/- (greenhew/growth.grower).grow -/
noncomputable abbrev z17i0 (x_1 : XStand) : Hint := (hM (.pointer (some ⟨10, 1, none⟩)) (.pointer (some ⟨104, 1, none⟩)) (A_growth_number 1) (K_growth_number (⟨imin (W (x_1.Age + 1)) 100000, 0, 0, 0⟩ : XStand)) [(10, 104, 0)])
noncomputable abbrev z17i1 (g : Xgrower) (x_1 : XStand) (w : XWeather) (q11 : Nat) (q12 : Nat) (q13 : Nat) (q14 : Nat) (x1 : Int) : Hint := (hM (I (x1)) (I (x1)) (A_growth_grower_shoots x_1 w) (K_growth_grower_shoots g q11 q12 q13 q14) [(11, 11, 0), (12, 12, 0), (13, 13, 0), (14, 14, 0), (10, 10, 0)])
noncomputable abbrev z17i2 (x_1 : XStand) (x1 : Int) : Hint := (hM (.pointer (some ⟨10, 2, none⟩)) (.pointer (some ⟨104, 2, none⟩)) (A_growth_number 2) (K_growth_number (⟨imin (W (x_1.Age + 1)) 100000, x1, 0, 0⟩ : XStand)) [(10, 104, 0)])
noncomputable abbrev z17i3 (g : Xgrower) (x_1 : XStand) (w : XWeather) (q11 : Nat) (q12 : Nat) (q13 : Nat) (q14 : Nat) (x2 : Int) : Hint := (hM (I (x2)) (I (x2)) (A_growth_grower_height x_1 w) (K_growth_grower_height g q11 q12 q13 q14) [(11, 11, 0), (12, 12, 0), (13, 13, 0), (14, 14, 0), (10, 10, 0)])
noncomputable abbrev z17i4 (x_1 : XStand) (x1 : Int) (x2 : Int) : Hint := (hM (.pointer (some ⟨10, 3, none⟩)) (.pointer (some ⟨104, 3, none⟩)) (A_growth_number 3) (K_growth_number (⟨imin (W (x_1.Age + 1)) 100000, x1, x2, 0⟩ : XStand)) [(10, 104, 0)])
noncomputable abbrev z17i5 (g : Xgrower) (x_1 : XStand) (w : XWeather) (q11 : Nat) (q12 : Nat) (q13 : Nat) (q14 : Nat) (x3 : Int) : Hint := (hM (I (x3)) (I (x3)) (A_growth_grower_girth x_1 w) (K_growth_grower_girth g q11 q12 q13 q14) [(11, 11, 0), (12, 12, 0), (13, 13, 0), (14, 14, 0), (10, 10, 0)])
abbrev z17r6 (x_1 : XStand) : Prop := FC P GG 100 (A_growth_number 1) (K_growth_number (⟨imin (W (x_1.Age + 1)) 100000, 0, 0, 0⟩ : XStand)) (.pointer (some ⟨10, 1, none⟩))
abbrev z17r7 : Prop := VRs (Ren.emb [(10, 104, 0)]) (A_growth_number 1) [.pointer (some ⟨104, 0, none⟩), I (1)]
abbrev z17r8 (x_1 : XStand) : Prop := MemAt (Ren.emb [(10, 104, 0)]) [I ((⟨imin (W (x_1.Age + 1)) 100000, 0, 0, 0⟩ : XStand).Age), I ((⟨imin (W (x_1.Age + 1)) 100000, 0, 0, 0⟩ : XStand).Shoots), I ((⟨imin (W (x_1.Age + 1)) 100000, 0, 0, 0⟩ : XStand).Height), I ((⟨imin (W (x_1.Age + 1)) 100000, 0, 0, 0⟩ : XStand).Girth)] 0 [I (imin (W (x_1.Age + 1)) 100000), I (0), I (0), I (0)] ∧ True
abbrev z17r9 : Prop := VR (Ren.emb [(10, 104, 0)]) (.pointer (some ⟨10, 1, none⟩)) (.pointer (some ⟨104, 1, none⟩))
abbrev z17r10 (g : Xgrower) (x_1 : XStand) (w : XWeather) (q11 : Nat) (q12 : Nat) (q13 : Nat) (q14 : Nat) (x1 : Int) : Prop := FC P GG 97 (A_growth_grower_shoots x_1 w) (K_growth_grower_shoots g q11 q12 q13 q14) (I (x1))
abbrev z17r11 (x_1 : XStand) (w : XWeather) : Prop := VRs (Ren.emb [(11, 11, 0), (12, 12, 0), (13, 13, 0), (14, 14, 0), (10, 10, 0)]) (A_growth_grower_shoots x_1 w) [.pointer (some ⟨10, 0, none⟩), .agg #[I (x_1.Age), I (x_1.Shoots), I (x_1.Height), I (x_1.Girth)], .agg #[I (w.Light), I (w.Browse), I (w.Mild)]]
abbrev z17r12 (g : Xgrower) (q11 : Nat) (q12 : Nat) (q13 : Nat) (q14 : Nat) : Prop := MemAt (Ren.emb [(11, 11, 0), (12, 12, 0), (13, 13, 0), (14, 14, 0), (10, 10, 0)]) (encL cInt g.Species.Rise) 0 (encL cInt g.Species.Rise) ∧ MemAt (Ren.emb [(11, 11, 0), (12, 12, 0), (13, 13, 0), (14, 14, 0), (10, 10, 0)]) (encL cInt g.Species.Thick) 0 (encL cInt g.Species.Thick) ∧ MemAt (Ren.emb [(11, 11, 0), (12, 12, 0), (13, 13, 0), (14, 14, 0), (10, 10, 0)]) (encL cXRung g.Species.Ladder) 0 (encL cXRung g.Species.Ladder) ∧ MemAt (Ren.emb [(11, 11, 0), (12, 12, 0), (13, 13, 0), (14, 14, 0), (10, 10, 0)]) (encL cXSpan g.Species.Sprouts) 0 (encL cXSpan g.Species.Sprouts) ∧ MemAt (Ren.emb [(11, 11, 0), (12, 12, 0), (13, 13, 0), (14, 14, 0), (10, 10, 0)]) [.slice (some ⟨11, 0, none⟩) (g.Species.Rise.length) (q11), .slice (some ⟨12, 0, none⟩) (g.Species.Thick.length) (q12), I (g.Species.Top), I (g.Species.Stout), I (g.Species.Shade), I (g.Species.Reach), .slice (some ⟨13, 0, none⟩) (g.Species.Ladder.length) (q13), .slice (some ⟨14, 0, none⟩) (g.Species.Sprouts.length) (q14)] 0 [.slice (some ⟨11, 0, none⟩) (g.Species.Rise.length) (q11), .slice (some ⟨12, 0, none⟩) (g.Species.Thick.length) (q12), I (g.Species.Top), I (g.Species.Stout), I (g.Species.Shade), I (g.Species.Reach), .slice (some ⟨13, 0, none⟩) (g.Species.Ladder.length) (q13), .slice (some ⟨14, 0, none⟩) (g.Species.Sprouts.length) (q14)] ∧ True
abbrev z17r13 (x1 : Int) : Prop := VR (Ren.emb [(11, 11, 0), (12, 12, 0), (13, 13, 0), (14, 14, 0), (10, 10, 0)]) (I (x1)) (I (x1))
abbrev z17r14 (x_1 : XStand) (x1 : Int) : Prop := FC P GG 100 (A_growth_number 2) (K_growth_number (⟨imin (W (x_1.Age + 1)) 100000, x1, 0, 0⟩ : XStand)) (.pointer (some ⟨10, 2, none⟩))
abbrev z17r15 : Prop := VRs (Ren.emb [(10, 104, 0)]) (A_growth_number 2) [.pointer (some ⟨104, 0, none⟩), I (2)]
abbrev z17r16 (x_1 : XStand) (x1 : Int) : Prop := MemAt (Ren.emb [(10, 104, 0)]) [I ((⟨imin (W (x_1.Age + 1)) 100000, x1, 0, 0⟩ : XStand).Age), I ((⟨imin (W (x_1.Age + 1)) 100000, x1, 0, 0⟩ : XStand).Shoots), I ((⟨imin (W (x_1.Age + 1)) 100000, x1, 0, 0⟩ : XStand).Height), I ((⟨imin (W (x_1.Age + 1)) 100000, x1, 0, 0⟩ : XStand).Girth)] 0 [I (imin (W (x_1.Age + 1)) 100000), I (x1), I (0), I (0)] ∧ True
abbrev z17r17 : Prop := VR (Ren.emb [(10, 104, 0)]) (.pointer (some ⟨10, 2, none⟩)) (.pointer (some ⟨104, 2, none⟩))
abbrev z17r18 (g : Xgrower) (x_1 : XStand) (w : XWeather) (q11 : Nat) (q12 : Nat) (q13 : Nat) (q14 : Nat) (x2 : Int) : Prop := FC P GG 98 (A_growth_grower_height x_1 w) (K_growth_grower_height g q11 q12 q13 q14) (I (x2))
abbrev z17r19 (x_1 : XStand) (w : XWeather) : Prop := VRs (Ren.emb [(11, 11, 0), (12, 12, 0), (13, 13, 0), (14, 14, 0), (10, 10, 0)]) (A_growth_grower_height x_1 w) [.pointer (some ⟨10, 0, none⟩), .agg #[I (x_1.Age), I (x_1.Shoots), I (x_1.Height), I (x_1.Girth)], .agg #[I (w.Light), I (w.Browse), I (w.Mild)]]
abbrev z17r20 (x2 : Int) : Prop := VR (Ren.emb [(11, 11, 0), (12, 12, 0), (13, 13, 0), (14, 14, 0), (10, 10, 0)]) (I (x2)) (I (x2))
abbrev z17r21 (x_1 : XStand) (x1 : Int) (x2 : Int) : Prop := FC P GG 100 (A_growth_number 3) (K_growth_number (⟨imin (W (x_1.Age + 1)) 100000, x1, x2, 0⟩ : XStand)) (.pointer (some ⟨10, 3, none⟩))
abbrev z17r22 : Prop := VRs (Ren.emb [(10, 104, 0)]) (A_growth_number 3) [.pointer (some ⟨104, 0, none⟩), I (3)]
abbrev z17r23 (x_1 : XStand) (x1 : Int) (x2 : Int) : Prop := MemAt (Ren.emb [(10, 104, 0)]) [I ((⟨imin (W (x_1.Age + 1)) 100000, x1, x2, 0⟩ : XStand).Age), I ((⟨imin (W (x_1.Age + 1)) 100000, x1, x2, 0⟩ : XStand).Shoots), I ((⟨imin (W (x_1.Age + 1)) 100000, x1, x2, 0⟩ : XStand).Height), I ((⟨imin (W (x_1.Age + 1)) 100000, x1, x2, 0⟩ : XStand).Girth)] 0 [I (imin (W (x_1.Age + 1)) 100000), I (x1), I (x2), I (0)] ∧ True
abbrev z17r24 : Prop := VR (Ren.emb [(10, 104, 0)]) (.pointer (some ⟨10, 3, none⟩)) (.pointer (some ⟨104, 3, none⟩))
abbrev z17r25 (g : Xgrower) (x_1 : XStand) (w : XWeather) (q11 : Nat) (q12 : Nat) (q13 : Nat) (q14 : Nat) (x3 : Int) : Prop := FC P GG 99 (A_growth_grower_girth x_1 w) (K_growth_grower_girth g q11 q12 q13 q14) (I (x3))
abbrev z17r26 (x_1 : XStand) (w : XWeather) : Prop := VRs (Ren.emb [(11, 11, 0), (12, 12, 0), (13, 13, 0), (14, 14, 0), (10, 10, 0)]) (A_growth_grower_girth x_1 w) [.pointer (some ⟨10, 0, none⟩), .agg #[I (x_1.Age), I (x_1.Shoots), I (x_1.Height), I (x_1.Girth)], .agg #[I (w.Light), I (w.Browse), I (w.Mild)]]
abbrev z17r27 (x3 : Int) : Prop := VR (Ren.emb [(11, 11, 0), (12, 12, 0), (13, 13, 0), (14, 14, 0), (10, 10, 0)]) (I (x3)) (I (x3))
theorem z17p28 (x_1 : XStand) : (z17r6 x_1) := growth_number_fc_1 (⟨imin (W (x_1.Age + 1)) 100000, 0, 0, 0⟩ : XStand) 1 rfl
theorem z17p29 : z17r7 := (.cons _ _ _ _ (.ptr 10 0 ⟨104, 0, 0, 0⟩ rfl) (.cons _ _ _ _ (VR.of_pf rfl) .nil))
theorem z17p30 (x_1 : XStand) : (z17r8 x_1) := ⟨MemAt.of (.cons _ _ _ _ (VR.of_pf rfl) (.cons _ _ _ _ (VR.of_pf rfl) (.cons _ _ _ _ (VR.of_pf rfl) (.cons _ _ _ _ (VR.of_pf rfl) .nil)))), trivial⟩
theorem z17p31 (x_1 : XStand) (w : XWeather) : (z17r11 x_1 w) := (.cons _ _ _ _ (.ptr 10 0 ⟨10, 0, 0, 0⟩ rfl) (.cons _ _ _ _ (VR.of_pf rfl) (.cons _ _ _ _ (VR.of_pf rfl) .nil)))
theorem z17p32 (g : Xgrower) (q11 : Nat) (q12 : Nat) (q13 : Nat) (q14 : Nat) : (z17r12 g q11 q12 q13 q14) := ⟨MemAt.same _ (encL_pf cInt_pf _), MemAt.same _ (encL_pf cInt_pf _), MemAt.same _ (encL_pf cXRung_pf _), MemAt.same _ (encL_pf cXSpan_pf _), MemAt.of (.cons _ _ _ _ (.slc 11 0 _ _ _ ⟨11, 0, 0, 0⟩ rfl (.inl rfl)) (.cons _ _ _ _ (.slc 12 0 _ _ _ ⟨12, 0, 0, 0⟩ rfl (.inl rfl)) (.cons _ _ _ _ (VR.of_pf rfl) (.cons _ _ _ _ (VR.of_pf rfl) (.cons _ _ _ _ (VR.of_pf rfl) (.cons _ _ _ _ (VR.of_pf rfl) (.cons _ _ _ _ (.slc 13 0 _ _ _ ⟨13, 0, 0, 0⟩ rfl (.inl rfl)) (.cons _ _ _ _ (.slc 14 0 _ _ _ ⟨14, 0, 0, 0⟩ rfl (.inl rfl)) .nil)))))))), trivial⟩
theorem z17p33 (x_1 : XStand) (x1 : Int) : (z17r14 x_1 x1) := growth_number_fc_2 (⟨imin (W (x_1.Age + 1)) 100000, x1, 0, 0⟩ : XStand) 2 rfl rfl
theorem z17p34 : z17r15 := (.cons _ _ _ _ (.ptr 10 0 ⟨104, 0, 0, 0⟩ rfl) (.cons _ _ _ _ (VR.of_pf rfl) .nil))
theorem z17p35 (x_1 : XStand) (x1 : Int) : (z17r16 x_1 x1) := ⟨MemAt.of (.cons _ _ _ _ (VR.of_pf rfl) (.cons _ _ _ _ (VR.of_pf rfl) (.cons _ _ _ _ (VR.of_pf rfl) (.cons _ _ _ _ (VR.of_pf rfl) .nil)))), trivial⟩
theorem z17p36 (x_1 : XStand) (w : XWeather) : (z17r19 x_1 w) := (.cons _ _ _ _ (.ptr 10 0 ⟨10, 0, 0, 0⟩ rfl) (.cons _ _ _ _ (VR.of_pf rfl) (.cons _ _ _ _ (VR.of_pf rfl) .nil)))
theorem z17p37 (x_1 : XStand) (x1 : Int) (x2 : Int) : (z17r21 x_1 x1 x2) := growth_number_fc_3 (⟨imin (W (x_1.Age + 1)) 100000, x1, x2, 0⟩ : XStand) 3 rfl rfl
theorem z17p38 : z17r22 := (.cons _ _ _ _ (.ptr 10 0 ⟨104, 0, 0, 0⟩ rfl) (.cons _ _ _ _ (VR.of_pf rfl) .nil))
theorem z17p39 (x_1 : XStand) (x1 : Int) (x2 : Int) : (z17r23 x_1 x1 x2) := ⟨MemAt.of (.cons _ _ _ _ (VR.of_pf rfl) (.cons _ _ _ _ (VR.of_pf rfl) (.cons _ _ _ _ (VR.of_pf rfl) (.cons _ _ _ _ (VR.of_pf rfl) .nil)))), trivial⟩
theorem z17p40 (x_1 : XStand) (w : XWeather) : (z17r26 x_1 w) := (.cons _ _ _ _ (.ptr 10 0 ⟨10, 0, 0, 0⟩ rfl) (.cons _ _ _ _ (VR.of_pf rfl) (.cons _ _ _ _ (VR.of_pf rfl) .nil)))
abbrev A_growth_grower_grow (x_1 : XStand) (w : XWeather) : List Value := [.pointer (some ⟨10, 0, none⟩), .agg #[I (x_1.Age), I (x_1.Shoots), I (x_1.Height), I (x_1.Girth)], .agg #[I (w.Light), I (w.Browse), I (w.Mild)]]
abbrev K_growth_grower_grow (g : Xgrower) (q11 : Nat) (q12 : Nat) (q13 : Nat) (q14 : Nat) : List (Nat × List Value) := [(11, encL cInt g.Species.Rise), (12, encL cInt g.Species.Thick), (13, encL cXRung g.Species.Ladder), (14, encL cXSpan g.Species.Sprouts), (10, [.slice (some ⟨11, 0, none⟩) (g.Species.Rise.length) (q11), .slice (some ⟨12, 0, none⟩) (g.Species.Thick.length) (q12), I (g.Species.Top), I (g.Species.Stout), I (g.Species.Shade), I (g.Species.Reach), .slice (some ⟨13, 0, none⟩) (g.Species.Ladder.length) (q13), .slice (some ⟨14, 0, none⟩) (g.Species.Sprouts.length) (q14)])]
noncomputable def growth_grower_grow (fu : Nat) (g : Xgrower) (x_1 : XStand) (w : XWeather) : Option XStand :=
  Option.bind (growth_grower_shoots fu g x_1 w) fun x1 =>
  Option.bind (growth_grower_height g x_1 w) fun x2 =>
  Option.bind (growth_grower_girth g x_1 w) fun x3 =>
  some (⟨imin (W (x_1.Age + 1)) 100000, x1, x2, x3⟩ : XStand)
theorem growth_grower_grow_fc (fu : Nat) (g : Xgrower) (x_1 : XStand) (w : XWeather) (q11 q12 q13 q14 : Nat) (r : XStand) (hh : growth_grower_grow fu g x_1 w = some r) : FC P GG 60 (A_growth_grower_grow x_1 w) (K_growth_grower_grow g q11 q12 q13 q14) (.agg #[I (r.Age), I (r.Shoots), I (r.Height), I (r.Girth)]) := by
  refine FC.of_fsat 38 100 Tryd.func60 (by kernel_rfl) (by kernel_rfl) (by kernel_rfl) ⟨PinL.pf (encL_pf cInt_pf _), PinL.pf (encL_pf cInt_pf _), PinL.pf (encL_pf cXRung_pf _), PinL.pf (encL_pf cXSpan_pf _), PinL.lit (by kernel_rfl), trivial⟩ ?_
  cases h1 : growth_grower_shoots fu g x_1 w with
  | none =>
    have e : growth_grower_grow fu g x_1 w = none := by unfold growth_grower_grow; rw [h1, Option.bind_none]; first | done | rfl
    rw [e] at hh; cases hh
  | some x1 =>
    cases h2 : growth_grower_height g x_1 w with
    | none =>
      have e : growth_grower_grow fu g x_1 w = none := by unfold growth_grower_grow; rw [h1, Option.bind_some, h2, Option.bind_none]; first | done | rfl
      rw [e] at hh; cases hh
    | some x2 =>
      cases h3 : growth_grower_girth g x_1 w with
      | none =>
        have e : growth_grower_grow fu g x_1 w = none := by unfold growth_grower_grow; rw [h1, Option.bind_some, h2, Option.bind_some, h3, Option.bind_none]; first | done | rfl
        rw [e] at hh; cases hh
      | some x3 =>
        have e : growth_grower_grow fu g x_1 w = some (⟨imin (W (x_1.Age + 1)) 100000, x1, x2, x3⟩ : XStand) := by unfold growth_grower_grow; rw [h1, Option.bind_some, h2, Option.bind_some, h3, Option.bind_some]; first | done | rfl
        rw [e] at hh
        have hr := Option.some.inj hh
        rw [← hr]
        exact FSat.done pfT (fuel := 64) (hs := (hR 25 ((z17i0 x_1) :: (hR 5 ((z17i1 g x_1 w q11 q12 q13 q14 x1) :: (hR 8 ((z17i2 x_1 x1) :: (hR 5 ((z17i3 g x_1 w q11 q12 q13 q14 x2) :: (hR 8 ((z17i4 x_1 x1 x2) :: (hR 5 ((z17i5 g x_1 w q11 q12 q13 q14 x3) :: (hR 7 [])))))))))))))) (ss := [.go, .go, .go, .go]) (R := [(z17r6 x_1), z17r7, (z17r8 x_1), z17r9, (z17r10 g x_1 w q11 q12 q13 q14 x1), (z17r11 x_1 w), (z17r12 g q11 q12 q13 q14), (z17r13 x1), (z17r14 x_1 x1), z17r15, (z17r16 x_1 x1), z17r17, (z17r18 g x_1 w q11 q12 q13 q14 x2), (z17r19 x_1 w), (z17r12 g q11 q12 q13 q14), (z17r20 x2), (z17r21 x_1 x1 x2), z17r22, (z17r23 x_1 x1 x2), z17r24, (z17r25 g x_1 w q11 q12 q13 q14 x3), (z17r26 x_1 w), (z17r12 g q11 q12 q13 q14), (z17r27 x3)]) (by kernel_rfl) ⟨z17p28 x_1, z17p29, z17p30 x_1, .ptr 10 1 ⟨104, 0, 0, 0⟩ rfl, growth_grower_shoots_fc fu g x_1 w q11 q12 q13 q14 x1 h1, z17p31 x_1 w, z17p32 g q11 q12 q13 q14, selfB_self 9 _ rfl _, z17p33 x_1 x1, z17p34, z17p35 x_1 x1, .ptr 10 2 ⟨104, 0, 0, 0⟩ rfl, growth_grower_height_fc g x_1 w q11 q12 q13 q14 x2 h2, z17p36 x_1 w, z17p32 g q11 q12 q13 q14, selfB_self 9 _ rfl _, z17p37 x_1 x1 x2, z17p38, z17p39 x_1 x1 x2, .ptr 10 3 ⟨104, 0, 0, 0⟩ rfl, growth_grower_girth_fc g x_1 w q11 q12 q13 q14 x3 h3, z17p40 x_1 w, z17p32 g q11 q12 q13 q14, selfB_self 9 _ rfl _, trivial⟩ (by kernel_rfl)

/- greenhew/growth.Grow -/
noncomputable abbrev z4i0 (s : XSpecies) (q10 : Nat) (q11 : Nat) (q12 : Nat) (q13 : Nat) (x1 : Bool) : Hint := (hB (hM (.bool (x1)) (.bool (x1)) (A_growth_speciesIsDefined s q10 q11 q12 q13) (K_growth_speciesIsDefined s) [(10, 10, 0), (11, 11, 0), (12, 12, 0), (13, 13, 0)]) true)
noncomputable abbrev z4i1 (s : XSpecies) (x_1 : XStand) (w : XWeather) (q10 : Nat) (q11 : Nat) (q12 : Nat) (q13 : Nat) (x5 : XStand) : Hint := (hM (.agg #[I (x5.Age), I (x5.Shoots), I (x5.Height), I (x5.Girth)]) (.agg #[I (x5.Age), I (x5.Shoots), I (x5.Height), I (x5.Girth)]) (A_growth_grower_grow x_1 w) (K_growth_grower_grow (⟨s⟩ : Xgrower) q10 q11 q12 q13) [(11, 10, 0), (12, 11, 0), (13, 12, 0), (14, 13, 0), (10, 104, 0)])
abbrev z4r2 (s : XSpecies) (q10 : Nat) (q11 : Nat) (q12 : Nat) (q13 : Nat) (x1 : Bool) : Prop := FC P GG 57 (A_growth_speciesIsDefined s q10 q11 q12 q13) (K_growth_speciesIsDefined s) (.bool (x1))
abbrev z4r3 (s : XSpecies) (q10 : Nat) (q11 : Nat) (q12 : Nat) (q13 : Nat) : Prop := VRs (Ren.emb [(10, 10, 0), (11, 11, 0), (12, 12, 0), (13, 13, 0)]) (A_growth_speciesIsDefined s q10 q11 q12 q13) [.agg #[.slice (some ⟨10, 0, none⟩) (s.Rise.length) (q10), .slice (some ⟨11, 0, none⟩) (s.Thick.length) (q11), I (s.Top), I (s.Stout), I (s.Shade), I (s.Reach), .slice (some ⟨12, 0, none⟩) (s.Ladder.length) (q12), .slice (some ⟨13, 0, none⟩) (s.Sprouts.length) (q13)]]
abbrev z4r4 (s : XSpecies) : Prop := MemAt (Ren.emb [(10, 10, 0), (11, 11, 0), (12, 12, 0), (13, 13, 0)]) (encL cInt s.Rise) 0 (encL cInt s.Rise) ∧ MemAt (Ren.emb [(10, 10, 0), (11, 11, 0), (12, 12, 0), (13, 13, 0)]) (encL cInt s.Thick) 0 (encL cInt s.Thick) ∧ MemAt (Ren.emb [(10, 10, 0), (11, 11, 0), (12, 12, 0), (13, 13, 0)]) (encL cXRung s.Ladder) 0 (encL cXRung s.Ladder) ∧ MemAt (Ren.emb [(10, 10, 0), (11, 11, 0), (12, 12, 0), (13, 13, 0)]) (encL cXSpan s.Sprouts) 0 (encL cXSpan s.Sprouts) ∧ True
abbrev z4r5 (x1 : Bool) : Prop := VR (Ren.emb [(10, 10, 0), (11, 11, 0), (12, 12, 0), (13, 13, 0)]) (.bool (x1)) (.bool (x1))
abbrev z4r6 (x_1 : XStand) : Prop := FC P GG 58 (A_growth_standIsDefined x_1) [] (.bool (growth_standIsDefined x_1))
abbrev z4r7 (w : XWeather) : Prop := FC P GG 59 (A_growth_weatherIsDefined w) [] (.bool (growth_weatherIsDefined w))
abbrev z4r8 (s : XSpecies) (x_1 : XStand) (w : XWeather) (q10 : Nat) (q11 : Nat) (q12 : Nat) (q13 : Nat) (x5 : XStand) : Prop := FC P GG 60 (A_growth_grower_grow x_1 w) (K_growth_grower_grow (⟨s⟩ : Xgrower) q10 q11 q12 q13) (.agg #[I (x5.Age), I (x5.Shoots), I (x5.Height), I (x5.Girth)])
abbrev z4r9 (x_1 : XStand) (w : XWeather) : Prop := VRs (Ren.emb [(11, 10, 0), (12, 11, 0), (13, 12, 0), (14, 13, 0), (10, 104, 0)]) (A_growth_grower_grow x_1 w) [.pointer (some ⟨104, 0, none⟩), .agg #[I (x_1.Age), I (x_1.Shoots), I (x_1.Height), I (x_1.Girth)], .agg #[I (w.Light), I (w.Browse), I (w.Mild)]]
abbrev z4r10 (s : XSpecies) (q10 : Nat) (q11 : Nat) (q12 : Nat) (q13 : Nat) : Prop := MemAt (Ren.emb [(11, 10, 0), (12, 11, 0), (13, 12, 0), (14, 13, 0), (10, 104, 0)]) (encL cInt (((⟨s⟩ : Xgrower).Species).Rise)) 0 (encL cInt s.Rise) ∧ MemAt (Ren.emb [(11, 10, 0), (12, 11, 0), (13, 12, 0), (14, 13, 0), (10, 104, 0)]) (encL cInt (((⟨s⟩ : Xgrower).Species).Thick)) 0 (encL cInt s.Thick) ∧ MemAt (Ren.emb [(11, 10, 0), (12, 11, 0), (13, 12, 0), (14, 13, 0), (10, 104, 0)]) (encL cXRung (((⟨s⟩ : Xgrower).Species).Ladder)) 0 (encL cXRung s.Ladder) ∧ MemAt (Ren.emb [(11, 10, 0), (12, 11, 0), (13, 12, 0), (14, 13, 0), (10, 104, 0)]) (encL cXSpan (((⟨s⟩ : Xgrower).Species).Sprouts)) 0 (encL cXSpan s.Sprouts) ∧ MemAt (Ren.emb [(11, 10, 0), (12, 11, 0), (13, 12, 0), (14, 13, 0), (10, 104, 0)]) [.slice (some ⟨11, 0, none⟩) ((((⟨s⟩ : Xgrower).Species).Rise).length) (q10), .slice (some ⟨12, 0, none⟩) ((((⟨s⟩ : Xgrower).Species).Thick).length) (q11), I (((⟨s⟩ : Xgrower).Species).Top), I (((⟨s⟩ : Xgrower).Species).Stout), I (((⟨s⟩ : Xgrower).Species).Shade), I (((⟨s⟩ : Xgrower).Species).Reach), .slice (some ⟨13, 0, none⟩) ((((⟨s⟩ : Xgrower).Species).Ladder).length) (q12), .slice (some ⟨14, 0, none⟩) ((((⟨s⟩ : Xgrower).Species).Sprouts).length) (q13)] 0 [.slice (some ⟨10, 0, none⟩) (s.Rise.length) (q10), .slice (some ⟨11, 0, none⟩) (s.Thick.length) (q11), I (s.Top), I (s.Stout), I (s.Shade), I (s.Reach), .slice (some ⟨12, 0, none⟩) (s.Ladder.length) (q12), .slice (some ⟨13, 0, none⟩) (s.Sprouts.length) (q13)] ∧ True
abbrev z4r11 (x5 : XStand) : Prop := VR (Ren.emb [(11, 10, 0), (12, 11, 0), (13, 12, 0), (14, 13, 0), (10, 104, 0)]) (.agg #[I (x5.Age), I (x5.Shoots), I (x5.Height), I (x5.Girth)]) (.agg #[I (x5.Age), I (x5.Shoots), I (x5.Height), I (x5.Girth)])
theorem z4p12 (s : XSpecies) (q10 : Nat) (q11 : Nat) (q12 : Nat) (q13 : Nat) : (z4r3 s q10 q11 q12 q13) := (.cons _ _ _ _ (.agg _ _ (.cons _ _ _ _ (.slc 10 0 _ _ _ ⟨10, 0, 0, 0⟩ rfl (.inl rfl)) (.cons _ _ _ _ (.slc 11 0 _ _ _ ⟨11, 0, 0, 0⟩ rfl (.inl rfl)) (.cons _ _ _ _ (VR.of_pf rfl) (.cons _ _ _ _ (VR.of_pf rfl) (.cons _ _ _ _ (VR.of_pf rfl) (.cons _ _ _ _ (VR.of_pf rfl) (.cons _ _ _ _ (.slc 12 0 _ _ _ ⟨12, 0, 0, 0⟩ rfl (.inl rfl)) (.cons _ _ _ _ (.slc 13 0 _ _ _ ⟨13, 0, 0, 0⟩ rfl (.inl rfl)) .nil))))))))) .nil)
theorem z4p13 (s : XSpecies) : (z4r4 s) := ⟨MemAt.same _ (encL_pf cInt_pf _), MemAt.same _ (encL_pf cInt_pf _), MemAt.same _ (encL_pf cXRung_pf _), MemAt.same _ (encL_pf cXSpan_pf _), trivial⟩
theorem z4p14 (x_1 : XStand) (w : XWeather) : (z4r9 x_1 w) := (.cons _ _ _ _ (.ptr 10 0 ⟨104, 0, 0, 0⟩ rfl) (.cons _ _ _ _ (VR.of_pf rfl) (.cons _ _ _ _ (VR.of_pf rfl) .nil)))
theorem z4p15 (s : XSpecies) (q10 : Nat) (q11 : Nat) (q12 : Nat) (q13 : Nat) : (z4r10 s q10 q11 q12 q13) := ⟨MemAt.same _ (encL_pf cInt_pf _), MemAt.same _ (encL_pf cInt_pf _), MemAt.same _ (encL_pf cXRung_pf _), MemAt.same _ (encL_pf cXSpan_pf _), MemAt.of (.cons _ _ _ _ (.slc 11 0 _ _ _ ⟨10, 0, 0, 0⟩ rfl (.inl rfl)) (.cons _ _ _ _ (.slc 12 0 _ _ _ ⟨11, 0, 0, 0⟩ rfl (.inl rfl)) (.cons _ _ _ _ (VR.of_pf rfl) (.cons _ _ _ _ (VR.of_pf rfl) (.cons _ _ _ _ (VR.of_pf rfl) (.cons _ _ _ _ (VR.of_pf rfl) (.cons _ _ _ _ (.slc 13 0 _ _ _ ⟨12, 0, 0, 0⟩ rfl (.inl rfl)) (.cons _ _ _ _ (.slc 14 0 _ _ _ ⟨13, 0, 0, 0⟩ rfl (.inl rfl)) .nil)))))))), trivial⟩
noncomputable abbrev z4i16 (s : XSpecies) (q10 : Nat) (q11 : Nat) (q12 : Nat) (q13 : Nat) (x1 : Bool) : Hint := (hB (hM (.bool (x1)) (.bool (x1)) (A_growth_speciesIsDefined s q10 q11 q12 q13) (K_growth_speciesIsDefined s) [(10, 10, 0), (11, 11, 0), (12, 12, 0), (13, 13, 0)]) false)
abbrev A_growth_Grow (s : XSpecies) (x_1 : XStand) (w : XWeather) (q10 : Nat) (q11 : Nat) (q12 : Nat) (q13 : Nat) : List Value := [.agg #[.slice (some ⟨10, 0, none⟩) (s.Rise.length) (q10), .slice (some ⟨11, 0, none⟩) (s.Thick.length) (q11), I (s.Top), I (s.Stout), I (s.Shade), I (s.Reach), .slice (some ⟨12, 0, none⟩) (s.Ladder.length) (q12), .slice (some ⟨13, 0, none⟩) (s.Sprouts.length) (q13)], .agg #[I (x_1.Age), I (x_1.Shoots), I (x_1.Height), I (x_1.Girth)], .agg #[I (w.Light), I (w.Browse), I (w.Mild)]]
abbrev K_growth_Grow (s : XSpecies) : List (Nat × List Value) := [(10, encL cInt s.Rise), (11, encL cInt s.Thick), (12, encL cXRung s.Ladder), (13, encL cXSpan s.Sprouts)]
noncomputable def growth_Grow (fu : Nat) (s : XSpecies) (x_1 : XStand) (w : XWeather) : Option (XStand × Int) :=
  Option.bind (growth_speciesIsDefined fu s) fun x1 =>
  bif x1 then (bif growth_standIsDefined x_1 then (bif growth_weatherIsDefined w then (Option.bind (growth_grower_grow fu (⟨s⟩ : Xgrower) x_1 w) fun x5 =>
        some (x5, 0))
      else some ((⟨0, 0, 0, 0⟩ : XStand), 2))
    else some ((⟨0, 0, 0, 0⟩ : XStand), 2))
  else some ((⟨0, 0, 0, 0⟩ : XStand), 2)
theorem growth_Grow_fc (fu : Nat) (s : XSpecies) (x_1 : XStand) (w : XWeather) (q10 q11 q12 q13 : Nat) (r : XStand × Int) (hh : growth_Grow fu s x_1 w = some r) : FC P GG 19 (A_growth_Grow s x_1 w q10 q11 q12 q13) (K_growth_Grow s) (.tuple #[.agg #[I (r.1.Age), I (r.1.Shoots), I (r.1.Height), I (r.1.Girth)], I (r.2)]) := by
  refine FC.of_fsat 28 100 Tryd.func19 (by kernel_rfl) (by kernel_rfl) (by kernel_rfl) ⟨PinL.pf (encL_pf cInt_pf _), PinL.pf (encL_pf cInt_pf _), PinL.pf (encL_pf cXRung_pf _), PinL.pf (encL_pf cXSpan_pf _), trivial⟩ ?_
  cases h1 : growth_speciesIsDefined fu s with
  | none =>
    have e : growth_Grow fu s x_1 w = none := by unfold growth_Grow; rw [h1, Option.bind_none]; first | done | rfl
    rw [e] at hh; cases hh
  | some x1 =>
    rcases Bool.eq_false_or_eq_true (x1) with h2 | h2
    · skip
      rcases Bool.eq_false_or_eq_true (growth_standIsDefined x_1) with h3 | h3
      · skip
        rcases Bool.eq_false_or_eq_true (growth_weatherIsDefined w) with h4 | h4
        · skip
          cases h5 : growth_grower_grow fu (⟨s⟩ : Xgrower) x_1 w with
          | none =>
            have e : growth_Grow fu s x_1 w = none := by unfold growth_Grow; rw [h1, Option.bind_some, h2, cond_true, h3, cond_true, h4, cond_true, h5, Option.bind_none]; first | done | rfl
            rw [e] at hh; cases hh
          | some x5 =>
            have e : growth_Grow fu s x_1 w = some (x5, 0) := by unfold growth_Grow; rw [h1, Option.bind_some, h2, cond_true, h3, cond_true, h4, cond_true, h5, Option.bind_some]; first | done | rfl
            rw [e] at hh
            have hr := Option.some.inj hh
            rw [← hr]
            exact FSat.done pfT (fuel := 17) (hs := (hR 6 ((z4i0 s q10 q11 q12 q13 x1) :: hE :: hE :: hE :: (hB (hC (.bool (growth_standIsDefined x_1))) true) :: (hR 4 ((hB (hC (.bool (growth_weatherIsDefined w))) true) :: (hR 8 [(z4i1 s x_1 w q10 q11 q12 q13 x5), hE, hE])))))) (ss := []) (R := [(z4r2 s q10 q11 q12 q13 x1), (z4r3 s q10 q11 q12 q13), (z4r4 s), (z4r5 x1), (x1) = true, (z4r6 x_1), (growth_standIsDefined x_1) = true, (z4r7 w), (growth_weatherIsDefined w) = true, (z4r8 s x_1 w q10 q11 q12 q13 x5), (z4r9 x_1 w), (z4r10 s q10 q11 q12 q13), (z4r11 x5)]) (by kernel_rfl) ⟨growth_speciesIsDefined_fc fu s q10 q11 q12 q13 x1 h1, z4p12 s q10 q11 q12 q13, z4p13 s, selfB_self 9 _ rfl _, h2, growth_standIsDefined_fc x_1, h3, growth_weatherIsDefined_fc w, h4, growth_grower_grow_fc fu (⟨s⟩ : Xgrower) x_1 w q10 q11 q12 q13 x5 h5, z4p14 x_1 w, z4p15 s q10 q11 q12 q13, selfB_self 9 _ rfl _, trivial⟩ (by kernel_rfl)
        · skip
          have e : growth_Grow fu s x_1 w = some ((⟨0, 0, 0, 0⟩ : XStand), 2) := by unfold growth_Grow; rw [h1, Option.bind_some, h2, cond_true, h3, cond_true, h4, cond_false]; first | done | rfl
          rw [e] at hh
          have hr := Option.some.inj hh
          rw [← hr]
          exact FSat.done pfT (fuel := 14) (hs := (hR 6 ((z4i0 s q10 q11 q12 q13 x1) :: hE :: hE :: hE :: (hB (hC (.bool (growth_standIsDefined x_1))) true) :: (hR 4 ((hB (hC (.bool (growth_weatherIsDefined w))) false) :: (hR 5 [])))))) (ss := []) (R := [(z4r2 s q10 q11 q12 q13 x1), (z4r3 s q10 q11 q12 q13), (z4r4 s), (z4r5 x1), (x1) = true, (z4r6 x_1), (growth_standIsDefined x_1) = true, (z4r7 w), (growth_weatherIsDefined w) = false]) (by kernel_rfl) ⟨growth_speciesIsDefined_fc fu s q10 q11 q12 q13 x1 h1, z4p12 s q10 q11 q12 q13, z4p13 s, selfB_self 9 _ rfl _, h2, growth_standIsDefined_fc x_1, h3, growth_weatherIsDefined_fc w, h4, trivial⟩ (by kernel_rfl)
      · skip
        have e : growth_Grow fu s x_1 w = some ((⟨0, 0, 0, 0⟩ : XStand), 2) := by unfold growth_Grow; rw [h1, Option.bind_some, h2, cond_true, h3, cond_false]; first | done | rfl
        rw [e] at hh
        have hr := Option.some.inj hh
        rw [← hr]
        exact FSat.done pfT (fuel := 14) (hs := (hR 6 ((z4i0 s q10 q11 q12 q13 x1) :: hE :: hE :: hE :: (hB (hC (.bool (growth_standIsDefined x_1))) false) :: (hR 7 [])))) (ss := []) (R := [(z4r2 s q10 q11 q12 q13 x1), (z4r3 s q10 q11 q12 q13), (z4r4 s), (z4r5 x1), (x1) = true, (z4r6 x_1), (growth_standIsDefined x_1) = false]) (by kernel_rfl) ⟨growth_speciesIsDefined_fc fu s q10 q11 q12 q13 x1 h1, z4p12 s q10 q11 q12 q13, z4p13 s, selfB_self 9 _ rfl _, h2, growth_standIsDefined_fc x_1, h3, trivial⟩ (by kernel_rfl)
    · skip
      have e : growth_Grow fu s x_1 w = some ((⟨0, 0, 0, 0⟩ : XStand), 2) := by unfold growth_Grow; rw [h1, Option.bind_some, h2, cond_false]; first | done | rfl
      rw [e] at hh
      have hr := Option.some.inj hh
      rw [← hr]
      exact FSat.done pfT (fuel := 14) (hs := (hR 6 ((z4i16 s q10 q11 q12 q13 x1) :: (hR 8 [])))) (ss := []) (R := [(z4r2 s q10 q11 q12 q13 x1), (z4r3 s q10 q11 q12 q13), (z4r4 s), (z4r5 x1), (x1) = false]) (by kernel_rfl) ⟨growth_speciesIsDefined_fc fu s q10 q11 q12 q13 x1 h1, z4p12 s q10 q11 q12 q13, z4p13 s, selfB_self 9 _ rfl _, h2, trivial⟩ (by kernel_rfl)

/- greenhew/growth.boxIsDefined -/
abbrev z25r0 (b : XBox) : Prop := FC P GG 58 (A_growth_standIsDefined b.Low) [] (.bool (growth_standIsDefined b.Low))
abbrev z25r1 (b : XBox) : Prop := FC P GG 58 (A_growth_standIsDefined b.High) [] (.bool (growth_standIsDefined b.High))
abbrev A_growth_boxIsDefined (b : XBox) : List Value := [.agg #[I (b.Low.Age), I (b.Low.Shoots), I (b.Low.Height), I (b.Low.Girth), I (b.High.Age), I (b.High.Shoots), I (b.High.Height), I (b.High.Girth)]]
noncomputable def growth_boxIsDefined (b : XBox) : Bool :=
  bif growth_standIsDefined b.Low then (bif growth_standIsDefined b.High then (bif b.Low.Age == b.High.Age then (bif decide (b.Low.Shoots ≤ b.High.Shoots) then (bif decide (b.Low.Height ≤ b.High.Height) then decide (b.Low.Girth ≤ b.High.Girth)
          else false)
        else false)
      else false)
    else false)
  else false
theorem growth_boxIsDefined_fc (b : XBox) : FC P GG 68 (A_growth_boxIsDefined b) [] (.bool (growth_boxIsDefined b)) := by
  refine FC.of_fsat 47 100 Tryd.func68 (by kernel_rfl) (by kernel_rfl) (by kernel_rfl) trivial ?_
  rcases Bool.eq_false_or_eq_true (growth_standIsDefined b.Low) with h1 | h1
  · skip
    rcases Bool.eq_false_or_eq_true (growth_standIsDefined b.High) with h2 | h2
    · skip
      rcases Bool.eq_false_or_eq_true (b.Low.Age == b.High.Age) with h3 | h3
      · skip
        rcases Bool.eq_false_or_eq_true (decide (b.Low.Shoots ≤ b.High.Shoots)) with h4 | h4
        · skip
          rcases Bool.eq_false_or_eq_true (decide (b.Low.Height ≤ b.High.Height)) with h5 | h5
          · skip
            have e : growth_boxIsDefined b = decide (b.Low.Girth ≤ b.High.Girth) := by unfold growth_boxIsDefined; rw [h1, cond_true, h2, cond_true, h3, cond_true, h4, cond_true, h5, cond_true]; first | done | rfl
            rw [e]
            exact FSat.done pfT (fuel := 10) (hs := (hR 4 ((hB (hC (.bool (growth_standIsDefined b.Low))) true) :: hE :: hE :: hE :: (hB (hC (.bool (growth_standIsDefined b.High))) true) :: (hR 8 (hT :: (hR 8 (hT :: (hR 8 (hT :: (hR 11 [])))))))))) (ss := []) (R := [(z25r0 b), (growth_standIsDefined b.Low) = true, (z25r1 b), (growth_standIsDefined b.High) = true, (b.Low.Age == b.High.Age) = true, (decide (b.Low.Shoots ≤ b.High.Shoots)) = true, (decide (b.Low.Height ≤ b.High.Height)) = true]) (by kernel_rfl) ⟨growth_standIsDefined_fc b.Low, h1, growth_standIsDefined_fc b.High, h2, h3, h4, h5, trivial⟩ (by kernel_rfl)
          · skip
            have e : growth_boxIsDefined b = false := by unfold growth_boxIsDefined; rw [h1, cond_true, h2, cond_true, h3, cond_true, h4, cond_true, h5, cond_false]; first | done | rfl
            rw [e]
            exact FSat.done pfT (fuel := 10) (hs := (hR 4 ((hB (hC (.bool (growth_standIsDefined b.Low))) true) :: hE :: hE :: hE :: (hB (hC (.bool (growth_standIsDefined b.High))) true) :: (hR 8 (hT :: (hR 8 (hT :: (hR 8 (hF :: (hR 4 [])))))))))) (ss := []) (R := [(z25r0 b), (growth_standIsDefined b.Low) = true, (z25r1 b), (growth_standIsDefined b.High) = true, (b.Low.Age == b.High.Age) = true, (decide (b.Low.Shoots ≤ b.High.Shoots)) = true, (decide (b.Low.Height ≤ b.High.Height)) = false]) (by kernel_rfl) ⟨growth_standIsDefined_fc b.Low, h1, growth_standIsDefined_fc b.High, h2, h3, h4, h5, trivial⟩ (by kernel_rfl)
        · skip
          have e : growth_boxIsDefined b = false := by unfold growth_boxIsDefined; rw [h1, cond_true, h2, cond_true, h3, cond_true, h4, cond_false]; first | done | rfl
          rw [e]
          exact FSat.done pfT (fuel := 10) (hs := (hR 4 ((hB (hC (.bool (growth_standIsDefined b.Low))) true) :: hE :: hE :: hE :: (hB (hC (.bool (growth_standIsDefined b.High))) true) :: (hR 8 (hT :: (hR 8 (hF :: (hR 6 [])))))))) (ss := []) (R := [(z25r0 b), (growth_standIsDefined b.Low) = true, (z25r1 b), (growth_standIsDefined b.High) = true, (b.Low.Age == b.High.Age) = true, (decide (b.Low.Shoots ≤ b.High.Shoots)) = false]) (by kernel_rfl) ⟨growth_standIsDefined_fc b.Low, h1, growth_standIsDefined_fc b.High, h2, h3, h4, trivial⟩ (by kernel_rfl)
      · skip
        have e : growth_boxIsDefined b = false := by unfold growth_boxIsDefined; rw [h1, cond_true, h2, cond_true, h3, cond_false]; first | done | rfl
        rw [e]
        exact FSat.done pfT (fuel := 10) (hs := (hR 4 ((hB (hC (.bool (growth_standIsDefined b.Low))) true) :: hE :: hE :: hE :: (hB (hC (.bool (growth_standIsDefined b.High))) true) :: (hR 8 (hF :: (hR 8 [])))))) (ss := []) (R := [(z25r0 b), (growth_standIsDefined b.Low) = true, (z25r1 b), (growth_standIsDefined b.High) = true, (b.Low.Age == b.High.Age) = false]) (by kernel_rfl) ⟨growth_standIsDefined_fc b.Low, h1, growth_standIsDefined_fc b.High, h2, h3, trivial⟩ (by kernel_rfl)
    · skip
      have e : growth_boxIsDefined b = false := by unfold growth_boxIsDefined; rw [h1, cond_true, h2, cond_false]; first | done | rfl
      rw [e]
      exact FSat.done pfT (fuel := 10) (hs := (hR 4 ((hB (hC (.bool (growth_standIsDefined b.Low))) true) :: hE :: hE :: hE :: (hB (hC (.bool (growth_standIsDefined b.High))) false) :: (hR 10 [])))) (ss := []) (R := [(z25r0 b), (growth_standIsDefined b.Low) = true, (z25r1 b), (growth_standIsDefined b.High) = false]) (by kernel_rfl) ⟨growth_standIsDefined_fc b.Low, h1, growth_standIsDefined_fc b.High, h2, trivial⟩ (by kernel_rfl)
  · skip
    have e : growth_boxIsDefined b = false := by unfold growth_boxIsDefined; rw [h1, cond_false]; first | done | rfl
    rw [e]
    exact FSat.done pfT (fuel := 10) (hs := (hR 4 ((hB (hC (.bool (growth_standIsDefined b.Low))) false) :: (hR 11 [])))) (ss := []) (R := [(z25r0 b), (growth_standIsDefined b.Low) = false]) (by kernel_rfl) ⟨growth_standIsDefined_fc b.Low, h1, trivial⟩ (by kernel_rfl)

/- greenhew/growth.seasonIsDefined -/
abbrev z26r0 (q : XSeason) : Prop := FC P GG 107 (A_growth_isPart q.Light 100) [] (.bool (growth_isPart q.Light 100))
abbrev z26r1 (q : XSeason) : Prop := FC P GG 107 (A_growth_isPart q.Browse 100) [] (.bool (growth_isPart q.Browse 100))
abbrev z26r2 (q : XSeason) : Prop := FC P GG 107 (A_growth_isPart q.Mild 200) [] (.bool (growth_isPart q.Mild 200))
abbrev A_growth_seasonIsDefined (q : XSeason) : List Value := [.agg #[I (q.Light.Low), I (q.Light.High), I (q.Browse.Low), I (q.Browse.High), I (q.Mild.Low), I (q.Mild.High), .bool (q.Cut)]]
noncomputable def growth_seasonIsDefined (q : XSeason) : Bool :=
  bif growth_isPart q.Light 100 then (bif growth_isPart q.Browse 100 then growth_isPart q.Mild 200
    else false)
  else false
theorem growth_seasonIsDefined_fc (q : XSeason) : FC P GG 72 (A_growth_seasonIsDefined q) [] (.bool (growth_seasonIsDefined q)) := by
  refine FC.of_fsat 16 100 Tryd.func72 (by kernel_rfl) (by kernel_rfl) (by kernel_rfl) trivial ?_
  rcases Bool.eq_false_or_eq_true (growth_isPart q.Light 100) with h1 | h1
  · skip
    rcases Bool.eq_false_or_eq_true (growth_isPart q.Browse 100) with h2 | h2
    · skip
      have e : growth_seasonIsDefined q = growth_isPart q.Mild 200 := by unfold growth_seasonIsDefined; rw [h1, cond_true, h2, cond_true]; first | done | rfl
      rw [e]
      exact FSat.done pfT (fuel := 10) (hs := (hR 4 ((hB (hC (.bool (growth_isPart q.Light 100))) true) :: hE :: hE :: hE :: (hB (hC (.bool (growth_isPart q.Browse 100))) true) :: (hR 4 [(hC (.bool (growth_isPart q.Mild 200))), hE, hE])))) (ss := []) (R := [(z26r0 q), (growth_isPart q.Light 100) = true, (z26r1 q), (growth_isPart q.Browse 100) = true, (z26r2 q)]) (by kernel_rfl) ⟨growth_isPart_fc q.Light 100, h1, growth_isPart_fc q.Browse 100, h2, growth_isPart_fc q.Mild 200, trivial⟩ (by kernel_rfl)
    · skip
      have e : growth_seasonIsDefined q = false := by unfold growth_seasonIsDefined; rw [h1, cond_true, h2, cond_false]; first | done | rfl
      rw [e]
      exact FSat.done pfT (fuel := 10) (hs := (hR 4 ((hB (hC (.bool (growth_isPart q.Light 100))) true) :: hE :: hE :: hE :: (hB (hC (.bool (growth_isPart q.Browse 100))) false) :: (hR 4 [])))) (ss := []) (R := [(z26r0 q), (growth_isPart q.Light 100) = true, (z26r1 q), (growth_isPart q.Browse 100) = false]) (by kernel_rfl) ⟨growth_isPart_fc q.Light 100, h1, growth_isPart_fc q.Browse 100, h2, trivial⟩ (by kernel_rfl)
  · skip
    have e : growth_seasonIsDefined q = false := by unfold growth_seasonIsDefined; rw [h1, cond_false]; first | done | rfl
    rw [e]
    exact FSat.done pfT (fuel := 10) (hs := (hR 4 ((hB (hC (.bool (growth_isPart q.Light 100))) false) :: (hR 5 [])))) (ss := []) (R := [(z26r0 q), (growth_isPart q.Light 100) = false]) (by kernel_rfl) ⟨growth_isPart_fc q.Light 100, h1, trivial⟩ (by kernel_rfl)

/- greenhew/growth.atAge[greenhew/api.Span] -/
noncomputable abbrev z29i0 (table : List XSpan) (age : Int) : Hint := (hL (.agg #[I ((at_ zXSpan table (imin age (W (((table.length : Nat) : Int) - 1)))).Low), I ((at_ zXSpan table (imin age (W (((table.length : Nat) : Int) - 1)))).High)]))
abbrev z29r1 (table : List XSpan) (age : Int) : Prop := 0 ≤ (imin age (W (((table.length : Nat) : Int) - 1))) ∧ (imin age (W (((table.length : Nat) : Int) - 1))) < ((table.length : Nat) : Int)
abbrev z29r2 (table : List XSpan) (age : Int) : Prop := RowLd P 56 (encL cXSpan table) (0 + (imin age (W (((table.length : Nat) : Int) - 1))).toNat * 2) (.agg #[I ((at_ zXSpan table (imin age (W (((table.length : Nat) : Int) - 1)))).Low), I ((at_ zXSpan table (imin age (W (((table.length : Nat) : Int) - 1)))).High)])
abbrev A_api_Span_1 (table : List XSpan) (age : Int) (q10 : Nat) : List Value := [.slice (some ⟨10, 0, none⟩) (table.length) (q10), I (age)]
abbrev K_api_Span_1 (table : List XSpan) : List (Nat × List Value) := [(10, encL cXSpan table)]
noncomputable def api_Span_1 (table : List XSpan) (age : Int) : Option XSpan :=
  bif decide (0 ≤ (imin age (W (((table.length : Nat) : Int) - 1))) ∧ (imin age (W (((table.length : Nat) : Int) - 1))) < ((table.length : Nat) : Int)) then some (at_ zXSpan table (imin age (W (((table.length : Nat) : Int) - 1)))) else none
theorem api_Span_1_fc (table : List XSpan) (age : Int) (q10 : Nat) (r : XSpan) (hh : api_Span_1 table age = some r) : FC P GG 123 (A_api_Span_1 table age q10) (K_api_Span_1 table) (.agg #[I (r.Low), I (r.High)]) := by
  refine FC.of_fsat 13 100 Tryd.func123 (by kernel_rfl) (by kernel_rfl) (by kernel_rfl) ⟨PinL.pf (encL_pf cXSpan_pf _), trivial⟩ ?_
  rcases Bool.eq_false_or_eq_true (decide (0 ≤ (imin age (W (((table.length : Nat) : Int) - 1))) ∧ (imin age (W (((table.length : Nat) : Int) - 1))) < ((table.length : Nat) : Int))) with h1 | h1
  rotate_left
  · skip
    have e : api_Span_1 table age = none := by unfold api_Span_1; rw [h1, cond_false]; first | done | rfl
    rw [e] at hh; cases hh
  · skip
    have e : api_Span_1 table age = some (at_ zXSpan table (imin age (W (((table.length : Nat) : Int) - 1)))) := by unfold api_Span_1; rw [h1, cond_true]; first | done | rfl
    rw [e] at hh
    have hr := Option.some.inj hh
    rw [← hr]
    exact FSat.done pfT (fuel := 10) (hs := (hR 7 [hX, (z29i0 table age), hE])) (ss := []) (R := [(z29r1 table age), (z29r2 table age)]) (by kernel_rfl) ⟨of_decide_eq_true h1, RowLd.elem cXSpan_len _ (.inl ⟨_, rfl⟩) rfl rfl _ _ (of_decide_eq_true h1), trivial⟩ (by kernel_rfl)

/- (greenhew/growth.grower).cut -/
noncomputable abbrev z28i0 (g : Xgrower) (b : XBox) (q14 : Nat) (x1 : XSpan) : Hint := (hM (.agg #[I (x1.Low), I (x1.High)]) (.agg #[I (x1.Low), I (x1.High)]) (A_api_Span_1 g.Species.Sprouts b.Low.Age q14) (K_api_Span_1 g.Species.Sprouts) [(10, 14, 0)])
abbrev z28r1 (g : Xgrower) (b : XBox) (q14 : Nat) (x1 : XSpan) : Prop := FC P GG 123 (A_api_Span_1 g.Species.Sprouts b.Low.Age q14) (K_api_Span_1 g.Species.Sprouts) (.agg #[I (x1.Low), I (x1.High)])
abbrev z28r2 (g : Xgrower) (b : XBox) (q14 : Nat) : Prop := VRs (Ren.emb [(10, 14, 0)]) (A_api_Span_1 g.Species.Sprouts b.Low.Age q14) [.slice (some ⟨14, 0, none⟩) (g.Species.Sprouts.length) (q14), I (b.Low.Age)]
abbrev z28r3 (g : Xgrower) : Prop := MemAt (Ren.emb [(10, 14, 0)]) (encL cXSpan g.Species.Sprouts) 0 (encL cXSpan g.Species.Sprouts) ∧ True
abbrev z28r4 (x1 : XSpan) : Prop := VR (Ren.emb [(10, 14, 0)]) (.agg #[I (x1.Low), I (x1.High)]) (.agg #[I (x1.Low), I (x1.High)])
abbrev z28r5 : Prop := (.pointer (some ⟨10, 0, none⟩) : Value) = .pointer (some ⟨10, 0, none⟩)
abbrev z28r6 : Prop := (.pointer (some ⟨10, 7, none⟩) : Value) = .pointer (some ⟨10, 7, none⟩)
abbrev z28r7 (g : Xgrower) (q14 : Nat) : Prop := (.slice (some ⟨14, 0, none⟩) (g.Species.Sprouts.length) (q14) : Value) = .slice (some ⟨14, 0, none⟩) (g.Species.Sprouts.length) (q14)
abbrev z28r8 : Prop := (.pointer (some ⟨100, 0, none⟩) : Value) = .pointer (some ⟨100, 0, none⟩)
abbrev z28r9 (x1 : XSpan) : Prop := (.agg #[I (x1.Low), I (x1.High)] : Value) = .agg #[I (x1.Low), I (x1.High)]
theorem z28p10 (g : Xgrower) (b : XBox) (q14 : Nat) : (z28r2 g b q14) := (.cons _ _ _ _ (.slc 10 0 _ _ _ ⟨14, 0, 0, 0⟩ rfl (.inl rfl)) (.cons _ _ _ _ (VR.of_pf rfl) .nil))
abbrev A_growth_grower_cut (b : XBox) : List Value := [.pointer (some ⟨10, 0, none⟩), .agg #[I (b.Low.Age), I (b.Low.Shoots), I (b.Low.Height), I (b.Low.Girth), I (b.High.Age), I (b.High.Shoots), I (b.High.Height), I (b.High.Girth)]]
abbrev K_growth_grower_cut (g : Xgrower) (q11 : Nat) (q12 : Nat) (q13 : Nat) (q14 : Nat) : List (Nat × List Value) := [(11, encL cInt g.Species.Rise), (12, encL cInt g.Species.Thick), (13, encL cXRung g.Species.Ladder), (14, encL cXSpan g.Species.Sprouts), (10, [.slice (some ⟨11, 0, none⟩) (g.Species.Rise.length) (q11), .slice (some ⟨12, 0, none⟩) (g.Species.Thick.length) (q12), I (g.Species.Top), I (g.Species.Stout), I (g.Species.Shade), I (g.Species.Reach), .slice (some ⟨13, 0, none⟩) (g.Species.Ladder.length) (q13), .slice (some ⟨14, 0, none⟩) (g.Species.Sprouts.length) (q14)])]
noncomputable def growth_grower_cut (g : Xgrower) (b : XBox) : Option XBox :=
  Option.bind (api_Span_1 g.Species.Sprouts b.Low.Age) fun x1 =>
  some (⟨(⟨0, x1.Low, 0, 0⟩ : XStand), (⟨0, x1.High, 0, 0⟩ : XStand)⟩ : XBox)
theorem growth_grower_cut_fc (g : Xgrower) (b : XBox) (q11 q12 q13 q14 : Nat) (r : XBox) (hh : growth_grower_cut g b = some r) : FC P GG 108 (A_growth_grower_cut b) (K_growth_grower_cut g q11 q12 q13 q14) (.agg #[I (r.Low.Age), I (r.Low.Shoots), I (r.Low.Height), I (r.Low.Girth), I (r.High.Age), I (r.High.Shoots), I (r.High.Height), I (r.High.Girth)]) := by
  refine FC.of_fsat 22 100 Tryd.func108 (by kernel_rfl) (by kernel_rfl) (by kernel_rfl) ⟨PinL.pf (encL_pf cInt_pf _), PinL.pf (encL_pf cInt_pf _), PinL.pf (encL_pf cXRung_pf _), PinL.pf (encL_pf cXSpan_pf _), PinL.lit (by kernel_rfl), trivial⟩ ?_
  cases h1 : api_Span_1 g.Species.Sprouts b.Low.Age with
  | none =>
    have e : growth_grower_cut g b = none := by unfold growth_grower_cut; rw [h1, Option.bind_none]; first | done | rfl
    rw [e] at hh; cases hh
  | some x1 =>
    have e : growth_grower_cut g b = some (⟨(⟨0, x1.Low, 0, 0⟩ : XStand), (⟨0, x1.High, 0, 0⟩ : XStand)⟩ : XBox) := by unfold growth_grower_cut; rw [h1, Option.bind_some]; first | done | rfl
    rw [e] at hh
    have hr := Option.some.inj hh
    rw [← hr]
    exact FSat.done pfT (fuel := 12) (hs := (hR 10 ((z28i0 g b q14 x1) :: (hR 10 [])))) (ss := []) (R := [(z28r1 g b q14 x1), (z28r2 g b q14), (z28r3 g), (z28r4 x1), z28r5, z28r5, z28r5, z28r6, (z28r7 g q14), z28r8, z28r8, (I (b.Low.Age) : Value) = I (b.Low.Age), (z28r1 g b q14 x1), (z28r2 g b q14), (z28r3 g), (z28r4 x1), (z28r9 x1)]) (by kernel_rfl) ⟨api_Span_1_fc g.Species.Sprouts b.Low.Age q14 x1 h1, z28p10 g b q14, ⟨MemAt.same _ (encL_pf cXSpan_pf _), trivial⟩, selfB_self 9 _ rfl _, rfl, rfl, rfl, rfl, rfl, rfl, rfl, rfl, api_Span_1_fc g.Species.Sprouts b.Low.Age q14 x1 h1, z28p10 g b q14, ⟨MemAt.same _ (encL_pf cXSpan_pf _), trivial⟩, selfB_self 9 _ rfl _, rfl, trivial⟩ (by kernel_rfl)

/- greenhew/growth.crossed -/
abbrev A_growth_crossed (b : XBox) : List Value := [.agg #[I (b.Low.Age), I (b.Low.Shoots), I (b.Low.Height), I (b.Low.Girth), I (b.High.Age), I (b.High.Shoots), I (b.High.Height), I (b.High.Girth)]]
noncomputable def growth_crossed (b : XBox) : XBox :=
  (⟨(⟨b.Low.Age, b.High.Shoots, b.Low.Height, b.Low.Girth⟩ : XStand), (⟨b.High.Age, b.Low.Shoots, b.High.Height, b.High.Girth⟩ : XStand)⟩ : XBox)
theorem growth_crossed_fc (b : XBox) : FC P GG 109 (A_growth_crossed b) [] (.agg #[I (((growth_crossed b).Low).Age), I (((growth_crossed b).Low).Shoots), I (((growth_crossed b).Low).Height), I (((growth_crossed b).Low).Girth), I (((growth_crossed b).High).Age), I (((growth_crossed b).High).Shoots), I (((growth_crossed b).High).Height), I (((growth_crossed b).High).Girth)]) := by
  refine FC.of_fsat 14 100 Tryd.func109 (by kernel_rfl) (by kernel_rfl) (by kernel_rfl) trivial ?_
  have e : growth_crossed b = (⟨(⟨b.Low.Age, b.High.Shoots, b.Low.Height, b.Low.Girth⟩ : XStand), (⟨b.High.Age, b.Low.Shoots, b.High.Height, b.High.Girth⟩ : XStand)⟩ : XBox) := by unfold growth_crossed; rfl
  rw [e]
  exact FSat.done pfT (fuel := 12) (hs := (hR 16 [])) (ss := []) (R := []) (by kernel_rfl) trivial (by kernel_rfl)

/- (greenhew/growth.grower).step -/
noncomputable abbrev z27i0 (g : Xgrower) (b : XBox) (q11 : Nat) (q12 : Nat) (q13 : Nat) (q14 : Nat) (x2 : XBox) : Hint := (hM (.agg #[I (x2.Low.Age), I (x2.Low.Shoots), I (x2.Low.Height), I (x2.Low.Girth), I (x2.High.Age), I (x2.High.Shoots), I (x2.High.Height), I (x2.High.Girth)]) (.agg #[I (x2.Low.Age), I (x2.Low.Shoots), I (x2.Low.Height), I (x2.Low.Girth), I (x2.High.Age), I (x2.High.Shoots), I (x2.High.Height), I (x2.High.Girth)]) (A_growth_grower_cut b) (K_growth_grower_cut g q11 q12 q13 q14) [(11, 11, 0), (12, 12, 0), (13, 13, 0), (14, 14, 0), (10, 10, 0)])
noncomputable abbrev z27i1 (x2 : XBox) : Hint := (hC (.agg #[I (((growth_crossed x2).Low).Age), I (((growth_crossed x2).Low).Shoots), I (((growth_crossed x2).Low).Height), I (((growth_crossed x2).Low).Girth), I (((growth_crossed x2).High).Age), I (((growth_crossed x2).High).Shoots), I (((growth_crossed x2).High).Height), I (((growth_crossed x2).High).Girth)]))
noncomputable abbrev z27i2 (g : Xgrower) (q : XSeason) (q11 : Nat) (q12 : Nat) (q13 : Nat) (q14 : Nat) (x2 : XBox) (x3 : XStand) : Hint := (hM (.agg #[I (x3.Age), I (x3.Shoots), I (x3.Height), I (x3.Girth)]) (.agg #[I (x3.Age), I (x3.Shoots), I (x3.Height), I (x3.Girth)]) (A_growth_grower_grow ((growth_crossed x2).Low) (⟨q.Light.Low, q.Browse.High, q.Mild.Low⟩ : XWeather)) (K_growth_grower_grow g q11 q12 q13 q14) [(11, 11, 0), (12, 12, 0), (13, 13, 0), (14, 14, 0), (10, 10, 0)])
noncomputable abbrev z27i3 (g : Xgrower) (q : XSeason) (q11 : Nat) (q12 : Nat) (q13 : Nat) (q14 : Nat) (x2 : XBox) (x4 : XStand) : Hint := (hM (.agg #[I (x4.Age), I (x4.Shoots), I (x4.Height), I (x4.Girth)]) (.agg #[I (x4.Age), I (x4.Shoots), I (x4.Height), I (x4.Girth)]) (A_growth_grower_grow ((growth_crossed x2).High) (⟨q.Light.High, q.Browse.Low, q.Mild.High⟩ : XWeather)) (K_growth_grower_grow g q11 q12 q13 q14) [(11, 11, 0), (12, 12, 0), (13, 13, 0), (14, 14, 0), (10, 10, 0)])
noncomputable abbrev z27i4 (x3 : XStand) (x4 : XStand) : Hint := (hC (.agg #[I (((growth_crossed (⟨x3, x4⟩ : XBox)).Low).Age), I (((growth_crossed (⟨x3, x4⟩ : XBox)).Low).Shoots), I (((growth_crossed (⟨x3, x4⟩ : XBox)).Low).Height), I (((growth_crossed (⟨x3, x4⟩ : XBox)).Low).Girth), I (((growth_crossed (⟨x3, x4⟩ : XBox)).High).Age), I (((growth_crossed (⟨x3, x4⟩ : XBox)).High).Shoots), I (((growth_crossed (⟨x3, x4⟩ : XBox)).High).Height), I (((growth_crossed (⟨x3, x4⟩ : XBox)).High).Girth)]))
abbrev z27r5 (g : Xgrower) (b : XBox) (q11 : Nat) (q12 : Nat) (q13 : Nat) (q14 : Nat) (x2 : XBox) : Prop := FC P GG 108 (A_growth_grower_cut b) (K_growth_grower_cut g q11 q12 q13 q14) (.agg #[I (x2.Low.Age), I (x2.Low.Shoots), I (x2.Low.Height), I (x2.Low.Girth), I (x2.High.Age), I (x2.High.Shoots), I (x2.High.Height), I (x2.High.Girth)])
abbrev z27r6 (b : XBox) : Prop := VRs (Ren.emb [(11, 11, 0), (12, 12, 0), (13, 13, 0), (14, 14, 0), (10, 10, 0)]) (A_growth_grower_cut b) [.pointer (some ⟨10, 0, none⟩), .agg #[I (b.Low.Age), I (b.Low.Shoots), I (b.Low.Height), I (b.Low.Girth), I (b.High.Age), I (b.High.Shoots), I (b.High.Height), I (b.High.Girth)]]
abbrev z27r7 (g : Xgrower) (q11 : Nat) (q12 : Nat) (q13 : Nat) (q14 : Nat) : Prop := MemAt (Ren.emb [(11, 11, 0), (12, 12, 0), (13, 13, 0), (14, 14, 0), (10, 10, 0)]) (encL cInt g.Species.Rise) 0 (encL cInt g.Species.Rise) ∧ MemAt (Ren.emb [(11, 11, 0), (12, 12, 0), (13, 13, 0), (14, 14, 0), (10, 10, 0)]) (encL cInt g.Species.Thick) 0 (encL cInt g.Species.Thick) ∧ MemAt (Ren.emb [(11, 11, 0), (12, 12, 0), (13, 13, 0), (14, 14, 0), (10, 10, 0)]) (encL cXRung g.Species.Ladder) 0 (encL cXRung g.Species.Ladder) ∧ MemAt (Ren.emb [(11, 11, 0), (12, 12, 0), (13, 13, 0), (14, 14, 0), (10, 10, 0)]) (encL cXSpan g.Species.Sprouts) 0 (encL cXSpan g.Species.Sprouts) ∧ MemAt (Ren.emb [(11, 11, 0), (12, 12, 0), (13, 13, 0), (14, 14, 0), (10, 10, 0)]) [.slice (some ⟨11, 0, none⟩) (g.Species.Rise.length) (q11), .slice (some ⟨12, 0, none⟩) (g.Species.Thick.length) (q12), I (g.Species.Top), I (g.Species.Stout), I (g.Species.Shade), I (g.Species.Reach), .slice (some ⟨13, 0, none⟩) (g.Species.Ladder.length) (q13), .slice (some ⟨14, 0, none⟩) (g.Species.Sprouts.length) (q14)] 0 [.slice (some ⟨11, 0, none⟩) (g.Species.Rise.length) (q11), .slice (some ⟨12, 0, none⟩) (g.Species.Thick.length) (q12), I (g.Species.Top), I (g.Species.Stout), I (g.Species.Shade), I (g.Species.Reach), .slice (some ⟨13, 0, none⟩) (g.Species.Ladder.length) (q13), .slice (some ⟨14, 0, none⟩) (g.Species.Sprouts.length) (q14)] ∧ True
abbrev z27r8 (x2 : XBox) : Prop := VR (Ren.emb [(11, 11, 0), (12, 12, 0), (13, 13, 0), (14, 14, 0), (10, 10, 0)]) (.agg #[I (x2.Low.Age), I (x2.Low.Shoots), I (x2.Low.Height), I (x2.Low.Girth), I (x2.High.Age), I (x2.High.Shoots), I (x2.High.Height), I (x2.High.Girth)]) (.agg #[I (x2.Low.Age), I (x2.Low.Shoots), I (x2.Low.Height), I (x2.Low.Girth), I (x2.High.Age), I (x2.High.Shoots), I (x2.High.Height), I (x2.High.Girth)])
abbrev z27r9 (x2 : XBox) : Prop := FC P GG 109 (A_growth_crossed x2) [] (.agg #[I (((growth_crossed x2).Low).Age), I (((growth_crossed x2).Low).Shoots), I (((growth_crossed x2).Low).Height), I (((growth_crossed x2).Low).Girth), I (((growth_crossed x2).High).Age), I (((growth_crossed x2).High).Shoots), I (((growth_crossed x2).High).Height), I (((growth_crossed x2).High).Girth)])
abbrev z27r10 (g : Xgrower) (q : XSeason) (q11 : Nat) (q12 : Nat) (q13 : Nat) (q14 : Nat) (x2 : XBox) (x3 : XStand) : Prop := FC P GG 60 (A_growth_grower_grow ((growth_crossed x2).Low) (⟨q.Light.Low, q.Browse.High, q.Mild.Low⟩ : XWeather)) (K_growth_grower_grow g q11 q12 q13 q14) (.agg #[I (x3.Age), I (x3.Shoots), I (x3.Height), I (x3.Girth)])
abbrev z27r11 (q : XSeason) (x2 : XBox) : Prop := VRs (Ren.emb [(11, 11, 0), (12, 12, 0), (13, 13, 0), (14, 14, 0), (10, 10, 0)]) (A_growth_grower_grow ((growth_crossed x2).Low) (⟨q.Light.Low, q.Browse.High, q.Mild.Low⟩ : XWeather)) [.pointer (some ⟨10, 0, none⟩), .agg #[I (((growth_crossed x2).Low).Age), I (((growth_crossed x2).Low).Shoots), I (((growth_crossed x2).Low).Height), I (((growth_crossed x2).Low).Girth)], .agg #[I (q.Light.Low), I (q.Browse.High), I (q.Mild.Low)]]
abbrev z27r12 (x3 : XStand) : Prop := VR (Ren.emb [(11, 11, 0), (12, 12, 0), (13, 13, 0), (14, 14, 0), (10, 10, 0)]) (.agg #[I (x3.Age), I (x3.Shoots), I (x3.Height), I (x3.Girth)]) (.agg #[I (x3.Age), I (x3.Shoots), I (x3.Height), I (x3.Girth)])
abbrev z27r13 (g : Xgrower) (q : XSeason) (q11 : Nat) (q12 : Nat) (q13 : Nat) (q14 : Nat) (x2 : XBox) (x4 : XStand) : Prop := FC P GG 60 (A_growth_grower_grow ((growth_crossed x2).High) (⟨q.Light.High, q.Browse.Low, q.Mild.High⟩ : XWeather)) (K_growth_grower_grow g q11 q12 q13 q14) (.agg #[I (x4.Age), I (x4.Shoots), I (x4.Height), I (x4.Girth)])
abbrev z27r14 (q : XSeason) (x2 : XBox) : Prop := VRs (Ren.emb [(11, 11, 0), (12, 12, 0), (13, 13, 0), (14, 14, 0), (10, 10, 0)]) (A_growth_grower_grow ((growth_crossed x2).High) (⟨q.Light.High, q.Browse.Low, q.Mild.High⟩ : XWeather)) [.pointer (some ⟨10, 0, none⟩), .agg #[I (((growth_crossed x2).High).Age), I (((growth_crossed x2).High).Shoots), I (((growth_crossed x2).High).Height), I (((growth_crossed x2).High).Girth)], .agg #[I (q.Light.High), I (q.Browse.Low), I (q.Mild.High)]]
abbrev z27r15 (x4 : XStand) : Prop := VR (Ren.emb [(11, 11, 0), (12, 12, 0), (13, 13, 0), (14, 14, 0), (10, 10, 0)]) (.agg #[I (x4.Age), I (x4.Shoots), I (x4.Height), I (x4.Girth)]) (.agg #[I (x4.Age), I (x4.Shoots), I (x4.Height), I (x4.Girth)])
abbrev z27r16 (x3 : XStand) (x4 : XStand) : Prop := FC P GG 109 (A_growth_crossed (⟨x3, x4⟩ : XBox)) [] (.agg #[I (((growth_crossed (⟨x3, x4⟩ : XBox)).Low).Age), I (((growth_crossed (⟨x3, x4⟩ : XBox)).Low).Shoots), I (((growth_crossed (⟨x3, x4⟩ : XBox)).Low).Height), I (((growth_crossed (⟨x3, x4⟩ : XBox)).Low).Girth), I (((growth_crossed (⟨x3, x4⟩ : XBox)).High).Age), I (((growth_crossed (⟨x3, x4⟩ : XBox)).High).Shoots), I (((growth_crossed (⟨x3, x4⟩ : XBox)).High).Height), I (((growth_crossed (⟨x3, x4⟩ : XBox)).High).Girth)])
theorem z27p17 (b : XBox) : (z27r6 b) := (.cons _ _ _ _ (.ptr 10 0 ⟨10, 0, 0, 0⟩ rfl) (.cons _ _ _ _ (VR.of_pf rfl) .nil))
theorem z27p18 (g : Xgrower) (q11 : Nat) (q12 : Nat) (q13 : Nat) (q14 : Nat) : (z27r7 g q11 q12 q13 q14) := ⟨MemAt.same _ (encL_pf cInt_pf _), MemAt.same _ (encL_pf cInt_pf _), MemAt.same _ (encL_pf cXRung_pf _), MemAt.same _ (encL_pf cXSpan_pf _), MemAt.of (.cons _ _ _ _ (.slc 11 0 _ _ _ ⟨11, 0, 0, 0⟩ rfl (.inl rfl)) (.cons _ _ _ _ (.slc 12 0 _ _ _ ⟨12, 0, 0, 0⟩ rfl (.inl rfl)) (.cons _ _ _ _ (VR.of_pf rfl) (.cons _ _ _ _ (VR.of_pf rfl) (.cons _ _ _ _ (VR.of_pf rfl) (.cons _ _ _ _ (VR.of_pf rfl) (.cons _ _ _ _ (.slc 13 0 _ _ _ ⟨13, 0, 0, 0⟩ rfl (.inl rfl)) (.cons _ _ _ _ (.slc 14 0 _ _ _ ⟨14, 0, 0, 0⟩ rfl (.inl rfl)) .nil)))))))), trivial⟩
theorem z27p19 (q : XSeason) (x2 : XBox) : (z27r11 q x2) := (.cons _ _ _ _ (.ptr 10 0 ⟨10, 0, 0, 0⟩ rfl) (.cons _ _ _ _ (VR.of_pf rfl) (.cons _ _ _ _ (VR.of_pf rfl) .nil)))
theorem z27p20 (q : XSeason) (x2 : XBox) : (z27r14 q x2) := (.cons _ _ _ _ (.ptr 10 0 ⟨10, 0, 0, 0⟩ rfl) (.cons _ _ _ _ (VR.of_pf rfl) (.cons _ _ _ _ (VR.of_pf rfl) .nil)))
noncomputable abbrev z27i21 (b : XBox) : Hint := (hC (.agg #[I (((growth_crossed b).Low).Age), I (((growth_crossed b).Low).Shoots), I (((growth_crossed b).Low).Height), I (((growth_crossed b).Low).Girth), I (((growth_crossed b).High).Age), I (((growth_crossed b).High).Shoots), I (((growth_crossed b).High).Height), I (((growth_crossed b).High).Girth)]))
noncomputable abbrev z27i22 (g : Xgrower) (b : XBox) (q : XSeason) (q11 : Nat) (q12 : Nat) (q13 : Nat) (q14 : Nat) (x2 : XStand) : Hint := (hM (.agg #[I (x2.Age), I (x2.Shoots), I (x2.Height), I (x2.Girth)]) (.agg #[I (x2.Age), I (x2.Shoots), I (x2.Height), I (x2.Girth)]) (A_growth_grower_grow ((growth_crossed b).Low) (⟨q.Light.Low, q.Browse.High, q.Mild.Low⟩ : XWeather)) (K_growth_grower_grow g q11 q12 q13 q14) [(11, 11, 0), (12, 12, 0), (13, 13, 0), (14, 14, 0), (10, 10, 0)])
noncomputable abbrev z27i23 (g : Xgrower) (b : XBox) (q : XSeason) (q11 : Nat) (q12 : Nat) (q13 : Nat) (q14 : Nat) (x3 : XStand) : Hint := (hM (.agg #[I (x3.Age), I (x3.Shoots), I (x3.Height), I (x3.Girth)]) (.agg #[I (x3.Age), I (x3.Shoots), I (x3.Height), I (x3.Girth)]) (A_growth_grower_grow ((growth_crossed b).High) (⟨q.Light.High, q.Browse.Low, q.Mild.High⟩ : XWeather)) (K_growth_grower_grow g q11 q12 q13 q14) [(11, 11, 0), (12, 12, 0), (13, 13, 0), (14, 14, 0), (10, 10, 0)])
noncomputable abbrev z27i24 (x2 : XStand) (x3 : XStand) : Hint := (hC (.agg #[I (((growth_crossed (⟨x2, x3⟩ : XBox)).Low).Age), I (((growth_crossed (⟨x2, x3⟩ : XBox)).Low).Shoots), I (((growth_crossed (⟨x2, x3⟩ : XBox)).Low).Height), I (((growth_crossed (⟨x2, x3⟩ : XBox)).Low).Girth), I (((growth_crossed (⟨x2, x3⟩ : XBox)).High).Age), I (((growth_crossed (⟨x2, x3⟩ : XBox)).High).Shoots), I (((growth_crossed (⟨x2, x3⟩ : XBox)).High).Height), I (((growth_crossed (⟨x2, x3⟩ : XBox)).High).Girth)]))
abbrev z27r25 (b : XBox) : Prop := FC P GG 109 (A_growth_crossed b) [] (.agg #[I (((growth_crossed b).Low).Age), I (((growth_crossed b).Low).Shoots), I (((growth_crossed b).Low).Height), I (((growth_crossed b).Low).Girth), I (((growth_crossed b).High).Age), I (((growth_crossed b).High).Shoots), I (((growth_crossed b).High).Height), I (((growth_crossed b).High).Girth)])
abbrev z27r26 (g : Xgrower) (b : XBox) (q : XSeason) (q11 : Nat) (q12 : Nat) (q13 : Nat) (q14 : Nat) (x2 : XStand) : Prop := FC P GG 60 (A_growth_grower_grow ((growth_crossed b).Low) (⟨q.Light.Low, q.Browse.High, q.Mild.Low⟩ : XWeather)) (K_growth_grower_grow g q11 q12 q13 q14) (.agg #[I (x2.Age), I (x2.Shoots), I (x2.Height), I (x2.Girth)])
abbrev z27r27 (b : XBox) (q : XSeason) : Prop := VRs (Ren.emb [(11, 11, 0), (12, 12, 0), (13, 13, 0), (14, 14, 0), (10, 10, 0)]) (A_growth_grower_grow ((growth_crossed b).Low) (⟨q.Light.Low, q.Browse.High, q.Mild.Low⟩ : XWeather)) [.pointer (some ⟨10, 0, none⟩), .agg #[I (((growth_crossed b).Low).Age), I (((growth_crossed b).Low).Shoots), I (((growth_crossed b).Low).Height), I (((growth_crossed b).Low).Girth)], .agg #[I (q.Light.Low), I (q.Browse.High), I (q.Mild.Low)]]
abbrev z27r28 (x2 : XStand) : Prop := VR (Ren.emb [(11, 11, 0), (12, 12, 0), (13, 13, 0), (14, 14, 0), (10, 10, 0)]) (.agg #[I (x2.Age), I (x2.Shoots), I (x2.Height), I (x2.Girth)]) (.agg #[I (x2.Age), I (x2.Shoots), I (x2.Height), I (x2.Girth)])
abbrev z27r29 (g : Xgrower) (b : XBox) (q : XSeason) (q11 : Nat) (q12 : Nat) (q13 : Nat) (q14 : Nat) (x3 : XStand) : Prop := FC P GG 60 (A_growth_grower_grow ((growth_crossed b).High) (⟨q.Light.High, q.Browse.Low, q.Mild.High⟩ : XWeather)) (K_growth_grower_grow g q11 q12 q13 q14) (.agg #[I (x3.Age), I (x3.Shoots), I (x3.Height), I (x3.Girth)])
abbrev z27r30 (b : XBox) (q : XSeason) : Prop := VRs (Ren.emb [(11, 11, 0), (12, 12, 0), (13, 13, 0), (14, 14, 0), (10, 10, 0)]) (A_growth_grower_grow ((growth_crossed b).High) (⟨q.Light.High, q.Browse.Low, q.Mild.High⟩ : XWeather)) [.pointer (some ⟨10, 0, none⟩), .agg #[I (((growth_crossed b).High).Age), I (((growth_crossed b).High).Shoots), I (((growth_crossed b).High).Height), I (((growth_crossed b).High).Girth)], .agg #[I (q.Light.High), I (q.Browse.Low), I (q.Mild.High)]]
abbrev z27r31 (x2 : XStand) (x3 : XStand) : Prop := FC P GG 109 (A_growth_crossed (⟨x2, x3⟩ : XBox)) [] (.agg #[I (((growth_crossed (⟨x2, x3⟩ : XBox)).Low).Age), I (((growth_crossed (⟨x2, x3⟩ : XBox)).Low).Shoots), I (((growth_crossed (⟨x2, x3⟩ : XBox)).Low).Height), I (((growth_crossed (⟨x2, x3⟩ : XBox)).Low).Girth), I (((growth_crossed (⟨x2, x3⟩ : XBox)).High).Age), I (((growth_crossed (⟨x2, x3⟩ : XBox)).High).Shoots), I (((growth_crossed (⟨x2, x3⟩ : XBox)).High).Height), I (((growth_crossed (⟨x2, x3⟩ : XBox)).High).Girth)])
theorem z27p32 (b : XBox) (q : XSeason) : (z27r27 b q) := (.cons _ _ _ _ (.ptr 10 0 ⟨10, 0, 0, 0⟩ rfl) (.cons _ _ _ _ (VR.of_pf rfl) (.cons _ _ _ _ (VR.of_pf rfl) .nil)))
theorem z27p33 (b : XBox) (q : XSeason) : (z27r30 b q) := (.cons _ _ _ _ (.ptr 10 0 ⟨10, 0, 0, 0⟩ rfl) (.cons _ _ _ _ (VR.of_pf rfl) (.cons _ _ _ _ (VR.of_pf rfl) .nil)))
abbrev A_growth_grower_step (b : XBox) (q : XSeason) : List Value := [.pointer (some ⟨10, 0, none⟩), .agg #[I (b.Low.Age), I (b.Low.Shoots), I (b.Low.Height), I (b.Low.Girth), I (b.High.Age), I (b.High.Shoots), I (b.High.Height), I (b.High.Girth)], .agg #[I (q.Light.Low), I (q.Light.High), I (q.Browse.Low), I (q.Browse.High), I (q.Mild.Low), I (q.Mild.High), .bool (q.Cut)]]
abbrev K_growth_grower_step (g : Xgrower) (q11 : Nat) (q12 : Nat) (q13 : Nat) (q14 : Nat) : List (Nat × List Value) := [(11, encL cInt g.Species.Rise), (12, encL cInt g.Species.Thick), (13, encL cXRung g.Species.Ladder), (14, encL cXSpan g.Species.Sprouts), (10, [.slice (some ⟨11, 0, none⟩) (g.Species.Rise.length) (q11), .slice (some ⟨12, 0, none⟩) (g.Species.Thick.length) (q12), I (g.Species.Top), I (g.Species.Stout), I (g.Species.Shade), I (g.Species.Reach), .slice (some ⟨13, 0, none⟩) (g.Species.Ladder.length) (q13), .slice (some ⟨14, 0, none⟩) (g.Species.Sprouts.length) (q14)])]
noncomputable def growth_grower_step (fu : Nat) (g : Xgrower) (b : XBox) (q : XSeason) : Option XBox :=
  bif q.Cut then (Option.bind (growth_grower_cut g b) fun x2 =>
    Option.bind (growth_grower_grow fu g ((growth_crossed x2).Low) (⟨q.Light.Low, q.Browse.High, q.Mild.Low⟩ : XWeather)) fun x3 =>
    Option.bind (growth_grower_grow fu g ((growth_crossed x2).High) (⟨q.Light.High, q.Browse.Low, q.Mild.High⟩ : XWeather)) fun x4 =>
    some (⟨((growth_crossed (⟨x3, x4⟩ : XBox)).Low), ((growth_crossed (⟨x3, x4⟩ : XBox)).High)⟩ : XBox))
  else (Option.bind (growth_grower_grow fu g ((growth_crossed b).Low) (⟨q.Light.Low, q.Browse.High, q.Mild.Low⟩ : XWeather)) fun x2 =>
    Option.bind (growth_grower_grow fu g ((growth_crossed b).High) (⟨q.Light.High, q.Browse.Low, q.Mild.High⟩ : XWeather)) fun x3 =>
    some (⟨((growth_crossed (⟨x2, x3⟩ : XBox)).Low), ((growth_crossed (⟨x2, x3⟩ : XBox)).High)⟩ : XBox))
theorem growth_grower_step_fc (fu : Nat) (g : Xgrower) (b : XBox) (q : XSeason) (q11 q12 q13 q14 : Nat) (r : XBox) (hh : growth_grower_step fu g b q = some r) : FC P GG 73 (A_growth_grower_step b q) (K_growth_grower_step g q11 q12 q13 q14) (.agg #[I (r.Low.Age), I (r.Low.Shoots), I (r.Low.Height), I (r.Low.Girth), I (r.High.Age), I (r.High.Shoots), I (r.High.Height), I (r.High.Girth)]) := by
  refine FC.of_fsat 49 100 Tryd.func73 (by kernel_rfl) (by kernel_rfl) (by kernel_rfl) ⟨PinL.pf (encL_pf cInt_pf _), PinL.pf (encL_pf cInt_pf _), PinL.pf (encL_pf cXRung_pf _), PinL.pf (encL_pf cXSpan_pf _), PinL.lit (by kernel_rfl), trivial⟩ ?_
  rcases Bool.eq_false_or_eq_true (q.Cut) with h1 | h1
  · skip
    cases h2 : growth_grower_cut g b with
    | none =>
      have e : growth_grower_step fu g b q = none := by unfold growth_grower_step; rw [h1, cond_true, h2, Option.bind_none]; first | done | rfl
      rw [e] at hh; cases hh
    | some x2 =>
      cases h3 : growth_grower_grow fu g ((growth_crossed x2).Low) (⟨q.Light.Low, q.Browse.High, q.Mild.Low⟩ : XWeather) with
      | none =>
        have e : growth_grower_step fu g b q = none := by unfold growth_grower_step; rw [h1, cond_true, h2, Option.bind_some, h3, Option.bind_none]; first | done | rfl
        rw [e] at hh; cases hh
      | some x3 =>
        cases h4 : growth_grower_grow fu g ((growth_crossed x2).High) (⟨q.Light.High, q.Browse.Low, q.Mild.High⟩ : XWeather) with
        | none =>
          have e : growth_grower_step fu g b q = none := by unfold growth_grower_step; rw [h1, cond_true, h2, Option.bind_some, h3, Option.bind_some, h4, Option.bind_none]; first | done | rfl
          rw [e] at hh; cases hh
        | some x4 =>
          have e : growth_grower_step fu g b q = some (⟨((growth_crossed (⟨x3, x4⟩ : XBox)).Low), ((growth_crossed (⟨x3, x4⟩ : XBox)).High)⟩ : XBox) := by unfold growth_grower_step; rw [h1, cond_true, h2, Option.bind_some, h3, Option.bind_some, h4, Option.bind_some]; first | done | rfl
          rw [e] at hh
          have hr := Option.some.inj hh
          rw [← hr]
          exact FSat.done pfT (fuel := 21) (hs := (hR 4 (hT :: hE :: hE :: (z27i0 g b q11 q12 q13 q14 x2) :: (hR 26 ((z27i1 x2) :: (hR 6 ((z27i2 g q q11 q12 q13 q14 x2 x3) :: (hR 4 [(z27i3 g q q11 q12 q13 q14 x2 x4), hE, (z27i4 x3 x4), hE])))))))) (ss := []) (R := [(q.Cut) = true, (z27r5 g b q11 q12 q13 q14 x2), (z27r6 b), (z27r7 g q11 q12 q13 q14), (z27r8 x2), (z27r9 x2), (z27r10 g q q11 q12 q13 q14 x2 x3), (z27r11 q x2), (z27r7 g q11 q12 q13 q14), (z27r12 x3), (z27r13 g q q11 q12 q13 q14 x2 x4), (z27r14 q x2), (z27r7 g q11 q12 q13 q14), (z27r15 x4), (z27r16 x3 x4)]) (by kernel_rfl) ⟨h1, growth_grower_cut_fc g b q11 q12 q13 q14 x2 h2, z27p17 b, z27p18 g q11 q12 q13 q14, selfB_self 9 _ rfl _, growth_crossed_fc x2, growth_grower_grow_fc fu g ((growth_crossed x2).Low) (⟨q.Light.Low, q.Browse.High, q.Mild.Low⟩ : XWeather) q11 q12 q13 q14 x3 h3, z27p19 q x2, z27p18 g q11 q12 q13 q14, selfB_self 9 _ rfl _, growth_grower_grow_fc fu g ((growth_crossed x2).High) (⟨q.Light.High, q.Browse.Low, q.Mild.High⟩ : XWeather) q11 q12 q13 q14 x4 h4, z27p20 q x2, z27p18 g q11 q12 q13 q14, selfB_self 9 _ rfl _, growth_crossed_fc (⟨x3, x4⟩ : XBox), trivial⟩ (by kernel_rfl)
  · skip
    cases h2 : growth_grower_grow fu g ((growth_crossed b).Low) (⟨q.Light.Low, q.Browse.High, q.Mild.Low⟩ : XWeather) with
    | none =>
      have e : growth_grower_step fu g b q = none := by unfold growth_grower_step; rw [h1, cond_false, h2, Option.bind_none]; first | done | rfl
      rw [e] at hh; cases hh
    | some x2 =>
      cases h3 : growth_grower_grow fu g ((growth_crossed b).High) (⟨q.Light.High, q.Browse.Low, q.Mild.High⟩ : XWeather) with
      | none =>
        have e : growth_grower_step fu g b q = none := by unfold growth_grower_step; rw [h1, cond_false, h2, Option.bind_some, h3, Option.bind_none]; first | done | rfl
        rw [e] at hh; cases hh
      | some x3 =>
        have e : growth_grower_step fu g b q = some (⟨((growth_crossed (⟨x2, x3⟩ : XBox)).Low), ((growth_crossed (⟨x2, x3⟩ : XBox)).High)⟩ : XBox) := by unfold growth_grower_step; rw [h1, cond_false, h2, Option.bind_some, h3, Option.bind_some]; first | done | rfl
        rw [e] at hh
        have hr := Option.some.inj hh
        rw [← hr]
        exact FSat.done pfT (fuel := 21) (hs := (hR 4 (hF :: (hR 25 ((z27i21 b) :: (hR 6 ((z27i22 g b q q11 q12 q13 q14 x2) :: (hR 4 [(z27i23 g b q q11 q12 q13 q14 x3), hE, (z27i24 x2 x3), hE])))))))) (ss := []) (R := [(q.Cut) = false, (z27r25 b), (z27r26 g b q q11 q12 q13 q14 x2), (z27r27 b q), (z27r7 g q11 q12 q13 q14), (z27r28 x2), (z27r29 g b q q11 q12 q13 q14 x3), (z27r30 b q), (z27r7 g q11 q12 q13 q14), (z27r12 x3), (z27r31 x2 x3)]) (by kernel_rfl) ⟨h1, growth_crossed_fc b, growth_grower_grow_fc fu g ((growth_crossed b).Low) (⟨q.Light.Low, q.Browse.High, q.Mild.Low⟩ : XWeather) q11 q12 q13 q14 x2 h2, z27p32 b q, z27p18 g q11 q12 q13 q14, selfB_self 9 _ rfl _, growth_grower_grow_fc fu g ((growth_crossed b).High) (⟨q.Light.High, q.Browse.Low, q.Mild.High⟩ : XWeather) q11 q12 q13 q14 x3 h3, z27p33 b q, z27p18 g q11 q12 q13 q14, selfB_self 9 _ rfl _, growth_crossed_fc (⟨x2, x3⟩ : XBox), trivial⟩ (by kernel_rfl)

/- greenhew/growth.Step -/
noncomputable abbrev z24i0 (s : XSpecies) (q10 : Nat) (q11 : Nat) (q12 : Nat) (q13 : Nat) (x1 : Bool) : Hint := (hB (hM (.bool (x1)) (.bool (x1)) (A_growth_speciesIsDefined s q10 q11 q12 q13) (K_growth_speciesIsDefined s) [(10, 10, 0), (11, 11, 0), (12, 12, 0), (13, 13, 0)]) true)
noncomputable abbrev z24i1 (s : XSpecies) (b : XBox) (q : XSeason) (q10 : Nat) (q11 : Nat) (q12 : Nat) (q13 : Nat) (x5 : XBox) : Hint := (hM (.agg #[I (x5.Low.Age), I (x5.Low.Shoots), I (x5.Low.Height), I (x5.Low.Girth), I (x5.High.Age), I (x5.High.Shoots), I (x5.High.Height), I (x5.High.Girth)]) (.agg #[I (x5.Low.Age), I (x5.Low.Shoots), I (x5.Low.Height), I (x5.Low.Girth), I (x5.High.Age), I (x5.High.Shoots), I (x5.High.Height), I (x5.High.Girth)]) (A_growth_grower_step b q) (K_growth_grower_step (⟨s⟩ : Xgrower) q10 q11 q12 q13) [(11, 10, 0), (12, 11, 0), (13, 12, 0), (14, 13, 0), (10, 104, 0)])
abbrev z24r2 (s : XSpecies) (q10 : Nat) (q11 : Nat) (q12 : Nat) (q13 : Nat) (x1 : Bool) : Prop := FC P GG 57 (A_growth_speciesIsDefined s q10 q11 q12 q13) (K_growth_speciesIsDefined s) (.bool (x1))
abbrev z24r3 (s : XSpecies) (q10 : Nat) (q11 : Nat) (q12 : Nat) (q13 : Nat) : Prop := VRs (Ren.emb [(10, 10, 0), (11, 11, 0), (12, 12, 0), (13, 13, 0)]) (A_growth_speciesIsDefined s q10 q11 q12 q13) [.agg #[.slice (some ⟨10, 0, none⟩) (s.Rise.length) (q10), .slice (some ⟨11, 0, none⟩) (s.Thick.length) (q11), I (s.Top), I (s.Stout), I (s.Shade), I (s.Reach), .slice (some ⟨12, 0, none⟩) (s.Ladder.length) (q12), .slice (some ⟨13, 0, none⟩) (s.Sprouts.length) (q13)]]
abbrev z24r4 (s : XSpecies) : Prop := MemAt (Ren.emb [(10, 10, 0), (11, 11, 0), (12, 12, 0), (13, 13, 0)]) (encL cInt s.Rise) 0 (encL cInt s.Rise) ∧ MemAt (Ren.emb [(10, 10, 0), (11, 11, 0), (12, 12, 0), (13, 13, 0)]) (encL cInt s.Thick) 0 (encL cInt s.Thick) ∧ MemAt (Ren.emb [(10, 10, 0), (11, 11, 0), (12, 12, 0), (13, 13, 0)]) (encL cXRung s.Ladder) 0 (encL cXRung s.Ladder) ∧ MemAt (Ren.emb [(10, 10, 0), (11, 11, 0), (12, 12, 0), (13, 13, 0)]) (encL cXSpan s.Sprouts) 0 (encL cXSpan s.Sprouts) ∧ True
abbrev z24r5 (x1 : Bool) : Prop := VR (Ren.emb [(10, 10, 0), (11, 11, 0), (12, 12, 0), (13, 13, 0)]) (.bool (x1)) (.bool (x1))
abbrev z24r6 (b : XBox) : Prop := FC P GG 68 (A_growth_boxIsDefined b) [] (.bool (growth_boxIsDefined b))
abbrev z24r7 (q : XSeason) : Prop := FC P GG 72 (A_growth_seasonIsDefined q) [] (.bool (growth_seasonIsDefined q))
abbrev z24r8 (s : XSpecies) (b : XBox) (q : XSeason) (q10 : Nat) (q11 : Nat) (q12 : Nat) (q13 : Nat) (x5 : XBox) : Prop := FC P GG 73 (A_growth_grower_step b q) (K_growth_grower_step (⟨s⟩ : Xgrower) q10 q11 q12 q13) (.agg #[I (x5.Low.Age), I (x5.Low.Shoots), I (x5.Low.Height), I (x5.Low.Girth), I (x5.High.Age), I (x5.High.Shoots), I (x5.High.Height), I (x5.High.Girth)])
abbrev z24r9 (b : XBox) (q : XSeason) : Prop := VRs (Ren.emb [(11, 10, 0), (12, 11, 0), (13, 12, 0), (14, 13, 0), (10, 104, 0)]) (A_growth_grower_step b q) [.pointer (some ⟨104, 0, none⟩), .agg #[I (b.Low.Age), I (b.Low.Shoots), I (b.Low.Height), I (b.Low.Girth), I (b.High.Age), I (b.High.Shoots), I (b.High.Height), I (b.High.Girth)], .agg #[I (q.Light.Low), I (q.Light.High), I (q.Browse.Low), I (q.Browse.High), I (q.Mild.Low), I (q.Mild.High), .bool (q.Cut)]]
abbrev z24r10 (s : XSpecies) (q10 : Nat) (q11 : Nat) (q12 : Nat) (q13 : Nat) : Prop := MemAt (Ren.emb [(11, 10, 0), (12, 11, 0), (13, 12, 0), (14, 13, 0), (10, 104, 0)]) (encL cInt (((⟨s⟩ : Xgrower).Species).Rise)) 0 (encL cInt s.Rise) ∧ MemAt (Ren.emb [(11, 10, 0), (12, 11, 0), (13, 12, 0), (14, 13, 0), (10, 104, 0)]) (encL cInt (((⟨s⟩ : Xgrower).Species).Thick)) 0 (encL cInt s.Thick) ∧ MemAt (Ren.emb [(11, 10, 0), (12, 11, 0), (13, 12, 0), (14, 13, 0), (10, 104, 0)]) (encL cXRung (((⟨s⟩ : Xgrower).Species).Ladder)) 0 (encL cXRung s.Ladder) ∧ MemAt (Ren.emb [(11, 10, 0), (12, 11, 0), (13, 12, 0), (14, 13, 0), (10, 104, 0)]) (encL cXSpan (((⟨s⟩ : Xgrower).Species).Sprouts)) 0 (encL cXSpan s.Sprouts) ∧ MemAt (Ren.emb [(11, 10, 0), (12, 11, 0), (13, 12, 0), (14, 13, 0), (10, 104, 0)]) [.slice (some ⟨11, 0, none⟩) ((((⟨s⟩ : Xgrower).Species).Rise).length) (q10), .slice (some ⟨12, 0, none⟩) ((((⟨s⟩ : Xgrower).Species).Thick).length) (q11), I (((⟨s⟩ : Xgrower).Species).Top), I (((⟨s⟩ : Xgrower).Species).Stout), I (((⟨s⟩ : Xgrower).Species).Shade), I (((⟨s⟩ : Xgrower).Species).Reach), .slice (some ⟨13, 0, none⟩) ((((⟨s⟩ : Xgrower).Species).Ladder).length) (q12), .slice (some ⟨14, 0, none⟩) ((((⟨s⟩ : Xgrower).Species).Sprouts).length) (q13)] 0 [.slice (some ⟨10, 0, none⟩) (s.Rise.length) (q10), .slice (some ⟨11, 0, none⟩) (s.Thick.length) (q11), I (s.Top), I (s.Stout), I (s.Shade), I (s.Reach), .slice (some ⟨12, 0, none⟩) (s.Ladder.length) (q12), .slice (some ⟨13, 0, none⟩) (s.Sprouts.length) (q13)] ∧ True
abbrev z24r11 (x5 : XBox) : Prop := VR (Ren.emb [(11, 10, 0), (12, 11, 0), (13, 12, 0), (14, 13, 0), (10, 104, 0)]) (.agg #[I (x5.Low.Age), I (x5.Low.Shoots), I (x5.Low.Height), I (x5.Low.Girth), I (x5.High.Age), I (x5.High.Shoots), I (x5.High.Height), I (x5.High.Girth)]) (.agg #[I (x5.Low.Age), I (x5.Low.Shoots), I (x5.Low.Height), I (x5.Low.Girth), I (x5.High.Age), I (x5.High.Shoots), I (x5.High.Height), I (x5.High.Girth)])
theorem z24p12 (s : XSpecies) (q10 : Nat) (q11 : Nat) (q12 : Nat) (q13 : Nat) : (z24r3 s q10 q11 q12 q13) := (.cons _ _ _ _ (.agg _ _ (.cons _ _ _ _ (.slc 10 0 _ _ _ ⟨10, 0, 0, 0⟩ rfl (.inl rfl)) (.cons _ _ _ _ (.slc 11 0 _ _ _ ⟨11, 0, 0, 0⟩ rfl (.inl rfl)) (.cons _ _ _ _ (VR.of_pf rfl) (.cons _ _ _ _ (VR.of_pf rfl) (.cons _ _ _ _ (VR.of_pf rfl) (.cons _ _ _ _ (VR.of_pf rfl) (.cons _ _ _ _ (.slc 12 0 _ _ _ ⟨12, 0, 0, 0⟩ rfl (.inl rfl)) (.cons _ _ _ _ (.slc 13 0 _ _ _ ⟨13, 0, 0, 0⟩ rfl (.inl rfl)) .nil))))))))) .nil)
theorem z24p13 (s : XSpecies) : (z24r4 s) := ⟨MemAt.same _ (encL_pf cInt_pf _), MemAt.same _ (encL_pf cInt_pf _), MemAt.same _ (encL_pf cXRung_pf _), MemAt.same _ (encL_pf cXSpan_pf _), trivial⟩
theorem z24p14 (b : XBox) (q : XSeason) : (z24r9 b q) := (.cons _ _ _ _ (.ptr 10 0 ⟨104, 0, 0, 0⟩ rfl) (.cons _ _ _ _ (VR.of_pf rfl) (.cons _ _ _ _ (VR.of_pf rfl) .nil)))
theorem z24p15 (s : XSpecies) (q10 : Nat) (q11 : Nat) (q12 : Nat) (q13 : Nat) : (z24r10 s q10 q11 q12 q13) := ⟨MemAt.same _ (encL_pf cInt_pf _), MemAt.same _ (encL_pf cInt_pf _), MemAt.same _ (encL_pf cXRung_pf _), MemAt.same _ (encL_pf cXSpan_pf _), MemAt.of (.cons _ _ _ _ (.slc 11 0 _ _ _ ⟨10, 0, 0, 0⟩ rfl (.inl rfl)) (.cons _ _ _ _ (.slc 12 0 _ _ _ ⟨11, 0, 0, 0⟩ rfl (.inl rfl)) (.cons _ _ _ _ (VR.of_pf rfl) (.cons _ _ _ _ (VR.of_pf rfl) (.cons _ _ _ _ (VR.of_pf rfl) (.cons _ _ _ _ (VR.of_pf rfl) (.cons _ _ _ _ (.slc 13 0 _ _ _ ⟨12, 0, 0, 0⟩ rfl (.inl rfl)) (.cons _ _ _ _ (.slc 14 0 _ _ _ ⟨13, 0, 0, 0⟩ rfl (.inl rfl)) .nil)))))))), trivial⟩
noncomputable abbrev z24i16 (s : XSpecies) (q10 : Nat) (q11 : Nat) (q12 : Nat) (q13 : Nat) (x1 : Bool) : Hint := (hB (hM (.bool (x1)) (.bool (x1)) (A_growth_speciesIsDefined s q10 q11 q12 q13) (K_growth_speciesIsDefined s) [(10, 10, 0), (11, 11, 0), (12, 12, 0), (13, 13, 0)]) false)
abbrev A_growth_Step (s : XSpecies) (b : XBox) (q : XSeason) (q10 : Nat) (q11 : Nat) (q12 : Nat) (q13 : Nat) : List Value := [.agg #[.slice (some ⟨10, 0, none⟩) (s.Rise.length) (q10), .slice (some ⟨11, 0, none⟩) (s.Thick.length) (q11), I (s.Top), I (s.Stout), I (s.Shade), I (s.Reach), .slice (some ⟨12, 0, none⟩) (s.Ladder.length) (q12), .slice (some ⟨13, 0, none⟩) (s.Sprouts.length) (q13)], .agg #[I (b.Low.Age), I (b.Low.Shoots), I (b.Low.Height), I (b.Low.Girth), I (b.High.Age), I (b.High.Shoots), I (b.High.Height), I (b.High.Girth)], .agg #[I (q.Light.Low), I (q.Light.High), I (q.Browse.Low), I (q.Browse.High), I (q.Mild.Low), I (q.Mild.High), .bool (q.Cut)]]
abbrev K_growth_Step (s : XSpecies) : List (Nat × List Value) := [(10, encL cInt s.Rise), (11, encL cInt s.Thick), (12, encL cXRung s.Ladder), (13, encL cXSpan s.Sprouts)]
noncomputable def growth_Step (fu : Nat) (s : XSpecies) (b : XBox) (q : XSeason) : Option (XBox × Int) :=
  Option.bind (growth_speciesIsDefined fu s) fun x1 =>
  bif x1 then (bif growth_boxIsDefined b then (bif growth_seasonIsDefined q then (Option.bind (growth_grower_step fu (⟨s⟩ : Xgrower) b q) fun x5 =>
        some (x5, 0))
      else some ((⟨(⟨0, 0, 0, 0⟩ : XStand), (⟨0, 0, 0, 0⟩ : XStand)⟩ : XBox), 2))
    else some ((⟨(⟨0, 0, 0, 0⟩ : XStand), (⟨0, 0, 0, 0⟩ : XStand)⟩ : XBox), 2))
  else some ((⟨(⟨0, 0, 0, 0⟩ : XStand), (⟨0, 0, 0, 0⟩ : XStand)⟩ : XBox), 2)
theorem growth_Step_fc (fu : Nat) (s : XSpecies) (b : XBox) (q : XSeason) (q10 q11 q12 q13 : Nat) (r : XBox × Int) (hh : growth_Step fu s b q = some r) : FC P GG 31 (A_growth_Step s b q q10 q11 q12 q13) (K_growth_Step s) (.tuple #[.agg #[I (r.1.Low.Age), I (r.1.Low.Shoots), I (r.1.Low.Height), I (r.1.Low.Girth), I (r.1.High.Age), I (r.1.High.Shoots), I (r.1.High.Height), I (r.1.High.Girth)], I (r.2)]) := by
  refine FC.of_fsat 28 100 Tryd.func31 (by kernel_rfl) (by kernel_rfl) (by kernel_rfl) ⟨PinL.pf (encL_pf cInt_pf _), PinL.pf (encL_pf cInt_pf _), PinL.pf (encL_pf cXRung_pf _), PinL.pf (encL_pf cXSpan_pf _), trivial⟩ ?_
  cases h1 : growth_speciesIsDefined fu s with
  | none =>
    have e : growth_Step fu s b q = none := by unfold growth_Step; rw [h1, Option.bind_none]; first | done | rfl
    rw [e] at hh; cases hh
  | some x1 =>
    rcases Bool.eq_false_or_eq_true (x1) with h2 | h2
    · skip
      rcases Bool.eq_false_or_eq_true (growth_boxIsDefined b) with h3 | h3
      · skip
        rcases Bool.eq_false_or_eq_true (growth_seasonIsDefined q) with h4 | h4
        · skip
          cases h5 : growth_grower_step fu (⟨s⟩ : Xgrower) b q with
          | none =>
            have e : growth_Step fu s b q = none := by unfold growth_Step; rw [h1, Option.bind_some, h2, cond_true, h3, cond_true, h4, cond_true, h5, Option.bind_none]; first | done | rfl
            rw [e] at hh; cases hh
          | some x5 =>
            have e : growth_Step fu s b q = some (x5, 0) := by unfold growth_Step; rw [h1, Option.bind_some, h2, cond_true, h3, cond_true, h4, cond_true, h5, Option.bind_some]; first | done | rfl
            rw [e] at hh
            have hr := Option.some.inj hh
            rw [← hr]
            exact FSat.done pfT (fuel := 17) (hs := (hR 6 ((z24i0 s q10 q11 q12 q13 x1) :: hE :: hE :: hE :: (hB (hC (.bool (growth_boxIsDefined b))) true) :: (hR 4 ((hB (hC (.bool (growth_seasonIsDefined q))) true) :: (hR 8 [(z24i1 s b q q10 q11 q12 q13 x5), hE, hE])))))) (ss := []) (R := [(z24r2 s q10 q11 q12 q13 x1), (z24r3 s q10 q11 q12 q13), (z24r4 s), (z24r5 x1), (x1) = true, (z24r6 b), (growth_boxIsDefined b) = true, (z24r7 q), (growth_seasonIsDefined q) = true, (z24r8 s b q q10 q11 q12 q13 x5), (z24r9 b q), (z24r10 s q10 q11 q12 q13), (z24r11 x5)]) (by kernel_rfl) ⟨growth_speciesIsDefined_fc fu s q10 q11 q12 q13 x1 h1, z24p12 s q10 q11 q12 q13, z24p13 s, selfB_self 9 _ rfl _, h2, growth_boxIsDefined_fc b, h3, growth_seasonIsDefined_fc q, h4, growth_grower_step_fc fu (⟨s⟩ : Xgrower) b q q10 q11 q12 q13 x5 h5, z24p14 b q, z24p15 s q10 q11 q12 q13, selfB_self 9 _ rfl _, trivial⟩ (by kernel_rfl)
        · skip
          have e : growth_Step fu s b q = some ((⟨(⟨0, 0, 0, 0⟩ : XStand), (⟨0, 0, 0, 0⟩ : XStand)⟩ : XBox), 2) := by unfold growth_Step; rw [h1, Option.bind_some, h2, cond_true, h3, cond_true, h4, cond_false]; first | done | rfl
          rw [e] at hh
          have hr := Option.some.inj hh
          rw [← hr]
          exact FSat.done pfT (fuel := 14) (hs := (hR 6 ((z24i0 s q10 q11 q12 q13 x1) :: hE :: hE :: hE :: (hB (hC (.bool (growth_boxIsDefined b))) true) :: (hR 4 ((hB (hC (.bool (growth_seasonIsDefined q))) false) :: (hR 5 [])))))) (ss := []) (R := [(z24r2 s q10 q11 q12 q13 x1), (z24r3 s q10 q11 q12 q13), (z24r4 s), (z24r5 x1), (x1) = true, (z24r6 b), (growth_boxIsDefined b) = true, (z24r7 q), (growth_seasonIsDefined q) = false]) (by kernel_rfl) ⟨growth_speciesIsDefined_fc fu s q10 q11 q12 q13 x1 h1, z24p12 s q10 q11 q12 q13, z24p13 s, selfB_self 9 _ rfl _, h2, growth_boxIsDefined_fc b, h3, growth_seasonIsDefined_fc q, h4, trivial⟩ (by kernel_rfl)
      · skip
        have e : growth_Step fu s b q = some ((⟨(⟨0, 0, 0, 0⟩ : XStand), (⟨0, 0, 0, 0⟩ : XStand)⟩ : XBox), 2) := by unfold growth_Step; rw [h1, Option.bind_some, h2, cond_true, h3, cond_false]; first | done | rfl
        rw [e] at hh
        have hr := Option.some.inj hh
        rw [← hr]
        exact FSat.done pfT (fuel := 14) (hs := (hR 6 ((z24i0 s q10 q11 q12 q13 x1) :: hE :: hE :: hE :: (hB (hC (.bool (growth_boxIsDefined b))) false) :: (hR 7 [])))) (ss := []) (R := [(z24r2 s q10 q11 q12 q13 x1), (z24r3 s q10 q11 q12 q13), (z24r4 s), (z24r5 x1), (x1) = true, (z24r6 b), (growth_boxIsDefined b) = false]) (by kernel_rfl) ⟨growth_speciesIsDefined_fc fu s q10 q11 q12 q13 x1 h1, z24p12 s q10 q11 q12 q13, z24p13 s, selfB_self 9 _ rfl _, h2, growth_boxIsDefined_fc b, h3, trivial⟩ (by kernel_rfl)
    · skip
      have e : growth_Step fu s b q = some ((⟨(⟨0, 0, 0, 0⟩ : XStand), (⟨0, 0, 0, 0⟩ : XStand)⟩ : XBox), 2) := by unfold growth_Step; rw [h1, Option.bind_some, h2, cond_false]; first | done | rfl
      rw [e] at hh
      have hr := Option.some.inj hh
      rw [← hr]
      exact FSat.done pfT (fuel := 14) (hs := (hR 6 ((z24i16 s q10 q11 q12 q13 x1) :: (hR 8 [])))) (ss := []) (R := [(z24r2 s q10 q11 q12 q13 x1), (z24r3 s q10 q11 q12 q13), (z24r4 s), (z24r5 x1), (x1) = false]) (by kernel_rfl) ⟨growth_speciesIsDefined_fc fu s q10 q11 q12 q13 x1 h1, z24p12 s q10 q11 q12 q13, z24p13 s, selfB_self 9 _ rfl _, h2, trivial⟩ (by kernel_rfl)

/- greenhew/growth.wood -/
abbrev A_growth_wood (x_0 : XStand) : List Value := [.agg #[I (x_0.Age), I (x_0.Shoots), I (x_0.Height), I (x_0.Girth)]]
noncomputable def growth_wood (x_0 : XStand) : Int :=
  W ((W ((W ((W (x_0.Shoots * x_0.Height)) * x_0.Girth)) * x_0.Girth)).tdiv 25000000)
theorem growth_wood_fc (x_0 : XStand) : FC P GG 61 (A_growth_wood x_0) [] (I (growth_wood x_0)) := by
  refine FC.of_fsat 15 100 Tryd.func61 (by kernel_rfl) (by kernel_rfl) (by kernel_rfl) trivial ?_
  have e : growth_wood x_0 = W ((W ((W ((W (x_0.Shoots * x_0.Height)) * x_0.Girth)) * x_0.Girth)).tdiv 25000000) := by unfold growth_wood; rfl
  rw [e]
  exact FSat.done pfT (fuel := 10) (hs := (hR 15 [])) (ss := []) (R := []) (by kernel_rfl) trivial (by kernel_rfl)

/- greenhew/growth.Woods -/
abbrev z31r0 (b : XBox) : Prop := FC P GG 68 (A_growth_boxIsDefined b) [] (.bool (growth_boxIsDefined b))
abbrev z31r1 (b : XBox) : Prop := FC P GG 61 (A_growth_wood b.High) [] (I (growth_wood b.High))
abbrev A_growth_Woods (b : XBox) : List Value := [.agg #[I (b.Low.Age), I (b.Low.Shoots), I (b.Low.Height), I (b.Low.Girth), I (b.High.Age), I (b.High.Shoots), I (b.High.Height), I (b.High.Girth)]]
noncomputable def growth_Woods (b : XBox) : Int × Int × Int :=
  bif growth_boxIsDefined b then (growth_wood b.Low, growth_wood b.High, 0)
  else (0, 0, 2)
theorem growth_Woods_fc (b : XBox) : FC P GG 41 (A_growth_Woods b) [] (.tuple #[I ((growth_Woods b).1), I ((growth_Woods b).2.1), I ((growth_Woods b).2.2)]) := by
  refine FC.of_fsat 14 100 Tryd.func41 (by kernel_rfl) (by kernel_rfl) (by kernel_rfl) trivial ?_
  rcases Bool.eq_false_or_eq_true (growth_boxIsDefined b) with h1 | h1
  · skip
    have e : growth_Woods b = (growth_wood b.Low, growth_wood b.High, 0) := by unfold growth_Woods; rw [h1, cond_true]; first | done | rfl
    rw [e]
    exact FSat.done pfT (fuel := 15) (hs := (hR 5 [(hB (hC (.bool (growth_boxIsDefined b))) true), hE, hE, hE, (hC (I (growth_wood b.Low))), hE, hE, (hC (I (growth_wood b.High))), hE, hE, hE])) (ss := []) (R := [(z31r0 b), (growth_boxIsDefined b) = true, FC P GG 61 (A_growth_wood b.Low) [] (I (growth_wood b.Low)), (z31r1 b)]) (by kernel_rfl) ⟨growth_boxIsDefined_fc b, h1, growth_wood_fc b.Low, growth_wood_fc b.High, trivial⟩ (by kernel_rfl)
  · skip
    have e : growth_Woods b = (0, 0, 2) := by unfold growth_Woods; rw [h1, cond_false]; first | done | rfl
    rw [e]
    exact FSat.done pfT (fuel := 14) (hs := (hR 5 ((hB (hC (.bool (growth_boxIsDefined b))) false) :: (hR 4 [])))) (ss := []) (R := [(z31r0 b), (growth_boxIsDefined b) = false]) (by kernel_rfl) ⟨growth_boxIsDefined_fc b, h1, trivial⟩ (by kernel_rfl)

structure XTolerance where
  Shoots : Int
  Height : Int
  Girth : Int

def zXTolerance : XTolerance := ⟨0, 0, 0⟩

/- greenhew/growth.toleranceIsDefined -/
abbrev z34r0 (t_0 : XTolerance) : Prop := FC P GG 94 (A_growth_within t_0.Shoots 0 100000) [] (.bool (growth_within t_0.Shoots 0 100000))
abbrev z34r1 (t_0 : XTolerance) : Prop := FC P GG 94 (A_growth_within t_0.Height 0 100000) [] (.bool (growth_within t_0.Height 0 100000))
abbrev z34r2 (t_0 : XTolerance) : Prop := FC P GG 94 (A_growth_within t_0.Girth 0 100000) [] (.bool (growth_within t_0.Girth 0 100000))
abbrev A_growth_toleranceIsDefined (t_0 : XTolerance) : List Value := [.agg #[I (t_0.Shoots), I (t_0.Height), I (t_0.Girth)]]
noncomputable def growth_toleranceIsDefined (t_0 : XTolerance) : Bool :=
  bif growth_within t_0.Shoots 0 100000 then (bif growth_within t_0.Height 0 100000 then growth_within t_0.Girth 0 100000
    else false)
  else false
theorem growth_toleranceIsDefined_fc (t_0 : XTolerance) : FC P GG 90 (A_growth_toleranceIsDefined t_0) [] (.bool (growth_toleranceIsDefined t_0)) := by
  refine FC.of_fsat 16 100 Tryd.func90 (by kernel_rfl) (by kernel_rfl) (by kernel_rfl) trivial ?_
  rcases Bool.eq_false_or_eq_true (growth_within t_0.Shoots 0 100000) with h1 | h1
  · skip
    rcases Bool.eq_false_or_eq_true (growth_within t_0.Height 0 100000) with h2 | h2
    · skip
      have e : growth_toleranceIsDefined t_0 = growth_within t_0.Girth 0 100000 := by unfold growth_toleranceIsDefined; rw [h1, cond_true, h2, cond_true]; first | done | rfl
      rw [e]
      exact FSat.done pfT (fuel := 10) (hs := (hR 4 ((hB (hC (.bool (growth_within t_0.Shoots 0 100000))) true) :: hE :: hE :: hE :: (hB (hC (.bool (growth_within t_0.Height 0 100000))) true) :: (hR 4 [(hC (.bool (growth_within t_0.Girth 0 100000))), hE, hE])))) (ss := []) (R := [(z34r0 t_0), (growth_within t_0.Shoots 0 100000) = true, (z34r1 t_0), (growth_within t_0.Height 0 100000) = true, (z34r2 t_0)]) (by kernel_rfl) ⟨growth_within_fc t_0.Shoots 0 100000, h1, growth_within_fc t_0.Height 0 100000, h2, growth_within_fc t_0.Girth 0 100000, trivial⟩ (by kernel_rfl)
    · skip
      have e : growth_toleranceIsDefined t_0 = false := by unfold growth_toleranceIsDefined; rw [h1, cond_true, h2, cond_false]; first | done | rfl
      rw [e]
      exact FSat.done pfT (fuel := 10) (hs := (hR 4 ((hB (hC (.bool (growth_within t_0.Shoots 0 100000))) true) :: hE :: hE :: hE :: (hB (hC (.bool (growth_within t_0.Height 0 100000))) false) :: (hR 4 [])))) (ss := []) (R := [(z34r0 t_0), (growth_within t_0.Shoots 0 100000) = true, (z34r1 t_0), (growth_within t_0.Height 0 100000) = false]) (by kernel_rfl) ⟨growth_within_fc t_0.Shoots 0 100000, h1, growth_within_fc t_0.Height 0 100000, h2, trivial⟩ (by kernel_rfl)
  · skip
    have e : growth_toleranceIsDefined t_0 = false := by unfold growth_toleranceIsDefined; rw [h1, cond_false]; first | done | rfl
    rw [e]
    exact FSat.done pfT (fuel := 10) (hs := (hR 4 ((hB (hC (.bool (growth_within t_0.Shoots 0 100000))) false) :: (hR 5 [])))) (ss := []) (R := [(z34r0 t_0), (growth_within t_0.Shoots 0 100000) = false]) (by kernel_rfl) ⟨growth_within_fc t_0.Shoots 0 100000, h1, trivial⟩ (by kernel_rfl)

/- greenhew/growth.spanOf -/
noncomputable abbrev z36i0 (b : XBox) (k : Int) : Hint := (hM (.pointer (some ⟨10, 1, none⟩)) (.pointer (some ⟨100, 1, none⟩)) (A_growth_number k) (K_growth_number b.Low) [(10, 100, 0)])
noncomputable abbrev z36i1 (b : XBox) (k : Int) : Hint := (hM (.pointer (some ⟨10, 1, none⟩)) (.pointer (some ⟨100, 5, none⟩)) (A_growth_number k) (K_growth_number b.High) [(10, 100, 4)])
abbrev z36r2 (b : XBox) (k : Int) : Prop := FC P GG 100 (A_growth_number k) (K_growth_number b.Low) (.pointer (some ⟨10, 1, none⟩))
abbrev z36r3 (k : Int) : Prop := VRs (Ren.emb [(10, 100, 0)]) (A_growth_number k) [.pointer (some ⟨100, 0, none⟩), I (k)]
abbrev z36r4 (b : XBox) : Prop := MemAt (Ren.emb [(10, 100, 0)]) [I (b.Low.Age), I (b.Low.Shoots), I (b.Low.Height), I (b.Low.Girth)] 0 [I (b.Low.Age), I (b.Low.Shoots), I (b.Low.Height), I (b.Low.Girth), I (b.High.Age), I (b.High.Shoots), I (b.High.Height), I (b.High.Girth)] ∧ True
abbrev z36r5 : Prop := VR (Ren.emb [(10, 100, 0)]) (.pointer (some ⟨10, 1, none⟩)) (.pointer (some ⟨100, 1, none⟩))
abbrev z36r6 (b : XBox) (k : Int) : Prop := FC P GG 100 (A_growth_number k) (K_growth_number b.High) (.pointer (some ⟨10, 1, none⟩))
abbrev z36r7 (k : Int) : Prop := VRs (Ren.emb [(10, 100, 4)]) (A_growth_number k) [.pointer (some ⟨100, 4, none⟩), I (k)]
abbrev z36r8 (b : XBox) : Prop := MemAt (Ren.emb [(10, 100, 4)]) [I (b.High.Age), I (b.High.Shoots), I (b.High.Height), I (b.High.Girth)] 4 [I (b.Low.Age), I (b.Low.Shoots), I (b.Low.Height), I (b.Low.Girth), I (b.High.Age), I (b.High.Shoots), I (b.High.Height), I (b.High.Girth)] ∧ True
abbrev z36r9 : Prop := VR (Ren.emb [(10, 100, 4)]) (.pointer (some ⟨10, 1, none⟩)) (.pointer (some ⟨100, 5, none⟩))
theorem z36p10 (k : Int) : (z36r3 k) := (.cons _ _ _ _ (.ptr 10 0 ⟨100, 0, 0, 0⟩ rfl) (.cons _ _ _ _ (VR.of_pf rfl) .nil))
theorem z36p11 (b : XBox) : (z36r4 b) := ⟨MemAt.of (.cons _ _ _ _ (VR.of_pf rfl) (.cons _ _ _ _ (VR.of_pf rfl) (.cons _ _ _ _ (VR.of_pf rfl) (.cons _ _ _ _ (VR.of_pf rfl) .nil)))), trivial⟩
theorem z36p12 (k : Int) : (z36r7 k) := (.cons _ _ _ _ (.ptr 10 0 ⟨100, 4, 0, 0⟩ rfl) (.cons _ _ _ _ (VR.of_pf rfl) .nil))
theorem z36p13 (b : XBox) : (z36r8 b) := ⟨MemAt.of (.cons _ _ _ _ (VR.of_pf rfl) (.cons _ _ _ _ (VR.of_pf rfl) (.cons _ _ _ _ (VR.of_pf rfl) (.cons _ _ _ _ (VR.of_pf rfl) .nil)))), trivial⟩
noncomputable abbrev z36i14 (b : XBox) (k : Int) : Hint := (hM (.pointer (some ⟨10, 2, none⟩)) (.pointer (some ⟨100, 2, none⟩)) (A_growth_number k) (K_growth_number b.Low) [(10, 100, 0)])
noncomputable abbrev z36i15 (b : XBox) (k : Int) : Hint := (hM (.pointer (some ⟨10, 2, none⟩)) (.pointer (some ⟨100, 6, none⟩)) (A_growth_number k) (K_growth_number b.High) [(10, 100, 4)])
abbrev z36r16 (b : XBox) (k : Int) : Prop := FC P GG 100 (A_growth_number k) (K_growth_number b.Low) (.pointer (some ⟨10, 2, none⟩))
abbrev z36r17 : Prop := VR (Ren.emb [(10, 100, 0)]) (.pointer (some ⟨10, 2, none⟩)) (.pointer (some ⟨100, 2, none⟩))
abbrev z36r18 (b : XBox) (k : Int) : Prop := FC P GG 100 (A_growth_number k) (K_growth_number b.High) (.pointer (some ⟨10, 2, none⟩))
abbrev z36r19 : Prop := VR (Ren.emb [(10, 100, 4)]) (.pointer (some ⟨10, 2, none⟩)) (.pointer (some ⟨100, 6, none⟩))
noncomputable abbrev z36i20 (b : XBox) (k : Int) : Hint := (hM (.pointer (some ⟨10, 3, none⟩)) (.pointer (some ⟨100, 3, none⟩)) (A_growth_number k) (K_growth_number b.Low) [(10, 100, 0)])
noncomputable abbrev z36i21 (b : XBox) (k : Int) : Hint := (hM (.pointer (some ⟨10, 3, none⟩)) (.pointer (some ⟨100, 7, none⟩)) (A_growth_number k) (K_growth_number b.High) [(10, 100, 4)])
abbrev z36r22 (b : XBox) (k : Int) : Prop := FC P GG 100 (A_growth_number k) (K_growth_number b.Low) (.pointer (some ⟨10, 3, none⟩))
abbrev z36r23 : Prop := VR (Ren.emb [(10, 100, 0)]) (.pointer (some ⟨10, 3, none⟩)) (.pointer (some ⟨100, 3, none⟩))
abbrev z36r24 (b : XBox) (k : Int) : Prop := FC P GG 100 (A_growth_number k) (K_growth_number b.High) (.pointer (some ⟨10, 3, none⟩))
abbrev z36r25 : Prop := VR (Ren.emb [(10, 100, 4)]) (.pointer (some ⟨10, 3, none⟩)) (.pointer (some ⟨100, 7, none⟩))
abbrev A_growth_spanOf (b : XBox) (k : Int) : List Value := [.agg #[I (b.Low.Age), I (b.Low.Shoots), I (b.Low.Height), I (b.Low.Girth), I (b.High.Age), I (b.High.Shoots), I (b.High.Height), I (b.High.Girth)], I (k)]
noncomputable def growth_spanOf (b : XBox) (k : Int) : XSpan :=
  bif k == 1 then (⟨b.Low.Shoots, b.High.Shoots⟩ : XSpan)
  else (bif k == 2 then (⟨b.Low.Height, b.High.Height⟩ : XSpan)
    else (⟨b.Low.Girth, b.High.Girth⟩ : XSpan))
theorem growth_spanOf_fc (b : XBox) (k : Int) : FC P GG 104 (A_growth_spanOf b k) [] (.agg #[I ((growth_spanOf b k).Low), I ((growth_spanOf b k).High)]) := by
  refine FC.of_fsat 16 100 Tryd.func104 (by kernel_rfl) (by kernel_rfl) (by kernel_rfl) trivial ?_
  rcases Bool.eq_false_or_eq_true (k == 1) with h1 | h1
  · skip
    have e : growth_spanOf b k = (⟨b.Low.Shoots, b.High.Shoots⟩ : XSpan) := by unfold growth_spanOf; rw [h1, cond_true]; first | done | rfl
    rw [e]
    exact FSat.done pfT (fuel := 10) (hs := (hR 4 ((z36i0 b k) :: (hR 4 ((z36i1 b k) :: (hR 4 [])))))) (ss := []) (R := [(z36r2 b k), (z36r3 k), (z36r4 b), z36r5, (z36r6 b k), (z36r7 k), (z36r8 b), z36r9]) (by kernel_rfl) ⟨growth_number_fc_1 b.Low k h1, z36p10 k, z36p11 b, .ptr 10 1 ⟨100, 0, 0, 0⟩ rfl, growth_number_fc_1 b.High k h1, z36p12 k, z36p13 b, .ptr 10 1 ⟨100, 4, 0, 0⟩ rfl, trivial⟩ (by kernel_rfl)
  · skip
    rcases Bool.eq_false_or_eq_true (k == 2) with h2 | h2
    · skip
      have e : growth_spanOf b k = (⟨b.Low.Height, b.High.Height⟩ : XSpan) := by unfold growth_spanOf; rw [h1, cond_false, h2, cond_true]; first | done | rfl
      rw [e]
      exact FSat.done pfT (fuel := 10) (hs := (hR 4 ((z36i14 b k) :: (hR 4 ((z36i15 b k) :: (hR 4 [])))))) (ss := []) (R := [(z36r16 b k), (z36r3 k), (z36r4 b), z36r17, (z36r18 b k), (z36r7 k), (z36r8 b), z36r19]) (by kernel_rfl) ⟨growth_number_fc_2 b.Low k h1 h2, z36p10 k, z36p11 b, .ptr 10 2 ⟨100, 0, 0, 0⟩ rfl, growth_number_fc_2 b.High k h1 h2, z36p12 k, z36p13 b, .ptr 10 2 ⟨100, 4, 0, 0⟩ rfl, trivial⟩ (by kernel_rfl)
    · skip
      have e : growth_spanOf b k = (⟨b.Low.Girth, b.High.Girth⟩ : XSpan) := by unfold growth_spanOf; rw [h1, cond_false, h2, cond_false]; first | done | rfl
      rw [e]
      exact FSat.done pfT (fuel := 10) (hs := (hR 4 ((z36i20 b k) :: (hR 4 ((z36i21 b k) :: (hR 4 [])))))) (ss := []) (R := [(z36r22 b k), (z36r3 k), (z36r4 b), z36r23, (z36r24 b k), (z36r7 k), (z36r8 b), z36r25]) (by kernel_rfl) ⟨growth_number_fc_3 b.Low k h1 h2, z36p10 k, z36p11 b, .ptr 10 3 ⟨100, 0, 0, 0⟩ rfl, growth_number_fc_3 b.High k h1 h2, z36p12 k, z36p13 b, .ptr 10 3 ⟨100, 4, 0, 0⟩ rfl, trivial⟩ (by kernel_rfl)

/- greenhew/growth.keep -/
noncomputable abbrev z37i0 (b : XBox) (k : Int) : Hint := (hM (.pointer (some ⟨10, 1, none⟩)) (.pointer (some ⟨100, 1, none⟩)) (A_growth_number k) (K_growth_number b.Low) [(10, 100, 0)])
noncomputable abbrev z37i1 (b : XBox) (k : Int) : Hint := (hM (.pointer (some ⟨10, 1, none⟩)) (.pointer (some ⟨100, 5, none⟩)) (A_growth_number k) (K_growth_number b.High) [(10, 100, 4)])
abbrev z37r2 (b : XBox) (k : Int) : Prop := FC P GG 100 (A_growth_number k) (K_growth_number b.Low) (.pointer (some ⟨10, 1, none⟩))
abbrev z37r3 (k : Int) : Prop := VRs (Ren.emb [(10, 100, 0)]) (A_growth_number k) [.pointer (some ⟨100, 0, none⟩), I (k)]
abbrev z37r4 (b : XBox) : Prop := MemAt (Ren.emb [(10, 100, 0)]) [I (b.Low.Age), I (b.Low.Shoots), I (b.Low.Height), I (b.Low.Girth)] 0 [I (b.Low.Age), I (b.Low.Shoots), I (b.Low.Height), I (b.Low.Girth), I (b.High.Age), I (b.High.Shoots), I (b.High.Height), I (b.High.Girth)] ∧ True
abbrev z37r5 : Prop := VR (Ren.emb [(10, 100, 0)]) (.pointer (some ⟨10, 1, none⟩)) (.pointer (some ⟨100, 1, none⟩))
abbrev z37r6 (b : XBox) (k : Int) : Prop := FC P GG 100 (A_growth_number k) (K_growth_number b.High) (.pointer (some ⟨10, 1, none⟩))
abbrev z37r7 (k : Int) : Prop := VRs (Ren.emb [(10, 100, 4)]) (A_growth_number k) [.pointer (some ⟨100, 4, none⟩), I (k)]
abbrev z37r8 (b : XBox) : Prop := MemAt (Ren.emb [(10, 100, 4)]) [I (b.High.Age), I (b.High.Shoots), I (b.High.Height), I (b.High.Girth)] 4 [I (b.Low.Age), I (b.Low.Shoots), I (b.Low.Height), I (b.Low.Girth), I (b.High.Age), I (b.High.Shoots), I (b.High.Height), I (b.High.Girth)] ∧ True
abbrev z37r9 : Prop := VR (Ren.emb [(10, 100, 4)]) (.pointer (some ⟨10, 1, none⟩)) (.pointer (some ⟨100, 5, none⟩))
abbrev z37r10 : Prop := (.pointer (some ⟨100, 5, none⟩) : Value) = .pointer (some ⟨100, 5, none⟩)
abbrev z37r11 : Prop := (.pointer (some ⟨101, 1, none⟩) : Value) = .pointer (some ⟨101, 1, none⟩)
abbrev z37r12 (b : XBox) (s : XSpan) : Prop := (I (imin b.High.Shoots s.High) : Value) = I (imin b.High.Shoots s.High)
abbrev z37r13 (b : XBox) (s : XSpan) : Prop := (decide ((imax b.Low.Shoots s.Low) > (imin b.High.Shoots s.High))) = true
theorem z37p14 (k : Int) : (z37r3 k) := (.cons _ _ _ _ (.ptr 10 0 ⟨100, 0, 0, 0⟩ rfl) (.cons _ _ _ _ (VR.of_pf rfl) .nil))
theorem z37p15 (b : XBox) : (z37r4 b) := ⟨MemAt.of (.cons _ _ _ _ (VR.of_pf rfl) (.cons _ _ _ _ (VR.of_pf rfl) (.cons _ _ _ _ (VR.of_pf rfl) (.cons _ _ _ _ (VR.of_pf rfl) .nil)))), trivial⟩
theorem z37p16 (k : Int) : (z37r7 k) := (.cons _ _ _ _ (.ptr 10 0 ⟨100, 4, 0, 0⟩ rfl) (.cons _ _ _ _ (VR.of_pf rfl) .nil))
theorem z37p17 (b : XBox) : (z37r8 b) := ⟨MemAt.of (.cons _ _ _ _ (VR.of_pf rfl) (.cons _ _ _ _ (VR.of_pf rfl) (.cons _ _ _ _ (VR.of_pf rfl) (.cons _ _ _ _ (VR.of_pf rfl) .nil)))), trivial⟩
abbrev z37r18 (b : XBox) (s : XSpan) : Prop := (decide ((imax b.Low.Shoots s.Low) > (imin b.High.Shoots s.High))) = false
noncomputable abbrev z37i19 (b : XBox) (k : Int) : Hint := (hM (.pointer (some ⟨10, 2, none⟩)) (.pointer (some ⟨100, 2, none⟩)) (A_growth_number k) (K_growth_number b.Low) [(10, 100, 0)])
noncomputable abbrev z37i20 (b : XBox) (k : Int) : Hint := (hM (.pointer (some ⟨10, 2, none⟩)) (.pointer (some ⟨100, 6, none⟩)) (A_growth_number k) (K_growth_number b.High) [(10, 100, 4)])
abbrev z37r21 (b : XBox) (k : Int) : Prop := FC P GG 100 (A_growth_number k) (K_growth_number b.Low) (.pointer (some ⟨10, 2, none⟩))
abbrev z37r22 : Prop := VR (Ren.emb [(10, 100, 0)]) (.pointer (some ⟨10, 2, none⟩)) (.pointer (some ⟨100, 2, none⟩))
abbrev z37r23 (b : XBox) (k : Int) : Prop := FC P GG 100 (A_growth_number k) (K_growth_number b.High) (.pointer (some ⟨10, 2, none⟩))
abbrev z37r24 : Prop := VR (Ren.emb [(10, 100, 4)]) (.pointer (some ⟨10, 2, none⟩)) (.pointer (some ⟨100, 6, none⟩))
abbrev z37r25 : Prop := (.pointer (some ⟨100, 6, none⟩) : Value) = .pointer (some ⟨100, 6, none⟩)
abbrev z37r26 (b : XBox) (s : XSpan) : Prop := (I (imin b.High.Height s.High) : Value) = I (imin b.High.Height s.High)
abbrev z37r27 (b : XBox) (s : XSpan) : Prop := (decide ((imax b.Low.Height s.Low) > (imin b.High.Height s.High))) = true
abbrev z37r28 (b : XBox) (s : XSpan) : Prop := (decide ((imax b.Low.Height s.Low) > (imin b.High.Height s.High))) = false
noncomputable abbrev z37i29 (b : XBox) (k : Int) : Hint := (hM (.pointer (some ⟨10, 3, none⟩)) (.pointer (some ⟨100, 3, none⟩)) (A_growth_number k) (K_growth_number b.Low) [(10, 100, 0)])
noncomputable abbrev z37i30 (b : XBox) (k : Int) : Hint := (hM (.pointer (some ⟨10, 3, none⟩)) (.pointer (some ⟨100, 7, none⟩)) (A_growth_number k) (K_growth_number b.High) [(10, 100, 4)])
abbrev z37r31 (b : XBox) (k : Int) : Prop := FC P GG 100 (A_growth_number k) (K_growth_number b.Low) (.pointer (some ⟨10, 3, none⟩))
abbrev z37r32 : Prop := VR (Ren.emb [(10, 100, 0)]) (.pointer (some ⟨10, 3, none⟩)) (.pointer (some ⟨100, 3, none⟩))
abbrev z37r33 (b : XBox) (k : Int) : Prop := FC P GG 100 (A_growth_number k) (K_growth_number b.High) (.pointer (some ⟨10, 3, none⟩))
abbrev z37r34 : Prop := VR (Ren.emb [(10, 100, 4)]) (.pointer (some ⟨10, 3, none⟩)) (.pointer (some ⟨100, 7, none⟩))
abbrev z37r35 : Prop := (.pointer (some ⟨100, 7, none⟩) : Value) = .pointer (some ⟨100, 7, none⟩)
abbrev z37r36 (b : XBox) (s : XSpan) : Prop := (I (imin b.High.Girth s.High) : Value) = I (imin b.High.Girth s.High)
abbrev z37r37 (b : XBox) (s : XSpan) : Prop := (decide ((imax b.Low.Girth s.Low) > (imin b.High.Girth s.High))) = true
abbrev z37r38 (b : XBox) (s : XSpan) : Prop := (decide ((imax b.Low.Girth s.Low) > (imin b.High.Girth s.High))) = false
abbrev A_growth_keep (b : XBox) (k : Int) (s : XSpan) : List Value := [.agg #[I (b.Low.Age), I (b.Low.Shoots), I (b.Low.Height), I (b.Low.Girth), I (b.High.Age), I (b.High.Shoots), I (b.High.Height), I (b.High.Girth)], I (k), .agg #[I (s.Low), I (s.High)]]
noncomputable def growth_keep (b : XBox) (k : Int) (s : XSpan) : XBox × Bool :=
  bif k == 1 then (bif decide ((imax b.Low.Shoots s.Low) > (imin b.High.Shoots s.High)) then ((⟨(⟨0, 0, 0, 0⟩ : XStand), (⟨0, 0, 0, 0⟩ : XStand)⟩ : XBox), false)
    else ((⟨(⟨b.Low.Age, imax b.Low.Shoots s.Low, b.Low.Height, b.Low.Girth⟩ : XStand), (⟨b.High.Age, imin b.High.Shoots s.High, b.High.Height, b.High.Girth⟩ : XStand)⟩ : XBox), true))
  else (bif k == 2 then (bif decide ((imax b.Low.Height s.Low) > (imin b.High.Height s.High)) then ((⟨(⟨0, 0, 0, 0⟩ : XStand), (⟨0, 0, 0, 0⟩ : XStand)⟩ : XBox), false)
      else ((⟨(⟨b.Low.Age, b.Low.Shoots, imax b.Low.Height s.Low, b.Low.Girth⟩ : XStand), (⟨b.High.Age, b.High.Shoots, imin b.High.Height s.High, b.High.Girth⟩ : XStand)⟩ : XBox), true))
    else (bif decide ((imax b.Low.Girth s.Low) > (imin b.High.Girth s.High)) then ((⟨(⟨0, 0, 0, 0⟩ : XStand), (⟨0, 0, 0, 0⟩ : XStand)⟩ : XBox), false)
      else ((⟨(⟨b.Low.Age, b.Low.Shoots, b.Low.Height, imax b.Low.Girth s.Low⟩ : XStand), (⟨b.High.Age, b.High.Shoots, b.High.Height, imin b.High.Girth s.High⟩ : XStand)⟩ : XBox), true)))
theorem growth_keep_fc (b : XBox) (k : Int) (s : XSpan) : FC P GG 103 (A_growth_keep b k s) [] (.tuple #[.agg #[I ((((growth_keep b k s).1).Low).Age), I ((((growth_keep b k s).1).Low).Shoots), I ((((growth_keep b k s).1).Low).Height), I ((((growth_keep b k s).1).Low).Girth), I ((((growth_keep b k s).1).High).Age), I ((((growth_keep b k s).1).High).Shoots), I ((((growth_keep b k s).1).High).Height), I ((((growth_keep b k s).1).High).Girth)], .bool ((growth_keep b k s).2)]) := by
  refine FC.of_fsat 41 100 Tryd.func103 (by kernel_rfl) (by kernel_rfl) (by kernel_rfl) trivial ?_
  rcases Bool.eq_false_or_eq_true (k == 1) with h1 | h1
  · skip
    rcases Bool.eq_false_or_eq_true (decide ((imax b.Low.Shoots s.Low) > (imin b.High.Shoots s.High))) with h2 | h2
    · skip
      have e : growth_keep b k s = ((⟨(⟨0, 0, 0, 0⟩ : XStand), (⟨0, 0, 0, 0⟩ : XStand)⟩ : XBox), false) := by unfold growth_keep; rw [h1, cond_true, h2, cond_true]; first | done | rfl
      rw [e]
      exact FSat.done pfT (fuel := 18) (hs := (hR 6 ((z37i0 b k) :: hE :: hE :: (z37i1 b k) :: (hR 26 [hT, hE, hE, hE])))) (ss := []) (R := [(z37r2 b k), (z37r3 k), (z37r4 b), z37r5, (z37r6 b k), (z37r7 k), (z37r8 b), z37r9, z37r10, z37r11, (I (s.High) : Value) = I (s.High), (z37r12 b s), (z37r13 b s)]) (by kernel_rfl) ⟨growth_number_fc_1 b.Low k h1, z37p14 k, z37p15 b, .ptr 10 1 ⟨100, 0, 0, 0⟩ rfl, growth_number_fc_1 b.High k h1, z37p16 k, z37p17 b, .ptr 10 1 ⟨100, 4, 0, 0⟩ rfl, rfl, rfl, rfl, rfl, h2, trivial⟩ (by kernel_rfl)
    · skip
      have e : growth_keep b k s = ((⟨(⟨b.Low.Age, imax b.Low.Shoots s.Low, b.Low.Height, b.Low.Girth⟩ : XStand), (⟨b.High.Age, imin b.High.Shoots s.High, b.High.Height, b.High.Girth⟩ : XStand)⟩ : XBox), true) := by unfold growth_keep; rw [h1, cond_true, h2, cond_false]; first | done | rfl
      rw [e]
      exact FSat.done pfT (fuel := 19) (hs := (hR 6 ((z37i0 b k) :: hE :: hE :: (z37i1 b k) :: (hR 26 [hF, hE, hE, hE])))) (ss := []) (R := [(z37r2 b k), (z37r3 k), (z37r4 b), z37r5, (z37r6 b k), (z37r7 k), (z37r8 b), z37r9, z37r10, z37r11, (I (s.High) : Value) = I (s.High), (z37r12 b s), (z37r18 b s)]) (by kernel_rfl) ⟨growth_number_fc_1 b.Low k h1, z37p14 k, z37p15 b, .ptr 10 1 ⟨100, 0, 0, 0⟩ rfl, growth_number_fc_1 b.High k h1, z37p16 k, z37p17 b, .ptr 10 1 ⟨100, 4, 0, 0⟩ rfl, rfl, rfl, rfl, rfl, h2, trivial⟩ (by kernel_rfl)
  · skip
    rcases Bool.eq_false_or_eq_true (k == 2) with h2 | h2
    · skip
      rcases Bool.eq_false_or_eq_true (decide ((imax b.Low.Height s.Low) > (imin b.High.Height s.High))) with h3 | h3
      · skip
        have e : growth_keep b k s = ((⟨(⟨0, 0, 0, 0⟩ : XStand), (⟨0, 0, 0, 0⟩ : XStand)⟩ : XBox), false) := by unfold growth_keep; rw [h1, cond_false, h2, cond_true, h3, cond_true]; first | done | rfl
        rw [e]
        exact FSat.done pfT (fuel := 18) (hs := (hR 6 ((z37i19 b k) :: hE :: hE :: (z37i20 b k) :: (hR 26 [hT, hE, hE, hE])))) (ss := []) (R := [(z37r21 b k), (z37r3 k), (z37r4 b), z37r22, (z37r23 b k), (z37r7 k), (z37r8 b), z37r24, z37r25, z37r11, (I (s.High) : Value) = I (s.High), (z37r26 b s), (z37r27 b s)]) (by kernel_rfl) ⟨growth_number_fc_2 b.Low k h1 h2, z37p14 k, z37p15 b, .ptr 10 2 ⟨100, 0, 0, 0⟩ rfl, growth_number_fc_2 b.High k h1 h2, z37p16 k, z37p17 b, .ptr 10 2 ⟨100, 4, 0, 0⟩ rfl, rfl, rfl, rfl, rfl, h3, trivial⟩ (by kernel_rfl)
      · skip
        have e : growth_keep b k s = ((⟨(⟨b.Low.Age, b.Low.Shoots, imax b.Low.Height s.Low, b.Low.Girth⟩ : XStand), (⟨b.High.Age, b.High.Shoots, imin b.High.Height s.High, b.High.Girth⟩ : XStand)⟩ : XBox), true) := by unfold growth_keep; rw [h1, cond_false, h2, cond_true, h3, cond_false]; first | done | rfl
        rw [e]
        exact FSat.done pfT (fuel := 19) (hs := (hR 6 ((z37i19 b k) :: hE :: hE :: (z37i20 b k) :: (hR 26 [hF, hE, hE, hE])))) (ss := []) (R := [(z37r21 b k), (z37r3 k), (z37r4 b), z37r22, (z37r23 b k), (z37r7 k), (z37r8 b), z37r24, z37r25, z37r11, (I (s.High) : Value) = I (s.High), (z37r26 b s), (z37r28 b s)]) (by kernel_rfl) ⟨growth_number_fc_2 b.Low k h1 h2, z37p14 k, z37p15 b, .ptr 10 2 ⟨100, 0, 0, 0⟩ rfl, growth_number_fc_2 b.High k h1 h2, z37p16 k, z37p17 b, .ptr 10 2 ⟨100, 4, 0, 0⟩ rfl, rfl, rfl, rfl, rfl, h3, trivial⟩ (by kernel_rfl)
    · skip
      rcases Bool.eq_false_or_eq_true (decide ((imax b.Low.Girth s.Low) > (imin b.High.Girth s.High))) with h3 | h3
      · skip
        have e : growth_keep b k s = ((⟨(⟨0, 0, 0, 0⟩ : XStand), (⟨0, 0, 0, 0⟩ : XStand)⟩ : XBox), false) := by unfold growth_keep; rw [h1, cond_false, h2, cond_false, h3, cond_true]; first | done | rfl
        rw [e]
        exact FSat.done pfT (fuel := 18) (hs := (hR 6 ((z37i29 b k) :: hE :: hE :: (z37i30 b k) :: (hR 26 [hT, hE, hE, hE])))) (ss := []) (R := [(z37r31 b k), (z37r3 k), (z37r4 b), z37r32, (z37r33 b k), (z37r7 k), (z37r8 b), z37r34, z37r35, z37r11, (I (s.High) : Value) = I (s.High), (z37r36 b s), (z37r37 b s)]) (by kernel_rfl) ⟨growth_number_fc_3 b.Low k h1 h2, z37p14 k, z37p15 b, .ptr 10 3 ⟨100, 0, 0, 0⟩ rfl, growth_number_fc_3 b.High k h1 h2, z37p16 k, z37p17 b, .ptr 10 3 ⟨100, 4, 0, 0⟩ rfl, rfl, rfl, rfl, rfl, h3, trivial⟩ (by kernel_rfl)
      · skip
        have e : growth_keep b k s = ((⟨(⟨b.Low.Age, b.Low.Shoots, b.Low.Height, imax b.Low.Girth s.Low⟩ : XStand), (⟨b.High.Age, b.High.Shoots, b.High.Height, imin b.High.Girth s.High⟩ : XStand)⟩ : XBox), true) := by unfold growth_keep; rw [h1, cond_false, h2, cond_false, h3, cond_false]; first | done | rfl
        rw [e]
        exact FSat.done pfT (fuel := 19) (hs := (hR 6 ((z37i29 b k) :: hE :: hE :: (z37i30 b k) :: (hR 26 [hF, hE, hE, hE])))) (ss := []) (R := [(z37r31 b k), (z37r3 k), (z37r4 b), z37r32, (z37r33 b k), (z37r7 k), (z37r8 b), z37r34, z37r35, z37r11, (I (s.High) : Value) = I (s.High), (z37r36 b s), (z37r38 b s)]) (by kernel_rfl) ⟨growth_number_fc_3 b.Low k h1 h2, z37p14 k, z37p15 b, .ptr 10 3 ⟨100, 0, 0, 0⟩ rfl, growth_number_fc_3 b.High k h1 h2, z37p16 k, z37p17 b, .ptr 10 3 ⟨100, 4, 0, 0⟩ rfl, rfl, rfl, rfl, rfl, h3, trivial⟩ (by kernel_rfl)

/- greenhew/growth.promise -/
noncomputable abbrev z35i0 (b : XBox) (k : Int) (wrong : Int) (v9 : Int) : Hint := (hC (.tuple #[.agg #[I ((((growth_keep b k (⟨W (v9 - wrong), W (v9 + wrong)⟩ : XSpan)).1).Low).Age), I ((((growth_keep b k (⟨W (v9 - wrong), W (v9 + wrong)⟩ : XSpan)).1).Low).Shoots), I ((((growth_keep b k (⟨W (v9 - wrong), W (v9 + wrong)⟩ : XSpan)).1).Low).Height), I ((((growth_keep b k (⟨W (v9 - wrong), W (v9 + wrong)⟩ : XSpan)).1).Low).Girth), I ((((growth_keep b k (⟨W (v9 - wrong), W (v9 + wrong)⟩ : XSpan)).1).High).Age), I ((((growth_keep b k (⟨W (v9 - wrong), W (v9 + wrong)⟩ : XSpan)).1).High).Shoots), I ((((growth_keep b k (⟨W (v9 - wrong), W (v9 + wrong)⟩ : XSpan)).1).High).Height), I ((((growth_keep b k (⟨W (v9 - wrong), W (v9 + wrong)⟩ : XSpan)).1).High).Girth)], .bool ((growth_keep b k (⟨W (v9 - wrong), W (v9 + wrong)⟩ : XSpan)).2)]))
noncomputable abbrev z35i1 (b : XBox) (k : Int) (wrong : Int) (v9 : Int) : Hint := (hC (I (growth_wood (((growth_keep b k (⟨W (v9 - wrong), W (v9 + wrong)⟩ : XSpan)).1).High))))
noncomputable abbrev z35i2 (b : XBox) (k : Int) (wrong : Int) (v9 : Int) : Hint := (hC (I (growth_wood (((growth_keep b k (⟨W (v9 - wrong), W (v9 + wrong)⟩ : XSpan)).1).Low))))
abbrev z35r3 (b : XBox) (k : Int) (wrong : Int) (v9 : Int) : Prop := FC P GG 103 (A_growth_keep b k (⟨W (v9 - wrong), W (v9 + wrong)⟩ : XSpan)) [] (.tuple #[.agg #[I ((((growth_keep b k (⟨W (v9 - wrong), W (v9 + wrong)⟩ : XSpan)).1).Low).Age), I ((((growth_keep b k (⟨W (v9 - wrong), W (v9 + wrong)⟩ : XSpan)).1).Low).Shoots), I ((((growth_keep b k (⟨W (v9 - wrong), W (v9 + wrong)⟩ : XSpan)).1).Low).Height), I ((((growth_keep b k (⟨W (v9 - wrong), W (v9 + wrong)⟩ : XSpan)).1).Low).Girth), I ((((growth_keep b k (⟨W (v9 - wrong), W (v9 + wrong)⟩ : XSpan)).1).High).Age), I ((((growth_keep b k (⟨W (v9 - wrong), W (v9 + wrong)⟩ : XSpan)).1).High).Shoots), I ((((growth_keep b k (⟨W (v9 - wrong), W (v9 + wrong)⟩ : XSpan)).1).High).Height), I ((((growth_keep b k (⟨W (v9 - wrong), W (v9 + wrong)⟩ : XSpan)).1).High).Girth)], .bool ((growth_keep b k (⟨W (v9 - wrong), W (v9 + wrong)⟩ : XSpan)).2)])
abbrev z35r4 (b : XBox) (k : Int) (wrong : Int) (v9 : Int) : Prop := FC P GG 61 (A_growth_wood (((growth_keep b k (⟨W (v9 - wrong), W (v9 + wrong)⟩ : XSpan)).1).High)) [] (I (growth_wood (((growth_keep b k (⟨W (v9 - wrong), W (v9 + wrong)⟩ : XSpan)).1).High)))
abbrev z35r5 (b : XBox) (k : Int) (wrong : Int) (v9 : Int) : Prop := FC P GG 61 (A_growth_wood (((growth_keep b k (⟨W (v9 - wrong), W (v9 + wrong)⟩ : XSpan)).1).Low)) [] (I (growth_wood (((growth_keep b k (⟨W (v9 - wrong), W (v9 + wrong)⟩ : XSpan)).1).Low)))
theorem z35p6 (b : XBox) (k : Int) (wrong : Int) (v9 : Int) : (z35r3 b k wrong v9) := growth_keep_fc b k (⟨W (v9 - wrong), W (v9 + wrong)⟩ : XSpan)
theorem z35p7 (b : XBox) (k : Int) (wrong : Int) (v9 : Int) : (z35r4 b k wrong v9) := growth_wood_fc (((growth_keep b k (⟨W (v9 - wrong), W (v9 + wrong)⟩ : XSpan)).1).High)
theorem z35p8 (b : XBox) (k : Int) (wrong : Int) (v9 : Int) : (z35r5 b k wrong v9) := growth_wood_fc (((growth_keep b k (⟨W (v9 - wrong), W (v9 + wrong)⟩ : XSpan)).1).Low)
noncomputable abbrev z35i9 (b : XBox) (k : Int) : Hint := (hC (.agg #[I ((growth_spanOf b k).Low), I ((growth_spanOf b k).High)]))
abbrev z35r10 (b : XBox) (k : Int) : Prop := FC P GG 104 (A_growth_spanOf b k) [] (.agg #[I ((growth_spanOf b k).Low), I ((growth_spanOf b k).High)])
abbrev A_growth_promise (b : XBox) (k : Int) (wrong : Int) : List Value := [.agg #[I (b.Low.Age), I (b.Low.Shoots), I (b.Low.Height), I (b.Low.Girth), I (b.High.Age), I (b.High.Shoots), I (b.High.Height), I (b.High.Girth)], I (k), I (wrong)]
noncomputable def growth_promise_L (fu : Nat) (b : XBox) (k : Int) (wrong : Int) : Nat → (Int → Int → Option Int)
  | 0 => (fun _ _ => none)
  | fk + 1 => (fun v7 v9 => bif decide (v9 ≤ ((growth_spanOf b k).High)) then growth_promise_L fu b k wrong fk (imax v7 (W ((growth_wood (((growth_keep b k (⟨W (v9 - wrong), W (v9 + wrong)⟩ : XSpan)).1).High)) - (growth_wood (((growth_keep b k (⟨W (v9 - wrong), W (v9 + wrong)⟩ : XSpan)).1).Low))))) (W (v9 + 1))
      else some v7)
theorem growth_promise_L_s0 (fu : Nat) (b : XBox) (k : Int) (wrong : Int) (fk : Nat) (v7 : Int) (v9 : Int) : growth_promise_L fu b k wrong (fk + 1) v7 v9 = (bif decide (v9 ≤ ((growth_spanOf b k).High)) then growth_promise_L fu b k wrong fk (imax v7 (W ((growth_wood (((growth_keep b k (⟨W (v9 - wrong), W (v9 + wrong)⟩ : XSpan)).1).High)) - (growth_wood (((growth_keep b k (⟨W (v9 - wrong), W (v9 + wrong)⟩ : XSpan)).1).Low))))) (W (v9 + 1))
      else some v7) := rfl
noncomputable def growth_promise (fu : Nat) (b : XBox) (k : Int) (wrong : Int) : Option Int :=
  growth_promise_L fu b k wrong fu 0 ((growth_spanOf b k).Low)
theorem growth_promise_L_fs (fu : Nat) (b : XBox) (k : Int) (wrong : Int) : ∀ fk, (∀ (v7 : Int) (v9 : Int) (r : Int), growth_promise_L fu b k wrong fk v7 v9 = some r → FSat P GG Tryd.f91 (I (r)) (ids (looses [])) 46 [.lp (cA (bodyOf Tryd.f91) [1, 1, 1, 0, 1, 0, 0]), .blk 0, .code (cA (bodyOf Tryd.f91) [1, 1, 1, 1])] (tOf 46 [(1, I (k)), (2, I (wrong)), (3, .pointer (some ⟨100, 0, none⟩)), (6, I (0)), (7, I (v7)), (8, .pointer (some ⟨101, 0, none⟩)), (9, I (v9))]) (mOf 102 [(0, .rom [I (1), I (2), I (3)] .glob), (100, .row [I (b.Low.Age), I (b.Low.Shoots), I (b.Low.Height), I (b.Low.Girth), I (b.High.Age), I (b.High.Shoots), I (b.High.Height), I (b.High.Girth)] 0), (101, .row [I ((growth_spanOf b k).Low), I ((growth_spanOf b k).High)] 0)])) := by
  intro fk
  induction fk with
  | zero => exact fun _ _ r hh => by cases hh
  | succ fk ih =>
    · intro v7 v9 r hh
      rcases Bool.eq_false_or_eq_true (decide (v9 ≤ ((growth_spanOf b k).High))) with h1 | h1
      · skip
        have e : growth_promise_L fu b k wrong (fk + 1) v7 v9 = growth_promise_L fu b k wrong fk (imax v7 (W ((growth_wood (((growth_keep b k (⟨W (v9 - wrong), W (v9 + wrong)⟩ : XSpan)).1).High)) - (growth_wood (((growth_keep b k (⟨W (v9 - wrong), W (v9 + wrong)⟩ : XSpan)).1).Low))))) (W (v9 + 1)) := by rw [growth_promise_L_s0]; rw [h1, cond_true]; first | done | rfl
        rw [e] at hh
        have nx := ih (imax v7 (W ((growth_wood (((growth_keep b k (⟨W (v9 - wrong), W (v9 + wrong)⟩ : XSpan)).1).High)) - (growth_wood (((growth_keep b k (⟨W (v9 - wrong), W (v9 + wrong)⟩ : XSpan)).1).Low))))) (W (v9 + 1)) r hh
        refine FSat.stop pfT (fuel := 19) (hs := (hE :: hE :: hE :: hT :: (hR 9 ((z35i0 b k wrong v9) :: (hR 9 ((z35i1 b k wrong v9) :: hE :: hE :: (z35i2 b k wrong v9) :: (hR 6 []))))))) (ss := [.go, .st [1, 2, 3, 6, 7, 8, 9] [0, 100, 101]]) (R := [(decide (v9 ≤ ((growth_spanOf b k).High))) = true, (z35r3 b k wrong v9), (z35r4 b k wrong v9), (z35r5 b k wrong v9)]) (by kernel_rfl) ⟨h1, z35p6 b k wrong v9, z35p7 b k wrong v9, z35p8 b k wrong v9, trivial⟩ 102 (by kernel_rfl) ?_ nx
        exact ⟨PinL.lit (by kernel_rfl), PinL.lit (by kernel_rfl), PinL.lit (by kernel_rfl), trivial⟩
      · skip
        have e : growth_promise_L fu b k wrong (fk + 1) v7 v9 = some v7 := by rw [growth_promise_L_s0]; rw [h1, cond_false]; first | done | rfl
        rw [e] at hh
        have hr := Option.some.inj hh
        rw [← hr]
        exact FSat.done pfT (fuel := 14) (hs := [hE, hE, hE, hF, hE, hE]) (ss := [.go]) (R := [(decide (v9 ≤ ((growth_spanOf b k).High))) = false]) (by kernel_rfl) ⟨h1, trivial⟩ (by kernel_rfl)
theorem growth_promise_fc (fu : Nat) (b : XBox) (k : Int) (wrong : Int) (r : Int) (hh : growth_promise fu b k wrong = some r) : FC P GG 91 (A_growth_promise b k wrong) [] (I (r)) := by
  refine FC.of_fsat 46 100 Tryd.func91 (by kernel_rfl) (by kernel_rfl) (by kernel_rfl) trivial ?_
  have e : growth_promise fu b k wrong = growth_promise_L fu b k wrong fu 0 ((growth_spanOf b k).Low) := by unfold growth_promise; rfl
  rw [e] at hh
  have nx := growth_promise_L_fs fu b k wrong fu 0 ((growth_spanOf b k).Low) r hh
  refine FSat.stop pfT (fuel := 17) (hs := (hR 5 ((z35i9 b k) :: (hR 5 [])))) (ss := [.st [1, 2, 3, 6, 7, 8, 9] [0, 100, 101]]) (R := [(z35r10 b k)]) (by kernel_rfl) ⟨growth_spanOf_fc b k, trivial⟩ 102 (by kernel_rfl) ?_ nx
  exact ⟨PinL.lit (by kernel_rfl), PinL.lit (by kernel_rfl), PinL.lit (by kernel_rfl), trivial⟩

/- greenhew/growth.Ask -/
abbrev z33r0 (b : XBox) : Prop := FC P GG 68 (A_growth_boxIsDefined b) [] (.bool (growth_boxIsDefined b))
abbrev z33r1 (t_1 : XTolerance) : Prop := FC P GG 90 (A_growth_toleranceIsDefined t_1) [] (.bool (growth_toleranceIsDefined t_1))
abbrev A_growth_Ask (b : XBox) (t_1 : XTolerance) : List Value := [.agg #[I (b.Low.Age), I (b.Low.Shoots), I (b.Low.Height), I (b.Low.Girth), I (b.High.Age), I (b.High.Shoots), I (b.High.Height), I (b.High.Girth)], .agg #[I (t_1.Shoots), I (t_1.Height), I (t_1.Girth)]]
noncomputable def growth_Ask (fu : Nat) (b : XBox) (t_1 : XTolerance) : Option (Int × Int × Int) :=
  bif growth_boxIsDefined b then (bif growth_toleranceIsDefined t_1 then (Option.bind (growth_promise fu b 1 t_1.Shoots) fun x3 =>
      Option.bind (growth_promise fu b 2 t_1.Height) fun x4 =>
      bif decide (x4 < x3) then (Option.bind (growth_promise fu b 3 t_1.Girth) fun x6 =>
        bif decide (x6 < x4) then some (3, x6, 0)
        else some (2, x4, 0))
      else (Option.bind (growth_promise fu b 3 t_1.Girth) fun x6 =>
        bif decide (x6 < x3) then some (3, x6, 0)
        else some (1, x3, 0)))
    else some (0, 0, 2))
  else some (0, 0, 2)
theorem growth_Ask_fc (fu : Nat) (b : XBox) (t_1 : XTolerance) (r : Int × Int × Int) (hh : growth_Ask fu b t_1 = some r) : FC P GG 52 (A_growth_Ask b t_1) [] (.tuple #[I (r.1), I (r.2.1), I (r.2.2)]) := by
  refine FC.of_fsat 50 100 Tryd.func52 (by kernel_rfl) (by kernel_rfl) (by kernel_rfl) trivial ?_
  rcases Bool.eq_false_or_eq_true (growth_boxIsDefined b) with h1 | h1
  · skip
    rcases Bool.eq_false_or_eq_true (growth_toleranceIsDefined t_1) with h2 | h2
    · skip
      cases h3 : growth_promise fu b 1 t_1.Shoots with
      | none =>
        have e : growth_Ask fu b t_1 = none := by unfold growth_Ask; rw [h1, cond_true, h2, cond_true, h3, Option.bind_none]; first | done | rfl
        rw [e] at hh; cases hh
      | some x3 =>
        cases h4 : growth_promise fu b 2 t_1.Height with
        | none =>
          have e : growth_Ask fu b t_1 = none := by unfold growth_Ask; rw [h1, cond_true, h2, cond_true, h3, Option.bind_some, h4, Option.bind_none]; first | done | rfl
          rw [e] at hh; cases hh
        | some x4 =>
          rcases Bool.eq_false_or_eq_true (decide (x4 < x3)) with h5 | h5
          · skip
            cases h6 : growth_promise fu b 3 t_1.Girth with
            | none =>
              have e : growth_Ask fu b t_1 = none := by unfold growth_Ask; rw [h1, cond_true, h2, cond_true, h3, Option.bind_some, h4, Option.bind_some, h5, cond_true, h6, Option.bind_none]; first | done | rfl
              rw [e] at hh; cases hh
            | some x6 =>
              rcases Bool.eq_false_or_eq_true (decide (x6 < x4)) with h7 | h7
              · skip
                have e : growth_Ask fu b t_1 = some (3, x6, 0) := by unfold growth_Ask; rw [h1, cond_true, h2, cond_true, h3, Option.bind_some, h4, Option.bind_some, h5, cond_true, h6, Option.bind_some, h7, cond_true]; first | done | rfl
                rw [e] at hh
                have hr := Option.some.inj hh
                rw [← hr]
                exact FSat.done pfT (fuel := 84) (hs := (hR 6 ((hB (hC (.bool (growth_boxIsDefined b))) true) :: hE :: hE :: hE :: (hB (hC (.bool (growth_toleranceIsDefined t_1))) true) :: (hR 23 ((hC (I (x3))) :: (hR 19 ((hC (I (x4))) :: (hR 6 (hT :: (hR 15 ((hC (I (x6))) :: (hR 6 (hT :: (hR 13 [])))))))))))))) (ss := [.go, .go, .go, .go]) (R := [(z33r0 b), (growth_boxIsDefined b) = true, (z33r1 t_1), (growth_toleranceIsDefined t_1) = true, FC P GG 91 (A_growth_promise b 1 t_1.Shoots) [] (I (x3)), FC P GG 91 (A_growth_promise b 2 t_1.Height) [] (I (x4)), (decide (x4 < x3)) = true, FC P GG 91 (A_growth_promise b 3 t_1.Girth) [] (I (x6)), (decide (x6 < x4)) = true]) (by kernel_rfl) ⟨growth_boxIsDefined_fc b, h1, growth_toleranceIsDefined_fc t_1, h2, growth_promise_fc fu b 1 t_1.Shoots x3 h3, growth_promise_fc fu b 2 t_1.Height x4 h4, h5, growth_promise_fc fu b 3 t_1.Girth x6 h6, h7, trivial⟩ (by kernel_rfl)
              · skip
                have e : growth_Ask fu b t_1 = some (2, x4, 0) := by unfold growth_Ask; rw [h1, cond_true, h2, cond_true, h3, Option.bind_some, h4, Option.bind_some, h5, cond_true, h6, Option.bind_some, h7, cond_false]; first | done | rfl
                rw [e] at hh
                have hr := Option.some.inj hh
                rw [← hr]
                exact FSat.done pfT (fuel := 84) (hs := (hR 6 ((hB (hC (.bool (growth_boxIsDefined b))) true) :: hE :: hE :: hE :: (hB (hC (.bool (growth_toleranceIsDefined t_1))) true) :: (hR 23 ((hC (I (x3))) :: (hR 19 ((hC (I (x4))) :: (hR 6 (hT :: (hR 15 ((hC (I (x6))) :: (hR 6 (hF :: (hR 9 [])))))))))))))) (ss := [.go, .go, .go, .go]) (R := [(z33r0 b), (growth_boxIsDefined b) = true, (z33r1 t_1), (growth_toleranceIsDefined t_1) = true, FC P GG 91 (A_growth_promise b 1 t_1.Shoots) [] (I (x3)), FC P GG 91 (A_growth_promise b 2 t_1.Height) [] (I (x4)), (decide (x4 < x3)) = true, FC P GG 91 (A_growth_promise b 3 t_1.Girth) [] (I (x6)), (decide (x6 < x4)) = false]) (by kernel_rfl) ⟨growth_boxIsDefined_fc b, h1, growth_toleranceIsDefined_fc t_1, h2, growth_promise_fc fu b 1 t_1.Shoots x3 h3, growth_promise_fc fu b 2 t_1.Height x4 h4, h5, growth_promise_fc fu b 3 t_1.Girth x6 h6, h7, trivial⟩ (by kernel_rfl)
          · skip
            cases h6 : growth_promise fu b 3 t_1.Girth with
            | none =>
              have e : growth_Ask fu b t_1 = none := by unfold growth_Ask; rw [h1, cond_true, h2, cond_true, h3, Option.bind_some, h4, Option.bind_some, h5, cond_false, h6, Option.bind_none]; first | done | rfl
              rw [e] at hh; cases hh
            | some x6 =>
              rcases Bool.eq_false_or_eq_true (decide (x6 < x3)) with h7 | h7
              · skip
                have e : growth_Ask fu b t_1 = some (3, x6, 0) := by unfold growth_Ask; rw [h1, cond_true, h2, cond_true, h3, Option.bind_some, h4, Option.bind_some, h5, cond_false, h6, Option.bind_some, h7, cond_true]; first | done | rfl
                rw [e] at hh
                have hr := Option.some.inj hh
                rw [← hr]
                exact FSat.done pfT (fuel := 84) (hs := (hR 6 ((hB (hC (.bool (growth_boxIsDefined b))) true) :: hE :: hE :: hE :: (hB (hC (.bool (growth_toleranceIsDefined t_1))) true) :: (hR 23 ((hC (I (x3))) :: (hR 19 ((hC (I (x4))) :: (hR 6 (hF :: (hR 11 ((hC (I (x6))) :: (hR 6 (hT :: (hR 13 [])))))))))))))) (ss := [.go, .go, .go, .go]) (R := [(z33r0 b), (growth_boxIsDefined b) = true, (z33r1 t_1), (growth_toleranceIsDefined t_1) = true, FC P GG 91 (A_growth_promise b 1 t_1.Shoots) [] (I (x3)), FC P GG 91 (A_growth_promise b 2 t_1.Height) [] (I (x4)), (decide (x4 < x3)) = false, FC P GG 91 (A_growth_promise b 3 t_1.Girth) [] (I (x6)), (decide (x6 < x3)) = true]) (by kernel_rfl) ⟨growth_boxIsDefined_fc b, h1, growth_toleranceIsDefined_fc t_1, h2, growth_promise_fc fu b 1 t_1.Shoots x3 h3, growth_promise_fc fu b 2 t_1.Height x4 h4, h5, growth_promise_fc fu b 3 t_1.Girth x6 h6, h7, trivial⟩ (by kernel_rfl)
              · skip
                have e : growth_Ask fu b t_1 = some (1, x3, 0) := by unfold growth_Ask; rw [h1, cond_true, h2, cond_true, h3, Option.bind_some, h4, Option.bind_some, h5, cond_false, h6, Option.bind_some, h7, cond_false]; first | done | rfl
                rw [e] at hh
                have hr := Option.some.inj hh
                rw [← hr]
                exact FSat.done pfT (fuel := 84) (hs := (hR 6 ((hB (hC (.bool (growth_boxIsDefined b))) true) :: hE :: hE :: hE :: (hB (hC (.bool (growth_toleranceIsDefined t_1))) true) :: (hR 23 ((hC (I (x3))) :: (hR 19 ((hC (I (x4))) :: (hR 6 (hF :: (hR 11 ((hC (I (x6))) :: (hR 6 (hF :: (hR 9 [])))))))))))))) (ss := [.go, .go, .go, .go]) (R := [(z33r0 b), (growth_boxIsDefined b) = true, (z33r1 t_1), (growth_toleranceIsDefined t_1) = true, FC P GG 91 (A_growth_promise b 1 t_1.Shoots) [] (I (x3)), FC P GG 91 (A_growth_promise b 2 t_1.Height) [] (I (x4)), (decide (x4 < x3)) = false, FC P GG 91 (A_growth_promise b 3 t_1.Girth) [] (I (x6)), (decide (x6 < x3)) = false]) (by kernel_rfl) ⟨growth_boxIsDefined_fc b, h1, growth_toleranceIsDefined_fc t_1, h2, growth_promise_fc fu b 1 t_1.Shoots x3 h3, growth_promise_fc fu b 2 t_1.Height x4 h4, h5, growth_promise_fc fu b 3 t_1.Girth x6 h6, h7, trivial⟩ (by kernel_rfl)
    · skip
      have e : growth_Ask fu b t_1 = some (0, 0, 2) := by unfold growth_Ask; rw [h1, cond_true, h2, cond_false]; first | done | rfl
      rw [e] at hh
      have hr := Option.some.inj hh
      rw [← hr]
      exact FSat.done pfT (fuel := 14) (hs := (hR 6 ((hB (hC (.bool (growth_boxIsDefined b))) true) :: hE :: hE :: hE :: (hB (hC (.bool (growth_toleranceIsDefined t_1))) false) :: (hR 5 [])))) (ss := []) (R := [(z33r0 b), (growth_boxIsDefined b) = true, (z33r1 t_1), (growth_toleranceIsDefined t_1) = false]) (by kernel_rfl) ⟨growth_boxIsDefined_fc b, h1, growth_toleranceIsDefined_fc t_1, h2, trivial⟩ (by kernel_rfl)
  · skip
    have e : growth_Ask fu b t_1 = some (0, 0, 2) := by unfold growth_Ask; rw [h1, cond_false]; first | done | rfl
    rw [e] at hh
    have hr := Option.some.inj hh
    rw [← hr]
    exact FSat.done pfT (fuel := 14) (hs := (hR 6 ((hB (hC (.bool (growth_boxIsDefined b))) false) :: (hR 6 [])))) (ss := []) (R := [(z33r0 b), (growth_boxIsDefined b) = false]) (by kernel_rfl) ⟨growth_boxIsDefined_fc b, h1, trivial⟩ (by kernel_rfl)

end Go.Proofs.G2
